/-
  Bytes that are lent, and whether they are whole: LentBytes, WholeBytes, at this program. Conditions: those written.
-/
import Derived.Test.YtfkimemagbkcoaaDoorRwSb
import Derived.Test.YtfkimemagbkcoaaDoorRwL5
set_option linter.unusedVariables false
set_option linter.unusedSimpArgs false
namespace Go.Proofs.YtfkimemagbkcoaaDoor
open Go.RowKit Go.Lib Go.Proofs

theorem add_base (g j : Nat) : (⟨g, 0, none⟩ : Addr).add j = ⟨g, j, none⟩ := by unfold Addr.add; split <;> simp_all
/-- What is lent of bytes: a row of its own with two of room behind it, that have marks. -/
def LentB (B : Nat) (v : Value) (l : List UInt8) (w : World) : Prop := ∃ g cap, v = .slice (some ⟨g, 0, none⟩) l.length cap ∧ OwnU B (.slice (some ⟨g, 0, none⟩) (l.length + 2) cap) (l ++ [91, 92]) w
theorem LentB.below {B : Nat} {v : Value} {l : List UInt8} {w w' : World} (h : LentB B v l w) (hb : Below w.heap.size w w') : LentB B v l w' := by
  obtain ⟨g, cap, rfl, h⟩ := h
  refine ⟨g, cap, rfl, h.1, ?_⟩
  rcases h.2 with h1 | ⟨g, cap, cur, e, h1, h2, h3⟩
  · exact .inl h1
  · exact .inr ⟨g, cap, cur, e, h1, (hb.block g (Array.getElem?_eq_some_iff.1 h2).1).trans h2, h3⟩
theorem LentB.byts {B : Nat} {v : Value} {l : List UInt8} {w : World} (h : LentB B v l w) : BytsV w v l := by
  obtain ⟨g, cap, rfl, h⟩ := h
  have h1 := BytsV.front (m := l.length) h.byts (by simp)
  rw [List.take_left] at h1
  exact h1
theorem make_roomB (n : Nat) (hn : n ≤ 1099511627776) (W : World) : ∃ c, (Instr.makeSlice 22 (.int .i64 0) (.int .i64 ((n : Int) + 2))).run Tryd.prog W = .ok (.slice (some ⟨W.heap.size, 0, none⟩) 0 (n + 2)) (W.alloc (.cells c 5)) ∧
    OwnU W.heap.size (.slice (some ⟨W.heap.size, 0, none⟩) 0 (n + 2)) [] (W.alloc (.cells c 5)) := by
  obtain ⟨i, hi, hz, hs, hb⟩ := info_u8
  have hr := run_make (P := Tryd.prog) W 22 5 i _ Tryd.underlying22 hi hz .i64 .i64 0 ((n : Int) + 2) (by omega) (by omega) (by rw [hb]; omega) (by omega)
  rw [show ((n : Int) + 2).toNat = n + 2 by omega, Int.toNat_zero] at hr
  refine ⟨_, hr, rfl, .inr ⟨W.heap.size, n + 2, _, rfl, Nat.le_refl _, heap_alloc_new W _, Nat.zero_le _, by unfold maxLen; omega, ?_, by simp [Lib.byteCells]⟩⟩
  rw [size_madeCells, hs]
theorem two_bytesB (w : World) : BytsV (w.alloc (.cells #[.int .u8 91, .int .u8 92] 5)) (.slice (some ⟨w.heap.size, 0, none⟩) 2 2) [91, 92] := by
  have h : OwnL 5 1 w.heap.size 2 [[.int .u8 91], [.int .u8 92]] (w.alloc (.cells #[.int .u8 91, .int .u8 92] 5)) :=
    ⟨fun y hy => by simp at hy; rcases hy with rfl | rfl <;> rfl, by simp, by decide, _, heap_alloc_new w _, rfl, rfl⟩
  exact h.slV
set_option maxHeartbeats 4000000 in
set_option maxRecDepth 1000000 in
theorem lentBytes_any (v : Value) (l : List UInt8) (w : World) (h : BytsV w v l) (hs : l.length ≤ 1099511627776) :
    Calls Tryd.prog 8 #[v] w fun e w' => ∃ u, e = .returned u ∧ LentB w.heap.size u l w' ∧ Below w.heap.size w w' := by
  obtain ⟨A, c, rfl, hla⟩ := h.form
  obtain ⟨cz, hmk, hown⟩ := make_roomB l.length hs w
  obtain ⟨W1, hW1⟩ : ∃ W1, w.alloc (.cells cz 5) = W1 := ⟨_, rfl⟩
  rw [hW1] at hmk hown
  have hb01 : Below w.heap.size w W1 := hW1 ▸ (Below.refl _ w).alloc (Nat.le_refl _) _
  have hvH := Lib.hid (h.below hb01)
  have hownH := Lib.hid (OwnK.start hown hb01.size); have hb1 := Lib.hid hb01
  clear h hown hW1 hb01
  go_enter Tryd.func8, Tryd.ntmps8
  go_upto_region 2 with (at_builtin; refine wpList_bytesK rfl _ _ rfl w.heap.size _ [] W1 W1 _ l hownH.out rfl hvH.out rfl (by simp; omega) ?_; intro v1 w1 hq; have ho1 := Lib.hid (show OwnB w.heap.size v1 l W1 w1 from hq); clear hq)
  obtain ⟨W2, hW2⟩ : ∃ W2, w1.alloc (.cells #[.int .u8 91, .int .u8 92] 5) = W2 := ⟨_, rfl⟩
  have hm2 := Lib.hid (show BytsV W2 (.slice (some ⟨w1.heap.size, 0, none⟩) 2 2) [91, 92] from hW2 ▸ two_bytesB w1)
  have ho2 := Lib.hid (show OwnB w.heap.size v1 l W1 W2 from hW2 ▸ OwnK.alloc ho1.out _)
  go_upto_region 3 with (at_builtin; refine wpList_bytesK rfl _ _ rfl w.heap.size _ l W1 W2 _ [91, 92] ho2.out rfl hm2.out rfl (by simp; omega) ?_; intro v3 w3 hq; have ho3 := Lib.hid hq; clear hq)
  have hb3 := Lib.hid (hb1.out.trans ho3.out.2.1)
  obtain ⟨g, cap, hgc, hcap⟩ : ∃ g cap, v3 = .slice (some ⟨g, 0, none⟩) (l.length + 2) cap ∧ l.length + 2 ≤ cap := by
    rcases ho3.out.1.2 with ⟨_, h2⟩ | ⟨g, cap, cur, rfl, _, _, h3, _⟩
    · simp at h2
    · exact ⟨g, cap, by simp, by simpa using h3⟩
  subst hgc
  have hown := Lib.hid (show OwnU w.heap.size (.slice (some ⟨g, 0, none⟩) (l.length + 2) cap) (l ++ [91, 92]) w3 from ho3.out.1)
  have hcap2 : l.length ≤ cap := by omega
  clear hW2
  go_wp2_with fail
  go_ret
  exact ⟨_, rfl, ⟨g, cap, rfl, hown.out⟩, hb3.out⟩
theorem LentB.marks {B : Nat} {A : Option Addr} {n c : Nat} {l : List UInt8} {w : World} (h : LentB B (.slice A n c) l w) : ∃ g, A = some ⟨g, 0, none⟩ ∧ n = l.length ∧ l.length + 2 ≤ c ∧
    w.cell? ⟨g, l.length, none⟩ = some (.int .u8 91) ∧ w.cell? ⟨g, l.length + 1, none⟩ = some (.int .u8 92) := by
  obtain ⟨g, cap, e, h⟩ := h
  obtain ⟨rfl, rfl, rfl⟩ := Value.slice.inj e
  have hc : l.length + 2 ≤ c := by have := h.byts.cap; simpa using this
  have h1 := World.ownsRow.cells h (g := g) (by simp [Value.ownBlock]) l.length (.int .u8 91) (by simp [Lib.byteCells])
  have h2 := World.ownsRow.cells h (g := g) (by simp [Value.ownBlock]) (l.length + 1) (.int .u8 92) (by simp [Lib.byteCells])
  rw [add_base] at h1 h2
  exact ⟨g, rfl, rfl, hc, h1, h2⟩
set_option maxHeartbeats 4000000 in
set_option maxRecDepth 1000000 in
theorem wholeBytes_any (B : Nat) (va vb : Value) (l : List UInt8) (w : World) (ha : LentB B va l w) (hb : BytsV w vb l) (hs : l.length ≤ 1099511627776) :
    Calls Tryd.prog 13 #[va, vb] w fun e w' => e = .returned (.bool true) ∧ Below w.heap.size w w' := by
  obtain ⟨A, ca, rfl, hla⟩ := ha.byts.form
  obtain ⟨g, rfl, _, hcap, a0_, b0_⟩ := ha.marks
  obtain ⟨C, cb, rfl, hlb⟩ := hb.form
  have haH := Lib.hid ha.byts; have hbH := Lib.hid hb
  have hcc : (l.length : Int) + 2 ≤ ca := by omega
  clear ha hb
  go_enter Tryd.func13, Tryd.ntmps13
  go_wp2_with fail
  refine (sameBytes_any _ _ l _ haH.out hbH.out).mono ?_
  rintro e w1 ⟨rfl, hb1⟩
  go_wp2_with fail
  go_ret
  exact ⟨rfl, hb1⟩
end Go.Proofs.YtfkimemagbkcoaaDoor
