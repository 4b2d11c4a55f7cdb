/-
  Texts that belong together: RwLi, RwWr, RowC, RwC, RwK, RwD, OwnS, RwO. What each one says stands ahead of it.
-/
import Derived.Test.YtpmfbmigdpmloaaGreatDoorPc06
import Derived.Test.YtpmfbmigdpmloaaGreatDoorPc03
import Derived.Test.YtpmfbmigdpmloaaGreatDoorPc05
import Derived.Deep.Cut
import Derived.Test.YtpmfbmigdpmloaaGreatDoorPc01
import Derived.Deep.RegionHeld3
import Derived.Test.YtpmfbmigdpmloaaGreatDoorPc02
import Derived.Shelf.SlSortFuncK.SWK
import Derived.Shelf.SlSortCmp.WholeK
section
/-
  Numbers that are lent, and whether they are whole: LentInts, SameInts, WholeInts, at this program. Conditions: those written.
-/
set_option linter.unusedVariables false
set_option linter.unusedSimpArgs false
namespace Go.Proofs.YtpmfbmigdpmloaaGreatDoor
open Go.RowKit Go.Lib Go.Proofs

theorem int_info : ∃ i, Tryz.prog.info? 3 = some i ∧ i.zero = some (.int .i64 0) ∧ i.size = 1 ∧ i.bytes = 8 := by
  have h : (Tryz.prog.info? 3).map (fun i => (i.zero, i.size, i.bytes)) = some (some (.int .i64 0), 1, 8) := by kernel_rfl
  cases hi : Tryz.prog.info? 3 with
  | none => rw [hi] at h; cases h
  | some i => rw [hi] at h; simp at h; exact ⟨i, rfl, h.1, h.2.1, h.2.2⟩
theorem ints_flat (l : List Int) : (l.map (fun z => [intV z])).flatten = l.map intV := by
  induction l with
  | nil => rfl
  | cons z l ih => rw [List.map_cons, List.flatten_cons, ih]; rfl
theorem ints_one (l : List Int) : ∀ u ∈ l.map intV, u.oneCell' = true := by
  intro u hu
  obtain ⟨z, _, rfl⟩ := List.mem_map.1 hu
  rfl
/-- What is lent of numbers: a row of its own with two of room behind it, that have marks. -/
def LentI (B : Nat) (v : Value) (l : List Int) (w : World) : Prop := ∃ g cap, v = .slice (some ⟨g, 0, none⟩) l.length cap ∧ B ≤ g ∧ OwnL 3 1 g cap ((l ++ [-771, -772]).map (fun z => [intV z])) w
theorem LentI.below {B : Nat} {v : Value} {l : List Int} {w w' : World} (h : LentI B v l w) (hb : Below w.heap.size w w') : LentI B v l w' := by
  obtain ⟨g, cap, rfl, hB, h⟩ := h
  exact ⟨g, cap, rfl, hB, h.below hb⟩
theorem LentI.ints {B : Nat} {v : Value} {l : List Int} {w : World} (h : LentI B v l w) : IntsV w v l := by
  obtain ⟨g, cap, rfl, hB, h⟩ := h
  have h0 := h.slV
  rw [ints_flat, List.length_map] at h0
  have h1 := SlV.front (m := l.length) h0 (by simp)
  rw [Nat.mul_one, List.map_append, List.take_left' (List.length_map ..)] at h1
  exact h1
theorem make_roomI (n : Nat) (hn : n ≤ 1099511627776) (W : World) : ∃ c, (Instr.makeSlice 24 (.int .i64 0) (.int .i64 ((n : Int) + 2))).run Tryz.prog W = .ok (.slice (some ⟨W.heap.size, 0, none⟩) 0 (n + 2)) (W.alloc (.cells c 3)) ∧
    (W.alloc (.cells c 3)).ownsRow W.heap.size 3 1 (.slice (some ⟨W.heap.size, 0, none⟩) 0 (n + 2)) 0 [] := by
  obtain ⟨i, hi, hz, hs, hb⟩ := int_info
  have hr := run_make (P := Tryz.prog) W 24 3 i _ Tryz.underlying24 hi hz .i64 .i64 0 ((n : Int) + 2) (by omega) (by omega) (by rw [hb]; omega) (by omega)
  rw [show ((n : Int) + 2).toNat = n + 2 by omega, Int.toNat_zero] at hr
  refine ⟨_, hr, rfl, .inr ⟨W.heap.size, n + 2, _, rfl, Nat.le_refl _, heap_alloc_new W _, Nat.zero_le _, by unfold maxLen; omega, ?_, by simp⟩⟩
  rw [size_madeCells, hs]
theorem two_ints (w : World) : SlV (w.alloc (.cells #[.int .i64 (-771), .int .i64 (-772)] 3)) 1 (.slice (some ⟨w.heap.size, 0, none⟩) 2 2) 2 ([-771, -772].map intV) := by
  have h : OwnL 3 1 w.heap.size 2 [[.int .i64 (-771)], [.int .i64 (-772)]] (w.alloc (.cells #[.int .i64 (-771), .int .i64 (-772)] 3)) :=
    ⟨fun y hy => by simp at hy; rcases hy with rfl | rfl <;> rfl, by simp, by decide, _, heap_alloc_new w _, rfl, rfl⟩
  exact h.slV
set_option maxHeartbeats 4000000 in
set_option maxRecDepth 1000000 in
theorem lentInts_any (v : Value) (l : List Int) (w : World) (h : IntsV w v l) (hs : l.length ≤ 1099511627776) :
    Calls Tryz.prog 8 #[v] w fun e w' => ∃ u, e = .returned u ∧ LentI w.heap.size u l w' ∧ Below w.heap.size w w' := by
  obtain ⟨i0, hi, hz0, hz1, hz2⟩ := int_info
  obtain ⟨A, c, rfl, hla⟩ := h.form
  obtain ⟨cz, hmk, hown⟩ := make_roomI l.length hs w
  obtain ⟨W1, hW1⟩ : ∃ W1, w.alloc (.cells cz 3) = W1 := ⟨_, rfl⟩
  rw [hW1] at hmk hown
  have hb01 : Below w.heap.size w W1 := hW1 ▸ (Below.refl _ w).alloc (Nat.le_refl _) _
  have hvH := Lib.hid (SlV.below h hb01)
  have hownH := Lib.hid hown; have hb1 := Lib.hid hb01
  have hby : (0 + l.length) * 8 ≤ 140737488355328 := by omega
  have hby2 : (l.length + 2) * 8 ≤ 140737488355328 := by omega
  clear h hown hW1 hb01
  go_enter Tryz.func8, Tryz.ntmps8
  go_upto_region 2 with (at_builtin; refine wpList_append_sl rfl _ _ 24 rfl w.heap.size 3 i0 _ 1 8 Tryz.underlying24 hi hz0 hz1 hz2 rfl (by decide) _ 0 [] W1 _ _ _ hownH.out rfl hvH.out rfl (ints_one l) (by unfold maxLen; omega) hby hb1.out.size ?_; intro v1 w1 ho1 hg1; have hb2 := Lib.hid (below_own hb1.out hownH.out hg1 hb1.out.size); have ho1H := Lib.hid (show w1.ownsRow w.heap.size 3 1 v1 l.length (l.map intV) by simpa using ho1); clear ho1 hg1)
  obtain ⟨W2, hW2⟩ : ∃ W2, w1.alloc (.cells #[.int .i64 (-771), .int .i64 (-772)] 3) = W2 := ⟨_, rfl⟩
  have hm2 := Lib.hid (show SlV W2 1 (.slice (some ⟨w1.heap.size, 0, none⟩) 2 2) 2 ([-771, -772].map intV) from hW2 ▸ two_ints w1)
  have ho2 := Lib.hid (show W2.ownsRow w.heap.size 3 1 v1 l.length (l.map intV) from hW2 ▸ ho1H.out.alloc _)
  have hb12 := Lib.hid (show Below w.heap.size w W2 from hW2 ▸ hb2.out.alloc hb2.out.size _)
  go_upto_region 3 with (at_builtin; refine wpList_append_sl rfl _ _ 24 rfl w.heap.size 3 i0 _ 1 8 Tryz.underlying24 hi hz0 hz1 hz2 rfl (by decide) _ l.length (l.map intV) W2 _ _ _ ho2.out rfl hm2.out rfl (ints_one _) (by unfold maxLen; omega) hby2 hb12.out.size ?_; intro v3 w3 ho3 hg3; have hb3 := Lib.hid (below_own hb12.out ho2.out hg3 hb12.out.size); have ho3H := Lib.hid ho3; clear ho3 hg3)
  have e3 : l.map intV ++ [-771, -772].map intV = ((l ++ [-771, -772]).map (fun z => [intV z])).flatten := by rw [ints_flat, List.map_append]
  obtain ⟨g, cap, rfl, hgB⟩ : ∃ g cap, v3 = .slice (some ⟨g, 0, none⟩) (l.length + 2) cap ∧ w.heap.size ≤ g := by
    rcases own_slice ho3H.out with ⟨_, h2⟩ | h
    · omega
    · exact h
  have hown := Lib.hid (show OwnL 3 1 g cap ((l ++ [-771, -772]).map (fun z => [intV z])) w3 from OwnL.of_row (n := l.length + 2) (B := w.heap.size) (by rw [← e3]; exact ho3H.out) (by simp) (fun x hx => by obtain ⟨y, _, rfl⟩ := List.mem_map.1 hx; rfl))
  have hcap : l.length ≤ cap := by have := hown.out.len; simp at this; omega
  clear e3 hW2
  go_wp2_with fail
  go_ret
  exact ⟨_, rfl, ⟨g, cap, rfl, hgB, hown.out⟩, hb3.out⟩
theorem LentI.marks {B : Nat} {A : Option Addr} {n c : Nat} {l : List Int} {w : World} (h : LentI B (.slice A n c) l w) : ∃ g, A = some ⟨g, 0, none⟩ ∧ n = l.length ∧ l.length + 2 ≤ c ∧
    w.cell? ⟨g, l.length, none⟩ = some (.int .i64 (-771)) ∧ w.cell? ⟨g, l.length + 1, none⟩ = some (.int .i64 (-772)) := by
  obtain ⟨g, cap, e, hB, h⟩ := h
  obtain ⟨rfl, rfl, rfl⟩ := Value.slice.inj e
  have e1 : ((l ++ [-771, -772]).map (fun z => [intV z]))[l.length]? = some [intV (-771)] := by rw [List.getElem?_map]; simp
  have e2 : ((l ++ [-771, -772]).map (fun z => [intV z]))[l.length + 1]? = some [intV (-772)] := by rw [List.getElem?_map, List.getElem?_append_right (by omega)]; simp
  have h1 := h.cell e1 (j := 0) rfl
  have h2 := h.cell e2 (j := 0) rfl
  rw [Nat.mul_one, Nat.add_zero] at h1 h2
  exact ⟨g, rfl, rfl, by have := h.len; simpa using this, h1, h2⟩
def RelSi (x : List Int) (w0 : World) (s5 : Value) (wr : World) : Prop := ∃ p : Nat, p ≤ x.length ∧ s5 = .int .i64 (p : Int) ∧ Below w0.heap.size w0 wr
theorem drewsI {B : Nat} {w0 w : World} (h : Below B w0 w) (n : Nat) : Below B w0 (w.drewN n) := h.trans ⟨rfl, rfl, rfl, Nat.le_refl _, fun _ _ => rfl⟩
set_option maxHeartbeats 4000000 in
set_option maxRecDepth 1000000 in
theorem sameInts_any (va vb : Value) (x : List Int) (w : World) (ha : IntsV w va x) (hb : IntsV w vb x) :
    Calls Tryz.prog 39 #[va, vb] w fun e w' => e = .returned (.bool true) ∧ Below w.heap.size w w' := by
  obtain ⟨A, ca, rfl, hla⟩ := ha.form
  obtain ⟨B, cb, rfl, hlb⟩ := hb.form
  have haH := Lib.hid ha; have hbH := Lib.hid hb
  clear ha hb
  go_enter Tryz.func39, Tryz.ntmps39
  go_wp2_with fail
  go_loopw [5] (fun s5 wr => RelSi x w s5 wr) (fun s5 _ => x.length - (Go.RowKit.intOf s5).toNat)
  case atStart => exact ⟨0, by omega, rfl, Below.refl _ _⟩
  case round =>
    unfold RelSi at hrel
    obtain ⟨p, hp, rfl, hbw⟩ := hrel
    have hbwH := Lib.hid hbw
    clear hbw
    by_cases hlt : p < x.length
    · obtain ⟨a, ha⟩ : ∃ a, x[p]? = some a := ⟨_, List.getElem?_eq_getElem hlt⟩
      obtain ⟨ad, rfl, hba, a0_⟩ := (haH.out.below hbwH.out).at ha
      obtain ⟨bd, rfl, hbb, b0_⟩ := (hbH.out.below hbwH.out).at ha
      have hltH := Lib.hid hlt
      clear ha
      go_wp2_with fail
      go_quiet (fail)
      go_wp2_with fail
      go_roundw
      case rel => exact ⟨p + 1, hltH.out, by go_num, by first | exact drewsI hbwH.out _ | exact hbwH.out⟩
      case measure => have := hltH.out; simp [Go.RowKit.intOf]; omega
    · obtain rfl : p = x.length := by omega
      go_wp2_with fail
      go_ret
      exact ⟨rfl, hbwH.out⟩
set_option maxHeartbeats 4000000 in
set_option maxRecDepth 1000000 in
theorem wholeInts_any (B : Nat) (va vb : Value) (l : List Int) (w : World) (ha : LentI B va l w) (hb : IntsV w vb l) (hs : l.length ≤ 1099511627776) :
    Calls Tryz.prog 23 #[va, vb] w fun e w' => e = .returned (.bool true) ∧ Below w.heap.size w w' := by
  obtain ⟨A, ca, rfl, hla⟩ := ha.ints.form
  obtain ⟨g, rfl, _, hcap, a0_, b0_⟩ := ha.marks
  obtain ⟨C, cb, rfl, hlb⟩ := hb.form
  have haH := Lib.hid ha.ints; have hbH := Lib.hid hb
  have hcc : (l.length : Int) + 2 ≤ ca := by omega
  clear ha hb
  go_enter Tryz.func23, Tryz.ntmps23
  go_wp2_with fail
  refine (sameInts_any _ _ l _ haH.out hbH.out).mono ?_
  rintro e w1 ⟨rfl, hb1⟩
  go_wp2_with fail
  go_ret
  exact ⟨rfl, hb1⟩
end Go.Proofs.YtpmfbmigdpmloaaGreatDoor
end
section
/-
  A row that was lent is whole: WholeRow, at this program. Conditions: those written.
-/
set_option linter.unusedVariables false
set_option linter.unusedSimpArgs false
namespace Go.Proofs.YtpmfbmigdpmloaaGreatDoor
open Go.RowKit Go.Lib Go.Proofs

set_option maxHeartbeats 4000000 in
set_option maxRecDepth 1000000 in
theorem wholeRow_any (B : Nat) (va vb : Value) (l : List Dat) (w : World) (ha : LentD B va l w) (hb : RowV w vb l) (hs : l.length ≤ 1099511627776) :
    Calls Tryz.prog 22 #[va, vb] w fun e w' => e = .returned (.bool true) ∧ Below w.heap.size w w' := by
  obtain ⟨A, ca, rfl, hla⟩ := ha.rowV.form
  obtain ⟨g, rfl, _, hcap, ⟨a0_, a1_, a2_, a3_⟩, b0_, b1_, b2_, b3_⟩ := ha.marks
  obtain ⟨C, cb, rfl, hlb⟩ := hb.form
  have haH := Lib.hid ha.rowV; have hbH := Lib.hid hb
  have hcc : (l.length : Int) + 2 ≤ ca := by omega
  clear ha hb
  go_enter Tryz.func22, Tryz.ntmps22
  go_wp2_with fail
  refine (sameRow_any _ _ l _ haH.out hbH.out).mono ?_
  rintro e w1 ⟨rfl, hb1⟩
  go_wp2_with fail
  go_ret
  exact ⟨rfl, hb1⟩
end Go.Proofs.YtpmfbmigdpmloaaGreatDoor
end
section
/-
  What row.Cmp and the document's own answer, at this program: of any two rows. No condition.
-/
set_option linter.unusedVariables false
set_option linter.unusedSimpArgs false
namespace Go.Proofs.YtpmfbmigdpmloaaGreatDoor
open Go.RowKit Go.Lib

set_option maxHeartbeats 2000000 in
theorem cmpLen_any (x y : Int) (w : World) :
    Calls Tryz.prog 48 #[.int .i64 x, .int .i64 y] w fun e w' => e = .returned (.int .i64 (cmp3 x y)) ∧ w = w' := by
  by_cases h : x < y
  · have hr := Lib.hid (show cmp3 x y = -1 from if_pos h)
    have h2 : ¬ y < x := by omega
    have h3 : (x == y) = false := by simp; omega
    go_enter Tryz.func48, Tryz.ntmps48
    go_wp2
    go_ret
    exact ⟨ret_int hr.out.symm, rfl⟩
  · by_cases h2 : x = y
    · subst h2
      have hr := Lib.hid (show cmp3 x x = 0 by simp [cmp3])
      go_enter Tryz.func48, Tryz.ntmps48
      go_wp2
      go_ret
      exact ⟨ret_int hr.out.symm, rfl⟩
    · have hr := Lib.hid (show cmp3 x y = 1 by simp [cmp3, h, h2])
      have h3 : y < x := by omega
      have h4 : (x == y) = false := by simpa using h2
      clear h2
      go_enter Tryz.func48, Tryz.ntmps48
      go_wp2
      go_ret
      exact ⟨ret_int hr.out.symm, rfl⟩
theorem cmpR_at {l m : List Dat} {p : Nat} (hl : p < l.length) (hm : p < m.length) : cmpR (l.drop p) (m.drop p) = if cmpS l[p] m[p] = 0 then cmpR (l.drop (p + 1)) (m.drop (p + 1)) else cmpS l[p] m[p] := by
  rw [List.drop_eq_getElem_cons hl, List.drop_eq_getElem_cons hm, cmpR]
theorem cmpR_end {l m : List Dat} {p : Nat} (h : l.length ≤ p ∨ m.length ≤ p) (hl : p ≤ l.length) (hm : p ≤ m.length) : cmpR (l.drop p) (m.drop p) = cmp3 (l.length : Int) (m.length : Int) := by
  unfold cmp3
  cases h1 : l.drop p with
  | nil =>
    have e1 := congrArg List.length h1
    rw [List.length_drop, List.length_nil] at e1
    cases h2 : m.drop p with
    | nil =>
      have e2 := congrArg List.length h2
      rw [List.length_drop, List.length_nil] at e2
      rw [if_neg (by omega), if_pos (by omega)]; rfl
    | cons y m' =>
      have e2 := congrArg List.length h2
      rw [List.length_drop, List.length_cons] at e2
      rw [if_pos (by omega)]; rfl
  | cons x l' =>
    have e1 := congrArg List.length h1
    rw [List.length_drop, List.length_cons] at e1
    cases h2 : m.drop p with
    | nil =>
      have e2 := congrArg List.length h2
      rw [List.length_drop, List.length_nil] at e2
      rw [if_neg (by omega), if_neg (by omega)]; rfl
    | cons y m' =>
      have e2 := congrArg List.length h2
      rw [List.length_drop, List.length_cons] at e2
      omega
/-- What the rounds hold. -/
def RelC (l m : List Dat) (w0 : World) (i : Value) (wr : World) : Prop :=
  ∃ p : Nat, i = .int .i64 (p : Int) ∧ p ≤ l.length ∧ p ≤ m.length ∧ cmpR l m = cmpR (l.drop p) (m.drop p) ∧ Below w0.heap.size w0 wr
set_option maxHeartbeats 8000000 in
set_option maxRecDepth 1000000 in
theorem rowCmp_any (va vb : Value) (l m : List Dat) (w : World) (ha : RowV w va l) (hb : RowV w vb m) :
    Calls Tryz.prog 27 #[va, vb] w fun e w' => e = .returned (.int .i64 (cmpR l m)) ∧ Below w.heap.size w w' := by
  obtain ⟨A, ca, rfl, hla⟩ := ha.form
  obtain ⟨B, cb, rfl, hlb⟩ := hb.form
  have haH := Lib.hid ha; have hbH := Lib.hid hb
  clear ha hb
  obtain ⟨r, hr⟩ : ∃ r, cmpR l m = r := ⟨_, rfl⟩
  rw [hr]
  have hrH := Lib.hid hr
  clear hr
  obtain ⟨n, hn⟩ : ∃ n, min l.length m.length = n := ⟨_, rfl⟩
  have hmi : min (l.length : Int) (m.length : Int) = (n : Int) := by omega
  have hnl : n ≤ l.length := by omega
  have hnm : n ≤ m.length := by omega
  have hnH := Lib.hid (show l.length = n ∨ m.length = n by omega)
  clear hn
  go_enter Tryz.func27, Tryz.ntmps27
  go_wp2_with fail
  go_loopw [12] (fun i wr => RelC l m w i wr) (fun i _ => n - (Go.RowKit.intOf i).toNat)
  case atStart => exact ⟨0, rfl, Nat.zero_le _, Nat.zero_le _, rfl, Below.refl _ _⟩
  case round =>
    unfold RelC at hrel
    obtain ⟨p, rfl, hpl, hpm, hcmp, hbw⟩ := hrel
    have hcH := Lib.hid hcmp; have hbwH := Lib.hid hbw
    have hsz := hbw.size
    clear hcmp hbw
    by_cases hp : p < n
    · have h1 : p < l.length := by omega
      have h2 : p < m.length := by omega
      obtain ⟨x, hx⟩ : ∃ x, l[p] = x := ⟨_, rfl⟩
      obtain ⟨y, hy⟩ : ∃ y, m[p] = y := ⟨_, rfl⟩
      obtain ⟨ad, rfl, hba, a0_, a1_, a2_, a3_⟩ := (haH.out.below hbwH.out).at h1
      obtain ⟨bd, rfl, hbb, b0_, b1_, b2_, b3_⟩ := (hbH.out.below hbwH.out).at h2
      have hstep := cmpR_at h1 h2
      rw [hx] at a0_ a1_ a2_ a3_ hstep
      rw [hy] at b0_ b1_ b2_ b3_ hstep
      obtain ⟨k0, b0, n0, s0⟩ := x
      obtain ⟨k1, b1, n1, s1⟩ := y
      simp only at a0_ a1_ a2_ a3_ b0_ b1_ b2_ b3_
      obtain ⟨c, hc⟩ : ∃ c, cmpS ⟨k0, b0, n0, s0⟩ ⟨k1, b1, n1, s1⟩ = c := ⟨_, rfl⟩
      rw [hc] at hstep
      have hcS := Lib.hid hc
      have hstH := Lib.hid hstep
      clear hc hstep hx hy
      by_cases c0 : c = 0
      · have g : (c != 0) = false := by simp [c0]
        go_wp2_with fail
        refine wp_region_noPanic ?_
        refine wp_region_held_drew (S := (fun w' => w'.cell? (ad.add (p * 4)) = some (.int .u8 k0) ∧ w'.cell? ⟨(ad.add (p * 4)).block, (ad.add (p * 4)).off + 1, none⟩ = some (.bool b0) ∧ w'.cell? ⟨(ad.add (p * 4)).block, (ad.add (p * 4)).off + 2, none⟩ = some (.int .i64 n0) ∧ w'.cell? ⟨(ad.add (p * 4)).block, (ad.add (p * 4)).off + 3, none⟩ = some (.string s0) ∧ w'.cell? (bd.add (p * 4)) = some (.int .u8 k1) ∧ w'.cell? ⟨(bd.add (p * 4)).block, (bd.add (p * 4)).off + 1, none⟩ = some (.bool b1) ∧ w'.cell? ⟨(bd.add (p * 4)).block, (bd.add (p * 4)).off + 2, none⟩ = some (.int .i64 n1) ∧ w'.cell? ⟨(bd.add (p * 4)).block, (bd.add (p * 4)).off + 3, none⟩ = some (.string s1))) (by kernel_rfl) ⟨a0_, a1_, a2_, a3_, b0_, b1_, b2_, b3_⟩ (fun hHeld => ?_)
        refine' wpAnyH_take (i := 0) (v := .slice (some ad) l.length ca) ?hi0x1 ?hs0x1 ?hf0x1 ?hr0x1 ?hQ0x1 ?hy0x1 ?hS0x1 ?rest0x1
        case hi0x1 => (simp only [List.getElem?_toArray, List.getElem?_cons_succ, List.getElem?_cons_zero]; try rfl)
        case hs0x1 => kernel_rfl
        case hf0x1 => kernel_rfl
        case hr0x1 => kernel_rfl
        case hQ0x1 => exact fun _ _ _ h => h
        case hy0x1 => exact Or.inl ⟨by rfl, by (intro w hSw; (try dsimp only at hSw); go_simp)⟩
        case hS0x1 => assumption
        (try simp only [Act.put, List.setIfInBounds_toArray, List.set_cons_zero, List.set_cons_succ])
        refine' wpAnyH_take (i := 1) (v := .int .i64 (p : Int)) ?hi1x2 ?hs1x2 ?hf1x2 ?hr1x2 ?hQ1x2 ?hy1x2 ?hS1x2 ?rest1x2
        case hi1x2 => (simp only [List.getElem?_toArray, List.getElem?_cons_succ, List.getElem?_cons_zero]; try rfl)
        case hs1x2 => kernel_rfl
        case hf1x2 => kernel_rfl
        case hr1x2 => kernel_rfl
        case hQ1x2 => exact fun _ _ _ h => h
        case hy1x2 => exact Or.inl ⟨by rfl, by (intro w hSw; (try dsimp only at hSw); go_simp)⟩
        case hS1x2 => assumption
        (try simp only [Act.put, List.setIfInBounds_toArray, List.set_cons_zero, List.set_cons_succ])
        refine' wpAnyH_take (i := 2) (v := .pointer (some (ad.add (p * 4)))) ?hi2x3 ?hs2x3 ?hf2x3 ?hr2x3 ?hQ2x3 ?hy2x3 ?hS2x3 ?rest2x3
        case hi2x3 => (simp only [List.getElem?_toArray, List.getElem?_cons_succ, List.getElem?_cons_zero]; try rfl)
        case hs2x3 => kernel_rfl
        case hf2x3 => kernel_rfl
        case hr2x3 => kernel_rfl
        case hQ2x3 => exact fun _ _ _ h => h
        case hy2x3 => exact Or.inl ⟨by rfl, by (intro w hSw; (try dsimp only at hSw); go_simp)⟩
        case hS2x3 => assumption
        (try simp only [Act.put, List.setIfInBounds_toArray, List.set_cons_zero, List.set_cons_succ])
        refine' wpAnyH_take (i := 3) (v := .agg #[.int .u8 k0, .bool b0, .int .i64 n0, .string s0]) ?hi3x4 ?hs3x4 ?hf3x4 ?hr3x4 ?hQ3x4 ?hy3x4 ?hS3x4 ?rest3x4
        case hi3x4 => (simp only [List.getElem?_toArray, List.getElem?_cons_succ, List.getElem?_cons_zero]; try rfl)
        case hs3x4 => kernel_rfl
        case hf3x4 => kernel_rfl
        case hr3x4 => kernel_rfl
        case hQ3x4 => exact fun _ _ _ h => h
        case hy3x4 => exact Or.inl ⟨by rfl, by (intro w hSw; (try dsimp only at hSw); go_simp)⟩
        case hS3x4 => assumption
        (try simp only [Act.put, List.setIfInBounds_toArray, List.set_cons_zero, List.set_cons_succ])
        refine' wpAnyH_take (i := 4) (v := .slice (some bd) m.length cb) ?hi4x5 ?hs4x5 ?hf4x5 ?hr4x5 ?hQ4x5 ?hy4x5 ?hS4x5 ?rest4x5
        case hi4x5 => (simp only [List.getElem?_toArray, List.getElem?_cons_succ, List.getElem?_cons_zero]; try rfl)
        case hs4x5 => kernel_rfl
        case hf4x5 => kernel_rfl
        case hr4x5 => kernel_rfl
        case hQ4x5 => exact fun _ _ _ h => h
        case hy4x5 => exact Or.inl ⟨by rfl, by (intro w hSw; (try dsimp only at hSw); go_simp)⟩
        case hS4x5 => assumption
        (try simp only [Act.put, List.setIfInBounds_toArray, List.set_cons_zero, List.set_cons_succ])
        refine' wpAnyH_take (i := 5) (v := .int .i64 (p : Int)) ?hi5x6 ?hs5x6 ?hf5x6 ?hr5x6 ?hQ5x6 ?hy5x6 ?hS5x6 ?rest5x6
        case hi5x6 => (simp only [List.getElem?_toArray, List.getElem?_cons_succ, List.getElem?_cons_zero]; try rfl)
        case hs5x6 => kernel_rfl
        case hf5x6 => kernel_rfl
        case hr5x6 => kernel_rfl
        case hQ5x6 => exact fun _ _ _ h => h
        case hy5x6 => exact Or.inl ⟨by rfl, by (intro w hSw; (try dsimp only at hSw); go_simp)⟩
        case hS5x6 => assumption
        (try simp only [Act.put, List.setIfInBounds_toArray, List.set_cons_zero, List.set_cons_succ])
        refine' wpAnyH_take (i := 6) (v := .pointer (some (bd.add (p * 4)))) ?hi6x7 ?hs6x7 ?hf6x7 ?hr6x7 ?hQ6x7 ?hy6x7 ?hS6x7 ?rest6x7
        case hi6x7 => (simp only [List.getElem?_toArray, List.getElem?_cons_succ, List.getElem?_cons_zero]; try rfl)
        case hs6x7 => kernel_rfl
        case hf6x7 => kernel_rfl
        case hr6x7 => kernel_rfl
        case hQ6x7 => exact fun _ _ _ h => h
        case hy6x7 => exact Or.inl ⟨by rfl, by (intro w hSw; (try dsimp only at hSw); go_simp)⟩
        case hS6x7 => assumption
        (try simp only [Act.put, List.setIfInBounds_toArray, List.set_cons_zero, List.set_cons_succ])
        refine' wpAnyH_take (i := 7) (v := .agg #[.int .u8 k1, .bool b1, .int .i64 n1, .string s1]) ?hi7x8 ?hs7x8 ?hf7x8 ?hr7x8 ?hQ7x8 ?hy7x8 ?hS7x8 ?rest7x8
        case hi7x8 => (simp only [List.getElem?_toArray, List.getElem?_cons_succ, List.getElem?_cons_zero]; try rfl)
        case hs7x8 => kernel_rfl
        case hf7x8 => kernel_rfl
        case hr7x8 => kernel_rfl
        case hQ7x8 => exact fun _ _ _ h => h
        case hy7x8 => exact Or.inl ⟨by rfl, by (intro w hSw; (try dsimp only at hSw); go_simp)⟩
        case hS7x8 => assumption
        (try simp only [Act.put, List.setIfInBounds_toArray, List.set_cons_zero, List.set_cons_succ])
        refine wpAnyH_ready (rs := [8]) (by kernel_rfl) (by simp) ?_
        refine' AllReadyH.cons (i := 8) ?ho8x9 (fun K hK => ?st8x9) AllReadyH.nil
        case ho8x9 => (simp only [List.getElem?_toArray, List.getElem?_cons_succ, List.getElem?_cons_zero]; try rfl)
        go_simp
        refine (cmp_any k0 b0 n0 s0 k1 b1 n1 s1 _).mono ?_
        rw [hcS.out]
        rintro e w' ⟨rfl, hb'⟩
        refine hK.out _ _ ?_ (fun hHeld => ?_)
        · exact ⟨(hb'.cell (p := (ad.add (p * 4))) hba).trans a0_, (hb'.cell (p := ⟨(ad.add (p * 4)).block, (ad.add (p * 4)).off + 1, none⟩) hba).trans a1_, (hb'.cell (p := ⟨(ad.add (p * 4)).block, (ad.add (p * 4)).off + 2, none⟩) hba).trans a2_, (hb'.cell (p := ⟨(ad.add (p * 4)).block, (ad.add (p * 4)).off + 3, none⟩) hba).trans a3_, (hb'.cell (p := (bd.add (p * 4))) hbb).trans b0_, (hb'.cell (p := ⟨(bd.add (p * 4)).block, (bd.add (p * 4)).off + 1, none⟩) hbb).trans b1_, (hb'.cell (p := ⟨(bd.add (p * 4)).block, (bd.add (p * 4)).off + 2, none⟩) hbb).trans b2_, (hb'.cell (p := ⟨(bd.add (p * 4)).block, (bd.add (p * 4)).off + 3, none⟩) hbb).trans b3_⟩
        clear hK K
        (try simp only [Act.put, List.setIfInBounds_toArray, List.set_cons_zero, List.set_cons_succ])
        refine' wpAnyH_take (i := 9) (v := .int .i64 c) ?hi9x10 ?hs9x10 ?hf9x10 ?hr9x10 ?hQ9x10 ?hy9x10 ?hS9x10 ?rest9x10
        case hi9x10 => (simp only [List.getElem?_toArray, List.getElem?_cons_succ, List.getElem?_cons_zero]; try rfl)
        case hs9x10 => kernel_rfl
        case hf9x10 => kernel_rfl
        case hr9x10 => kernel_rfl
        case hQ9x10 => exact fun _ _ _ h => h
        case hy9x10 => exact Or.inl ⟨by rfl, by (intro w hSw; (try dsimp only at hSw); go_simp)⟩
        case hS9x10 => assumption
        (try simp only [Act.put, List.setIfInBounds_toArray, List.set_cons_zero, List.set_cons_succ])
        refine wpAnyH_done (by kernel_rfl) ?_ _
        refine NoPanic.normal ?_
        trace_state
        go_wp2_with fail
        go_roundw
        case rel => exact ⟨p + 1, by go_num, by omega, by omega, by rw [hcH.out, hstH.out, if_pos c0], hbwH.out.drew.trans (hb'.mono hsz)⟩
        case measure => simp [Go.RowKit.intOf]; omega
      · have g : (c != 0) = true := by simpa using c0
        go_wp2_with fail
        refine wp_region_noPanic ?_
        refine wp_region_held_drew (S := (fun w' => w'.cell? (ad.add (p * 4)) = some (.int .u8 k0) ∧ w'.cell? ⟨(ad.add (p * 4)).block, (ad.add (p * 4)).off + 1, none⟩ = some (.bool b0) ∧ w'.cell? ⟨(ad.add (p * 4)).block, (ad.add (p * 4)).off + 2, none⟩ = some (.int .i64 n0) ∧ w'.cell? ⟨(ad.add (p * 4)).block, (ad.add (p * 4)).off + 3, none⟩ = some (.string s0) ∧ w'.cell? (bd.add (p * 4)) = some (.int .u8 k1) ∧ w'.cell? ⟨(bd.add (p * 4)).block, (bd.add (p * 4)).off + 1, none⟩ = some (.bool b1) ∧ w'.cell? ⟨(bd.add (p * 4)).block, (bd.add (p * 4)).off + 2, none⟩ = some (.int .i64 n1) ∧ w'.cell? ⟨(bd.add (p * 4)).block, (bd.add (p * 4)).off + 3, none⟩ = some (.string s1))) (by kernel_rfl) ⟨a0_, a1_, a2_, a3_, b0_, b1_, b2_, b3_⟩ (fun hHeld => ?_)
        refine' wpAnyH_take (i := 0) (v := .slice (some ad) l.length ca) ?hi0x11 ?hs0x11 ?hf0x11 ?hr0x11 ?hQ0x11 ?hy0x11 ?hS0x11 ?rest0x11
        case hi0x11 => (simp only [List.getElem?_toArray, List.getElem?_cons_succ, List.getElem?_cons_zero]; try rfl)
        case hs0x11 => kernel_rfl
        case hf0x11 => kernel_rfl
        case hr0x11 => kernel_rfl
        case hQ0x11 => exact fun _ _ _ h => h
        case hy0x11 => exact Or.inl ⟨by rfl, by (intro w hSw; (try dsimp only at hSw); go_simp)⟩
        case hS0x11 => assumption
        (try simp only [Act.put, List.setIfInBounds_toArray, List.set_cons_zero, List.set_cons_succ])
        refine' wpAnyH_take (i := 1) (v := .int .i64 (p : Int)) ?hi1x12 ?hs1x12 ?hf1x12 ?hr1x12 ?hQ1x12 ?hy1x12 ?hS1x12 ?rest1x12
        case hi1x12 => (simp only [List.getElem?_toArray, List.getElem?_cons_succ, List.getElem?_cons_zero]; try rfl)
        case hs1x12 => kernel_rfl
        case hf1x12 => kernel_rfl
        case hr1x12 => kernel_rfl
        case hQ1x12 => exact fun _ _ _ h => h
        case hy1x12 => exact Or.inl ⟨by rfl, by (intro w hSw; (try dsimp only at hSw); go_simp)⟩
        case hS1x12 => assumption
        (try simp only [Act.put, List.setIfInBounds_toArray, List.set_cons_zero, List.set_cons_succ])
        refine' wpAnyH_take (i := 2) (v := .pointer (some (ad.add (p * 4)))) ?hi2x13 ?hs2x13 ?hf2x13 ?hr2x13 ?hQ2x13 ?hy2x13 ?hS2x13 ?rest2x13
        case hi2x13 => (simp only [List.getElem?_toArray, List.getElem?_cons_succ, List.getElem?_cons_zero]; try rfl)
        case hs2x13 => kernel_rfl
        case hf2x13 => kernel_rfl
        case hr2x13 => kernel_rfl
        case hQ2x13 => exact fun _ _ _ h => h
        case hy2x13 => exact Or.inl ⟨by rfl, by (intro w hSw; (try dsimp only at hSw); go_simp)⟩
        case hS2x13 => assumption
        (try simp only [Act.put, List.setIfInBounds_toArray, List.set_cons_zero, List.set_cons_succ])
        refine' wpAnyH_take (i := 3) (v := .agg #[.int .u8 k0, .bool b0, .int .i64 n0, .string s0]) ?hi3x14 ?hs3x14 ?hf3x14 ?hr3x14 ?hQ3x14 ?hy3x14 ?hS3x14 ?rest3x14
        case hi3x14 => (simp only [List.getElem?_toArray, List.getElem?_cons_succ, List.getElem?_cons_zero]; try rfl)
        case hs3x14 => kernel_rfl
        case hf3x14 => kernel_rfl
        case hr3x14 => kernel_rfl
        case hQ3x14 => exact fun _ _ _ h => h
        case hy3x14 => exact Or.inl ⟨by rfl, by (intro w hSw; (try dsimp only at hSw); go_simp)⟩
        case hS3x14 => assumption
        (try simp only [Act.put, List.setIfInBounds_toArray, List.set_cons_zero, List.set_cons_succ])
        refine' wpAnyH_take (i := 4) (v := .slice (some bd) m.length cb) ?hi4x15 ?hs4x15 ?hf4x15 ?hr4x15 ?hQ4x15 ?hy4x15 ?hS4x15 ?rest4x15
        case hi4x15 => (simp only [List.getElem?_toArray, List.getElem?_cons_succ, List.getElem?_cons_zero]; try rfl)
        case hs4x15 => kernel_rfl
        case hf4x15 => kernel_rfl
        case hr4x15 => kernel_rfl
        case hQ4x15 => exact fun _ _ _ h => h
        case hy4x15 => exact Or.inl ⟨by rfl, by (intro w hSw; (try dsimp only at hSw); go_simp)⟩
        case hS4x15 => assumption
        (try simp only [Act.put, List.setIfInBounds_toArray, List.set_cons_zero, List.set_cons_succ])
        refine' wpAnyH_take (i := 5) (v := .int .i64 (p : Int)) ?hi5x16 ?hs5x16 ?hf5x16 ?hr5x16 ?hQ5x16 ?hy5x16 ?hS5x16 ?rest5x16
        case hi5x16 => (simp only [List.getElem?_toArray, List.getElem?_cons_succ, List.getElem?_cons_zero]; try rfl)
        case hs5x16 => kernel_rfl
        case hf5x16 => kernel_rfl
        case hr5x16 => kernel_rfl
        case hQ5x16 => exact fun _ _ _ h => h
        case hy5x16 => exact Or.inl ⟨by rfl, by (intro w hSw; (try dsimp only at hSw); go_simp)⟩
        case hS5x16 => assumption
        (try simp only [Act.put, List.setIfInBounds_toArray, List.set_cons_zero, List.set_cons_succ])
        refine' wpAnyH_take (i := 6) (v := .pointer (some (bd.add (p * 4)))) ?hi6x17 ?hs6x17 ?hf6x17 ?hr6x17 ?hQ6x17 ?hy6x17 ?hS6x17 ?rest6x17
        case hi6x17 => (simp only [List.getElem?_toArray, List.getElem?_cons_succ, List.getElem?_cons_zero]; try rfl)
        case hs6x17 => kernel_rfl
        case hf6x17 => kernel_rfl
        case hr6x17 => kernel_rfl
        case hQ6x17 => exact fun _ _ _ h => h
        case hy6x17 => exact Or.inl ⟨by rfl, by (intro w hSw; (try dsimp only at hSw); go_simp)⟩
        case hS6x17 => assumption
        (try simp only [Act.put, List.setIfInBounds_toArray, List.set_cons_zero, List.set_cons_succ])
        refine' wpAnyH_take (i := 7) (v := .agg #[.int .u8 k1, .bool b1, .int .i64 n1, .string s1]) ?hi7x18 ?hs7x18 ?hf7x18 ?hr7x18 ?hQ7x18 ?hy7x18 ?hS7x18 ?rest7x18
        case hi7x18 => (simp only [List.getElem?_toArray, List.getElem?_cons_succ, List.getElem?_cons_zero]; try rfl)
        case hs7x18 => kernel_rfl
        case hf7x18 => kernel_rfl
        case hr7x18 => kernel_rfl
        case hQ7x18 => exact fun _ _ _ h => h
        case hy7x18 => exact Or.inl ⟨by rfl, by (intro w hSw; (try dsimp only at hSw); go_simp)⟩
        case hS7x18 => assumption
        (try simp only [Act.put, List.setIfInBounds_toArray, List.set_cons_zero, List.set_cons_succ])
        refine wpAnyH_ready (rs := [8]) (by kernel_rfl) (by simp) ?_
        refine' AllReadyH.cons (i := 8) ?ho8x19 (fun K hK => ?st8x19) AllReadyH.nil
        case ho8x19 => (simp only [List.getElem?_toArray, List.getElem?_cons_succ, List.getElem?_cons_zero]; try rfl)
        go_simp
        refine (cmp_any k0 b0 n0 s0 k1 b1 n1 s1 _).mono ?_
        rw [hcS.out]
        rintro e w' ⟨rfl, hb'⟩
        refine hK.out _ _ ?_ (fun hHeld => ?_)
        · exact ⟨(hb'.cell (p := (ad.add (p * 4))) hba).trans a0_, (hb'.cell (p := ⟨(ad.add (p * 4)).block, (ad.add (p * 4)).off + 1, none⟩) hba).trans a1_, (hb'.cell (p := ⟨(ad.add (p * 4)).block, (ad.add (p * 4)).off + 2, none⟩) hba).trans a2_, (hb'.cell (p := ⟨(ad.add (p * 4)).block, (ad.add (p * 4)).off + 3, none⟩) hba).trans a3_, (hb'.cell (p := (bd.add (p * 4))) hbb).trans b0_, (hb'.cell (p := ⟨(bd.add (p * 4)).block, (bd.add (p * 4)).off + 1, none⟩) hbb).trans b1_, (hb'.cell (p := ⟨(bd.add (p * 4)).block, (bd.add (p * 4)).off + 2, none⟩) hbb).trans b2_, (hb'.cell (p := ⟨(bd.add (p * 4)).block, (bd.add (p * 4)).off + 3, none⟩) hbb).trans b3_⟩
        clear hK K
        (try simp only [Act.put, List.setIfInBounds_toArray, List.set_cons_zero, List.set_cons_succ])
        refine' wpAnyH_take (i := 9) (v := .int .i64 c) ?hi9x20 ?hs9x20 ?hf9x20 ?hr9x20 ?hQ9x20 ?hy9x20 ?hS9x20 ?rest9x20
        case hi9x20 => (simp only [List.getElem?_toArray, List.getElem?_cons_succ, List.getElem?_cons_zero]; try rfl)
        case hs9x20 => kernel_rfl
        case hf9x20 => kernel_rfl
        case hr9x20 => kernel_rfl
        case hQ9x20 => exact fun _ _ _ h => h
        case hy9x20 => exact Or.inl ⟨by rfl, by (intro w hSw; (try dsimp only at hSw); go_simp)⟩
        case hS9x20 => assumption
        (try simp only [Act.put, List.setIfInBounds_toArray, List.set_cons_zero, List.set_cons_succ])
        refine wpAnyH_done (by kernel_rfl) ?_ _
        refine NoPanic.normal ?_
        go_wp2_with fail
        go_ret
        exact ⟨ret_int (by rw [← hrH.out, hcH.out, hstH.out, if_neg c0]), hbwH.out.drew.trans (hb'.mono hsz)⟩
    · obtain ⟨z, hz⟩ : ∃ z, cmp3 (l.length : Int) (m.length : Int) = z := ⟨_, rfl⟩
      have hzr := Lib.hid (show z = r by rw [← hz, ← hrH.out, hcH.out]; exact (cmpR_end (by have := hnH.out; omega) hpl hpm).symm)
      have hzH := Lib.hid hz
      clear hz
      go_wp2_with (go_at_call 48; go_must (refine (cmpLen_any _ _ _).mono ?_; rw [hzH.out]; rintro e w' ⟨rfl, rfl⟩))
      go_ret
      exact ⟨ret_int hzr.out, hbwH.out⟩

end Go.Proofs.YtpmfbmigdpmloaaGreatDoor
end
section
/-
  What datum.Cmp and row.Cmp answer, at this program, and that no draw is taken back: of any two data, of any two rows. No condition.
-/
set_option linter.unusedVariables false
set_option linter.unusedSimpArgs false
namespace Go.Proofs.YtpmfbmigdpmloaaGreatDoor
open Go.RowKit Go.Lib

set_option maxHeartbeats 2000000 in
theorem cmpD_any (ka : Int) (ba : Bool) (na : Int) (sa : ByteArray) (kb : Int) (bb : Bool) (nb : Int) (sb : ByteArray) (w : World) :
    Calls Tryz.prog 47 #[.agg #[.int .u8 ka, .bool ba, .int .i64 na, .string sa], .agg #[.int .u8 kb, .bool bb, .int .i64 nb, .string sb]] w
      fun e w' => e = .returned (.int .i64 (cmpS ⟨ka, ba, na, sa⟩ ⟨kb, bb, nb, sb⟩)) ∧ Rose w.heap.size w w' := by
  by_cases h : ka = kb
  · subst h
    by_cases h2 : ka = 2
    · subst h2
      have hr := Lib.hid (show cmpS ⟨2, ba, na, sa⟩ ⟨2, bb, nb, sb⟩ = cmpB ba bb from rfl)
      go_enter Tryz.func47, Tryz.ntmps47
      go_wp2_with fail
      refine (cmpBool_any ba bb _).mono ?_
      rintro e w1 ⟨rfl, rfl⟩
      go_wp2
      go_ret
      exact ⟨ret_int hr.out.symm, ⟨by go_grown, by simp⟩⟩
    · by_cases h3 : ka = 3
      · subst h3
        have hr := Lib.hid (show cmpS ⟨3, ba, na, sa⟩ ⟨3, bb, nb, sb⟩ = cmp3 na nb from rfl)
        go_enter Tryz.func47, Tryz.ntmps47
        go_wp2_with fail
        refine (cmpInt_any na nb _).mono ?_
        rintro e w1 ⟨rfl, rfl⟩
        go_wp2
        go_ret
        exact ⟨ret_int hr.out.symm, ⟨by go_grown, by simp⟩⟩
      · by_cases h4 : ka = 4
        · subst h4
          have hr := Lib.hid (show cmpS ⟨4, ba, na, sa⟩ ⟨4, bb, nb, sb⟩ = compareBytes sa.data.toList sb.data.toList from rfl)
          go_enter Tryz.func47, Tryz.ntmps47
          go_wp2_with fail
          refine (Tryz.strings_Compare sa sb _).mono ?_
          rintro e w1 ⟨rfl, rfl⟩
          go_wp2
          go_ret
          exact ⟨ret_int hr.out.symm, ⟨by go_grown, by simp⟩⟩
        · have hr := Lib.hid (show cmpS ⟨ka, ba, na, sa⟩ ⟨ka, bb, nb, sb⟩ = 0 by simp [cmpS, h2, h3, h4])
          have g2 : (ka == 2) = false := by simpa using h2
          have g3 : (ka == 3) = false := by simpa using h3
          have g4 : (ka == 4) = false := by simpa using h4
          clear h2 h3 h4
          go_enter Tryz.func47, Tryz.ntmps47
          go_wp2
          go_ret
          exact ⟨ret_int hr.out.symm, ⟨by go_grown, by simp⟩⟩
  · have hr := Lib.hid (show cmpS ⟨ka, ba, na, sa⟩ ⟨kb, bb, nb, sb⟩ = cmp3 ka kb by simp [cmpS, h])
    have g : (ka != kb) = true := by simpa using h
    clear h
    go_enter Tryz.func47, Tryz.ntmps47
    go_wp2_with fail
    refine (cmpKind_any ka kb _).mono ?_
    rintro e w1 ⟨rfl, rfl⟩
    go_wp2
    go_ret
    exact ⟨ret_int hr.out.symm, ⟨by go_grown, by simp⟩⟩
/-- What the rounds hold. -/
def RelCD (l m : List Dat) (w0 : World) (i : Value) (wr : World) : Prop :=
  ∃ p : Nat, i = .int .i64 (p : Int) ∧ p ≤ l.length ∧ p ≤ m.length ∧ cmpR l m = cmpR (l.drop p) (m.drop p) ∧ Rose w0.heap.size w0 wr
set_option maxHeartbeats 8000000 in
set_option maxRecDepth 1000000 in
theorem rowCmpD_any (va vb : Value) (l m : List Dat) (w : World) (ha : RowV w va l) (hb : RowV w vb m) :
    Calls Tryz.prog 27 #[va, vb] w fun e w' => e = .returned (.int .i64 (cmpR l m)) ∧ Rose w.heap.size w w' := by
  obtain ⟨A, ca, rfl, hla⟩ := ha.form
  obtain ⟨B, cb, rfl, hlb⟩ := hb.form
  have haH := Lib.hid ha; have hbH := Lib.hid hb
  clear ha hb
  obtain ⟨r, hr⟩ : ∃ r, cmpR l m = r := ⟨_, rfl⟩
  rw [hr]
  have hrH := Lib.hid hr
  clear hr
  obtain ⟨n, hn⟩ : ∃ n, min l.length m.length = n := ⟨_, rfl⟩
  have hmi : min (l.length : Int) (m.length : Int) = (n : Int) := by omega
  have hnl : n ≤ l.length := by omega
  have hnm : n ≤ m.length := by omega
  have hnH := Lib.hid (show l.length = n ∨ m.length = n by omega)
  clear hn
  go_enter Tryz.func27, Tryz.ntmps27
  go_wp2_with fail
  go_loopw [12] (fun i wr => RelCD l m w i wr) (fun i _ => n - (Go.RowKit.intOf i).toNat)
  case atStart => exact ⟨0, rfl, Nat.zero_le _, Nat.zero_le _, rfl, Rose.refl _ _⟩
  case round =>
    unfold RelCD at hrel
    obtain ⟨p, rfl, hpl, hpm, hcmp, hbw⟩ := hrel
    have hcH := Lib.hid hcmp; have hbwH := Lib.hid hbw
    have hsz := hbw.size
    clear hcmp hbw
    by_cases hp : p < n
    · have h1 : p < l.length := by omega
      have h2 : p < m.length := by omega
      obtain ⟨x, hx⟩ : ∃ x, l[p] = x := ⟨_, rfl⟩
      obtain ⟨y, hy⟩ : ∃ y, m[p] = y := ⟨_, rfl⟩
      obtain ⟨ad, rfl, hba, a0_, a1_, a2_, a3_⟩ := (haH.out.below hbwH.out.toBelow).at h1
      obtain ⟨bd, rfl, hbb, b0_, b1_, b2_, b3_⟩ := (hbH.out.below hbwH.out.toBelow).at h2
      have hstep := cmpR_at h1 h2
      rw [hx] at a0_ a1_ a2_ a3_ hstep
      rw [hy] at b0_ b1_ b2_ b3_ hstep
      obtain ⟨k0, b0, n0, s0⟩ := x
      obtain ⟨k1, b1, n1, s1⟩ := y
      simp only at a0_ a1_ a2_ a3_ b0_ b1_ b2_ b3_
      obtain ⟨c, hc⟩ : ∃ c, cmpS ⟨k0, b0, n0, s0⟩ ⟨k1, b1, n1, s1⟩ = c := ⟨_, rfl⟩
      rw [hc] at hstep
      have hcS := Lib.hid hc
      have hstH := Lib.hid hstep
      clear hc hstep hx hy
      by_cases c0 : c = 0
      · have g : (c != 0) = false := by simp [c0]
        go_wp2_with fail
        refine wp_region_noPanic ?_
        refine wp_region_held_drew (S := (fun w' => w'.cell? (ad.add (p * 4)) = some (.int .u8 k0) ∧ w'.cell? ⟨(ad.add (p * 4)).block, (ad.add (p * 4)).off + 1, none⟩ = some (.bool b0) ∧ w'.cell? ⟨(ad.add (p * 4)).block, (ad.add (p * 4)).off + 2, none⟩ = some (.int .i64 n0) ∧ w'.cell? ⟨(ad.add (p * 4)).block, (ad.add (p * 4)).off + 3, none⟩ = some (.string s0) ∧ w'.cell? (bd.add (p * 4)) = some (.int .u8 k1) ∧ w'.cell? ⟨(bd.add (p * 4)).block, (bd.add (p * 4)).off + 1, none⟩ = some (.bool b1) ∧ w'.cell? ⟨(bd.add (p * 4)).block, (bd.add (p * 4)).off + 2, none⟩ = some (.int .i64 n1) ∧ w'.cell? ⟨(bd.add (p * 4)).block, (bd.add (p * 4)).off + 3, none⟩ = some (.string s1))) (by kernel_rfl) ⟨a0_, a1_, a2_, a3_, b0_, b1_, b2_, b3_⟩ (fun hHeld => ?_)
        refine' wpAnyH_take (i := 0) (v := .slice (some ad) l.length ca) ?hi0x1 ?hs0x1 ?hf0x1 ?hr0x1 ?hQ0x1 ?hy0x1 ?hS0x1 ?rest0x1
        case hi0x1 => (simp only [List.getElem?_toArray, List.getElem?_cons_succ, List.getElem?_cons_zero]; try rfl)
        case hs0x1 => kernel_rfl
        case hf0x1 => kernel_rfl
        case hr0x1 => kernel_rfl
        case hQ0x1 => exact fun _ _ _ h => h
        case hy0x1 => exact Or.inl ⟨by rfl, by (intro w hSw; (try dsimp only at hSw); go_simp)⟩
        case hS0x1 => assumption
        (try simp only [Act.put, List.setIfInBounds_toArray, List.set_cons_zero, List.set_cons_succ])
        refine' wpAnyH_take (i := 1) (v := .int .i64 (p : Int)) ?hi1x2 ?hs1x2 ?hf1x2 ?hr1x2 ?hQ1x2 ?hy1x2 ?hS1x2 ?rest1x2
        case hi1x2 => (simp only [List.getElem?_toArray, List.getElem?_cons_succ, List.getElem?_cons_zero]; try rfl)
        case hs1x2 => kernel_rfl
        case hf1x2 => kernel_rfl
        case hr1x2 => kernel_rfl
        case hQ1x2 => exact fun _ _ _ h => h
        case hy1x2 => exact Or.inl ⟨by rfl, by (intro w hSw; (try dsimp only at hSw); go_simp)⟩
        case hS1x2 => assumption
        (try simp only [Act.put, List.setIfInBounds_toArray, List.set_cons_zero, List.set_cons_succ])
        refine' wpAnyH_take (i := 2) (v := .pointer (some (ad.add (p * 4)))) ?hi2x3 ?hs2x3 ?hf2x3 ?hr2x3 ?hQ2x3 ?hy2x3 ?hS2x3 ?rest2x3
        case hi2x3 => (simp only [List.getElem?_toArray, List.getElem?_cons_succ, List.getElem?_cons_zero]; try rfl)
        case hs2x3 => kernel_rfl
        case hf2x3 => kernel_rfl
        case hr2x3 => kernel_rfl
        case hQ2x3 => exact fun _ _ _ h => h
        case hy2x3 => exact Or.inl ⟨by rfl, by (intro w hSw; (try dsimp only at hSw); go_simp)⟩
        case hS2x3 => assumption
        (try simp only [Act.put, List.setIfInBounds_toArray, List.set_cons_zero, List.set_cons_succ])
        refine' wpAnyH_take (i := 3) (v := .agg #[.int .u8 k0, .bool b0, .int .i64 n0, .string s0]) ?hi3x4 ?hs3x4 ?hf3x4 ?hr3x4 ?hQ3x4 ?hy3x4 ?hS3x4 ?rest3x4
        case hi3x4 => (simp only [List.getElem?_toArray, List.getElem?_cons_succ, List.getElem?_cons_zero]; try rfl)
        case hs3x4 => kernel_rfl
        case hf3x4 => kernel_rfl
        case hr3x4 => kernel_rfl
        case hQ3x4 => exact fun _ _ _ h => h
        case hy3x4 => exact Or.inl ⟨by rfl, by (intro w hSw; (try dsimp only at hSw); go_simp)⟩
        case hS3x4 => assumption
        (try simp only [Act.put, List.setIfInBounds_toArray, List.set_cons_zero, List.set_cons_succ])
        refine' wpAnyH_take (i := 4) (v := .slice (some bd) m.length cb) ?hi4x5 ?hs4x5 ?hf4x5 ?hr4x5 ?hQ4x5 ?hy4x5 ?hS4x5 ?rest4x5
        case hi4x5 => (simp only [List.getElem?_toArray, List.getElem?_cons_succ, List.getElem?_cons_zero]; try rfl)
        case hs4x5 => kernel_rfl
        case hf4x5 => kernel_rfl
        case hr4x5 => kernel_rfl
        case hQ4x5 => exact fun _ _ _ h => h
        case hy4x5 => exact Or.inl ⟨by rfl, by (intro w hSw; (try dsimp only at hSw); go_simp)⟩
        case hS4x5 => assumption
        (try simp only [Act.put, List.setIfInBounds_toArray, List.set_cons_zero, List.set_cons_succ])
        refine' wpAnyH_take (i := 5) (v := .int .i64 (p : Int)) ?hi5x6 ?hs5x6 ?hf5x6 ?hr5x6 ?hQ5x6 ?hy5x6 ?hS5x6 ?rest5x6
        case hi5x6 => (simp only [List.getElem?_toArray, List.getElem?_cons_succ, List.getElem?_cons_zero]; try rfl)
        case hs5x6 => kernel_rfl
        case hf5x6 => kernel_rfl
        case hr5x6 => kernel_rfl
        case hQ5x6 => exact fun _ _ _ h => h
        case hy5x6 => exact Or.inl ⟨by rfl, by (intro w hSw; (try dsimp only at hSw); go_simp)⟩
        case hS5x6 => assumption
        (try simp only [Act.put, List.setIfInBounds_toArray, List.set_cons_zero, List.set_cons_succ])
        refine' wpAnyH_take (i := 6) (v := .pointer (some (bd.add (p * 4)))) ?hi6x7 ?hs6x7 ?hf6x7 ?hr6x7 ?hQ6x7 ?hy6x7 ?hS6x7 ?rest6x7
        case hi6x7 => (simp only [List.getElem?_toArray, List.getElem?_cons_succ, List.getElem?_cons_zero]; try rfl)
        case hs6x7 => kernel_rfl
        case hf6x7 => kernel_rfl
        case hr6x7 => kernel_rfl
        case hQ6x7 => exact fun _ _ _ h => h
        case hy6x7 => exact Or.inl ⟨by rfl, by (intro w hSw; (try dsimp only at hSw); go_simp)⟩
        case hS6x7 => assumption
        (try simp only [Act.put, List.setIfInBounds_toArray, List.set_cons_zero, List.set_cons_succ])
        refine' wpAnyH_take (i := 7) (v := .agg #[.int .u8 k1, .bool b1, .int .i64 n1, .string s1]) ?hi7x8 ?hs7x8 ?hf7x8 ?hr7x8 ?hQ7x8 ?hy7x8 ?hS7x8 ?rest7x8
        case hi7x8 => (simp only [List.getElem?_toArray, List.getElem?_cons_succ, List.getElem?_cons_zero]; try rfl)
        case hs7x8 => kernel_rfl
        case hf7x8 => kernel_rfl
        case hr7x8 => kernel_rfl
        case hQ7x8 => exact fun _ _ _ h => h
        case hy7x8 => exact Or.inl ⟨by rfl, by (intro w hSw; (try dsimp only at hSw); go_simp)⟩
        case hS7x8 => assumption
        (try simp only [Act.put, List.setIfInBounds_toArray, List.set_cons_zero, List.set_cons_succ])
        refine wpAnyH_ready (rs := [8]) (by kernel_rfl) (by simp) ?_
        refine' AllReadyH.cons (i := 8) ?ho8x9 (fun K hK => ?st8x9) AllReadyH.nil
        case ho8x9 => (simp only [List.getElem?_toArray, List.getElem?_cons_succ, List.getElem?_cons_zero]; try rfl)
        go_simp
        refine (cmpD_any k0 b0 n0 s0 k1 b1 n1 s1 _).mono ?_
        rw [hcS.out]
        rintro e w' ⟨rfl, hb'⟩
        refine hK.out _ _ ?_ (fun hHeld => ?_)
        · exact ⟨(hb'.cell (p := (ad.add (p * 4))) hba).trans a0_, (hb'.cell (p := ⟨(ad.add (p * 4)).block, (ad.add (p * 4)).off + 1, none⟩) hba).trans a1_, (hb'.cell (p := ⟨(ad.add (p * 4)).block, (ad.add (p * 4)).off + 2, none⟩) hba).trans a2_, (hb'.cell (p := ⟨(ad.add (p * 4)).block, (ad.add (p * 4)).off + 3, none⟩) hba).trans a3_, (hb'.cell (p := (bd.add (p * 4))) hbb).trans b0_, (hb'.cell (p := ⟨(bd.add (p * 4)).block, (bd.add (p * 4)).off + 1, none⟩) hbb).trans b1_, (hb'.cell (p := ⟨(bd.add (p * 4)).block, (bd.add (p * 4)).off + 2, none⟩) hbb).trans b2_, (hb'.cell (p := ⟨(bd.add (p * 4)).block, (bd.add (p * 4)).off + 3, none⟩) hbb).trans b3_⟩
        clear hK K
        (try simp only [Act.put, List.setIfInBounds_toArray, List.set_cons_zero, List.set_cons_succ])
        refine' wpAnyH_take (i := 9) (v := .int .i64 c) ?hi9x10 ?hs9x10 ?hf9x10 ?hr9x10 ?hQ9x10 ?hy9x10 ?hS9x10 ?rest9x10
        case hi9x10 => (simp only [List.getElem?_toArray, List.getElem?_cons_succ, List.getElem?_cons_zero]; try rfl)
        case hs9x10 => kernel_rfl
        case hf9x10 => kernel_rfl
        case hr9x10 => kernel_rfl
        case hQ9x10 => exact fun _ _ _ h => h
        case hy9x10 => exact Or.inl ⟨by rfl, by (intro w hSw; (try dsimp only at hSw); go_simp)⟩
        case hS9x10 => assumption
        (try simp only [Act.put, List.setIfInBounds_toArray, List.set_cons_zero, List.set_cons_succ])
        refine wpAnyH_done (by kernel_rfl) ?_ _
        refine NoPanic.normal ?_
        trace_state
        go_wp2_with fail
        go_roundw
        case rel => exact ⟨p + 1, by go_num, by omega, by omega, by rw [hcH.out, hstH.out, if_pos c0], hbwH.out.drew.trans (hb'.mono hsz)⟩
        case measure => simp [Go.RowKit.intOf]; omega
      · have g : (c != 0) = true := by simpa using c0
        go_wp2_with fail
        refine wp_region_noPanic ?_
        refine wp_region_held_drew (S := (fun w' => w'.cell? (ad.add (p * 4)) = some (.int .u8 k0) ∧ w'.cell? ⟨(ad.add (p * 4)).block, (ad.add (p * 4)).off + 1, none⟩ = some (.bool b0) ∧ w'.cell? ⟨(ad.add (p * 4)).block, (ad.add (p * 4)).off + 2, none⟩ = some (.int .i64 n0) ∧ w'.cell? ⟨(ad.add (p * 4)).block, (ad.add (p * 4)).off + 3, none⟩ = some (.string s0) ∧ w'.cell? (bd.add (p * 4)) = some (.int .u8 k1) ∧ w'.cell? ⟨(bd.add (p * 4)).block, (bd.add (p * 4)).off + 1, none⟩ = some (.bool b1) ∧ w'.cell? ⟨(bd.add (p * 4)).block, (bd.add (p * 4)).off + 2, none⟩ = some (.int .i64 n1) ∧ w'.cell? ⟨(bd.add (p * 4)).block, (bd.add (p * 4)).off + 3, none⟩ = some (.string s1))) (by kernel_rfl) ⟨a0_, a1_, a2_, a3_, b0_, b1_, b2_, b3_⟩ (fun hHeld => ?_)
        refine' wpAnyH_take (i := 0) (v := .slice (some ad) l.length ca) ?hi0x11 ?hs0x11 ?hf0x11 ?hr0x11 ?hQ0x11 ?hy0x11 ?hS0x11 ?rest0x11
        case hi0x11 => (simp only [List.getElem?_toArray, List.getElem?_cons_succ, List.getElem?_cons_zero]; try rfl)
        case hs0x11 => kernel_rfl
        case hf0x11 => kernel_rfl
        case hr0x11 => kernel_rfl
        case hQ0x11 => exact fun _ _ _ h => h
        case hy0x11 => exact Or.inl ⟨by rfl, by (intro w hSw; (try dsimp only at hSw); go_simp)⟩
        case hS0x11 => assumption
        (try simp only [Act.put, List.setIfInBounds_toArray, List.set_cons_zero, List.set_cons_succ])
        refine' wpAnyH_take (i := 1) (v := .int .i64 (p : Int)) ?hi1x12 ?hs1x12 ?hf1x12 ?hr1x12 ?hQ1x12 ?hy1x12 ?hS1x12 ?rest1x12
        case hi1x12 => (simp only [List.getElem?_toArray, List.getElem?_cons_succ, List.getElem?_cons_zero]; try rfl)
        case hs1x12 => kernel_rfl
        case hf1x12 => kernel_rfl
        case hr1x12 => kernel_rfl
        case hQ1x12 => exact fun _ _ _ h => h
        case hy1x12 => exact Or.inl ⟨by rfl, by (intro w hSw; (try dsimp only at hSw); go_simp)⟩
        case hS1x12 => assumption
        (try simp only [Act.put, List.setIfInBounds_toArray, List.set_cons_zero, List.set_cons_succ])
        refine' wpAnyH_take (i := 2) (v := .pointer (some (ad.add (p * 4)))) ?hi2x13 ?hs2x13 ?hf2x13 ?hr2x13 ?hQ2x13 ?hy2x13 ?hS2x13 ?rest2x13
        case hi2x13 => (simp only [List.getElem?_toArray, List.getElem?_cons_succ, List.getElem?_cons_zero]; try rfl)
        case hs2x13 => kernel_rfl
        case hf2x13 => kernel_rfl
        case hr2x13 => kernel_rfl
        case hQ2x13 => exact fun _ _ _ h => h
        case hy2x13 => exact Or.inl ⟨by rfl, by (intro w hSw; (try dsimp only at hSw); go_simp)⟩
        case hS2x13 => assumption
        (try simp only [Act.put, List.setIfInBounds_toArray, List.set_cons_zero, List.set_cons_succ])
        refine' wpAnyH_take (i := 3) (v := .agg #[.int .u8 k0, .bool b0, .int .i64 n0, .string s0]) ?hi3x14 ?hs3x14 ?hf3x14 ?hr3x14 ?hQ3x14 ?hy3x14 ?hS3x14 ?rest3x14
        case hi3x14 => (simp only [List.getElem?_toArray, List.getElem?_cons_succ, List.getElem?_cons_zero]; try rfl)
        case hs3x14 => kernel_rfl
        case hf3x14 => kernel_rfl
        case hr3x14 => kernel_rfl
        case hQ3x14 => exact fun _ _ _ h => h
        case hy3x14 => exact Or.inl ⟨by rfl, by (intro w hSw; (try dsimp only at hSw); go_simp)⟩
        case hS3x14 => assumption
        (try simp only [Act.put, List.setIfInBounds_toArray, List.set_cons_zero, List.set_cons_succ])
        refine' wpAnyH_take (i := 4) (v := .slice (some bd) m.length cb) ?hi4x15 ?hs4x15 ?hf4x15 ?hr4x15 ?hQ4x15 ?hy4x15 ?hS4x15 ?rest4x15
        case hi4x15 => (simp only [List.getElem?_toArray, List.getElem?_cons_succ, List.getElem?_cons_zero]; try rfl)
        case hs4x15 => kernel_rfl
        case hf4x15 => kernel_rfl
        case hr4x15 => kernel_rfl
        case hQ4x15 => exact fun _ _ _ h => h
        case hy4x15 => exact Or.inl ⟨by rfl, by (intro w hSw; (try dsimp only at hSw); go_simp)⟩
        case hS4x15 => assumption
        (try simp only [Act.put, List.setIfInBounds_toArray, List.set_cons_zero, List.set_cons_succ])
        refine' wpAnyH_take (i := 5) (v := .int .i64 (p : Int)) ?hi5x16 ?hs5x16 ?hf5x16 ?hr5x16 ?hQ5x16 ?hy5x16 ?hS5x16 ?rest5x16
        case hi5x16 => (simp only [List.getElem?_toArray, List.getElem?_cons_succ, List.getElem?_cons_zero]; try rfl)
        case hs5x16 => kernel_rfl
        case hf5x16 => kernel_rfl
        case hr5x16 => kernel_rfl
        case hQ5x16 => exact fun _ _ _ h => h
        case hy5x16 => exact Or.inl ⟨by rfl, by (intro w hSw; (try dsimp only at hSw); go_simp)⟩
        case hS5x16 => assumption
        (try simp only [Act.put, List.setIfInBounds_toArray, List.set_cons_zero, List.set_cons_succ])
        refine' wpAnyH_take (i := 6) (v := .pointer (some (bd.add (p * 4)))) ?hi6x17 ?hs6x17 ?hf6x17 ?hr6x17 ?hQ6x17 ?hy6x17 ?hS6x17 ?rest6x17
        case hi6x17 => (simp only [List.getElem?_toArray, List.getElem?_cons_succ, List.getElem?_cons_zero]; try rfl)
        case hs6x17 => kernel_rfl
        case hf6x17 => kernel_rfl
        case hr6x17 => kernel_rfl
        case hQ6x17 => exact fun _ _ _ h => h
        case hy6x17 => exact Or.inl ⟨by rfl, by (intro w hSw; (try dsimp only at hSw); go_simp)⟩
        case hS6x17 => assumption
        (try simp only [Act.put, List.setIfInBounds_toArray, List.set_cons_zero, List.set_cons_succ])
        refine' wpAnyH_take (i := 7) (v := .agg #[.int .u8 k1, .bool b1, .int .i64 n1, .string s1]) ?hi7x18 ?hs7x18 ?hf7x18 ?hr7x18 ?hQ7x18 ?hy7x18 ?hS7x18 ?rest7x18
        case hi7x18 => (simp only [List.getElem?_toArray, List.getElem?_cons_succ, List.getElem?_cons_zero]; try rfl)
        case hs7x18 => kernel_rfl
        case hf7x18 => kernel_rfl
        case hr7x18 => kernel_rfl
        case hQ7x18 => exact fun _ _ _ h => h
        case hy7x18 => exact Or.inl ⟨by rfl, by (intro w hSw; (try dsimp only at hSw); go_simp)⟩
        case hS7x18 => assumption
        (try simp only [Act.put, List.setIfInBounds_toArray, List.set_cons_zero, List.set_cons_succ])
        refine wpAnyH_ready (rs := [8]) (by kernel_rfl) (by simp) ?_
        refine' AllReadyH.cons (i := 8) ?ho8x19 (fun K hK => ?st8x19) AllReadyH.nil
        case ho8x19 => (simp only [List.getElem?_toArray, List.getElem?_cons_succ, List.getElem?_cons_zero]; try rfl)
        go_simp
        refine (cmpD_any k0 b0 n0 s0 k1 b1 n1 s1 _).mono ?_
        rw [hcS.out]
        rintro e w' ⟨rfl, hb'⟩
        refine hK.out _ _ ?_ (fun hHeld => ?_)
        · exact ⟨(hb'.cell (p := (ad.add (p * 4))) hba).trans a0_, (hb'.cell (p := ⟨(ad.add (p * 4)).block, (ad.add (p * 4)).off + 1, none⟩) hba).trans a1_, (hb'.cell (p := ⟨(ad.add (p * 4)).block, (ad.add (p * 4)).off + 2, none⟩) hba).trans a2_, (hb'.cell (p := ⟨(ad.add (p * 4)).block, (ad.add (p * 4)).off + 3, none⟩) hba).trans a3_, (hb'.cell (p := (bd.add (p * 4))) hbb).trans b0_, (hb'.cell (p := ⟨(bd.add (p * 4)).block, (bd.add (p * 4)).off + 1, none⟩) hbb).trans b1_, (hb'.cell (p := ⟨(bd.add (p * 4)).block, (bd.add (p * 4)).off + 2, none⟩) hbb).trans b2_, (hb'.cell (p := ⟨(bd.add (p * 4)).block, (bd.add (p * 4)).off + 3, none⟩) hbb).trans b3_⟩
        clear hK K
        (try simp only [Act.put, List.setIfInBounds_toArray, List.set_cons_zero, List.set_cons_succ])
        refine' wpAnyH_take (i := 9) (v := .int .i64 c) ?hi9x20 ?hs9x20 ?hf9x20 ?hr9x20 ?hQ9x20 ?hy9x20 ?hS9x20 ?rest9x20
        case hi9x20 => (simp only [List.getElem?_toArray, List.getElem?_cons_succ, List.getElem?_cons_zero]; try rfl)
        case hs9x20 => kernel_rfl
        case hf9x20 => kernel_rfl
        case hr9x20 => kernel_rfl
        case hQ9x20 => exact fun _ _ _ h => h
        case hy9x20 => exact Or.inl ⟨by rfl, by (intro w hSw; (try dsimp only at hSw); go_simp)⟩
        case hS9x20 => assumption
        (try simp only [Act.put, List.setIfInBounds_toArray, List.set_cons_zero, List.set_cons_succ])
        refine wpAnyH_done (by kernel_rfl) ?_ _
        refine NoPanic.normal ?_
        go_wp2_with fail
        go_ret
        exact ⟨ret_int (by rw [← hrH.out, hcH.out, hstH.out, if_neg c0]), hbwH.out.drew.trans (hb'.mono hsz)⟩
    · obtain ⟨z, hz⟩ : ∃ z, cmp3 (l.length : Int) (m.length : Int) = z := ⟨_, rfl⟩
      have hzr := Lib.hid (show z = r by rw [← hz, ← hrH.out, hcH.out]; exact (cmpR_end (by have := hnH.out; omega) hpl hpm).symm)
      have hzH := Lib.hid hz
      clear hz
      go_wp2_with (go_at_call 48; go_must (refine (cmpLen_any _ _ _).mono ?_; rw [hzH.out]; rintro e w' ⟨rfl, rfl⟩))
      go_ret
      exact ⟨ret_int hzr.out, hbwH.out⟩

end Go.Proofs.YtpmfbmigdpmloaaGreatDoor
end
section
/-
  The two function values of row.Sum, at this program: whether a count is 0; the order of the rows of two counted ones. No condition.
-/
set_option linter.unusedVariables false
set_option linter.unusedSimpArgs false
namespace Go.Proofs.YtpmfbmigdpmloaaGreatDoor
open Go.RowKit Go.Lib

set_option maxHeartbeats 2000000 in
theorem sumZero_any (A : Option Addr) (k c : Nat) (n : Int) (w : World) :
    Calls Tryz.prog 64 #[.agg #[.slice A k c, .int .i64 n]] w fun e w' => e = .returned (.bool (n == 0)) ∧ Below w.heap.size w w' := by
  go_enter Tryz.func64, Tryz.ntmps64
  go_wp2
  go_ret
  exact ⟨rfl, by go_grown⟩
set_option maxHeartbeats 2000000 in
theorem sumCmp_any (A : Option Addr) (k c : Nat) (n : Int) (B : Option Addr) (k' c' : Nat) (n' : Int) (l m : List Dat) (w : World) (ha : RowV w (.slice A k c) l) (hb : RowV w (.slice B k' c') m) :
    Calls Tryz.prog 66 #[.agg #[.slice A k c, .int .i64 n], .agg #[.slice B k' c', .int .i64 n']] w fun e w' => e = .returned (.int .i64 (cmpR l m)) ∧ Rose w.heap.size w w' := by
  have haH := Lib.hid ha; have hbH := Lib.hid hb
  clear ha hb
  obtain ⟨r, hr⟩ : ∃ r, cmpR l m = r := ⟨_, rfl⟩
  rw [hr]
  have hrH := Lib.hid hr
  clear hr
  go_enter Tryz.func66, Tryz.ntmps66
  go_wp2_with fail
  refine (rowCmpD_any _ _ l m _ (haH.out.below (by go_grown)) (hbH.out.below (by go_grown))).mono ?_
  rw [hrH.out]
  rintro e w' ⟨rfl, hb'⟩
  go_wp2
  go_ret
  exact ⟨rfl, (((Rose.refl _ _).alloc (Nat.le_refl _) _).alloc (by simp) _).trans (hb'.mono (by simp; omega))⟩
end Go.Proofs.YtpmfbmigdpmloaaGreatDoor
end
section
/-
  The library's DeleteFunc at counted rows, at this program: those of count 0 go, in place. Conditions: those written.
-/
set_option linter.unusedVariables false
set_option linter.unusedSimpArgs false
namespace Go.Proofs.YtpmfbmigdpmloaaGreatDoor
open Go.RowKit Go.Lib Go.Proofs Go.Shelf

/-- What the rounds hold: of the first j ones those that are kept lie in front; from j on nothing has turned. -/
def RelD (g cap : Nat) (xs : List Cv) (w0 : World) (s5 s6 : Value) (wr : World) : Prop :=
  ∃ (i j : Nat) (ys : List Cv), s5 = .int .i64 (i : Int) ∧ s6 = .int .i64 (j : Int) ∧ i < j ∧ j ≤ xs.length ∧ ys.length = xs.length ∧ ys.take i = (xs.take j).filter keepV ∧ (∀ t, j ≤ t → ys[t]? = xs[t]?) ∧ OwnC g cap ys wr ∧ w0.grownBy wr (some g)
theorem idx_split : ∀ (xs : List Cv) (i : Nat), (Lib.idxByFrom (fun _ y => !keepV y) default xs i = -1 ∧ xs.filter keepV = xs) ∨
    ∃ k, k < xs.length ∧ Lib.idxByFrom (fun _ y => !keepV y) default xs i = ((i + k : Nat) : Int) ∧ (xs.take (k + 1)).filter keepV = xs.take k
  | [], _ => .inl ⟨rfl, rfl⟩
  | x :: r, i => by
    cases hx : keepV x with
    | false => exact .inr ⟨0, by simp, by simp [Lib.idxByFrom, hx], by simp [hx]⟩
    | true =>
      rcases idx_split r (i + 1) with ⟨h1, h2⟩ | ⟨k, h1, h2, h3⟩
      · refine .inl ⟨by simp only [Lib.idxByFrom, hx]; simpa using h1, by simp [hx, h2]⟩
      · refine .inr ⟨k + 1, by simpa using h1, ?_, by simp [hx, h3]⟩
        simp only [Lib.idxByFrom, hx]
        rw [show i + (k + 1) = i + 1 + k by omega]
        simpa using h2
theorem idxBy_none {xs : List Cv} (h : Lib.idxBy (fun _ y => !keepV y) xs default = -1) : xs.filter keepV = xs := by
  rcases idx_split xs 0 with ⟨_, h2⟩ | ⟨k, _, h2, _⟩
  · exact h2
  · unfold Lib.idxBy at h
    rw [h] at h2
    omega
theorem idxBy_some {xs : List Cv} {k : Int} (h : Lib.idxBy (fun _ y => !keepV y) xs default = k) (hk : k ≠ -1) : ∃ i : Nat, k = (i : Int) ∧ i < xs.length ∧ (xs.take (i + 1)).filter keepV = xs.take i := by
  unfold Lib.idxBy at h
  rcases idx_split xs 0 with ⟨h2, _⟩ | ⟨i, h1, h2, h3⟩
  · rw [h] at h2
    exact absurd h2 hk
  · rw [h] at h2
    exact ⟨i, by rw [h2, Nat.zero_add], h1, h3⟩
theorem rel_skip {xs ys : List Cv} {i j : Nat} {x : Cv} (h : ys.take i = (xs.take j).filter keepV) (hx : xs[j]? = some x) (hk : keepV x = false) : ys.take i = (xs.take (j + 1)).filter keepV := by
  obtain ⟨hj, rfl⟩ := List.getElem?_eq_some_iff.1 hx
  rw [List.take_succ_eq_append_getElem hj, List.filter_append, ← h]
  simp [hk]
theorem rel_keep {xs ys : List Cv} {i j : Nat} {x : Cv} (hi : i < ys.length) (h : ys.take i = (xs.take j).filter keepV) (hx : xs[j]? = some x) (hk : keepV x = true) : (ys.set i x).take (i + 1) = (xs.take (j + 1)).filter keepV := by
  obtain ⟨hj, rfl⟩ := List.getElem?_eq_some_iff.1 hx
  rw [List.take_succ_eq_append_getElem hj, List.filter_append, ← h, List.take_succ_eq_append_getElem (by simpa using hi)]
  rw [List.take_set, List.set_eq_of_length_le (by rw [List.length_take]; omega)]
  simp [hk]
set_option maxHeartbeats 4000000 in
set_option maxRecDepth 1000000 in
theorem deleteC_any (g cap : Nat) (xs : List Cv) (w : World) (h : OwnC g cap xs w) (hn : xs.length ≤ 1099511627776) :
    Calls Tryz.prog 63 #[.slice (some ⟨g, 0, none⟩) xs.length cap, .func (.func 64) #[] #[]] w fun e w' =>
      e = .returned (.slice (some ⟨g, 0, none⟩) (xs.filter keepV).length cap) ∧ OwnC g cap (xs.filter keepV) w' ∧ w.grownBy w' (some g) := by
  have eg : ∀ args w, (callFunc 64 args).run Tryz.prog w = .ok (.enter 64 args) w := enters_of Tryz.func64 (by kernel_rfl) rfl
  have hI := AnyQ.slices_IndexFunc Tryz.idxC 2 (fun _ => by kernel_rfl) (fun _ => by kernel_rfl) cellsV cellsV_len (fun y => !keepV y) 64 #[] eg g 0 xs.length cap xs w
    (fun W x hb => (sumZero_any x.A x.k x.c x.n W).mono fun e w' ⟨he, hb'⟩ => ⟨by rw [he]; simp [keepV], hb.trans (hb'.mono hb.size)⟩) (Nat.le_refl _) (by omega) h.lt
    (fun j hj i v hv => by
      have := OwnL.cell h (i := j) (j := i) (x := cellsV xs[j]!) (v := v) (by rw [List.getElem?_map, List.getElem?_eq_getElem hj, getElem!_pos xs j hj]; rfl) hv
      simpa [Nat.zero_add] using this)
  rw [List.take_length] at hI
  change Calls Tryz.prog 93 _ _ _ at hI
  obtain ⟨q, hq⟩ : ∃ q, Lib.idxBy (fun _ y => !keepV y) xs default = q := ⟨_, rfl⟩
  rw [hq] at hI
  have hIH := Lib.hid hI; have hqH := Lib.hid hq; have hH := Lib.hid h
  have hcap := Lib.hid h.len
  clear hI hq h
  by_cases h0 : q = -1
  · subst h0
    have e1 := Lib.hid (idxBy_none hqH.out)
    go_enter Tryz.func63, Tryz.ntmps63
    go_wp2_with fail
    refine hIH.out.mono ?_
    rintro e w1 ⟨rfl, hb⟩
    go_wp2_with fail
    go_ret
    rw [e1.out]
    exact ⟨rfl, OwnL.below hH.out hb, grown_below hb _⟩
  · obtain ⟨i0, rfl, hi0, hf0⟩ := idxBy_some hqH.out h0
    have hf0H := Lib.hid hf0
    have hne : ((i0 : Int) == -1) = false := beq_eq_false_iff_ne.2 (by omega)
    clear hf0 h0
    go_enter Tryz.func63, Tryz.ntmps63
    go_wp2_with fail
    refine hIH.out.mono ?_
    rintro e w1 ⟨rfl, hb⟩
    have hbH := Lib.hid hb
    clear hb
    go_wp2_with fail
    go_loopw [5, 6, 7] (fun s5 s6 s7 wr => RelD g cap xs w s5 s6 wr) (fun _ s6 _ _ => xs.length - (Go.RowKit.intOf s6).toNat)
    case atStart => exact ⟨i0, i0 + 1, xs, rfl, by go_num, by omega, hi0, rfl, hf0H.out.symm, fun _ _ => rfl, OwnL.below hH.out hbH.out, grown_below hbH.out _⟩
    case round =>
      unfold RelD at hrel
      obtain ⟨i, j, ys, rfl, rfl, hij, hj, hys, htk, hdr, hown, hgr⟩ := hrel
      have hownH := Lib.hid hown; have hgrH := Lib.hid hgr; have htkH := Lib.hid htk; have hdrH := Lib.hid hdr; have hysH := Lib.hid hys
      clear hown hgr htk hdr hys
      by_cases hlt : j < xs.length
      · obtain ⟨x, hx⟩ : ∃ x, xs[j]? = some x := ⟨_, List.getElem?_eq_getElem hlt⟩
        have hyj := (hdrH.out j (Nat.le_refl _)).trans hx
        obtain ⟨c0, c1⟩ := hownH.out.cells hyj
        have hxH := Lib.hid hx
        obtain ⟨xA, xk, xc, xn⟩ := x
        simp only at c0 c1
        clear hx hyj
        have hgl := hownH.out.lt
        have hi : i < ys.length := by have := hysH.out; omega
        obtain ⟨y, hy⟩ : ∃ y, ys[i]? = some y := ⟨_, List.getElem?_eq_getElem hi⟩
        have hyH := Lib.hid hy
        clear hy
        go_wp2_with fail
        refine (sumZero_any xA xk xc xn _).mono ?_
        rintro e w2 ⟨rfl, hb2⟩
        have v0 := (hb2.cell (p := ⟨wr.heap.size, 0, none⟩) (by simp)).trans (cell_new wr #[.slice xA xk xc, .int .i64 xn] _ 0)
        have v1 := (hb2.cell (p := ⟨wr.heap.size, 1, none⟩) (by simp)).trans (cell_new wr #[.slice xA xk xc, .int .i64 xn] _ 1)
        have hown2 := Lib.hid (OwnL.below (OwnL.alloc hownH.out (.cells #[.slice xA xk xc, .int .i64 xn] 74)) hb2)
        have hgr2 := Lib.hid (grown_trans hgrH.out (grown_trans (World.grownBy_alloc wr _ _) (grown_below hb2 _)))
        obtain ⟨i0, i1⟩ := OwnC.cells (xs := ys) hown2.out hyH.out
        have f0 := OwnL.free hown2.out (i * 2)
        have f1 := OwnL.free hown2.out (i * 2 + 1)
        have hg2 := OwnL.lt hown2.out
        have hgv : g ≠ wr.heap.size := by omega
        have hsz2 : wr.heap.size < w2.heap.size := by have := hb2.size; simp at this; omega
        have hnot : Hid (keepV ⟨xA, xk, xc, xn⟩ = !(xn == 0)) := rfl
        clear hb2 c0 c1 hownH hgrH
        cases hz : (xn == 0) with
        | true =>
          have hkp := Lib.hid (show keepV ⟨xA, xk, xc, xn⟩ = false by rw [hnot.out, hz]; rfl)
          go_wp2_with fail
          go_roundw
          case rel => exact ⟨i, j + 1, ys, rfl, by go_num, by omega, by omega, hysH.out, rel_skip htkH.out hxH.out hkp.out, fun t ht => hdrH.out t (by omega), hown2.out, hgr2.out⟩
          case measure => simp [Go.RowKit.intOf]; omega
        | false =>
          have hkp := Lib.hid (show keepV ⟨xA, xk, xc, xn⟩ = true by rw [hnot.out, hz]; rfl)
          go_wp2_with fail
          go_roundw
          case rel => exact ⟨i + 1, j + 1, ys.set i ⟨xA, xk, xc, xn⟩, by go_num, by go_num, by omega, by omega, by rw [List.length_set]; exact hysH.out, rel_keep hi htkH.out hxH.out hkp.out, fun t ht => by rw [List.getElem?_set, if_neg (by omega)]; exact hdrH.out t (by omega), OwnC.put hown2.out hi ⟨xA, xk, xc, xn⟩, grown_setCell (grown_setCell hgr2.out _ _) _ _⟩
          case measure => simp [Go.RowKit.intOf]; omega
      · obtain rfl : j = xs.length := by omega
        have hicap : i < cap := by have := hcap.out; simp at this; omega
        have hilen : i ≤ (ys.map cellsV).length := by rw [List.length_map, hysH.out]; omega
        obtain ⟨w3, hcl, hown3, hgr3⟩ := OwnL.clear (P := Tryz.prog) hownH.out (i := i) (n := xs.length - i) hilen (by rw [List.length_map, hysH.out]) (cap - i) 71 (Nat.zero) (.agg #[.slice none 0 0, .int .i64 0]) Tryz.underlying71 (by kernel_rfl) rfl (by simp [Value.cells, Value.oneCell'])
        have hcl' : ∀ ty, (Builtin.clear_ #[71] ty #[.slice (some ⟨g, i * 2, none⟩) (xs.length - i) (cap - i)]).run Tryz.prog wr = .ok (.tuple #[]) w3 := fun ty => hcl
        have hfin := Lib.hid (show ys.take i = xs.filter keepV by rw [htkH.out, List.take_length])
        have hown3H := Lib.hid (show OwnC g cap (xs.filter keepV) w3 by unfold OwnC; rw [← hfin.out, List.map_take]; exact hown3)
        have hlenH := Lib.hid (show (xs.filter keepV).length = i by rw [← hfin.out, List.length_take, hysH.out]; omega)
        have hgr3H := Lib.hid (grown_trans hgrH.out hgr3)
        clear hcl hown3 hgr3
        go_wp2_with fail
        go_ret
        exact ⟨by rw [hlenH.out]; rfl, hown3H.out, hgr3H.out⟩
end Go.Proofs.YtpmfbmigdpmloaaGreatDoor
end
section
/-
  A block of rows that a call owns, before and behind the library's sort of it. Nothing is walked here. No condition but those written.
-/
set_option linter.unusedVariables false
set_option linter.unusedSimpArgs false
namespace Go.Proofs.YtpmfbmigdpmloaaGreatDoor
open Go.RowKit Go.Lib Go.Sort Go.Proofs

section
variable {α : Type} [Inhabited α] {enc : α → List Value} {T : TypeId} {k g cap : Nat} {w : World} {d d' : Array α}
theorem map_get (d : Array α) (enc : α → List Value) {i : Nat} (hi : i < d.size) : (d.toList.map enc)[i]? = some (enc d[i]!) := by
  rw [List.getElem?_map, Array.getElem?_toList, Array.getElem?_eq_getElem hi]
  simp [getElem!_pos, hi]
theorem OwnL.holds (h : OwnL T k g cap (d.toList.map enc) w) (hk : 0 < k) (he : ∀ x, (enc x).length = k) : HoldsK enc k w g 0 d := by
  intro j hj
  rw [size_flatK] at hj
  refine ⟨?_, h.free _⟩
  have h1 : j / k < d.size := Nat.div_lt_of_lt_mul (by rw [Nat.mul_comm]; exact hj)
  have h2 := Nat.mod_lt j hk
  have e : 0 + j = j / k * k + j % k := by have := Nat.div_add_mod j k; rw [Nat.mul_comm] at this; omega
  rw [e, ← e, get_flatK enc k d j hj, e]
  refine h.cell (map_get d enc h1) ?_
  rw [List.getElem?_eq_getElem (by rw [he]; exact h2)]
  simp [getElem!_pos, he, h2]
theorem OwnL.sorted (h : OwnL T k g cap (d.toList.map enc) w) (hk : 0 < k) (he : ∀ x, (enc x).length = k) (hs : d'.size = d.size) (n : Nat) (os : Array Obj) :
    OwnL T k g cap (d'.toList.map enc) (sortWorldK enc k w g 0 n d' os) := by
  have hlt := h.lt
  obtain ⟨h1, h2, h3, cur, hg, h4, h5⟩ := h
  have hsz : d.size ≤ cap := by simpa using h2
  have hm : ∀ x ∈ d'.toList.map enc, x.length = k := fun x hx => by obtain ⟨y, _, rfl⟩ := List.mem_map.1 hx; exact he y
  have hb : d'.size * k ≤ cur.size := by rw [h4, hs]; exact Nat.mul_le_mul_right k hsz
  refine ⟨hm, by simpa [hs] using hsz, h3, putCells id 0 (flatK enc k d') cur, ?_, by simpa [putCells] using h4, ?_⟩
  · unfold sortWorldK Go.Sort.grow putRowK putRow mapBlock
    rw [Array.getElem?_append_left (by simpa using hlt)]
    simp [Sort.ahead, Array.getElem?_modify, hg, onCells]
  · rw [List.length_map, Array.length_toList]
    apply List.ext_getElem?
    intro t
    rw [List.getElem?_take]
    by_cases ht : t < d'.size * k
    · have t1 : t / k < d'.size := Nat.div_lt_of_lt_mul (by rw [Nat.mul_comm]; exact ht)
      have t2 := Nat.mod_lt t hk
      have e : t = t / k * k + t % k := by have := Nat.div_add_mod t k; rw [Nat.mul_comm] at this; omega
      rw [if_pos ht]
      conv => rhs; rw [e, flat_get _ hm _ _ t2, map_get d' enc t1]
      rw [Array.getElem?_toList]
      have tc : t < cur.size := by omega
      simp only [putCells, Array.getElem?_mapIdx, Array.getElem?_eq_getElem tc, Option.map_some]
      rw [if_pos (by rw [size_flatK]; omega), Nat.sub_zero, get_flatK enc k d' t ht, Option.bind_some, List.getElem?_eq_getElem (by rw [he]; exact t2)]
      simp [getElem!_pos, he, t2]
    · rw [if_neg ht, List.getElem?_eq_none]
      rw [flats_len _ hm]
      simpa using ht
theorem sorted_grown (w : World) (n : Nat) (os : Array Obj) : w.grownBy (sortWorldK enc k w g 0 n d' os) (some g) := by
  refine ⟨rfl, rfl, rfl, by unfold sortWorldK; rw [«Sort».size_grow, size_putRowK]; simp [Sort.ahead], fun j hj hne => ?_⟩
  unfold sortWorldK Go.Sort.grow putRowK putRow mapBlock
  rw [Array.getElem?_append_left (by simpa [Sort.ahead] using hj)]
  simp only [Sort.ahead, Array.getElem?_modify]
  rw [if_neg (fun q => hne (by rw [q]))]
theorem sorted_drawn (w : World) (n : Nat) (os : Array Obj) : w.drawn ≤ (sortWorldK enc k w g 0 n d' os).drawn := by
  show w.drawn ≤ w.drawn + n
  omega
end
end Go.Proofs.YtpmfbmigdpmloaaGreatDoor
end
section
/-
  The library's SortFunc at counted rows, at this program: in the order of their rows. Conditions: those written.
-/
set_option linter.unusedVariables false
set_option linter.unusedSimpArgs false
namespace Go.Proofs.YtpmfbmigdpmloaaGreatDoor
open Go.RowKit Go.Lib Go.Proofs Go.Shelf Go.Sort

/-- A counted row that reads, in a world, as a row. -/
abbrev Rd (w0 : World) := { d : Cd // RowV w0 (valD d) d.2 }
instance (w0 : World) : Inhabited (Rd w0) := ⟨⟨(⟨none, 0, 0, 0⟩, []), RowV.nil w0⟩⟩
def cfR {w0 : World} (x y : Rd w0) : Int := cmpR x.1.2 y.1.2
theorem cfR_order (w0 : World) : SWO (ltOf (cfR (w0 := w0))) where
  irrefl x := by simp [ltOf, cfR, cmpR_self]
  trans x y z h1 h2 := by
    have h1' : cmpR x.1.2 y.1.2 < 0 := of_decide_eq_true h1
    have h2' : cmpR y.1.2 z.1.2 < 0 := of_decide_eq_true h2
    have t1 := cmpR_turn x.1.2 z.1.2
    have t2 := cmpR_turn y.1.2 z.1.2
    refine decide_eq_true (show cmpR x.1.2 z.1.2 < 0 from ?_)
    by_cases h : cmpR x.1.2 z.1.2 < 0
    · exact h
    · have := cmpR_trans (l := z.1.2) (m := x.1.2) (n := y.1.2) (by omega) (by omega)
      omega
  ntrans x y z h1 h2 := by
    have h1' : ¬ cmpR x.1.2 y.1.2 < 0 := of_decide_eq_false h1
    have h2' : ¬ cmpR y.1.2 z.1.2 < 0 := of_decide_eq_false h2
    have t1 := cmpR_turn x.1.2 y.1.2
    have t2 := cmpR_turn y.1.2 z.1.2
    have t3 := cmpR_turn x.1.2 z.1.2
    refine decide_eq_false (show ¬ cmpR x.1.2 z.1.2 < 0 from ?_)
    have := cmpR_trans (l := z.1.2) (m := y.1.2) (n := x.1.2) (by omega) (by omega)
    omega
set_option maxHeartbeats 2000000 in
theorem sortC_any (g cap : Nat) (ds : List Cd) (w0 w : World) (h : OwnC g cap (ds.map (·.1)) w) (hr : ∀ d ∈ ds, RowV w0 (valD d) d.2) (hb : Below w0.heap.size w0 w) (hg : w0.heap.size ≤ g) (hn : ds.length ≤ 1099511627776) :
    Calls Tryz.prog 65 #[.slice (some ⟨g, 0, none⟩) ds.length cap, .func (.func 66) #[] #[]] w fun e w' =>
      e = .returned (.tuple #[]) ∧ ∃ r : List Cd, r.Perm ds ∧ r.Pairwise (fun a b => ¬ cmpR b.2 a.2 < 0) ∧ OwnC g cap (r.map (·.1)) w' ∧ w.grownBy w' (some g) := by
  have eg : ∀ args w, (callFunc 66 args).run Tryz.prog w = .ok (.enter 66 args) w := enters_of Tryz.func66 (by kernel_rfl) rfl
  obtain ⟨d, hd⟩ : ∃ d : Array (Rd w0), d.toList.map (·.1) = ds := ⟨(ds.attach.map fun x => (⟨x.1, hr x.1 x.2⟩ : Rd w0)).toArray, by rw [List.map_map]; exact List.attach_map_subtype_val ds⟩
  subst hd
  have hlen : (d.toList.map (·.1)).length = d.size := by simp
  have hsz : d.size < 4611686018427387904 := by rw [hlen] at hn; omega
  have hown : OwnL 74 2 g cap (d.toList.map fun x => cellsV x.1.1) w := by
    have e : ((d.toList.map (·.1)).map (·.1)).map cellsV = d.toList.map (fun x => cellsV x.1.1) := by simp [List.map_map, Function.comp_def]
    rw [← e]; exact h
  have hcmp : CmpLays Tryz.prog 66 #[] (fun x : Rd w0 => cellsV x.1.1) 2 cfR g 0 d.size w := by
    intro m os dk hs x y
    have hW : Below w0.heap.size w0 (sortWorldK (fun x : Rd w0 => cellsV x.1.1) 2 w g 0 m dk os) := hb.trans (below_of_grown (sorted_grown w m os) hg hb.size)
    refine (sumCmp_any x.1.1.A x.1.1.k x.1.1.c x.1.1.n y.1.1.A y.1.1.k y.1.1.c y.1.1.n x.1.2 y.1.2 _ (x.2.below hW) (y.2.below hW)).mono ?_
    rintro e w' ⟨he, hro⟩
    exact ⟨he, hro.grow⟩
  have hS := AnyQ.slices_SortFunc Tryz.sortC 2 (fun _ => by kernel_rfl) (fun _ => by kernel_rfl) (fun x : Rd w0 => cellsV x.1.1) (fun _ => rfl) (fun x => cellsV_one x.1.1) cfR (cfR_order w0) 66 #[] g 0 cap d w eg hcmp (hown.holds (by omega) (fun _ => rfl)) hown.lt hsz
  rw [hlen]
  refine Calls.mono (show Calls Tryz.prog 65 _ _ _ from hS) ?_
  rintro e w' ⟨he, d', n, os, ⟨p1, p2, p3⟩, hso, rfl⟩
  refine ⟨he, d'.toList.map (·.1), ?_, ?_, ?_, sorted_grown w n os⟩
  · have : d'.toList.Perm d.toList := by
      have e : d'.toList.take d.size = d'.toList := List.take_of_length_le (by simp [p1])
      have e2 : d.toList.take d.size = d.toList := List.take_of_length_le (by simp)
      simpa [e, e2] using p3
    exact this.map _
  · rw [List.pairwise_map, List.pairwise_iff_getElem]
    intro i j hi hj hij
    have h1 := hso i j (Nat.zero_le _) hij (by rw [← p1]; simpa using hj)
    rw [getElem!_pos d' i (by simpa using hi), getElem!_pos d' j (by simpa using hj)] at h1
    intro hlt
    exact of_decide_eq_false h1 (by unfold cfR; simpa using hlt)
  · have := hown.sorted (by omega) (fun _ => rfl) p1 n os
    have e : ((d'.toList.map (·.1)).map (·.1)).map cellsV = d'.toList.map (fun x => cellsV x.1.1) := by simp [List.map_map, Function.comp_def]
    unfold OwnC
    rw [e]; exact this
end Go.Proofs.YtpmfbmigdpmloaaGreatDoor
end
