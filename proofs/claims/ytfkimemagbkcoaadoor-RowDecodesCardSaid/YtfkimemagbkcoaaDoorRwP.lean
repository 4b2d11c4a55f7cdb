/-
  The chapter's example 2, as the laws of layer 2 ask it (known), at this program: it holds. No condition.
-/
import Derived.Test.YtfkimemagbkcoaaDoorRwS
set_option linter.unusedVariables false
set_option linter.unusedSimpArgs false
namespace Go.Proofs.YtfkimemagbkcoaaDoor
open Go.RowKit Go.Lib Go.Proofs

def iD (n : Int) : Dat := ⟨3, false, n, ⟨#[]⟩⟩
set_option maxHeartbeats 2000000 in
theorem int_any (n : Int) (w : World) :
    Calls Tryd.prog 36 #[.int .i64 n] w fun e w' => e = .returned (dv 3 false n ⟨#[]⟩) ∧ Below w.heap.size w w' := by
  go_enter Tryd.func36, Tryd.ntmps36
  go_wp2_with fail
  have c_ := (Has.new w (.int .u8 3) (.bool false) (.int .i64 n) (.string ⟨#[]⟩))
  refine bodyPost_ret (v := dv 3 false n ⟨#[]⟩) (by simp [results, Tryd.results36, go_sem]) rfl ?_
  exact ⟨rfl, by go_grown⟩
/-- A row of one datum, just laid. -/
theorem one_row (w : World) (d : Dat) : RowV (w.alloc (.cells #[.int .u8 d.k, .bool d.b, .int .i64 d.n, .string d.s] 79)) (.slice (some ⟨w.heap.size, 0, none⟩) 1 1) [d] := by
  have h : OwnL 79 4 w.heap.size 1 ([d].map cellsD) (w.alloc (.cells #[.int .u8 d.k, .bool d.b, .int .i64 d.n, .string d.s] 79)) :=
    ⟨fun y hy => by simp at hy; subst hy; rfl, by simp, by decide, _, heap_alloc_new w _, rfl, rfl⟩
  exact h.rowV
def knownL (a b : Addr) : List Cd := [(⟨some a, 1, 1, 2⟩, [iD 1]), (⟨some b, 1, 1, 1⟩, [iD 2]), (⟨some a, 1, 1, -1⟩, [iD 1]), (⟨some b, 1, 1, -1⟩, [iD 2])]
theorem known_sum (a b : Addr) : (sumN ((knownL a b).map cnD)).filter (fun x => x.2 != 0) = [([iD 1], 1)] := by kernel_rfl
theorem known_rows (w : World) (a b : Addr) (ha : RowV w (.slice (some a) 1 1) [iD 1]) (hb : RowV w (.slice (some b) 1 1) [iD 2]) :
    CtsV (w.alloc (.cells #[.slice (some a) 1 1, .int .i64 2, .slice (some b) 1 1, .int .i64 1, .slice (some a) 1 1, .int .i64 (-1), .slice (some b) 1 1, .int .i64 (-1)] 45)) (.slice (some ⟨w.heap.size, 0, none⟩) 4 4) (knownL a b) := by
  have h : OwnL 45 2 w.heap.size 4 ((knownL a b).map (fun d => cellsV d.1)) (w.alloc (.cells #[.slice (some a) 1 1, .int .i64 2, .slice (some b) 1 1, .int .i64 1, .slice (some a) 1 1, .int .i64 (-1), .slice (some b) 1 1, .int .i64 (-1)] 45)) :=
    ⟨fun y hy => by obtain ⟨x, _, rfl⟩ := List.mem_map.1 hy; rfl, by simp [knownL], by decide, _, heap_alloc_new w _, rfl, rfl⟩
  refine ⟨h.slV, fun d hd => ?_⟩
  have hb' : Below w.heap.size w (w.alloc (.cells #[.slice (some a) 1 1, .int .i64 2, .slice (some b) 1 1, .int .i64 1, .slice (some a) 1 1, .int .i64 (-1), .slice (some b) 1 1, .int .i64 (-1)] 45)) := (Below.refl _ w).alloc (Nat.le_refl _) _
  simp [knownL] at hd
  rcases hd with rfl | rfl | rfl | rfl
  · exact ha.below hb'
  · exact hb.below hb'
  · exact ha.below hb'
  · exact hb.below hb'
theorem known_call (a b : Addr) (v : Value) (w : World) (hc : CtsV w v (knownL a b)) :
    Calls Tryd.prog 18 #[v] w fun e w' => ∃ v' r, e = .returned v' ∧ SumOf ((knownL a b).map cnD) (r.map cnD) ∧ OwnCs w.heap.size v' r w' ∧ FreshL w.heap.size w' r ∧ Below w.heap.size w w' := by
  refine sum_any _ (knownL a b) w hc (by simp [knownL]) (by simp [knownL]) ?_ ?_ ?_
  · intro d hd; simp [knownL] at hd; rcases hd with rfl | rfl | rfl | rfl <;> simp
  · intro d hd x hx; simp [knownL] at hd; rcases hd with rfl | rfl | rfl | rfl <;> (simp at hx; subst hx; unfold Wide iD; simp)
  · intro d hd; simp [knownL] at hd; rcases hd with rfl | rfl | rfl | rfl <;> simp [szR, szD, iD, ByteArray.size]
set_option maxHeartbeats 8000000 in
set_option maxRecDepth 1000000 in
theorem known_any (w : World) : Calls Tryd.prog 11 #[] w fun e w' => e = .returned (.bool true) ∧ Below w.heap.size w w' := by
  go_enter Tryd.func11, Tryd.ntmps11
  go_wp2_with fail
  refine (int_any 1 _).mono ?_
  rintro e w1 ⟨rfl, hb1⟩
  have hb1H := Lib.hid hb1
  obtain ⟨W1, hW1⟩ : ∃ W1, w1.alloc (.cells #[.int .u8 3, .bool false, .int .i64 1, .string ⟨#[]⟩] 79) = W1 := ⟨_, rfl⟩
  have ha := Lib.hid (show RowV W1 (.slice (some ⟨w1.heap.size, 0, none⟩) 1 1) [iD 1] from hW1 ▸ one_row w1 (iD 1))
  have hB1 := Lib.hid (show Below w.heap.size w W1 from hW1 ▸ hb1.alloc hb1.size _)
  clear hb1
  go_wp2_with fail
  refine (int_any 2 _).mono ?_
  rintro e w2 ⟨rfl, hb2⟩
  obtain ⟨W2, hW2⟩ : ∃ W2, w2.alloc (.cells #[.int .u8 3, .bool false, .int .i64 2, .string ⟨#[]⟩] 79) = W2 := ⟨_, rfl⟩
  have hb := Lib.hid (show RowV W2 (.slice (some ⟨w2.heap.size, 0, none⟩) 1 1) [iD 2] from hW2 ▸ one_row w2 (iD 2))
  have h12 := Lib.hid (show Below W1.heap.size W1 W2 from hW2 ▸ hb2.alloc hb2.size _)
  have ha2 := Lib.hid (ha.out.below h12.out)
  have hB2 := Lib.hid (hB1.out.trans (h12.out.mono hB1.out.size))
  clear hb2
  obtain ⟨W3, hW3⟩ : ∃ W3, W2.alloc (.cells #[.slice (some ⟨w1.heap.size, 0, none⟩) 1 1, .int .i64 2, .slice (some ⟨w2.heap.size, 0, none⟩) 1 1, .int .i64 1, .slice (some ⟨w1.heap.size, 0, none⟩) 1 1, .int .i64 (-1), .slice (some ⟨w2.heap.size, 0, none⟩) 1 1, .int .i64 (-1)] 45) = W3 := ⟨_, rfl⟩
  have hc := Lib.hid (show CtsV W3 (.slice (some ⟨W2.heap.size, 0, none⟩) 4 4) (knownL ⟨w1.heap.size, 0, none⟩ ⟨w2.heap.size, 0, none⟩) from hW3 ▸ known_rows W2 _ _ ha2.out hb.out)
  have h23 := Lib.hid (show Below W2.heap.size W2 W3 from hW3 ▸ (Below.refl _ W2).alloc (Nat.le_refl _) _)
  go_wp2_with fail
  refine (known_call ⟨w1.heap.size, 0, none⟩ ⟨w2.heap.size, 0, none⟩ _ _ hc.out).mono ?_
  rintro e w4 ⟨v, r, rfl, ⟨hp, -⟩, ho, hf, hb4⟩
  rw [known_sum] at hp
  have hr := List.perm_singleton.1 hp
  obtain ⟨d, rfl, hd⟩ : ∃ d, r = [d] ∧ cnD d = ([iD 1], 1) := by
    match r, hr with
    | [], h => simp at h
    | [d], h => simp at h; exact ⟨d, rfl, h⟩
    | _ :: _ :: _, h => simp at h
  obtain ⟨⟨dA, dk, dc, dn⟩, dl⟩ := d
  obtain ⟨rfl, rfl⟩ := Prod.mk.inj hd
  obtain ⟨A, c, N, hN, rfl⟩ := ho.lenN (n := 1) rfl
  subst hN
  obtain ⟨g, rfl, -, hgB, hoC⟩ := OwnCs.row ho (by simp)
  obtain ⟨y0_, y1_⟩ := OwnC.two hoC (i := 0) rfl
  simp only [Nat.zero_mul, Nat.zero_add] at y0_ y1_
  have hrow := Lib.hid (hf.1 _ (List.mem_singleton.2 rfl)).rowV
  have h24 := Lib.hid (h23.out.trans (hb4.mono h23.out.size))
  have ha4 := Lib.hid (ha2.out.below h24.out)
  have hb4H := Lib.hid (hb.out.below h24.out)
  have hB4 := Lib.hid (hB2.out.trans (h24.out.mono hB2.out.size))
  have hgl := hoC.lt
  have hdl := hB4.out.size
  have e1 : cmpR [iD 1] [iD 1] = 0 := by kernel_rfl
  have e2 : cmpR [iD 1] [iD 2] = -1 := by kernel_rfl
  clear hp hr hd ho hf hb4 hoC
  go_wp2_with fail
  refine (rowCmp_any _ _ [iD 1] [iD 1] _ hrow.out ha4.out).mono ?_
  rw [e1]
  rintro e w5 ⟨rfl, hb5⟩
  have hb5H := Lib.hid hb5
  clear hb5
  go_wp2_with fail
  refine (rowCmp_any _ _ [iD 1] [iD 2] _ (ha4.out.below hb5H.out) (hb4H.out.below hb5H.out)).mono ?_
  rw [e2]
  rintro e w6 ⟨rfl, hb6⟩
  have hB6 := Lib.hid (hB4.out.trans ((hb5H.out.trans (hb6.mono hb5H.out.size)).mono hB4.out.size))
  clear hb6
  go_wp2_with fail
  go_ret
  exact ⟨rfl, hB6.out⟩
end Go.Proofs.YtfkimemagbkcoaaDoor
