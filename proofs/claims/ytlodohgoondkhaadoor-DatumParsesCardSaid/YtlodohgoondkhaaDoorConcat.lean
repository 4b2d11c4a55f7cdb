/-
  What datum.together and datum.Concat answer, at this program. Condition: the tables of Go's library lie as their initialisers lay them.
-/
import Derived.Test.YtlodohgoondkhaaDoorBase
import Derived.Test.YtlodohgoondkhaaDoorBuild
import Derived.Test.YtlodohgoondkhaaDoorShelf
import Derived.Test.YtlodohgoondkhaaDoorLogic
import Derived.Test.YtlodohgoondkhaaDoorNum
import Derived.ShutString
set_option linter.unusedVariables false
set_option linter.unusedSimpArgs false
namespace Go.Proofs.YtlodohgoondkhaaDoor
open Go.RowKit Go.Lib

/-- Two texts, one behind the other. -/
def catS (a b : ByteArray) : ByteArray := ⟨(a.data.toList ++ b.data.toList).toArray⟩
theorem strCells_data (s : ByteArray) : Lib.strCells s = Lib.byteCells s.data.toList := by simp [Lib.strCells, Lib.byteCells]
theorem catS_append (a b : ByteArray) : a ++ b = catS a b := bytes_ext (by simp [catS])
theorem catS_size (a b : ByteArray) : (catS a b).size = a.size + b.size := by
  rw [← catS_append]; simp
theorem ret_str' {x y : ByteArray} (h : x = y) : Ending.returned (.string x) = Ending.returned (.string y) := by rw [h]
/-- Concat. -/
def concatS (a b : Dat) : Dat × Int :=
  if fitsD 4 a = false then (zeroD, 13) else if fitsD 4 b = false then (zeroD, 13) else if a.k = 1 then (nullD, 0) else if b.k = 1 then (nullD, 0)
  else if 1000 < a.s.size + b.s.size then (zeroD, 12) else (textD (catS a.s b.s), 0)

set_option maxHeartbeats 4000000 in
set_option maxRecDepth 1000000 in
theorem together_any (a b : ByteArray) (w : World) (hab : a.size + b.size ≤ 140737488355328) :
    Calls Tryd.prog 81 #[.string a, .string b] w fun e w' => e = .returned (.string (catS a b)) ∧ Below w.heap.size w w' := by
  go_enter Tryd.func81, Tryd.ntmps81
  go_wp2_with fail
  refine (Tryd.Builder_Grow_fresh w.heap.size w.heap.size (a.size + b.size) _ (Nat.le_refl _) (by exact heap_alloc_new w _) (by simp) (by omega)).mono ?_
  rintro e W1 ⟨rfl, hg, hb1⟩
  have hb1w : Below w.heap.size w W1 := ((Below.refl _ w).alloc (Nat.le_refl _) _).trans hb1
  have hgF : Lib.IsBuilderF 88 5 w.heap.size w.heap.size [] W1 := Lib.IsBuilderF.of (.inr hg)
  clear hg hb1
  go_wp2_with fail
  refine (writeString_k w.heap.size w.heap.size [] a W1 hgF (by simp; omega) hb1w.size).mono ?_
  rintro e W2 ⟨rfl, hg2, hb2, _⟩
  have hb2w := hb1w.trans hb2
  have hg2F : Lib.IsBuilderF 88 5 w.heap.size w.heap.size (Lib.byteCells a.data.toList) W2 := by rw [← strCells_data]; exact .inr hg2
  clear hg2 hgF hb1w hb2
  go_wp2_with fail
  refine (writeString_k w.heap.size w.heap.size _ b W2 hg2F (by rw [Lib.byteCells_length]; simp; omega) hb2w.size).mono ?_
  rintro e W3 ⟨rfl, hg3, hb3, _⟩
  have hb3w := hb2w.trans hb3
  have hg3F : Lib.IsBuilderF 88 5 w.heap.size w.heap.size (Lib.byteCells (a.data.toList ++ b.data.toList)) W3 := by rw [Lib.byteCells_append, ← strCells_data b]; exact .inr hg3
  clear hg3 hg2F hb2w hb3
  go_wp2_with fail
  refine (Tryd.Builder_String_any_k w.heap.size w.heap.size (a.data.toList ++ b.data.toList) W3 hg3F hb3w.size).mono ?_
  rintro e W4 ⟨rfl, _, b2, _⟩
  go_wp2
  go_ret
  exact ⟨ret_str' rfl, hb3w.trans b2⟩

set_option maxHeartbeats 1000000 in
theorem text_any (s : ByteArray) (w : World) :
    Calls Tryd.prog 80 #[.string s] w fun e w' => e = .returned (.agg #[.int .u8 4, .bool false, .int .i64 0, .string s]) ∧ Below w.heap.size w w' := by
  go_enter Tryd.func80, Tryd.ntmps80
  go_wp2
  go_returns
  exact ⟨rfl, by go_grown⟩

set_option maxRecDepth 100000 in
set_option maxHeartbeats 8000000 in
theorem conClos_l (k0 : Int) (b0 : Bool) (n0 : Int) (s0 : ByteArray) (k1 : Int) (b1 : Bool) (n1 : Int) (s1 : ByteArray) (w : World) (h0 : s0.size ≤ 1000) (h1 : s1.size ≤ 1000) (hl : 1000 < s0.size + s1.size) :
    Calls Tryd.prog 79 #[.agg #[.int .u8 k0, .bool b0, .int .i64 n0, .string s0], .agg #[.int .u8 k1, .bool b1, .int .i64 n1, .string s1]] w fun e w' => e = .returned (.tuple #[.agg #[.int .u8 0, .bool false, .int .i64 0, .string ⟨#[]⟩], .int .u16 12]) ∧ Below w.heap.size w w' := by
  have h0H := Lib.hid h0; have h1H := Lib.hid h1
  have hg : ((s0.size : Int) + s1.size > 1000) := by omega
  obtain ⟨W0, hW0, hwW, hA, hB, hR, hzz⟩ := boxes2 w k0 b0 n0 s0 k1 b1 n1 s1
  have hAH := Lib.hid hA; have hBH := Lib.hid hB; have hRH := Lib.hid hR; have hz0 := Lib.hid hzz; have hwWH := Lib.hid hwW
  clear hA hB hR hzz hwW
  have hb := Below.refl W0.heap.size W0
  obtain ⟨a0_, a1_, a2_, a3_⟩ := (hAH.out.below hb).cells; obtain ⟨b0_, b1_, b2_, b3_⟩ := (hBH.out.below hb).cells; obtain ⟨r0_, r1_, r2_, r3_⟩ := (hRH.out.below hb).cells; obtain ⟨f0_, f1_, f2_, f3_⟩ := (hRH.out.below hb).free; have hz := Nat.lt_of_lt_of_le hz0.out hb.size; have hs := hb.size
  go_enter Tryd.func79, Tryd.ntmps79
  go_wp2_with (first
    | (go_at_call 81; go_must (refine (together_any s0 s1 _ (by have := h0H.out; have := h1H.out; omega)).mono ?_; rintro e w' ⟨rfl, hb'⟩; replace hb := chainB (B := W0.heap.size) (a := W0) (by go_grown) hb' (by have := hb.size; first | omega | (simp; done) | (simp; omega)); clear hb' a0_ a1_ a2_ a3_ b0_ b1_ b2_ b3_ r0_ r1_ r2_ r3_ f0_ f1_ f2_ f3_ hz hs; obtain ⟨a0_, a1_, a2_, a3_⟩ := (hAH.out.below hb).cells; obtain ⟨b0_, b1_, b2_, b3_⟩ := (hBH.out.below hb).cells; obtain ⟨r0_, r1_, r2_, r3_⟩ := (hRH.out.below hb).cells; obtain ⟨f0_, f1_, f2_, f3_⟩ := (hRH.out.below hb).free; have hz := Nat.lt_of_lt_of_le hz0.out hb.size; have hs := hb.size))
    | (go_at_call 80; go_must (refine (text_any _ _).mono ?_; rintro e w' ⟨rfl, hb'⟩; replace hb := chainB (B := W0.heap.size) (a := W0) (by go_grown) hb' (by have := hb.size; first | omega | (simp; done) | (simp; omega)); clear hb' a0_ a1_ a2_ a3_ b0_ b1_ b2_ b3_ r0_ r1_ r2_ r3_ f0_ f1_ f2_ f3_ hz hs; obtain ⟨a0_, a1_, a2_, a3_⟩ := (hAH.out.below hb).cells; obtain ⟨b0_, b1_, b2_, b3_⟩ := (hBH.out.below hb).cells; obtain ⟨r0_, r1_, r2_, r3_⟩ := (hRH.out.below hb).cells; obtain ⟨f0_, f1_, f2_, f3_⟩ := (hRH.out.below hb).free; have hz := Nat.lt_of_lt_of_le hz0.out hb.size; have hs := hb.size)))
  refine bodyPost_ret (v := .tuple #[.agg #[.int .u8 0, .bool false, .int .i64 0, .string ⟨#[]⟩], .int .u16 12]) (by simp [results, Tryd.results79, go_sem, r0_, r1_, r2_, r3_, hz]) rfl ⟨rfl, ?_⟩
  have hbw := hwWH.out.trans (hb.mono hwWH.out.size)
  clear hb
  go_grown

set_option maxRecDepth 100000 in
set_option maxHeartbeats 8000000 in
theorem conClos_g (k0 : Int) (b0 : Bool) (n0 : Int) (s0 : ByteArray) (k1 : Int) (b1 : Bool) (n1 : Int) (s1 : ByteArray) (w : World) (h0 : s0.size ≤ 1000) (h1 : s1.size ≤ 1000) (hl : s0.size + s1.size ≤ 1000) :
    Calls Tryd.prog 79 #[.agg #[.int .u8 k0, .bool b0, .int .i64 n0, .string s0], .agg #[.int .u8 k1, .bool b1, .int .i64 n1, .string s1]] w fun e w' => e = .returned (.tuple #[.agg #[.int .u8 4, .bool false, .int .i64 0, .string (catS s0 s1)], .int .u16 0]) ∧ Below w.heap.size w w' := by
  have h0H := Lib.hid h0; have h1H := Lib.hid h1
  have hg : ¬ ((s0.size : Int) + s1.size > 1000) := by omega
  obtain ⟨W0, hW0, hwW, hA, hB, hR, hzz⟩ := boxes2 w k0 b0 n0 s0 k1 b1 n1 s1
  have hAH := Lib.hid hA; have hBH := Lib.hid hB; have hRH := Lib.hid hR; have hz0 := Lib.hid hzz; have hwWH := Lib.hid hwW
  clear hA hB hR hzz hwW
  have hb := Below.refl W0.heap.size W0
  obtain ⟨a0_, a1_, a2_, a3_⟩ := (hAH.out.below hb).cells; obtain ⟨b0_, b1_, b2_, b3_⟩ := (hBH.out.below hb).cells; obtain ⟨r0_, r1_, r2_, r3_⟩ := (hRH.out.below hb).cells; obtain ⟨f0_, f1_, f2_, f3_⟩ := (hRH.out.below hb).free; have hz := Nat.lt_of_lt_of_le hz0.out hb.size; have hs := hb.size
  go_enter Tryd.func79, Tryd.ntmps79
  go_wp2_with (first
    | (go_at_call 81; go_must (refine (together_any s0 s1 _ (by have := h0H.out; have := h1H.out; omega)).mono ?_; rintro e w' ⟨rfl, hb'⟩; replace hb := chainB (B := W0.heap.size) (a := W0) (by go_grown) hb' (by have := hb.size; first | omega | (simp; done) | (simp; omega)); clear hb' a0_ a1_ a2_ a3_ b0_ b1_ b2_ b3_ r0_ r1_ r2_ r3_ f0_ f1_ f2_ f3_ hz hs; obtain ⟨a0_, a1_, a2_, a3_⟩ := (hAH.out.below hb).cells; obtain ⟨b0_, b1_, b2_, b3_⟩ := (hBH.out.below hb).cells; obtain ⟨r0_, r1_, r2_, r3_⟩ := (hRH.out.below hb).cells; obtain ⟨f0_, f1_, f2_, f3_⟩ := (hRH.out.below hb).free; have hz := Nat.lt_of_lt_of_le hz0.out hb.size; have hs := hb.size))
    | (go_at_call 80; go_must (refine (text_any _ _).mono ?_; rintro e w' ⟨rfl, hb'⟩; replace hb := chainB (B := W0.heap.size) (a := W0) (by go_grown) hb' (by have := hb.size; first | omega | (simp; done) | (simp; omega)); clear hb' a0_ a1_ a2_ a3_ b0_ b1_ b2_ b3_ r0_ r1_ r2_ r3_ f0_ f1_ f2_ f3_ hz hs; obtain ⟨a0_, a1_, a2_, a3_⟩ := (hAH.out.below hb).cells; obtain ⟨b0_, b1_, b2_, b3_⟩ := (hBH.out.below hb).cells; obtain ⟨r0_, r1_, r2_, r3_⟩ := (hRH.out.below hb).cells; obtain ⟨f0_, f1_, f2_, f3_⟩ := (hRH.out.below hb).free; have hz := Nat.lt_of_lt_of_le hz0.out hb.size; have hs := hb.size)))
  refine bodyPost_ret (v := .tuple #[.agg #[.int .u8 4, .bool false, .int .i64 0, .string (catS s0 s1)], .int .u16 0]) (by simp [results, Tryd.results79, go_sem, r0_, r1_, r2_, r3_, hz]) rfl ⟨rfl, ?_⟩
  have hbw := hwWH.out.trans (hb.mono hwWH.out.size)
  clear hb
  go_grown

theorem fits_size {kk k : Int} {b : Bool} {n : Int} {s : ByteArray} (h : fitsD kk ⟨k, b, n, s⟩ = true) : s.size ≤ 1000 := by
  unfold fitsD at h
  simp only [Bool.and_eq_true] at h
  exact ((okD_iff _).1 h.1).2
theorem strict_con (k0 : Int) (b0 : Bool) (n0 : Int) (s0 : ByteArray) (k1 : Int) (b1 : Bool) (n1 : Int) (s1 : ByteArray) (w : World) (hT : Tabs w) (h0 : s0.size ≤ 9223372036854775807) (h1 : s1.size ≤ 9223372036854775807) :
    Calls Tryd.prog 78 #[.int .u8 4, .agg #[.int .u8 k0, .bool b0, .int .i64 n0, .string s0], .agg #[.int .u8 k1, .bool b1, .int .i64 n1, .string s1], .func (.func 79) #[] #[]] w
      fun e w' => e = .returned (resV (concatS ⟨k0, b0, n0, s0⟩ ⟨k1, b1, n1, s1⟩)) ∧ Below w.heap.size w w' := by
  by_cases f0 : fitsD 4 ⟨k0, b0, n0, s0⟩ = false
  · rw [show concatS ⟨k0, b0, n0, s0⟩ ⟨k1, b1, n1, s1⟩ = (zeroD, 13) by unfold concatS; rw [if_pos f0]]
    exact strict_bad1 4 k0 b0 n0 s0 k1 b1 n1 s1 _ w hT h0 h1 f0
  have f0' : fitsD 4 ⟨k0, b0, n0, s0⟩ = true := by simpa using f0
  by_cases f1 : fitsD 4 ⟨k1, b1, n1, s1⟩ = false
  · rw [show concatS ⟨k0, b0, n0, s0⟩ ⟨k1, b1, n1, s1⟩ = (zeroD, 13) by unfold concatS; rw [if_neg f0, if_pos f1]]
    exact strict_bad2 4 k0 b0 n0 s0 k1 b1 n1 s1 _ w hT h0 h1 f0' f1
  have f1' : fitsD 4 ⟨k1, b1, n1, s1⟩ = true := by simpa using f1
  by_cases c0 : k0 = 1
  · rw [show concatS ⟨k0, b0, n0, s0⟩ ⟨k1, b1, n1, s1⟩ = (nullD, 0) by unfold concatS; rw [if_neg f0, if_neg f1, if_pos c0]]
    exact strict_null1 4 k0 b0 n0 s0 k1 b1 n1 s1 _ w hT h0 h1 f0' f1' c0
  by_cases c1 : k1 = 1
  · rw [show concatS ⟨k0, b0, n0, s0⟩ ⟨k1, b1, n1, s1⟩ = (nullD, 0) by unfold concatS; rw [if_neg f0, if_neg f1, if_neg c0, if_pos c1]]
    exact strict_null2 4 k0 b0 n0 s0 k1 b1 n1 s1 _ w hT h0 h1 f0' f1' (by simpa using c0) c1
  by_cases hl : 1000 < s0.size + s1.size
  · rw [show concatS ⟨k0, b0, n0, s0⟩ ⟨k1, b1, n1, s1⟩ = (zeroD, 12) by unfold concatS; rw [if_neg f0, if_neg f1, if_neg c0, if_neg c1, if_pos hl]]
    exact strict_go 4 k0 b0 n0 s0 k1 b1 n1 s1 _ w hT h0 h1 f0' f1' (by simpa using c0) (by simpa using c1) 79 _ (enters_of Tryd.func79 (by kernel_rfl) rfl) 0 false 0 ⟨#[]⟩ 12 rfl
      (fun W hW => by rw [app0]; exact conClos_l k0 b0 n0 s0 k1 b1 n1 s1 W (fits_size f0') (fits_size f1') hl)
  · rw [show concatS ⟨k0, b0, n0, s0⟩ ⟨k1, b1, n1, s1⟩ = (textD (catS s0 s1), 0) by unfold concatS; rw [if_neg f0, if_neg f1, if_neg c0, if_neg c1, if_neg hl]]
    exact strict_go 4 k0 b0 n0 s0 k1 b1 n1 s1 _ w hT h0 h1 f0' f1' (by simpa using c0) (by simpa using c1) 79 _ (enters_of Tryd.func79 (by kernel_rfl) rfl) 4 false 0 (catS s0 s1) 0 rfl
      (fun W hW => by rw [app0]; exact conClos_g k0 b0 n0 s0 k1 b1 n1 s1 W (fits_size f0') (fits_size f1') (by omega))
theorem resVm {k : Int} {b : Bool} {n : Int} {s : ByteArray} {x : Int} : resV (⟨k, b, n, s⟩, x) = .tuple #[.agg #[.int .u8 k, .bool b, .int .i64 n, .string s], .int .u16 x] := rfl

set_option maxRecDepth 100000 in
set_option maxHeartbeats 8000000 in
theorem concat_any (k0 : Int) (b0 : Bool) (n0 : Int) (s0 : ByteArray) (k1 : Int) (b1 : Bool) (n1 : Int) (s1 : ByteArray) (w : World) (hT : Tabs w) (h0 : s0.size ≤ 9223372036854775807) (h1 : s1.size ≤ 9223372036854775807) :
    Calls Tryd.prog 37 #[.agg #[.int .u8 k0, .bool b0, .int .i64 n0, .string s0], .agg #[.int .u8 k1, .bool b1, .int .i64 n1, .string s1]] w fun e w' => e = .returned (resV (concatS ⟨k0, b0, n0, s0⟩ ⟨k1, b1, n1, s1⟩)) ∧ Below w.heap.size w w' := by
  obtain ⟨r, hr⟩ : ∃ r, concatS ⟨k0, b0, n0, s0⟩ ⟨k1, b1, n1, s1⟩ = r := ⟨_, rfl⟩
  rw [hr]
  obtain ⟨⟨k', b', n', s'⟩, x⟩ := r
  have hxH := Lib.hid hr
  have hTH := Lib.hid hT
  have h0H := Lib.hid h0; have h1H := Lib.hid h1
  clear hr hT h0 h1
  obtain ⟨W0, hW0, hwW, hA, hB, hR, hzz⟩ := boxes2 w k0 b0 n0 s0 k1 b1 n1 s1
  have hAH := Lib.hid hA; have hBH := Lib.hid hB; have hRH := Lib.hid hR; have hz0 := Lib.hid hzz; have hwWH := Lib.hid hwW
  clear hA hB hR hzz hwW
  have hb := Below.refl W0.heap.size W0
  obtain ⟨a0_, a1_, a2_, a3_⟩ := (hAH.out.below hb).cells; obtain ⟨b0_, b1_, b2_, b3_⟩ := (hBH.out.below hb).cells; obtain ⟨r0_, r1_, r2_, r3_⟩ := (hRH.out.below hb).cells; obtain ⟨f0_, f1_, f2_, f3_⟩ := (hRH.out.below hb).free; have hz := Nat.lt_of_lt_of_le hz0.out hb.size; have hs := hb.size
  go_enter Tryd.func37, Tryd.ntmps37
  go_wp2_with (first
    | (go_at_call 78; go_must (refine (strict_con k0 b0 n0 s0 k1 b1 n1 s1 _ (by exact (hTH.out.below hwWH.out).below (by go_grown)) h0H.out h1H.out).mono ?_; rw [hxH.out, resVm]; rintro e w' ⟨rfl, hb'⟩; replace hb := chainB (B := W0.heap.size) (a := W0) (by go_grown) hb' (by have := hb.size; first | omega | (simp; done) | (simp; omega)); clear hb' a0_ a1_ a2_ a3_ b0_ b1_ b2_ b3_ r0_ r1_ r2_ r3_ f0_ f1_ f2_ f3_ hz hs; obtain ⟨a0_, a1_, a2_, a3_⟩ := (hAH.out.below hb).cells; obtain ⟨b0_, b1_, b2_, b3_⟩ := (hBH.out.below hb).cells; obtain ⟨r0_, r1_, r2_, r3_⟩ := (hRH.out.below hb).cells; obtain ⟨f0_, f1_, f2_, f3_⟩ := (hRH.out.below hb).free; have hz := Nat.lt_of_lt_of_le hz0.out hb.size; have hs := hb.size)))
  refine bodyPost_ret (v := .tuple #[.agg #[.int .u8 k', .bool b', .int .i64 n', .string s'], .int .u16 x]) (by simp [results, Tryd.results37, go_sem, r0_, r1_, r2_, r3_, hz]) rfl ⟨rfl, ?_⟩
  have hbw := hwWH.out.trans (hb.mono hwWH.out.size)
  clear hb
  go_grown

end Go.Proofs.YtlodohgoondkhaaDoor
