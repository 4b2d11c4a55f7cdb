/-
  What the document's own Length answers, at this program. Condition: the texts have at most 2^47 bytes.
-/
import Derived.Test.YtoolojfbjpnllaaDoorRefNot
import Derived.Test.YtoolojfbjpnllaaDoorLength
set_option linter.unusedVariables false
set_option linter.unusedSimpArgs false
namespace Go.Proofs.YtoolojfbjpnllaaDoor
open Go.RowKit Go.Lib

set_option maxRecDepth 100000 in
set_option maxHeartbeats 8000000 in
theorem refLength_bad (k0 : Int) (b0 : Bool) (n0 : Int) (s0 : ByteArray) (w : World) (hs0 : s0.size ≤ 140737488355328) (hf : fitsD 4 ⟨k0, b0, n0, s0⟩ = false) :
    Calls Tryd.prog 40 #[.agg #[.int .u8 k0, .bool b0, .int .i64 n0, .string s0]] w fun e w' => e = .returned (refV (lengthS ⟨k0, b0, n0, s0⟩)) ∧ Below w.heap.size w w' := by
  have hoH := Lib.hid (show ofS 4 [⟨k0, b0, n0, s0⟩] = -1 by unfold ofS; simp [List.all, hf])
  rw [refV_mk (show lengthS ⟨k0, b0, n0, s0⟩ = (⟨0, false, 0, ⟨#[]⟩⟩, 13) by unfold lengthS; rw [if_pos hf]; rfl)]
  have hs0H := Lib.hid hs0
  clear hf
  obtain ⟨W0, hW0, hwW, hA, hR, hzz⟩ := boxes1 w k0 b0 n0 s0
  have hAH := Lib.hid hA; have hRH := Lib.hid hR; have hz0 := Lib.hid hzz; have hwWH := Lib.hid hwW
  clear hA hR hzz hwW
  have hb := Below.refl W0.heap.size W0
  obtain ⟨a0_, a1_, a2_, a3_⟩ := (hAH.out.below hb).cells; obtain ⟨r0_, r1_, r2_, r3_⟩ := (hRH.out.below hb).cells; obtain ⟨f0_, f1_, f2_, f3_⟩ := (hRH.out.below hb).free; have hz := Nat.lt_of_lt_of_le hz0.out hb.size; have hs := hb.size
  go_enter Tryd.func40, Tryd.ntmps40
  go_wp2_with (first
    | (go_at_call 83; go_must (refine (refOf1 4 k0 b0 n0 s0 _ _ _ (heap_at _ _ _ (by first | rfl | simp)) hs0H.out).mono ?_; rw [hoH.out]; rintro e w' ⟨rfl, hb'⟩; replace hb := chainB (B := W0.heap.size) (a := W0) (by go_grown) hb' (by have := hb.size; first | omega | (simp; done) | (simp; omega)); clear hb' a0_ a1_ a2_ a3_ r0_ r1_ r2_ r3_ f0_ f1_ f2_ f3_ hz hs; obtain ⟨a0_, a1_, a2_, a3_⟩ := (hAH.out.below hb).cells; obtain ⟨r0_, r1_, r2_, r3_⟩ := (hRH.out.below hb).cells; obtain ⟨f0_, f1_, f2_, f3_⟩ := (hRH.out.below hb).free; have hz := Nat.lt_of_lt_of_le hz0.out hb.size; have hs := hb.size))
    | (go_at_call 66; go_must (refine (refNull_any _).mono ?_; rintro e w' ⟨rfl, hb'⟩; replace hb := chainB (B := W0.heap.size) (a := W0) (by go_grown) hb' (by have := hb.size; first | omega | (simp; done) | (simp; omega)); clear hb' a0_ a1_ a2_ a3_ r0_ r1_ r2_ r3_ f0_ f1_ f2_ f3_ hz hs; obtain ⟨a0_, a1_, a2_, a3_⟩ := (hAH.out.below hb).cells; obtain ⟨r0_, r1_, r2_, r3_⟩ := (hRH.out.below hb).cells; obtain ⟨f0_, f1_, f2_, f3_⟩ := (hRH.out.below hb).free; have hz := Nat.lt_of_lt_of_le hz0.out hb.size; have hs := hb.size)))
  refine bodyPost_ret (v := .tuple #[.agg #[.int .u8 0, .bool false, .int .i64 0, .string ⟨#[]⟩], .int .i64 13]) (by simp [results, Tryd.results40, go_sem, r0_, r1_, r2_, r3_, hz]) rfl ⟨rfl, ?_⟩
  have hbw := hwWH.out.trans (hb.mono hwWH.out.size)
  clear hb
  go_grown

set_option maxRecDepth 100000 in
set_option maxHeartbeats 8000000 in
theorem refLength_null (k0 : Int) (b0 : Bool) (n0 : Int) (s0 : ByteArray) (w : World) (hs0 : s0.size ≤ 140737488355328) (f0 : fitsD 4 ⟨k0, b0, n0, s0⟩ = true) (hn : k0 = 1) :
    Calls Tryd.prog 40 #[.agg #[.int .u8 k0, .bool b0, .int .i64 n0, .string s0]] w fun e w' => e = .returned (refV (lengthS ⟨k0, b0, n0, s0⟩)) ∧ Below w.heap.size w w' := by
  have hoH := Lib.hid (show ofS 4 [⟨k0, b0, n0, s0⟩] = 1 by unfold ofS; rw [if_pos (by simp [f0]), if_pos (by simp; exact hn)])
  rw [refV_mk (show lengthS ⟨k0, b0, n0, s0⟩ = (⟨1, false, 0, ⟨#[]⟩⟩, 0) by unfold lengthS; rw [if_neg (by simp [f0]), if_pos (show k0 = 1 from hn)]; rfl)]
  have hs0H := Lib.hid hs0
  clear f0 hn
  obtain ⟨W0, hW0, hwW, hA, hR, hzz⟩ := boxes1 w k0 b0 n0 s0
  have hAH := Lib.hid hA; have hRH := Lib.hid hR; have hz0 := Lib.hid hzz; have hwWH := Lib.hid hwW
  clear hA hR hzz hwW
  have hb := Below.refl W0.heap.size W0
  obtain ⟨a0_, a1_, a2_, a3_⟩ := (hAH.out.below hb).cells; obtain ⟨r0_, r1_, r2_, r3_⟩ := (hRH.out.below hb).cells; obtain ⟨f0_, f1_, f2_, f3_⟩ := (hRH.out.below hb).free; have hz := Nat.lt_of_lt_of_le hz0.out hb.size; have hs := hb.size
  go_enter Tryd.func40, Tryd.ntmps40
  go_wp2_with (first
    | (go_at_call 83; go_must (refine (refOf1 4 k0 b0 n0 s0 _ _ _ (heap_at _ _ _ (by first | rfl | simp)) hs0H.out).mono ?_; rw [hoH.out]; rintro e w' ⟨rfl, hb'⟩; replace hb := chainB (B := W0.heap.size) (a := W0) (by go_grown) hb' (by have := hb.size; first | omega | (simp; done) | (simp; omega)); clear hb' a0_ a1_ a2_ a3_ r0_ r1_ r2_ r3_ f0_ f1_ f2_ f3_ hz hs; obtain ⟨a0_, a1_, a2_, a3_⟩ := (hAH.out.below hb).cells; obtain ⟨r0_, r1_, r2_, r3_⟩ := (hRH.out.below hb).cells; obtain ⟨f0_, f1_, f2_, f3_⟩ := (hRH.out.below hb).free; have hz := Nat.lt_of_lt_of_le hz0.out hb.size; have hs := hb.size))
    | (go_at_call 66; go_must (refine (refNull_any _).mono ?_; rintro e w' ⟨rfl, hb'⟩; replace hb := chainB (B := W0.heap.size) (a := W0) (by go_grown) hb' (by have := hb.size; first | omega | (simp; done) | (simp; omega)); clear hb' a0_ a1_ a2_ a3_ r0_ r1_ r2_ r3_ f0_ f1_ f2_ f3_ hz hs; obtain ⟨a0_, a1_, a2_, a3_⟩ := (hAH.out.below hb).cells; obtain ⟨r0_, r1_, r2_, r3_⟩ := (hRH.out.below hb).cells; obtain ⟨f0_, f1_, f2_, f3_⟩ := (hRH.out.below hb).free; have hz := Nat.lt_of_lt_of_le hz0.out hb.size; have hs := hb.size)))
  refine bodyPost_ret (v := .tuple #[.agg #[.int .u8 1, .bool false, .int .i64 0, .string ⟨#[]⟩], .int .i64 0]) (by simp [results, Tryd.results40, go_sem, r0_, r1_, r2_, r3_, hz]) rfl ⟨rfl, ?_⟩
  have hbw := hwWH.out.trans (hb.mono hwWH.out.size)
  clear hb
  go_grown

set_option maxRecDepth 100000 in
set_option maxHeartbeats 8000000 in
theorem refLength_good (k0 : Int) (b0 : Bool) (n0 : Int) (s0 : ByteArray) (w : World) (hs0 : s0.size ≤ 140737488355328) (f0 : fitsD 4 ⟨k0, b0, n0, s0⟩ = true) (c0 : ¬ k0 = 1) (hv : runesS s0 = (runeCount s0 : Int)) :
    Calls Tryd.prog 40 #[.agg #[.int .u8 k0, .bool b0, .int .i64 n0, .string s0]] w fun e w' => e = .returned (refV (lengthS ⟨k0, b0, n0, s0⟩)) ∧ Below w.heap.size w w' := by
  have hoH := Lib.hid (show ofS 4 [⟨k0, b0, n0, s0⟩] = 0 by unfold ofS; simp [List.all, f0, c0])
  rw [refV_mk (show lengthS ⟨k0, b0, n0, s0⟩ = (⟨3, false, (runeCount s0 : Int), ⟨#[]⟩⟩, 0) by unfold lengthS; rw [if_neg (by simp [f0]), if_neg (show ¬ k0 = 1 from c0)]; rfl)]
  have hs0H := Lib.hid hs0
  have hvH := Lib.hid hv
  clear f0 c0 hv
  obtain ⟨W0, hW0, hwW, hA, hR, hzz⟩ := boxes1 w k0 b0 n0 s0
  have hAH := Lib.hid hA; have hRH := Lib.hid hR; have hz0 := Lib.hid hzz; have hwWH := Lib.hid hwW
  clear hA hR hzz hwW
  have hb := Below.refl W0.heap.size W0
  obtain ⟨a0_, a1_, a2_, a3_⟩ := (hAH.out.below hb).cells; obtain ⟨r0_, r1_, r2_, r3_⟩ := (hRH.out.below hb).cells; obtain ⟨f0_, f1_, f2_, f3_⟩ := (hRH.out.below hb).free; have hz := Nat.lt_of_lt_of_le hz0.out hb.size; have hs := hb.size
  go_enter Tryd.func40, Tryd.ntmps40
  go_wp2_with (first
    | (go_at_call 83; go_must (refine (refOf1 4 k0 b0 n0 s0 _ _ _ (heap_at _ _ _ (by first | rfl | simp)) hs0H.out).mono ?_; rw [hoH.out]; rintro e w' ⟨rfl, hb'⟩; replace hb := chainB (B := W0.heap.size) (a := W0) (by go_grown) hb' (by have := hb.size; first | omega | (simp; done) | (simp; omega)); clear hb' a0_ a1_ a2_ a3_ r0_ r1_ r2_ r3_ f0_ f1_ f2_ f3_ hz hs; obtain ⟨a0_, a1_, a2_, a3_⟩ := (hAH.out.below hb).cells; obtain ⟨r0_, r1_, r2_, r3_⟩ := (hRH.out.below hb).cells; obtain ⟨f0_, f1_, f2_, f3_⟩ := (hRH.out.below hb).free; have hz := Nat.lt_of_lt_of_le hz0.out hb.size; have hs := hb.size))
    | (go_at_call 66; go_must (refine (refNull_any _).mono ?_; rintro e w' ⟨rfl, hb'⟩; replace hb := chainB (B := W0.heap.size) (a := W0) (by go_grown) hb' (by have := hb.size; first | omega | (simp; done) | (simp; omega)); clear hb' a0_ a1_ a2_ a3_ r0_ r1_ r2_ r3_ f0_ f1_ f2_ f3_ hz hs; obtain ⟨a0_, a1_, a2_, a3_⟩ := (hAH.out.below hb).cells; obtain ⟨r0_, r1_, r2_, r3_⟩ := (hRH.out.below hb).cells; obtain ⟨f0_, f1_, f2_, f3_⟩ := (hRH.out.below hb).free; have hz := Nat.lt_of_lt_of_le hz0.out hb.size; have hs := hb.size))
    | (go_at_call 51; go_must (refine (refInt_any _ _).mono ?_; rintro e w' ⟨rfl, hb'⟩; replace hb := chainB (B := W0.heap.size) (a := W0) (by go_grown) hb' (by have := hb.size; first | omega | (simp; done) | (simp; omega)); clear hb' a0_ a1_ a2_ a3_ r0_ r1_ r2_ r3_ f0_ f1_ f2_ f3_ hz hs; obtain ⟨a0_, a1_, a2_, a3_⟩ := (hAH.out.below hb).cells; obtain ⟨r0_, r1_, r2_, r3_⟩ := (hRH.out.below hb).cells; obtain ⟨f0_, f1_, f2_, f3_⟩ := (hRH.out.below hb).free; have hz := Nat.lt_of_lt_of_le hz0.out hb.size; have hs := hb.size))
    | (go_at_call 54; go_must (refine (refRunes_any s0 _ hs0H.out).mono ?_; rw [hvH.out]; rintro e w' ⟨rfl, hb'⟩; replace hb := chainB (B := W0.heap.size) (a := W0) (by go_grown) hb' (by have := hb.size; first | omega | (simp; done) | (simp; omega)); clear hb' a0_ a1_ a2_ a3_ r0_ r1_ r2_ r3_ f0_ f1_ f2_ f3_ hz hs; obtain ⟨a0_, a1_, a2_, a3_⟩ := (hAH.out.below hb).cells; obtain ⟨r0_, r1_, r2_, r3_⟩ := (hRH.out.below hb).cells; obtain ⟨f0_, f1_, f2_, f3_⟩ := (hRH.out.below hb).free; have hz := Nat.lt_of_lt_of_le hz0.out hb.size; have hs := hb.size)))
  refine bodyPost_ret (v := .tuple #[.agg #[.int .u8 3, .bool false, .int .i64 (runeCount s0 : Int), .string ⟨#[]⟩], .int .i64 0]) (by simp [results, Tryd.results40, go_sem, r0_, r1_, r2_, r3_, hz]) rfl ⟨rfl, ?_⟩
  have hbw := hwWH.out.trans (hb.mono hwWH.out.size)
  clear hb
  go_grown

/-- Length, of every datum. -/
theorem refLength_any (k0 : Int) (b0 : Bool) (n0 : Int) (s0 : ByteArray) (w : World) (hs0 : s0.size ≤ 140737488355328) :
    Calls Tryd.prog 40 #[.agg #[.int .u8 k0, .bool b0, .int .i64 n0, .string s0]] w fun e w' => e = .returned (refV (lengthS ⟨k0, b0, n0, s0⟩)) ∧ Below w.heap.size w w' := by
  by_cases hf : fitsD 4 ⟨k0, b0, n0, s0⟩ = false
  · exact refLength_bad k0 b0 n0 s0 w hs0 hf
  have hf' : fitsD 4 ⟨k0, b0, n0, s0⟩ = true := by simpa using hf
  by_cases c0 : k0 = 1
  · exact refLength_null k0 b0 n0 s0 w hs0 hf' c0
  · refine refLength_good k0 b0 n0 s0 w hs0 hf' c0 ?_
    unfold runesS
    rw [if_pos]
    unfold fitsD at hf'
    simp only [Bool.and_eq_true] at hf'
    exact form_valid ((okD_iff _).1 hf'.1).1
end Go.Proofs.YtoolojfbjpnllaaDoor
