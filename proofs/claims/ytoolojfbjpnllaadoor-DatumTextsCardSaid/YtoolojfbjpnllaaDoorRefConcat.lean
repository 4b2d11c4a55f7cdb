/-
  What the document's own Concat answers, at this program. Condition: the texts have at most 2^47 bytes.
-/
import Derived.Test.YtoolojfbjpnllaaDoorRefNot
import Derived.Test.YtoolojfbjpnllaaDoorLength
set_option linter.unusedVariables false
set_option linter.unusedSimpArgs false
namespace Go.Proofs.YtoolojfbjpnllaaDoor
open Go.RowKit Go.Lib

set_option maxRecDepth 100000 in
set_option maxHeartbeats 8000000 in
theorem refConcat_bad (k0 : Int) (b0 : Bool) (n0 : Int) (s0 : ByteArray) (k1 : Int) (b1 : Bool) (n1 : Int) (s1 : ByteArray) (w : World) (hs0 : s0.size ≤ 140737488355328) (hs1 : s1.size ≤ 140737488355328) (hf : (fitsD 4 ⟨k0, b0, n0, s0⟩ && fitsD 4 ⟨k1, b1, n1, s1⟩) = false) :
    Calls Tryd.prog 39 #[.agg #[.int .u8 k0, .bool b0, .int .i64 n0, .string s0], .agg #[.int .u8 k1, .bool b1, .int .i64 n1, .string s1]] w fun e w' => e = .returned (refV (concatS ⟨k0, b0, n0, s0⟩ ⟨k1, b1, n1, s1⟩)) ∧ Below w.heap.size w w' := by
  have hoH := Lib.hid (show ofS 4 [⟨k0, b0, n0, s0⟩, ⟨k1, b1, n1, s1⟩] = -1 by unfold ofS; simp [List.all, hf])
  rw [refV_mk (show concatS ⟨k0, b0, n0, s0⟩ ⟨k1, b1, n1, s1⟩ = (⟨0, false, 0, ⟨#[]⟩⟩, 13) by unfold concatS; rw [Bool.and_eq_false_iff] at hf; rcases hf with h | h <;> by_cases g : fitsD 4 ⟨k0, b0, n0, s0⟩ = false <;> simp_all [zeroD])]
  have hs0H := Lib.hid hs0; have hs1H := Lib.hid hs1
  clear hf
  obtain ⟨W0, hW0, hwW, hA, hB, hR, hzz⟩ := boxes2 w k0 b0 n0 s0 k1 b1 n1 s1
  have hAH := Lib.hid hA; have hBH := Lib.hid hB; have hRH := Lib.hid hR; have hz0 := Lib.hid hzz; have hwWH := Lib.hid hwW
  clear hA hB hR hzz hwW
  have hb := Below.refl W0.heap.size W0
  obtain ⟨a0_, a1_, a2_, a3_⟩ := (hAH.out.below hb).cells; obtain ⟨b0_, b1_, b2_, b3_⟩ := (hBH.out.below hb).cells; obtain ⟨r0_, r1_, r2_, r3_⟩ := (hRH.out.below hb).cells; obtain ⟨f0_, f1_, f2_, f3_⟩ := (hRH.out.below hb).free; have hz := Nat.lt_of_lt_of_le hz0.out hb.size; have hs := hb.size
  go_enter Tryd.func39, Tryd.ntmps39
  go_wp2_with (first
    | (go_at_call 83; go_must (refine (refOf2 4 k0 b0 n0 s0 k1 b1 n1 s1 _ _ _ (heap_at _ _ _ (by first | rfl | simp)) hs0H.out hs1H.out).mono ?_; rw [hoH.out]; rintro e w' ⟨rfl, hb'⟩; replace hb := chainB (B := W0.heap.size) (a := W0) (by go_grown) hb' (by have := hb.size; first | omega | (simp; done) | (simp; omega)); clear hb' a0_ a1_ a2_ a3_ b0_ b1_ b2_ b3_ r0_ r1_ r2_ r3_ f0_ f1_ f2_ f3_ hz hs; obtain ⟨a0_, a1_, a2_, a3_⟩ := (hAH.out.below hb).cells; obtain ⟨b0_, b1_, b2_, b3_⟩ := (hBH.out.below hb).cells; obtain ⟨r0_, r1_, r2_, r3_⟩ := (hRH.out.below hb).cells; obtain ⟨f0_, f1_, f2_, f3_⟩ := (hRH.out.below hb).free; have hz := Nat.lt_of_lt_of_le hz0.out hb.size; have hs := hb.size))
    | (go_at_call 66; go_must (refine (refNull_any _).mono ?_; rintro e w' ⟨rfl, hb'⟩; replace hb := chainB (B := W0.heap.size) (a := W0) (by go_grown) hb' (by have := hb.size; first | omega | (simp; done) | (simp; omega)); clear hb' a0_ a1_ a2_ a3_ b0_ b1_ b2_ b3_ r0_ r1_ r2_ r3_ f0_ f1_ f2_ f3_ hz hs; obtain ⟨a0_, a1_, a2_, a3_⟩ := (hAH.out.below hb).cells; obtain ⟨b0_, b1_, b2_, b3_⟩ := (hBH.out.below hb).cells; obtain ⟨r0_, r1_, r2_, r3_⟩ := (hRH.out.below hb).cells; obtain ⟨f0_, f1_, f2_, f3_⟩ := (hRH.out.below hb).free; have hz := Nat.lt_of_lt_of_le hz0.out hb.size; have hs := hb.size)))
  refine bodyPost_ret (v := .tuple #[.agg #[.int .u8 0, .bool false, .int .i64 0, .string ⟨#[]⟩], .int .i64 13]) (by simp [results, Tryd.results39, go_sem, r0_, r1_, r2_, r3_, hz]) rfl ⟨rfl, ?_⟩
  have hbw := hwWH.out.trans (hb.mono hwWH.out.size)
  clear hb
  go_grown

set_option maxRecDepth 100000 in
set_option maxHeartbeats 8000000 in
theorem refConcat_null (k0 : Int) (b0 : Bool) (n0 : Int) (s0 : ByteArray) (k1 : Int) (b1 : Bool) (n1 : Int) (s1 : ByteArray) (w : World) (hs0 : s0.size ≤ 140737488355328) (hs1 : s1.size ≤ 140737488355328) (f0 : fitsD 4 ⟨k0, b0, n0, s0⟩ = true) (f1 : fitsD 4 ⟨k1, b1, n1, s1⟩ = true) (hn : k0 = 1 ∨ k1 = 1) :
    Calls Tryd.prog 39 #[.agg #[.int .u8 k0, .bool b0, .int .i64 n0, .string s0], .agg #[.int .u8 k1, .bool b1, .int .i64 n1, .string s1]] w fun e w' => e = .returned (refV (concatS ⟨k0, b0, n0, s0⟩ ⟨k1, b1, n1, s1⟩)) ∧ Below w.heap.size w w' := by
  have hoH := Lib.hid (show ofS 4 [⟨k0, b0, n0, s0⟩, ⟨k1, b1, n1, s1⟩] = 1 by unfold ofS; rw [if_pos (by simp [f0, f1]), if_pos (by simp; exact hn)])
  rw [refV_mk (show concatS ⟨k0, b0, n0, s0⟩ ⟨k1, b1, n1, s1⟩ = (⟨1, false, 0, ⟨#[]⟩⟩, 0) by unfold concatS; rcases hn with h | h <;> by_cases g : k0 = 1 <;> simp_all [nullD])]
  have hs0H := Lib.hid hs0; have hs1H := Lib.hid hs1
  clear f0 f1 hn
  obtain ⟨W0, hW0, hwW, hA, hB, hR, hzz⟩ := boxes2 w k0 b0 n0 s0 k1 b1 n1 s1
  have hAH := Lib.hid hA; have hBH := Lib.hid hB; have hRH := Lib.hid hR; have hz0 := Lib.hid hzz; have hwWH := Lib.hid hwW
  clear hA hB hR hzz hwW
  have hb := Below.refl W0.heap.size W0
  obtain ⟨a0_, a1_, a2_, a3_⟩ := (hAH.out.below hb).cells; obtain ⟨b0_, b1_, b2_, b3_⟩ := (hBH.out.below hb).cells; obtain ⟨r0_, r1_, r2_, r3_⟩ := (hRH.out.below hb).cells; obtain ⟨f0_, f1_, f2_, f3_⟩ := (hRH.out.below hb).free; have hz := Nat.lt_of_lt_of_le hz0.out hb.size; have hs := hb.size
  go_enter Tryd.func39, Tryd.ntmps39
  go_wp2_with (first
    | (go_at_call 83; go_must (refine (refOf2 4 k0 b0 n0 s0 k1 b1 n1 s1 _ _ _ (heap_at _ _ _ (by first | rfl | simp)) hs0H.out hs1H.out).mono ?_; rw [hoH.out]; rintro e w' ⟨rfl, hb'⟩; replace hb := chainB (B := W0.heap.size) (a := W0) (by go_grown) hb' (by have := hb.size; first | omega | (simp; done) | (simp; omega)); clear hb' a0_ a1_ a2_ a3_ b0_ b1_ b2_ b3_ r0_ r1_ r2_ r3_ f0_ f1_ f2_ f3_ hz hs; obtain ⟨a0_, a1_, a2_, a3_⟩ := (hAH.out.below hb).cells; obtain ⟨b0_, b1_, b2_, b3_⟩ := (hBH.out.below hb).cells; obtain ⟨r0_, r1_, r2_, r3_⟩ := (hRH.out.below hb).cells; obtain ⟨f0_, f1_, f2_, f3_⟩ := (hRH.out.below hb).free; have hz := Nat.lt_of_lt_of_le hz0.out hb.size; have hs := hb.size))
    | (go_at_call 66; go_must (refine (refNull_any _).mono ?_; rintro e w' ⟨rfl, hb'⟩; replace hb := chainB (B := W0.heap.size) (a := W0) (by go_grown) hb' (by have := hb.size; first | omega | (simp; done) | (simp; omega)); clear hb' a0_ a1_ a2_ a3_ b0_ b1_ b2_ b3_ r0_ r1_ r2_ r3_ f0_ f1_ f2_ f3_ hz hs; obtain ⟨a0_, a1_, a2_, a3_⟩ := (hAH.out.below hb).cells; obtain ⟨b0_, b1_, b2_, b3_⟩ := (hBH.out.below hb).cells; obtain ⟨r0_, r1_, r2_, r3_⟩ := (hRH.out.below hb).cells; obtain ⟨f0_, f1_, f2_, f3_⟩ := (hRH.out.below hb).free; have hz := Nat.lt_of_lt_of_le hz0.out hb.size; have hs := hb.size)))
  refine bodyPost_ret (v := .tuple #[.agg #[.int .u8 1, .bool false, .int .i64 0, .string ⟨#[]⟩], .int .i64 0]) (by simp [results, Tryd.results39, go_sem, r0_, r1_, r2_, r3_, hz]) rfl ⟨rfl, ?_⟩
  have hbw := hwWH.out.trans (hb.mono hwWH.out.size)
  clear hb
  go_grown

set_option maxRecDepth 100000 in
set_option maxHeartbeats 8000000 in
theorem refConcat_long (k0 : Int) (b0 : Bool) (n0 : Int) (s0 : ByteArray) (k1 : Int) (b1 : Bool) (n1 : Int) (s1 : ByteArray) (w : World) (hs0 : s0.size ≤ 140737488355328) (hs1 : s1.size ≤ 140737488355328) (f0 : fitsD 4 ⟨k0, b0, n0, s0⟩ = true) (f1 : fitsD 4 ⟨k1, b1, n1, s1⟩ = true) (c0 : ¬ k0 = 1) (c1 : ¬ k1 = 1) (hl : 1000 < s0.size + s1.size) :
    Calls Tryd.prog 39 #[.agg #[.int .u8 k0, .bool b0, .int .i64 n0, .string s0], .agg #[.int .u8 k1, .bool b1, .int .i64 n1, .string s1]] w fun e w' => e = .returned (refV (concatS ⟨k0, b0, n0, s0⟩ ⟨k1, b1, n1, s1⟩)) ∧ Below w.heap.size w w' := by
  have hoH := Lib.hid (show ofS 4 [⟨k0, b0, n0, s0⟩, ⟨k1, b1, n1, s1⟩] = 0 by unfold ofS; simp [List.all, f0, f1, c0, c1])
  rw [refV_mk (show concatS ⟨k0, b0, n0, s0⟩ ⟨k1, b1, n1, s1⟩ = (⟨0, false, 0, ⟨#[]⟩⟩, 12) by unfold concatS; simp [f0, f1, c0, c1, hl, zeroD])]
  have hs0H := Lib.hid hs0; have hs1H := Lib.hid hs1
  have hg : ((s0.size : Int) + s1.size > 1000) := by omega
  clear f0 f1 c0 c1
  obtain ⟨W0, hW0, hwW, hA, hB, hR, hzz⟩ := boxes2 w k0 b0 n0 s0 k1 b1 n1 s1
  have hAH := Lib.hid hA; have hBH := Lib.hid hB; have hRH := Lib.hid hR; have hz0 := Lib.hid hzz; have hwWH := Lib.hid hwW
  clear hA hB hR hzz hwW
  have hb := Below.refl W0.heap.size W0
  obtain ⟨a0_, a1_, a2_, a3_⟩ := (hAH.out.below hb).cells; obtain ⟨b0_, b1_, b2_, b3_⟩ := (hBH.out.below hb).cells; obtain ⟨r0_, r1_, r2_, r3_⟩ := (hRH.out.below hb).cells; obtain ⟨f0_, f1_, f2_, f3_⟩ := (hRH.out.below hb).free; have hz := Nat.lt_of_lt_of_le hz0.out hb.size; have hs := hb.size
  go_enter Tryd.func39, Tryd.ntmps39
  go_wp2_with (first
    | (go_at_call 83; go_must (refine (refOf2 4 k0 b0 n0 s0 k1 b1 n1 s1 _ _ _ (heap_at _ _ _ (by first | rfl | simp)) hs0H.out hs1H.out).mono ?_; rw [hoH.out]; rintro e w' ⟨rfl, hb'⟩; replace hb := chainB (B := W0.heap.size) (a := W0) (by go_grown) hb' (by have := hb.size; first | omega | (simp; done) | (simp; omega)); clear hb' a0_ a1_ a2_ a3_ b0_ b1_ b2_ b3_ r0_ r1_ r2_ r3_ f0_ f1_ f2_ f3_ hz hs; obtain ⟨a0_, a1_, a2_, a3_⟩ := (hAH.out.below hb).cells; obtain ⟨b0_, b1_, b2_, b3_⟩ := (hBH.out.below hb).cells; obtain ⟨r0_, r1_, r2_, r3_⟩ := (hRH.out.below hb).cells; obtain ⟨f0_, f1_, f2_, f3_⟩ := (hRH.out.below hb).free; have hz := Nat.lt_of_lt_of_le hz0.out hb.size; have hs := hb.size))
    | (go_at_call 66; go_must (refine (refNull_any _).mono ?_; rintro e w' ⟨rfl, hb'⟩; replace hb := chainB (B := W0.heap.size) (a := W0) (by go_grown) hb' (by have := hb.size; first | omega | (simp; done) | (simp; omega)); clear hb' a0_ a1_ a2_ a3_ b0_ b1_ b2_ b3_ r0_ r1_ r2_ r3_ f0_ f1_ f2_ f3_ hz hs; obtain ⟨a0_, a1_, a2_, a3_⟩ := (hAH.out.below hb).cells; obtain ⟨b0_, b1_, b2_, b3_⟩ := (hBH.out.below hb).cells; obtain ⟨r0_, r1_, r2_, r3_⟩ := (hRH.out.below hb).cells; obtain ⟨f0_, f1_, f2_, f3_⟩ := (hRH.out.below hb).free; have hz := Nat.lt_of_lt_of_le hz0.out hb.size; have hs := hb.size)))
  refine bodyPost_ret (v := .tuple #[.agg #[.int .u8 0, .bool false, .int .i64 0, .string ⟨#[]⟩], .int .i64 12]) (by simp [results, Tryd.results39, go_sem, r0_, r1_, r2_, r3_, hz]) rfl ⟨rfl, ?_⟩
  have hbw := hwWH.out.trans (hb.mono hwWH.out.size)
  clear hb
  go_grown

set_option maxRecDepth 100000 in
set_option maxHeartbeats 8000000 in
theorem refConcat_good (k0 : Int) (b0 : Bool) (n0 : Int) (s0 : ByteArray) (k1 : Int) (b1 : Bool) (n1 : Int) (s1 : ByteArray) (w : World) (hs0 : s0.size ≤ 140737488355328) (hs1 : s1.size ≤ 140737488355328) (f0 : fitsD 4 ⟨k0, b0, n0, s0⟩ = true) (f1 : fitsD 4 ⟨k1, b1, n1, s1⟩ = true) (c0 : ¬ k0 = 1) (c1 : ¬ k1 = 1) (hl : s0.size + s1.size ≤ 1000) :
    Calls Tryd.prog 39 #[.agg #[.int .u8 k0, .bool b0, .int .i64 n0, .string s0], .agg #[.int .u8 k1, .bool b1, .int .i64 n1, .string s1]] w fun e w' => e = .returned (refV (concatS ⟨k0, b0, n0, s0⟩ ⟨k1, b1, n1, s1⟩)) ∧ Below w.heap.size w w' := by
  have hoH := Lib.hid (show ofS 4 [⟨k0, b0, n0, s0⟩, ⟨k1, b1, n1, s1⟩] = 0 by unfold ofS; simp [List.all, f0, f1, c0, c1])
  rw [refV_mk (show concatS ⟨k0, b0, n0, s0⟩ ⟨k1, b1, n1, s1⟩ = (⟨4, false, 0, s0 ++ s1⟩, 0) by unfold concatS; rw [if_neg (by simp [f0]), if_neg (by simp [f1]), if_neg (show ¬ k0 = 1 from c0), if_neg (show ¬ k1 = 1 from c1), if_neg (by simp; omega), catS_append]; rfl)]
  have hs0H := Lib.hid hs0; have hs1H := Lib.hid hs1
  have hg : ¬ ((s0.size : Int) + s1.size > 1000) := by omega
  clear f0 f1 c0 c1
  obtain ⟨W0, hW0, hwW, hA, hB, hR, hzz⟩ := boxes2 w k0 b0 n0 s0 k1 b1 n1 s1
  have hAH := Lib.hid hA; have hBH := Lib.hid hB; have hRH := Lib.hid hR; have hz0 := Lib.hid hzz; have hwWH := Lib.hid hwW
  clear hA hB hR hzz hwW
  have hb := Below.refl W0.heap.size W0
  obtain ⟨a0_, a1_, a2_, a3_⟩ := (hAH.out.below hb).cells; obtain ⟨b0_, b1_, b2_, b3_⟩ := (hBH.out.below hb).cells; obtain ⟨r0_, r1_, r2_, r3_⟩ := (hRH.out.below hb).cells; obtain ⟨f0_, f1_, f2_, f3_⟩ := (hRH.out.below hb).free; have hz := Nat.lt_of_lt_of_le hz0.out hb.size; have hs := hb.size
  go_enter Tryd.func39, Tryd.ntmps39
  go_wp2_with (first
    | (go_at_call 83; go_must (refine (refOf2 4 k0 b0 n0 s0 k1 b1 n1 s1 _ _ _ (heap_at _ _ _ (by first | rfl | simp)) hs0H.out hs1H.out).mono ?_; rw [hoH.out]; rintro e w' ⟨rfl, hb'⟩; replace hb := chainB (B := W0.heap.size) (a := W0) (by go_grown) hb' (by have := hb.size; first | omega | (simp; done) | (simp; omega)); clear hb' a0_ a1_ a2_ a3_ b0_ b1_ b2_ b3_ r0_ r1_ r2_ r3_ f0_ f1_ f2_ f3_ hz hs; obtain ⟨a0_, a1_, a2_, a3_⟩ := (hAH.out.below hb).cells; obtain ⟨b0_, b1_, b2_, b3_⟩ := (hBH.out.below hb).cells; obtain ⟨r0_, r1_, r2_, r3_⟩ := (hRH.out.below hb).cells; obtain ⟨f0_, f1_, f2_, f3_⟩ := (hRH.out.below hb).free; have hz := Nat.lt_of_lt_of_le hz0.out hb.size; have hs := hb.size))
    | (go_at_call 66; go_must (refine (refNull_any _).mono ?_; rintro e w' ⟨rfl, hb'⟩; replace hb := chainB (B := W0.heap.size) (a := W0) (by go_grown) hb' (by have := hb.size; first | omega | (simp; done) | (simp; omega)); clear hb' a0_ a1_ a2_ a3_ b0_ b1_ b2_ b3_ r0_ r1_ r2_ r3_ f0_ f1_ f2_ f3_ hz hs; obtain ⟨a0_, a1_, a2_, a3_⟩ := (hAH.out.below hb).cells; obtain ⟨b0_, b1_, b2_, b3_⟩ := (hBH.out.below hb).cells; obtain ⟨r0_, r1_, r2_, r3_⟩ := (hRH.out.below hb).cells; obtain ⟨f0_, f1_, f2_, f3_⟩ := (hRH.out.below hb).free; have hz := Nat.lt_of_lt_of_le hz0.out hb.size; have hs := hb.size))
    | (go_at_call 52; go_must (refine (refText_any _ _).mono ?_; rintro e w' ⟨rfl, hb'⟩; replace hb := chainB (B := W0.heap.size) (a := W0) (by go_grown) hb' (by have := hb.size; first | omega | (simp; done) | (simp; omega)); clear hb' a0_ a1_ a2_ a3_ b0_ b1_ b2_ b3_ r0_ r1_ r2_ r3_ f0_ f1_ f2_ f3_ hz hs; obtain ⟨a0_, a1_, a2_, a3_⟩ := (hAH.out.below hb).cells; obtain ⟨b0_, b1_, b2_, b3_⟩ := (hBH.out.below hb).cells; obtain ⟨r0_, r1_, r2_, r3_⟩ := (hRH.out.below hb).cells; obtain ⟨f0_, f1_, f2_, f3_⟩ := (hRH.out.below hb).free; have hz := Nat.lt_of_lt_of_le hz0.out hb.size; have hs := hb.size)))
  refine bodyPost_ret (v := .tuple #[.agg #[.int .u8 4, .bool false, .int .i64 0, .string (s0 ++ s1)], .int .i64 0]) (by simp [results, Tryd.results39, go_sem, r0_, r1_, r2_, r3_, hz]) rfl ⟨rfl, ?_⟩
  have hbw := hwWH.out.trans (hb.mono hwWH.out.size)
  clear hb
  go_grown

/-- Concat, of all data. -/
theorem refConcat_any (k0 : Int) (b0 : Bool) (n0 : Int) (s0 : ByteArray) (k1 : Int) (b1 : Bool) (n1 : Int) (s1 : ByteArray) (w : World) (hs0 : s0.size ≤ 140737488355328) (hs1 : s1.size ≤ 140737488355328) :
    Calls Tryd.prog 39 #[.agg #[.int .u8 k0, .bool b0, .int .i64 n0, .string s0], .agg #[.int .u8 k1, .bool b1, .int .i64 n1, .string s1]] w fun e w' => e = .returned (refV (concatS ⟨k0, b0, n0, s0⟩ ⟨k1, b1, n1, s1⟩)) ∧ Below w.heap.size w w' := by
  by_cases hf : (fitsD 4 ⟨k0, b0, n0, s0⟩ && fitsD 4 ⟨k1, b1, n1, s1⟩) = false
  · exact refConcat_bad k0 b0 n0 s0 k1 b1 n1 s1 w hs0 hs1 hf
  rw [Bool.not_eq_false, Bool.and_eq_true] at hf
  by_cases c0 : k0 = 1
  · exact refConcat_null k0 b0 n0 s0 k1 b1 n1 s1 w hs0 hs1 hf.1 hf.2 (.inl c0)
  by_cases c1 : k1 = 1
  · exact refConcat_null k0 b0 n0 s0 k1 b1 n1 s1 w hs0 hs1 hf.1 hf.2 (.inr c1)
  by_cases hl : 1000 < s0.size + s1.size
  · exact refConcat_long k0 b0 n0 s0 k1 b1 n1 s1 w hs0 hs1 hf.1 hf.2 c0 c1 hl
  · exact refConcat_good k0 b0 n0 s0 k1 b1 n1 s1 w hs0 hs1 hf.1 hf.2 c0 c1 (by omega)
end Go.Proofs.YtoolojfbjpnllaaDoor
