/-
  What the document's own And answers, at this program. Condition: the texts have at most 2^47 bytes.
-/
import Derived.Test.YtoolojfbjpnllaaDoorRefNot
set_option linter.unusedVariables false
set_option linter.unusedSimpArgs false
namespace Go.Proofs.YtoolojfbjpnllaaDoor
open Go.RowKit Go.Lib

set_option maxRecDepth 100000 in
set_option maxHeartbeats 8000000 in
theorem refAnd_bad (k0 : Int) (b0 : Bool) (n0 : Int) (s0 : ByteArray) (k1 : Int) (b1 : Bool) (n1 : Int) (s1 : ByteArray) (w : World) (hs0 : s0.size ≤ 140737488355328) (hs1 : s1.size ≤ 140737488355328) (hf : (fitsD 2 ⟨k0, b0, n0, s0⟩ && fitsD 2 ⟨k1, b1, n1, s1⟩) = false) :
    Calls Tryd.prog 47 #[.agg #[.int .u8 k0, .bool b0, .int .i64 n0, .string s0], .agg #[.int .u8 k1, .bool b1, .int .i64 n1, .string s1]] w fun e w' => e = .returned (refV (decS false ⟨k0, b0, n0, s0⟩ ⟨k1, b1, n1, s1⟩)) ∧ Below w.heap.size w w' := by
  have hoH := Lib.hid (show ofS 2 [⟨k0, b0, n0, s0⟩, ⟨k1, b1, n1, s1⟩] = -1 by unfold ofS; simp [List.all, hf])
  rw [refV_mk (show decS false ⟨k0, b0, n0, s0⟩ ⟨k1, b1, n1, s1⟩ = (zeroD, 13) by unfold decS; rw [Bool.and_eq_false_iff] at hf; rcases hf with h | h <;> by_cases g : fitsD 2 ⟨k0, b0, n0, s0⟩ = false <;> simp_all)]
  have hs0H := Lib.hid hs0; have hs1H := Lib.hid hs1
  clear hf hs0 hs1
  obtain ⟨W0, hW0, hwW, hA, hB, hR, hzz⟩ := boxes2 w k0 b0 n0 s0 k1 b1 n1 s1
  have hAH := Lib.hid hA; have hBH := Lib.hid hB; have hRH := Lib.hid hR; have hz0 := Lib.hid hzz; have hwWH := Lib.hid hwW
  clear hA hB hR hzz hwW
  have hb := Below.refl W0.heap.size W0
  obtain ⟨a0, a1, a2, a3⟩ := (hAH.out.below hb).cells; obtain ⟨b0_, b1_, b2_, b3_⟩ := (hBH.out.below hb).cells; obtain ⟨r0, r1, r2, r3⟩ := (hRH.out.below hb).cells; obtain ⟨f0, f1, f2, f3⟩ := (hRH.out.below hb).free; have hz := Nat.lt_of_lt_of_le hz0.out hb.size
  go_enter Tryd.func47, Tryd.ntmps47
  go_wp2_with (first
    | (go_at_call 83; go_must (refine (refOf2 2 k0 b0 n0 s0 k1 b1 n1 s1 _ _ _ (heap_at _ _ _ (by first | rfl | simp)) (by first | exact hs0H.out | exact hs1H.out | decide) (by first | exact hs0H.out | exact hs1H.out | decide)).mono ?_; rw [hoH.out]; rintro e w' ⟨rfl, hb'⟩; replace hb := chainB (B := W0.heap.size) (a := W0) (by go_grown) hb' (by have := hb.size; first | omega | (simp; done) | (simp; omega)); clear hb' a0 a1 a2 a3 b0_ b1_ b2_ b3_ r0 r1 r2 r3 f0 f1 f2 f3 hz; obtain ⟨a0, a1, a2, a3⟩ := (hAH.out.below hb).cells; obtain ⟨b0_, b1_, b2_, b3_⟩ := (hBH.out.below hb).cells; obtain ⟨r0, r1, r2, r3⟩ := (hRH.out.below hb).cells; obtain ⟨f0, f1, f2, f3⟩ := (hRH.out.below hb).free; have hz := Nat.lt_of_lt_of_le hz0.out hb.size))
    | (go_at_call 66; go_must (refine (refNull_any _).mono ?_; rintro e w' ⟨rfl, hb'⟩; replace hb := chainB (B := W0.heap.size) (a := W0) (by go_grown) hb' (by have := hb.size; first | omega | (simp; done) | (simp; omega)); clear hb' a0 a1 a2 a3 b0_ b1_ b2_ b3_ r0 r1 r2 r3 f0 f1 f2 f3 hz; obtain ⟨a0, a1, a2, a3⟩ := (hAH.out.below hb).cells; obtain ⟨b0_, b1_, b2_, b3_⟩ := (hBH.out.below hb).cells; obtain ⟨r0, r1, r2, r3⟩ := (hRH.out.below hb).cells; obtain ⟨f0, f1, f2, f3⟩ := (hRH.out.below hb).free; have hz := Nat.lt_of_lt_of_le hz0.out hb.size))
    | (go_at_call 67; go_must (refine (refBool_any _ _).mono ?_; rintro e w' ⟨rfl, hb'⟩; replace hb := chainB (B := W0.heap.size) (a := W0) (by go_grown) hb' (by have := hb.size; first | omega | (simp; done) | (simp; omega)); clear hb' a0 a1 a2 a3 b0_ b1_ b2_ b3_ r0 r1 r2 r3 f0 f1 f2 f3 hz; obtain ⟨a0, a1, a2, a3⟩ := (hAH.out.below hb).cells; obtain ⟨b0_, b1_, b2_, b3_⟩ := (hBH.out.below hb).cells; obtain ⟨r0, r1, r2, r3⟩ := (hRH.out.below hb).cells; obtain ⟨f0, f1, f2, f3⟩ := (hRH.out.below hb).free; have hz := Nat.lt_of_lt_of_le hz0.out hb.size)))
  refine bodyPost_ret (v := .tuple #[.agg #[.int .u8 0, .bool false, .int .i64 0, .string ⟨#[]⟩], .int .i64 13]) (by simp [results, Tryd.results47, go_sem, r0, r1, r2, r3, hz]) rfl ⟨rfl, ?_⟩
  have hbw := hwWH.out.trans (hb.mono hwWH.out.size)
  clear hb
  go_grown

set_option maxRecDepth 100000 in
set_option maxHeartbeats 8000000 in
theorem refAnd_00 (w : World) :
    Calls Tryd.prog 47 #[.agg #[.int .u8 1, .bool false, .int .i64 0, .string ⟨#[]⟩], .agg #[.int .u8 1, .bool false, .int .i64 0, .string ⟨#[]⟩]] w fun e w' => e = .returned (refV (decS false ⟨1, false, 0, ⟨#[]⟩⟩ ⟨1, false, 0, ⟨#[]⟩⟩)) ∧ Below w.heap.size w w' := by
  have hoH := Lib.hid (show ofS 2 [⟨1, false, 0, ⟨#[]⟩⟩, ⟨1, false, 0, ⟨#[]⟩⟩] = 1 from by decide)
  rw [refV_mk (show decS false ⟨1, false, 0, ⟨#[]⟩⟩ ⟨1, false, 0, ⟨#[]⟩⟩ = (⟨1, false, 0, ⟨#[]⟩⟩, 0) from rfl)]
  have hs0H := Lib.hid (show True from trivial); have hs1H := hs0H
  obtain ⟨W0, hW0, hwW, hA, hB, hR, hzz⟩ := boxes2 w 1 false 0 ⟨#[]⟩ 1 false 0 ⟨#[]⟩
  have hAH := Lib.hid hA; have hBH := Lib.hid hB; have hRH := Lib.hid hR; have hz0 := Lib.hid hzz; have hwWH := Lib.hid hwW
  clear hA hB hR hzz hwW
  have hb := Below.refl W0.heap.size W0
  obtain ⟨a0, a1, a2, a3⟩ := (hAH.out.below hb).cells; obtain ⟨b0_, b1_, b2_, b3_⟩ := (hBH.out.below hb).cells; obtain ⟨r0, r1, r2, r3⟩ := (hRH.out.below hb).cells; obtain ⟨f0, f1, f2, f3⟩ := (hRH.out.below hb).free; have hz := Nat.lt_of_lt_of_le hz0.out hb.size
  go_enter Tryd.func47, Tryd.ntmps47
  go_wp2_with (first
    | (go_at_call 83; go_must (refine (refOf2 2 1 false 0 ⟨#[]⟩ 1 false 0 ⟨#[]⟩ _ _ _ (heap_at _ _ _ (by first | rfl | simp)) (by first | exact hs0H.out | exact hs1H.out | decide) (by first | exact hs0H.out | exact hs1H.out | decide)).mono ?_; rw [hoH.out]; rintro e w' ⟨rfl, hb'⟩; replace hb := chainB (B := W0.heap.size) (a := W0) (by go_grown) hb' (by have := hb.size; first | omega | (simp; done) | (simp; omega)); clear hb' a0 a1 a2 a3 b0_ b1_ b2_ b3_ r0 r1 r2 r3 f0 f1 f2 f3 hz; obtain ⟨a0, a1, a2, a3⟩ := (hAH.out.below hb).cells; obtain ⟨b0_, b1_, b2_, b3_⟩ := (hBH.out.below hb).cells; obtain ⟨r0, r1, r2, r3⟩ := (hRH.out.below hb).cells; obtain ⟨f0, f1, f2, f3⟩ := (hRH.out.below hb).free; have hz := Nat.lt_of_lt_of_le hz0.out hb.size))
    | (go_at_call 66; go_must (refine (refNull_any _).mono ?_; rintro e w' ⟨rfl, hb'⟩; replace hb := chainB (B := W0.heap.size) (a := W0) (by go_grown) hb' (by have := hb.size; first | omega | (simp; done) | (simp; omega)); clear hb' a0 a1 a2 a3 b0_ b1_ b2_ b3_ r0 r1 r2 r3 f0 f1 f2 f3 hz; obtain ⟨a0, a1, a2, a3⟩ := (hAH.out.below hb).cells; obtain ⟨b0_, b1_, b2_, b3_⟩ := (hBH.out.below hb).cells; obtain ⟨r0, r1, r2, r3⟩ := (hRH.out.below hb).cells; obtain ⟨f0, f1, f2, f3⟩ := (hRH.out.below hb).free; have hz := Nat.lt_of_lt_of_le hz0.out hb.size))
    | (go_at_call 67; go_must (refine (refBool_any _ _).mono ?_; rintro e w' ⟨rfl, hb'⟩; replace hb := chainB (B := W0.heap.size) (a := W0) (by go_grown) hb' (by have := hb.size; first | omega | (simp; done) | (simp; omega)); clear hb' a0 a1 a2 a3 b0_ b1_ b2_ b3_ r0 r1 r2 r3 f0 f1 f2 f3 hz; obtain ⟨a0, a1, a2, a3⟩ := (hAH.out.below hb).cells; obtain ⟨b0_, b1_, b2_, b3_⟩ := (hBH.out.below hb).cells; obtain ⟨r0, r1, r2, r3⟩ := (hRH.out.below hb).cells; obtain ⟨f0, f1, f2, f3⟩ := (hRH.out.below hb).free; have hz := Nat.lt_of_lt_of_le hz0.out hb.size)))
  refine bodyPost_ret (v := .tuple #[.agg #[.int .u8 1, .bool false, .int .i64 0, .string ⟨#[]⟩], .int .i64 0]) (by simp [results, Tryd.results47, go_sem, r0, r1, r2, r3, hz]) rfl ⟨rfl, ?_⟩
  have hbw := hwWH.out.trans (hb.mono hwWH.out.size)
  clear hb
  go_grown

set_option maxRecDepth 100000 in
set_option maxHeartbeats 8000000 in
theorem refAnd_01 (w : World) :
    Calls Tryd.prog 47 #[.agg #[.int .u8 1, .bool false, .int .i64 0, .string ⟨#[]⟩], .agg #[.int .u8 2, .bool false, .int .i64 0, .string ⟨#[]⟩]] w fun e w' => e = .returned (refV (decS false ⟨1, false, 0, ⟨#[]⟩⟩ ⟨2, false, 0, ⟨#[]⟩⟩)) ∧ Below w.heap.size w w' := by
  have hoH := Lib.hid (show ofS 2 [⟨1, false, 0, ⟨#[]⟩⟩, ⟨2, false, 0, ⟨#[]⟩⟩] = 1 from by decide)
  rw [refV_mk (show decS false ⟨1, false, 0, ⟨#[]⟩⟩ ⟨2, false, 0, ⟨#[]⟩⟩ = (⟨2, false, 0, ⟨#[]⟩⟩, 0) from rfl)]
  have hs0H := Lib.hid (show True from trivial); have hs1H := hs0H
  obtain ⟨W0, hW0, hwW, hA, hB, hR, hzz⟩ := boxes2 w 1 false 0 ⟨#[]⟩ 2 false 0 ⟨#[]⟩
  have hAH := Lib.hid hA; have hBH := Lib.hid hB; have hRH := Lib.hid hR; have hz0 := Lib.hid hzz; have hwWH := Lib.hid hwW
  clear hA hB hR hzz hwW
  have hb := Below.refl W0.heap.size W0
  obtain ⟨a0, a1, a2, a3⟩ := (hAH.out.below hb).cells; obtain ⟨b0_, b1_, b2_, b3_⟩ := (hBH.out.below hb).cells; obtain ⟨r0, r1, r2, r3⟩ := (hRH.out.below hb).cells; obtain ⟨f0, f1, f2, f3⟩ := (hRH.out.below hb).free; have hz := Nat.lt_of_lt_of_le hz0.out hb.size
  go_enter Tryd.func47, Tryd.ntmps47
  go_wp2_with (first
    | (go_at_call 83; go_must (refine (refOf2 2 1 false 0 ⟨#[]⟩ 2 false 0 ⟨#[]⟩ _ _ _ (heap_at _ _ _ (by first | rfl | simp)) (by first | exact hs0H.out | exact hs1H.out | decide) (by first | exact hs0H.out | exact hs1H.out | decide)).mono ?_; rw [hoH.out]; rintro e w' ⟨rfl, hb'⟩; replace hb := chainB (B := W0.heap.size) (a := W0) (by go_grown) hb' (by have := hb.size; first | omega | (simp; done) | (simp; omega)); clear hb' a0 a1 a2 a3 b0_ b1_ b2_ b3_ r0 r1 r2 r3 f0 f1 f2 f3 hz; obtain ⟨a0, a1, a2, a3⟩ := (hAH.out.below hb).cells; obtain ⟨b0_, b1_, b2_, b3_⟩ := (hBH.out.below hb).cells; obtain ⟨r0, r1, r2, r3⟩ := (hRH.out.below hb).cells; obtain ⟨f0, f1, f2, f3⟩ := (hRH.out.below hb).free; have hz := Nat.lt_of_lt_of_le hz0.out hb.size))
    | (go_at_call 66; go_must (refine (refNull_any _).mono ?_; rintro e w' ⟨rfl, hb'⟩; replace hb := chainB (B := W0.heap.size) (a := W0) (by go_grown) hb' (by have := hb.size; first | omega | (simp; done) | (simp; omega)); clear hb' a0 a1 a2 a3 b0_ b1_ b2_ b3_ r0 r1 r2 r3 f0 f1 f2 f3 hz; obtain ⟨a0, a1, a2, a3⟩ := (hAH.out.below hb).cells; obtain ⟨b0_, b1_, b2_, b3_⟩ := (hBH.out.below hb).cells; obtain ⟨r0, r1, r2, r3⟩ := (hRH.out.below hb).cells; obtain ⟨f0, f1, f2, f3⟩ := (hRH.out.below hb).free; have hz := Nat.lt_of_lt_of_le hz0.out hb.size))
    | (go_at_call 67; go_must (refine (refBool_any _ _).mono ?_; rintro e w' ⟨rfl, hb'⟩; replace hb := chainB (B := W0.heap.size) (a := W0) (by go_grown) hb' (by have := hb.size; first | omega | (simp; done) | (simp; omega)); clear hb' a0 a1 a2 a3 b0_ b1_ b2_ b3_ r0 r1 r2 r3 f0 f1 f2 f3 hz; obtain ⟨a0, a1, a2, a3⟩ := (hAH.out.below hb).cells; obtain ⟨b0_, b1_, b2_, b3_⟩ := (hBH.out.below hb).cells; obtain ⟨r0, r1, r2, r3⟩ := (hRH.out.below hb).cells; obtain ⟨f0, f1, f2, f3⟩ := (hRH.out.below hb).free; have hz := Nat.lt_of_lt_of_le hz0.out hb.size)))
  refine bodyPost_ret (v := .tuple #[.agg #[.int .u8 2, .bool false, .int .i64 0, .string ⟨#[]⟩], .int .i64 0]) (by simp [results, Tryd.results47, go_sem, r0, r1, r2, r3, hz]) rfl ⟨rfl, ?_⟩
  have hbw := hwWH.out.trans (hb.mono hwWH.out.size)
  clear hb
  go_grown

set_option maxRecDepth 100000 in
set_option maxHeartbeats 8000000 in
theorem refAnd_02 (w : World) :
    Calls Tryd.prog 47 #[.agg #[.int .u8 1, .bool false, .int .i64 0, .string ⟨#[]⟩], .agg #[.int .u8 2, .bool true, .int .i64 0, .string ⟨#[]⟩]] w fun e w' => e = .returned (refV (decS false ⟨1, false, 0, ⟨#[]⟩⟩ ⟨2, true, 0, ⟨#[]⟩⟩)) ∧ Below w.heap.size w w' := by
  have hoH := Lib.hid (show ofS 2 [⟨1, false, 0, ⟨#[]⟩⟩, ⟨2, true, 0, ⟨#[]⟩⟩] = 1 from by decide)
  rw [refV_mk (show decS false ⟨1, false, 0, ⟨#[]⟩⟩ ⟨2, true, 0, ⟨#[]⟩⟩ = (⟨1, false, 0, ⟨#[]⟩⟩, 0) from rfl)]
  have hs0H := Lib.hid (show True from trivial); have hs1H := hs0H
  obtain ⟨W0, hW0, hwW, hA, hB, hR, hzz⟩ := boxes2 w 1 false 0 ⟨#[]⟩ 2 true 0 ⟨#[]⟩
  have hAH := Lib.hid hA; have hBH := Lib.hid hB; have hRH := Lib.hid hR; have hz0 := Lib.hid hzz; have hwWH := Lib.hid hwW
  clear hA hB hR hzz hwW
  have hb := Below.refl W0.heap.size W0
  obtain ⟨a0, a1, a2, a3⟩ := (hAH.out.below hb).cells; obtain ⟨b0_, b1_, b2_, b3_⟩ := (hBH.out.below hb).cells; obtain ⟨r0, r1, r2, r3⟩ := (hRH.out.below hb).cells; obtain ⟨f0, f1, f2, f3⟩ := (hRH.out.below hb).free; have hz := Nat.lt_of_lt_of_le hz0.out hb.size
  go_enter Tryd.func47, Tryd.ntmps47
  go_wp2_with (first
    | (go_at_call 83; go_must (refine (refOf2 2 1 false 0 ⟨#[]⟩ 2 true 0 ⟨#[]⟩ _ _ _ (heap_at _ _ _ (by first | rfl | simp)) (by first | exact hs0H.out | exact hs1H.out | decide) (by first | exact hs0H.out | exact hs1H.out | decide)).mono ?_; rw [hoH.out]; rintro e w' ⟨rfl, hb'⟩; replace hb := chainB (B := W0.heap.size) (a := W0) (by go_grown) hb' (by have := hb.size; first | omega | (simp; done) | (simp; omega)); clear hb' a0 a1 a2 a3 b0_ b1_ b2_ b3_ r0 r1 r2 r3 f0 f1 f2 f3 hz; obtain ⟨a0, a1, a2, a3⟩ := (hAH.out.below hb).cells; obtain ⟨b0_, b1_, b2_, b3_⟩ := (hBH.out.below hb).cells; obtain ⟨r0, r1, r2, r3⟩ := (hRH.out.below hb).cells; obtain ⟨f0, f1, f2, f3⟩ := (hRH.out.below hb).free; have hz := Nat.lt_of_lt_of_le hz0.out hb.size))
    | (go_at_call 66; go_must (refine (refNull_any _).mono ?_; rintro e w' ⟨rfl, hb'⟩; replace hb := chainB (B := W0.heap.size) (a := W0) (by go_grown) hb' (by have := hb.size; first | omega | (simp; done) | (simp; omega)); clear hb' a0 a1 a2 a3 b0_ b1_ b2_ b3_ r0 r1 r2 r3 f0 f1 f2 f3 hz; obtain ⟨a0, a1, a2, a3⟩ := (hAH.out.below hb).cells; obtain ⟨b0_, b1_, b2_, b3_⟩ := (hBH.out.below hb).cells; obtain ⟨r0, r1, r2, r3⟩ := (hRH.out.below hb).cells; obtain ⟨f0, f1, f2, f3⟩ := (hRH.out.below hb).free; have hz := Nat.lt_of_lt_of_le hz0.out hb.size))
    | (go_at_call 67; go_must (refine (refBool_any _ _).mono ?_; rintro e w' ⟨rfl, hb'⟩; replace hb := chainB (B := W0.heap.size) (a := W0) (by go_grown) hb' (by have := hb.size; first | omega | (simp; done) | (simp; omega)); clear hb' a0 a1 a2 a3 b0_ b1_ b2_ b3_ r0 r1 r2 r3 f0 f1 f2 f3 hz; obtain ⟨a0, a1, a2, a3⟩ := (hAH.out.below hb).cells; obtain ⟨b0_, b1_, b2_, b3_⟩ := (hBH.out.below hb).cells; obtain ⟨r0, r1, r2, r3⟩ := (hRH.out.below hb).cells; obtain ⟨f0, f1, f2, f3⟩ := (hRH.out.below hb).free; have hz := Nat.lt_of_lt_of_le hz0.out hb.size)))
  refine bodyPost_ret (v := .tuple #[.agg #[.int .u8 1, .bool false, .int .i64 0, .string ⟨#[]⟩], .int .i64 0]) (by simp [results, Tryd.results47, go_sem, r0, r1, r2, r3, hz]) rfl ⟨rfl, ?_⟩
  have hbw := hwWH.out.trans (hb.mono hwWH.out.size)
  clear hb
  go_grown

set_option maxRecDepth 100000 in
set_option maxHeartbeats 8000000 in
theorem refAnd_10 (w : World) :
    Calls Tryd.prog 47 #[.agg #[.int .u8 2, .bool false, .int .i64 0, .string ⟨#[]⟩], .agg #[.int .u8 1, .bool false, .int .i64 0, .string ⟨#[]⟩]] w fun e w' => e = .returned (refV (decS false ⟨2, false, 0, ⟨#[]⟩⟩ ⟨1, false, 0, ⟨#[]⟩⟩)) ∧ Below w.heap.size w w' := by
  have hoH := Lib.hid (show ofS 2 [⟨2, false, 0, ⟨#[]⟩⟩, ⟨1, false, 0, ⟨#[]⟩⟩] = 1 from by decide)
  rw [refV_mk (show decS false ⟨2, false, 0, ⟨#[]⟩⟩ ⟨1, false, 0, ⟨#[]⟩⟩ = (⟨2, false, 0, ⟨#[]⟩⟩, 0) from rfl)]
  have hs0H := Lib.hid (show True from trivial); have hs1H := hs0H
  obtain ⟨W0, hW0, hwW, hA, hB, hR, hzz⟩ := boxes2 w 2 false 0 ⟨#[]⟩ 1 false 0 ⟨#[]⟩
  have hAH := Lib.hid hA; have hBH := Lib.hid hB; have hRH := Lib.hid hR; have hz0 := Lib.hid hzz; have hwWH := Lib.hid hwW
  clear hA hB hR hzz hwW
  have hb := Below.refl W0.heap.size W0
  obtain ⟨a0, a1, a2, a3⟩ := (hAH.out.below hb).cells; obtain ⟨b0_, b1_, b2_, b3_⟩ := (hBH.out.below hb).cells; obtain ⟨r0, r1, r2, r3⟩ := (hRH.out.below hb).cells; obtain ⟨f0, f1, f2, f3⟩ := (hRH.out.below hb).free; have hz := Nat.lt_of_lt_of_le hz0.out hb.size
  go_enter Tryd.func47, Tryd.ntmps47
  go_wp2_with (first
    | (go_at_call 83; go_must (refine (refOf2 2 2 false 0 ⟨#[]⟩ 1 false 0 ⟨#[]⟩ _ _ _ (heap_at _ _ _ (by first | rfl | simp)) (by first | exact hs0H.out | exact hs1H.out | decide) (by first | exact hs0H.out | exact hs1H.out | decide)).mono ?_; rw [hoH.out]; rintro e w' ⟨rfl, hb'⟩; replace hb := chainB (B := W0.heap.size) (a := W0) (by go_grown) hb' (by have := hb.size; first | omega | (simp; done) | (simp; omega)); clear hb' a0 a1 a2 a3 b0_ b1_ b2_ b3_ r0 r1 r2 r3 f0 f1 f2 f3 hz; obtain ⟨a0, a1, a2, a3⟩ := (hAH.out.below hb).cells; obtain ⟨b0_, b1_, b2_, b3_⟩ := (hBH.out.below hb).cells; obtain ⟨r0, r1, r2, r3⟩ := (hRH.out.below hb).cells; obtain ⟨f0, f1, f2, f3⟩ := (hRH.out.below hb).free; have hz := Nat.lt_of_lt_of_le hz0.out hb.size))
    | (go_at_call 66; go_must (refine (refNull_any _).mono ?_; rintro e w' ⟨rfl, hb'⟩; replace hb := chainB (B := W0.heap.size) (a := W0) (by go_grown) hb' (by have := hb.size; first | omega | (simp; done) | (simp; omega)); clear hb' a0 a1 a2 a3 b0_ b1_ b2_ b3_ r0 r1 r2 r3 f0 f1 f2 f3 hz; obtain ⟨a0, a1, a2, a3⟩ := (hAH.out.below hb).cells; obtain ⟨b0_, b1_, b2_, b3_⟩ := (hBH.out.below hb).cells; obtain ⟨r0, r1, r2, r3⟩ := (hRH.out.below hb).cells; obtain ⟨f0, f1, f2, f3⟩ := (hRH.out.below hb).free; have hz := Nat.lt_of_lt_of_le hz0.out hb.size))
    | (go_at_call 67; go_must (refine (refBool_any _ _).mono ?_; rintro e w' ⟨rfl, hb'⟩; replace hb := chainB (B := W0.heap.size) (a := W0) (by go_grown) hb' (by have := hb.size; first | omega | (simp; done) | (simp; omega)); clear hb' a0 a1 a2 a3 b0_ b1_ b2_ b3_ r0 r1 r2 r3 f0 f1 f2 f3 hz; obtain ⟨a0, a1, a2, a3⟩ := (hAH.out.below hb).cells; obtain ⟨b0_, b1_, b2_, b3_⟩ := (hBH.out.below hb).cells; obtain ⟨r0, r1, r2, r3⟩ := (hRH.out.below hb).cells; obtain ⟨f0, f1, f2, f3⟩ := (hRH.out.below hb).free; have hz := Nat.lt_of_lt_of_le hz0.out hb.size)))
  refine bodyPost_ret (v := .tuple #[.agg #[.int .u8 2, .bool false, .int .i64 0, .string ⟨#[]⟩], .int .i64 0]) (by simp [results, Tryd.results47, go_sem, r0, r1, r2, r3, hz]) rfl ⟨rfl, ?_⟩
  have hbw := hwWH.out.trans (hb.mono hwWH.out.size)
  clear hb
  go_grown

set_option maxRecDepth 100000 in
set_option maxHeartbeats 8000000 in
theorem refAnd_11 (w : World) :
    Calls Tryd.prog 47 #[.agg #[.int .u8 2, .bool false, .int .i64 0, .string ⟨#[]⟩], .agg #[.int .u8 2, .bool false, .int .i64 0, .string ⟨#[]⟩]] w fun e w' => e = .returned (refV (decS false ⟨2, false, 0, ⟨#[]⟩⟩ ⟨2, false, 0, ⟨#[]⟩⟩)) ∧ Below w.heap.size w w' := by
  have hoH := Lib.hid (show ofS 2 [⟨2, false, 0, ⟨#[]⟩⟩, ⟨2, false, 0, ⟨#[]⟩⟩] = 0 from by decide)
  rw [refV_mk (show decS false ⟨2, false, 0, ⟨#[]⟩⟩ ⟨2, false, 0, ⟨#[]⟩⟩ = (⟨2, false, 0, ⟨#[]⟩⟩, 0) from rfl)]
  have hs0H := Lib.hid (show True from trivial); have hs1H := hs0H
  obtain ⟨W0, hW0, hwW, hA, hB, hR, hzz⟩ := boxes2 w 2 false 0 ⟨#[]⟩ 2 false 0 ⟨#[]⟩
  have hAH := Lib.hid hA; have hBH := Lib.hid hB; have hRH := Lib.hid hR; have hz0 := Lib.hid hzz; have hwWH := Lib.hid hwW
  clear hA hB hR hzz hwW
  have hb := Below.refl W0.heap.size W0
  obtain ⟨a0, a1, a2, a3⟩ := (hAH.out.below hb).cells; obtain ⟨b0_, b1_, b2_, b3_⟩ := (hBH.out.below hb).cells; obtain ⟨r0, r1, r2, r3⟩ := (hRH.out.below hb).cells; obtain ⟨f0, f1, f2, f3⟩ := (hRH.out.below hb).free; have hz := Nat.lt_of_lt_of_le hz0.out hb.size
  go_enter Tryd.func47, Tryd.ntmps47
  go_wp2_with (first
    | (go_at_call 83; go_must (refine (refOf2 2 2 false 0 ⟨#[]⟩ 2 false 0 ⟨#[]⟩ _ _ _ (heap_at _ _ _ (by first | rfl | simp)) (by first | exact hs0H.out | exact hs1H.out | decide) (by first | exact hs0H.out | exact hs1H.out | decide)).mono ?_; rw [hoH.out]; rintro e w' ⟨rfl, hb'⟩; replace hb := chainB (B := W0.heap.size) (a := W0) (by go_grown) hb' (by have := hb.size; first | omega | (simp; done) | (simp; omega)); clear hb' a0 a1 a2 a3 b0_ b1_ b2_ b3_ r0 r1 r2 r3 f0 f1 f2 f3 hz; obtain ⟨a0, a1, a2, a3⟩ := (hAH.out.below hb).cells; obtain ⟨b0_, b1_, b2_, b3_⟩ := (hBH.out.below hb).cells; obtain ⟨r0, r1, r2, r3⟩ := (hRH.out.below hb).cells; obtain ⟨f0, f1, f2, f3⟩ := (hRH.out.below hb).free; have hz := Nat.lt_of_lt_of_le hz0.out hb.size))
    | (go_at_call 66; go_must (refine (refNull_any _).mono ?_; rintro e w' ⟨rfl, hb'⟩; replace hb := chainB (B := W0.heap.size) (a := W0) (by go_grown) hb' (by have := hb.size; first | omega | (simp; done) | (simp; omega)); clear hb' a0 a1 a2 a3 b0_ b1_ b2_ b3_ r0 r1 r2 r3 f0 f1 f2 f3 hz; obtain ⟨a0, a1, a2, a3⟩ := (hAH.out.below hb).cells; obtain ⟨b0_, b1_, b2_, b3_⟩ := (hBH.out.below hb).cells; obtain ⟨r0, r1, r2, r3⟩ := (hRH.out.below hb).cells; obtain ⟨f0, f1, f2, f3⟩ := (hRH.out.below hb).free; have hz := Nat.lt_of_lt_of_le hz0.out hb.size))
    | (go_at_call 67; go_must (refine (refBool_any _ _).mono ?_; rintro e w' ⟨rfl, hb'⟩; replace hb := chainB (B := W0.heap.size) (a := W0) (by go_grown) hb' (by have := hb.size; first | omega | (simp; done) | (simp; omega)); clear hb' a0 a1 a2 a3 b0_ b1_ b2_ b3_ r0 r1 r2 r3 f0 f1 f2 f3 hz; obtain ⟨a0, a1, a2, a3⟩ := (hAH.out.below hb).cells; obtain ⟨b0_, b1_, b2_, b3_⟩ := (hBH.out.below hb).cells; obtain ⟨r0, r1, r2, r3⟩ := (hRH.out.below hb).cells; obtain ⟨f0, f1, f2, f3⟩ := (hRH.out.below hb).free; have hz := Nat.lt_of_lt_of_le hz0.out hb.size)))
  refine bodyPost_ret (v := .tuple #[.agg #[.int .u8 2, .bool false, .int .i64 0, .string ⟨#[]⟩], .int .i64 0]) (by simp [results, Tryd.results47, go_sem, r0, r1, r2, r3, hz]) rfl ⟨rfl, ?_⟩
  have hbw := hwWH.out.trans (hb.mono hwWH.out.size)
  clear hb
  go_grown

set_option maxRecDepth 100000 in
set_option maxHeartbeats 8000000 in
theorem refAnd_12 (w : World) :
    Calls Tryd.prog 47 #[.agg #[.int .u8 2, .bool false, .int .i64 0, .string ⟨#[]⟩], .agg #[.int .u8 2, .bool true, .int .i64 0, .string ⟨#[]⟩]] w fun e w' => e = .returned (refV (decS false ⟨2, false, 0, ⟨#[]⟩⟩ ⟨2, true, 0, ⟨#[]⟩⟩)) ∧ Below w.heap.size w w' := by
  have hoH := Lib.hid (show ofS 2 [⟨2, false, 0, ⟨#[]⟩⟩, ⟨2, true, 0, ⟨#[]⟩⟩] = 0 from by decide)
  rw [refV_mk (show decS false ⟨2, false, 0, ⟨#[]⟩⟩ ⟨2, true, 0, ⟨#[]⟩⟩ = (⟨2, false, 0, ⟨#[]⟩⟩, 0) from rfl)]
  have hs0H := Lib.hid (show True from trivial); have hs1H := hs0H
  obtain ⟨W0, hW0, hwW, hA, hB, hR, hzz⟩ := boxes2 w 2 false 0 ⟨#[]⟩ 2 true 0 ⟨#[]⟩
  have hAH := Lib.hid hA; have hBH := Lib.hid hB; have hRH := Lib.hid hR; have hz0 := Lib.hid hzz; have hwWH := Lib.hid hwW
  clear hA hB hR hzz hwW
  have hb := Below.refl W0.heap.size W0
  obtain ⟨a0, a1, a2, a3⟩ := (hAH.out.below hb).cells; obtain ⟨b0_, b1_, b2_, b3_⟩ := (hBH.out.below hb).cells; obtain ⟨r0, r1, r2, r3⟩ := (hRH.out.below hb).cells; obtain ⟨f0, f1, f2, f3⟩ := (hRH.out.below hb).free; have hz := Nat.lt_of_lt_of_le hz0.out hb.size
  go_enter Tryd.func47, Tryd.ntmps47
  go_wp2_with (first
    | (go_at_call 83; go_must (refine (refOf2 2 2 false 0 ⟨#[]⟩ 2 true 0 ⟨#[]⟩ _ _ _ (heap_at _ _ _ (by first | rfl | simp)) (by first | exact hs0H.out | exact hs1H.out | decide) (by first | exact hs0H.out | exact hs1H.out | decide)).mono ?_; rw [hoH.out]; rintro e w' ⟨rfl, hb'⟩; replace hb := chainB (B := W0.heap.size) (a := W0) (by go_grown) hb' (by have := hb.size; first | omega | (simp; done) | (simp; omega)); clear hb' a0 a1 a2 a3 b0_ b1_ b2_ b3_ r0 r1 r2 r3 f0 f1 f2 f3 hz; obtain ⟨a0, a1, a2, a3⟩ := (hAH.out.below hb).cells; obtain ⟨b0_, b1_, b2_, b3_⟩ := (hBH.out.below hb).cells; obtain ⟨r0, r1, r2, r3⟩ := (hRH.out.below hb).cells; obtain ⟨f0, f1, f2, f3⟩ := (hRH.out.below hb).free; have hz := Nat.lt_of_lt_of_le hz0.out hb.size))
    | (go_at_call 66; go_must (refine (refNull_any _).mono ?_; rintro e w' ⟨rfl, hb'⟩; replace hb := chainB (B := W0.heap.size) (a := W0) (by go_grown) hb' (by have := hb.size; first | omega | (simp; done) | (simp; omega)); clear hb' a0 a1 a2 a3 b0_ b1_ b2_ b3_ r0 r1 r2 r3 f0 f1 f2 f3 hz; obtain ⟨a0, a1, a2, a3⟩ := (hAH.out.below hb).cells; obtain ⟨b0_, b1_, b2_, b3_⟩ := (hBH.out.below hb).cells; obtain ⟨r0, r1, r2, r3⟩ := (hRH.out.below hb).cells; obtain ⟨f0, f1, f2, f3⟩ := (hRH.out.below hb).free; have hz := Nat.lt_of_lt_of_le hz0.out hb.size))
    | (go_at_call 67; go_must (refine (refBool_any _ _).mono ?_; rintro e w' ⟨rfl, hb'⟩; replace hb := chainB (B := W0.heap.size) (a := W0) (by go_grown) hb' (by have := hb.size; first | omega | (simp; done) | (simp; omega)); clear hb' a0 a1 a2 a3 b0_ b1_ b2_ b3_ r0 r1 r2 r3 f0 f1 f2 f3 hz; obtain ⟨a0, a1, a2, a3⟩ := (hAH.out.below hb).cells; obtain ⟨b0_, b1_, b2_, b3_⟩ := (hBH.out.below hb).cells; obtain ⟨r0, r1, r2, r3⟩ := (hRH.out.below hb).cells; obtain ⟨f0, f1, f2, f3⟩ := (hRH.out.below hb).free; have hz := Nat.lt_of_lt_of_le hz0.out hb.size)))
  refine bodyPost_ret (v := .tuple #[.agg #[.int .u8 2, .bool false, .int .i64 0, .string ⟨#[]⟩], .int .i64 0]) (by simp [results, Tryd.results47, go_sem, r0, r1, r2, r3, hz]) rfl ⟨rfl, ?_⟩
  have hbw := hwWH.out.trans (hb.mono hwWH.out.size)
  clear hb
  go_grown

set_option maxRecDepth 100000 in
set_option maxHeartbeats 8000000 in
theorem refAnd_20 (w : World) :
    Calls Tryd.prog 47 #[.agg #[.int .u8 2, .bool true, .int .i64 0, .string ⟨#[]⟩], .agg #[.int .u8 1, .bool false, .int .i64 0, .string ⟨#[]⟩]] w fun e w' => e = .returned (refV (decS false ⟨2, true, 0, ⟨#[]⟩⟩ ⟨1, false, 0, ⟨#[]⟩⟩)) ∧ Below w.heap.size w w' := by
  have hoH := Lib.hid (show ofS 2 [⟨2, true, 0, ⟨#[]⟩⟩, ⟨1, false, 0, ⟨#[]⟩⟩] = 1 from by decide)
  rw [refV_mk (show decS false ⟨2, true, 0, ⟨#[]⟩⟩ ⟨1, false, 0, ⟨#[]⟩⟩ = (⟨1, false, 0, ⟨#[]⟩⟩, 0) from rfl)]
  have hs0H := Lib.hid (show True from trivial); have hs1H := hs0H
  obtain ⟨W0, hW0, hwW, hA, hB, hR, hzz⟩ := boxes2 w 2 true 0 ⟨#[]⟩ 1 false 0 ⟨#[]⟩
  have hAH := Lib.hid hA; have hBH := Lib.hid hB; have hRH := Lib.hid hR; have hz0 := Lib.hid hzz; have hwWH := Lib.hid hwW
  clear hA hB hR hzz hwW
  have hb := Below.refl W0.heap.size W0
  obtain ⟨a0, a1, a2, a3⟩ := (hAH.out.below hb).cells; obtain ⟨b0_, b1_, b2_, b3_⟩ := (hBH.out.below hb).cells; obtain ⟨r0, r1, r2, r3⟩ := (hRH.out.below hb).cells; obtain ⟨f0, f1, f2, f3⟩ := (hRH.out.below hb).free; have hz := Nat.lt_of_lt_of_le hz0.out hb.size
  go_enter Tryd.func47, Tryd.ntmps47
  go_wp2_with (first
    | (go_at_call 83; go_must (refine (refOf2 2 2 true 0 ⟨#[]⟩ 1 false 0 ⟨#[]⟩ _ _ _ (heap_at _ _ _ (by first | rfl | simp)) (by first | exact hs0H.out | exact hs1H.out | decide) (by first | exact hs0H.out | exact hs1H.out | decide)).mono ?_; rw [hoH.out]; rintro e w' ⟨rfl, hb'⟩; replace hb := chainB (B := W0.heap.size) (a := W0) (by go_grown) hb' (by have := hb.size; first | omega | (simp; done) | (simp; omega)); clear hb' a0 a1 a2 a3 b0_ b1_ b2_ b3_ r0 r1 r2 r3 f0 f1 f2 f3 hz; obtain ⟨a0, a1, a2, a3⟩ := (hAH.out.below hb).cells; obtain ⟨b0_, b1_, b2_, b3_⟩ := (hBH.out.below hb).cells; obtain ⟨r0, r1, r2, r3⟩ := (hRH.out.below hb).cells; obtain ⟨f0, f1, f2, f3⟩ := (hRH.out.below hb).free; have hz := Nat.lt_of_lt_of_le hz0.out hb.size))
    | (go_at_call 66; go_must (refine (refNull_any _).mono ?_; rintro e w' ⟨rfl, hb'⟩; replace hb := chainB (B := W0.heap.size) (a := W0) (by go_grown) hb' (by have := hb.size; first | omega | (simp; done) | (simp; omega)); clear hb' a0 a1 a2 a3 b0_ b1_ b2_ b3_ r0 r1 r2 r3 f0 f1 f2 f3 hz; obtain ⟨a0, a1, a2, a3⟩ := (hAH.out.below hb).cells; obtain ⟨b0_, b1_, b2_, b3_⟩ := (hBH.out.below hb).cells; obtain ⟨r0, r1, r2, r3⟩ := (hRH.out.below hb).cells; obtain ⟨f0, f1, f2, f3⟩ := (hRH.out.below hb).free; have hz := Nat.lt_of_lt_of_le hz0.out hb.size))
    | (go_at_call 67; go_must (refine (refBool_any _ _).mono ?_; rintro e w' ⟨rfl, hb'⟩; replace hb := chainB (B := W0.heap.size) (a := W0) (by go_grown) hb' (by have := hb.size; first | omega | (simp; done) | (simp; omega)); clear hb' a0 a1 a2 a3 b0_ b1_ b2_ b3_ r0 r1 r2 r3 f0 f1 f2 f3 hz; obtain ⟨a0, a1, a2, a3⟩ := (hAH.out.below hb).cells; obtain ⟨b0_, b1_, b2_, b3_⟩ := (hBH.out.below hb).cells; obtain ⟨r0, r1, r2, r3⟩ := (hRH.out.below hb).cells; obtain ⟨f0, f1, f2, f3⟩ := (hRH.out.below hb).free; have hz := Nat.lt_of_lt_of_le hz0.out hb.size)))
  refine bodyPost_ret (v := .tuple #[.agg #[.int .u8 1, .bool false, .int .i64 0, .string ⟨#[]⟩], .int .i64 0]) (by simp [results, Tryd.results47, go_sem, r0, r1, r2, r3, hz]) rfl ⟨rfl, ?_⟩
  have hbw := hwWH.out.trans (hb.mono hwWH.out.size)
  clear hb
  go_grown

set_option maxRecDepth 100000 in
set_option maxHeartbeats 8000000 in
theorem refAnd_21 (w : World) :
    Calls Tryd.prog 47 #[.agg #[.int .u8 2, .bool true, .int .i64 0, .string ⟨#[]⟩], .agg #[.int .u8 2, .bool false, .int .i64 0, .string ⟨#[]⟩]] w fun e w' => e = .returned (refV (decS false ⟨2, true, 0, ⟨#[]⟩⟩ ⟨2, false, 0, ⟨#[]⟩⟩)) ∧ Below w.heap.size w w' := by
  have hoH := Lib.hid (show ofS 2 [⟨2, true, 0, ⟨#[]⟩⟩, ⟨2, false, 0, ⟨#[]⟩⟩] = 0 from by decide)
  rw [refV_mk (show decS false ⟨2, true, 0, ⟨#[]⟩⟩ ⟨2, false, 0, ⟨#[]⟩⟩ = (⟨2, false, 0, ⟨#[]⟩⟩, 0) from rfl)]
  have hs0H := Lib.hid (show True from trivial); have hs1H := hs0H
  obtain ⟨W0, hW0, hwW, hA, hB, hR, hzz⟩ := boxes2 w 2 true 0 ⟨#[]⟩ 2 false 0 ⟨#[]⟩
  have hAH := Lib.hid hA; have hBH := Lib.hid hB; have hRH := Lib.hid hR; have hz0 := Lib.hid hzz; have hwWH := Lib.hid hwW
  clear hA hB hR hzz hwW
  have hb := Below.refl W0.heap.size W0
  obtain ⟨a0, a1, a2, a3⟩ := (hAH.out.below hb).cells; obtain ⟨b0_, b1_, b2_, b3_⟩ := (hBH.out.below hb).cells; obtain ⟨r0, r1, r2, r3⟩ := (hRH.out.below hb).cells; obtain ⟨f0, f1, f2, f3⟩ := (hRH.out.below hb).free; have hz := Nat.lt_of_lt_of_le hz0.out hb.size
  go_enter Tryd.func47, Tryd.ntmps47
  go_wp2_with (first
    | (go_at_call 83; go_must (refine (refOf2 2 2 true 0 ⟨#[]⟩ 2 false 0 ⟨#[]⟩ _ _ _ (heap_at _ _ _ (by first | rfl | simp)) (by first | exact hs0H.out | exact hs1H.out | decide) (by first | exact hs0H.out | exact hs1H.out | decide)).mono ?_; rw [hoH.out]; rintro e w' ⟨rfl, hb'⟩; replace hb := chainB (B := W0.heap.size) (a := W0) (by go_grown) hb' (by have := hb.size; first | omega | (simp; done) | (simp; omega)); clear hb' a0 a1 a2 a3 b0_ b1_ b2_ b3_ r0 r1 r2 r3 f0 f1 f2 f3 hz; obtain ⟨a0, a1, a2, a3⟩ := (hAH.out.below hb).cells; obtain ⟨b0_, b1_, b2_, b3_⟩ := (hBH.out.below hb).cells; obtain ⟨r0, r1, r2, r3⟩ := (hRH.out.below hb).cells; obtain ⟨f0, f1, f2, f3⟩ := (hRH.out.below hb).free; have hz := Nat.lt_of_lt_of_le hz0.out hb.size))
    | (go_at_call 66; go_must (refine (refNull_any _).mono ?_; rintro e w' ⟨rfl, hb'⟩; replace hb := chainB (B := W0.heap.size) (a := W0) (by go_grown) hb' (by have := hb.size; first | omega | (simp; done) | (simp; omega)); clear hb' a0 a1 a2 a3 b0_ b1_ b2_ b3_ r0 r1 r2 r3 f0 f1 f2 f3 hz; obtain ⟨a0, a1, a2, a3⟩ := (hAH.out.below hb).cells; obtain ⟨b0_, b1_, b2_, b3_⟩ := (hBH.out.below hb).cells; obtain ⟨r0, r1, r2, r3⟩ := (hRH.out.below hb).cells; obtain ⟨f0, f1, f2, f3⟩ := (hRH.out.below hb).free; have hz := Nat.lt_of_lt_of_le hz0.out hb.size))
    | (go_at_call 67; go_must (refine (refBool_any _ _).mono ?_; rintro e w' ⟨rfl, hb'⟩; replace hb := chainB (B := W0.heap.size) (a := W0) (by go_grown) hb' (by have := hb.size; first | omega | (simp; done) | (simp; omega)); clear hb' a0 a1 a2 a3 b0_ b1_ b2_ b3_ r0 r1 r2 r3 f0 f1 f2 f3 hz; obtain ⟨a0, a1, a2, a3⟩ := (hAH.out.below hb).cells; obtain ⟨b0_, b1_, b2_, b3_⟩ := (hBH.out.below hb).cells; obtain ⟨r0, r1, r2, r3⟩ := (hRH.out.below hb).cells; obtain ⟨f0, f1, f2, f3⟩ := (hRH.out.below hb).free; have hz := Nat.lt_of_lt_of_le hz0.out hb.size)))
  refine bodyPost_ret (v := .tuple #[.agg #[.int .u8 2, .bool false, .int .i64 0, .string ⟨#[]⟩], .int .i64 0]) (by simp [results, Tryd.results47, go_sem, r0, r1, r2, r3, hz]) rfl ⟨rfl, ?_⟩
  have hbw := hwWH.out.trans (hb.mono hwWH.out.size)
  clear hb
  go_grown

set_option maxRecDepth 100000 in
set_option maxHeartbeats 8000000 in
theorem refAnd_22 (w : World) :
    Calls Tryd.prog 47 #[.agg #[.int .u8 2, .bool true, .int .i64 0, .string ⟨#[]⟩], .agg #[.int .u8 2, .bool true, .int .i64 0, .string ⟨#[]⟩]] w fun e w' => e = .returned (refV (decS false ⟨2, true, 0, ⟨#[]⟩⟩ ⟨2, true, 0, ⟨#[]⟩⟩)) ∧ Below w.heap.size w w' := by
  have hoH := Lib.hid (show ofS 2 [⟨2, true, 0, ⟨#[]⟩⟩, ⟨2, true, 0, ⟨#[]⟩⟩] = 0 from by decide)
  rw [refV_mk (show decS false ⟨2, true, 0, ⟨#[]⟩⟩ ⟨2, true, 0, ⟨#[]⟩⟩ = (⟨2, true, 0, ⟨#[]⟩⟩, 0) from rfl)]
  have hs0H := Lib.hid (show True from trivial); have hs1H := hs0H
  obtain ⟨W0, hW0, hwW, hA, hB, hR, hzz⟩ := boxes2 w 2 true 0 ⟨#[]⟩ 2 true 0 ⟨#[]⟩
  have hAH := Lib.hid hA; have hBH := Lib.hid hB; have hRH := Lib.hid hR; have hz0 := Lib.hid hzz; have hwWH := Lib.hid hwW
  clear hA hB hR hzz hwW
  have hb := Below.refl W0.heap.size W0
  obtain ⟨a0, a1, a2, a3⟩ := (hAH.out.below hb).cells; obtain ⟨b0_, b1_, b2_, b3_⟩ := (hBH.out.below hb).cells; obtain ⟨r0, r1, r2, r3⟩ := (hRH.out.below hb).cells; obtain ⟨f0, f1, f2, f3⟩ := (hRH.out.below hb).free; have hz := Nat.lt_of_lt_of_le hz0.out hb.size
  go_enter Tryd.func47, Tryd.ntmps47
  go_wp2_with (first
    | (go_at_call 83; go_must (refine (refOf2 2 2 true 0 ⟨#[]⟩ 2 true 0 ⟨#[]⟩ _ _ _ (heap_at _ _ _ (by first | rfl | simp)) (by first | exact hs0H.out | exact hs1H.out | decide) (by first | exact hs0H.out | exact hs1H.out | decide)).mono ?_; rw [hoH.out]; rintro e w' ⟨rfl, hb'⟩; replace hb := chainB (B := W0.heap.size) (a := W0) (by go_grown) hb' (by have := hb.size; first | omega | (simp; done) | (simp; omega)); clear hb' a0 a1 a2 a3 b0_ b1_ b2_ b3_ r0 r1 r2 r3 f0 f1 f2 f3 hz; obtain ⟨a0, a1, a2, a3⟩ := (hAH.out.below hb).cells; obtain ⟨b0_, b1_, b2_, b3_⟩ := (hBH.out.below hb).cells; obtain ⟨r0, r1, r2, r3⟩ := (hRH.out.below hb).cells; obtain ⟨f0, f1, f2, f3⟩ := (hRH.out.below hb).free; have hz := Nat.lt_of_lt_of_le hz0.out hb.size))
    | (go_at_call 66; go_must (refine (refNull_any _).mono ?_; rintro e w' ⟨rfl, hb'⟩; replace hb := chainB (B := W0.heap.size) (a := W0) (by go_grown) hb' (by have := hb.size; first | omega | (simp; done) | (simp; omega)); clear hb' a0 a1 a2 a3 b0_ b1_ b2_ b3_ r0 r1 r2 r3 f0 f1 f2 f3 hz; obtain ⟨a0, a1, a2, a3⟩ := (hAH.out.below hb).cells; obtain ⟨b0_, b1_, b2_, b3_⟩ := (hBH.out.below hb).cells; obtain ⟨r0, r1, r2, r3⟩ := (hRH.out.below hb).cells; obtain ⟨f0, f1, f2, f3⟩ := (hRH.out.below hb).free; have hz := Nat.lt_of_lt_of_le hz0.out hb.size))
    | (go_at_call 67; go_must (refine (refBool_any _ _).mono ?_; rintro e w' ⟨rfl, hb'⟩; replace hb := chainB (B := W0.heap.size) (a := W0) (by go_grown) hb' (by have := hb.size; first | omega | (simp; done) | (simp; omega)); clear hb' a0 a1 a2 a3 b0_ b1_ b2_ b3_ r0 r1 r2 r3 f0 f1 f2 f3 hz; obtain ⟨a0, a1, a2, a3⟩ := (hAH.out.below hb).cells; obtain ⟨b0_, b1_, b2_, b3_⟩ := (hBH.out.below hb).cells; obtain ⟨r0, r1, r2, r3⟩ := (hRH.out.below hb).cells; obtain ⟨f0, f1, f2, f3⟩ := (hRH.out.below hb).free; have hz := Nat.lt_of_lt_of_le hz0.out hb.size)))
  refine bodyPost_ret (v := .tuple #[.agg #[.int .u8 2, .bool true, .int .i64 0, .string ⟨#[]⟩], .int .i64 0]) (by simp [results, Tryd.results47, go_sem, r0, r1, r2, r3, hz]) rfl ⟨rfl, ?_⟩
  have hbw := hwWH.out.trans (hb.mono hwWH.out.size)
  clear hb
  go_grown

/-- And, of all data. -/
theorem refAnd_any (ka : Int) (ba : Bool) (na : Int) (sa : ByteArray) (kb : Int) (bb : Bool) (nb : Int) (sb : ByteArray) (w : World) (ha : sa.size ≤ 140737488355328) (hb : sb.size ≤ 140737488355328) :
    Calls Tryd.prog 47 #[.agg #[.int .u8 ka, .bool ba, .int .i64 na, .string sa], .agg #[.int .u8 kb, .bool bb, .int .i64 nb, .string sb]] w fun e w' => e = .returned (refV (decS false ⟨ka, ba, na, sa⟩ ⟨kb, bb, nb, sb⟩)) ∧ Below w.heap.size w w' := by
  by_cases f1 : (fitsD 2 ⟨ka, ba, na, sa⟩ && fitsD 2 ⟨kb, bb, nb, sb⟩) = false
  · exact refAnd_bad ka ba na sa kb bb nb sb w ha hb f1
  rw [Bool.not_eq_false, Bool.and_eq_true] at f1
  obtain ⟨t1, rfl, rfl⟩ := tri_of f1.1
  obtain ⟨t2, rfl, rfl⟩ := tri_of f1.2
  rcases t1 with ⟨rfl, rfl⟩ | rfl <;> rcases t2 with ⟨rfl, rfl⟩ | rfl
  · exact refAnd_00 w
  · cases bb
    · exact refAnd_01 w
    · exact refAnd_02 w
  · cases ba
    · exact refAnd_10 w
    · exact refAnd_20 w
  · cases ba <;> cases bb
    · exact refAnd_11 w
    · exact refAnd_12 w
    · exact refAnd_21 w
    · exact refAnd_22 w

end Go.Proofs.YtoolojfbjpnllaaDoor
