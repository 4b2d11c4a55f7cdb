/-
  What datum.decide (And and Or) answers, at this program, at nulls and booleans: part d. Condition: the tables of Go's library lie as their initialisers lay them.
-/
import Derived.Test.YtlodohgoondkhaaDoorLogic
set_option linter.unusedVariables false
set_option linter.unusedSimpArgs false
namespace Go.Proofs.YtlodohgoondkhaaDoor
open Go.RowKit Go.Lib

set_option maxHeartbeats 4000000 in
theorem decide_dn_true (w : World) (hT : Tabs w) :
    Calls Tryd.prog 89 #[.agg #[.int .u8 2, .bool (true), .int .i64 0, .string ⟨#[]⟩], .agg #[.int .u8 1, .bool (false), .int .i64 0, .string ⟨#[]⟩], .bool true] w
      fun e w' => e = .returned (.tuple #[.agg #[.int .u8 2, .bool (true), .int .i64 0, .string ⟨#[]⟩], .int .u16 0]) ∧ Below w.heap.size w w' := by
  obtain ⟨W0, hW0, hwW, hA, hB, hR, hzz⟩ := boxes2 w 2 (true) 0 ⟨#[]⟩ 1 (false) 0 ⟨#[]⟩
  have hTH := Lib.hid (hT.below hwW)
  have hAH := Lib.hid hA; have hBH := Lib.hid hB; have hRH := Lib.hid hR; have hz0 := Lib.hid hzz; have hwWH := Lib.hid hwW
  clear hT hA hB hR hzz hwW
  have g1 : fitsD 2 ⟨2, true, 0, ⟨#[]⟩⟩ = true := by decide
  have g2 : fitsD 2 ⟨1, false, 0, ⟨#[]⟩⟩ = true := by decide
  have hb := Below.refl W0.heap.size W0
  obtain ⟨a0, a1, a2, a3⟩ := (hAH.out.below hb).cells; obtain ⟨b0, b1, b2, b3⟩ := (hBH.out.below hb).cells; obtain ⟨r0, r1, r2, r3⟩ := (hRH.out.below hb).cells; obtain ⟨f0, f1, f2, f3⟩ := (hRH.out.below hb).free; have hz := Nat.lt_of_lt_of_le hz0.out hb.size
  go_enter Tryd.func89, Tryd.ntmps89
  go_wp2_with ((go_at_call 108; go_must (refine (fits_any _ _ _ _ _ _ (by exact hTH.out.below hb) (by decide)).mono ?_; rintro e w' ⟨rfl, hb'⟩; replace hb := chainB hb hb' hb.size; clear hb' a0 a1 a2 a3 b0 b1 b2 b3 r0 r1 r2 r3 f0 f1 f2 f3 hz; obtain ⟨a0, a1, a2, a3⟩ := (hAH.out.below hb).cells; obtain ⟨b0, b1, b2, b3⟩ := (hBH.out.below hb).cells; obtain ⟨r0, r1, r2, r3⟩ := (hRH.out.below hb).cells; obtain ⟨f0, f1, f2, f3⟩ := (hRH.out.below hb).free; have hz := Nat.lt_of_lt_of_le hz0.out hb.size)))
  first | (go_region_with ((go_at_call 86; go_must (refine (boolean_any _ _).mono ?_; rintro e w' ⟨rfl, hb'⟩; replace hb := chainB (B := W0.heap.size) (a := W0) (by go_grown) hb' (by have := hb.size; simp; omega); clear hb' a0 a1 a2 a3 b0 b1 b2 b3 r0 r1 r2 r3 f0 f1 f2 f3 hz; obtain ⟨a0, a1, a2, a3⟩ := (hAH.out.below hb).cells; obtain ⟨b0, b1, b2, b3⟩ := (hBH.out.below hb).cells; obtain ⟨r0, r1, r2, r3⟩ := (hRH.out.below hb).cells; obtain ⟨f0, f1, f2, f3⟩ := (hRH.out.below hb).free; have hz := Nat.lt_of_lt_of_le hz0.out hb.size)))) | fail
  all_goals
    go_wp2_with (first | (go_at_call 86; go_must (refine (boolean_any _ _).mono ?_; rintro e w' ⟨rfl, hb'⟩; replace hb := chainB hb hb' hb.size; clear hb' a0 a1 a2 a3 b0 b1 b2 b3 r0 r1 r2 r3 f0 f1 f2 f3 hz; obtain ⟨a0, a1, a2, a3⟩ := (hAH.out.below hb).cells; obtain ⟨b0, b1, b2, b3⟩ := (hBH.out.below hb).cells; obtain ⟨r0, r1, r2, r3⟩ := (hRH.out.below hb).cells; obtain ⟨f0, f1, f2, f3⟩ := (hRH.out.below hb).free; have hz := Nat.lt_of_lt_of_le hz0.out hb.size)) | (go_at_call 84; go_must (refine (isNull_any _ _ _ _ _).mono ?_; rintro e w' ⟨rfl, hb'⟩; replace hb := chainB hb hb' hb.size; clear hb' a0 a1 a2 a3 b0 b1 b2 b3 r0 r1 r2 r3 f0 f1 f2 f3 hz; obtain ⟨a0, a1, a2, a3⟩ := (hAH.out.below hb).cells; obtain ⟨b0, b1, b2, b3⟩ := (hBH.out.below hb).cells; obtain ⟨r0, r1, r2, r3⟩ := (hRH.out.below hb).cells; obtain ⟨f0, f1, f2, f3⟩ := (hRH.out.below hb).free; have hz := Nat.lt_of_lt_of_le hz0.out hb.size)) | (go_at_call 102; go_must (refine (null_any _).mono ?_; rintro e w' ⟨rfl, hb'⟩; replace hb := chainB hb hb' hb.size; clear hb' a0 a1 a2 a3 b0 b1 b2 b3 r0 r1 r2 r3 f0 f1 f2 f3 hz; obtain ⟨a0, a1, a2, a3⟩ := (hAH.out.below hb).cells; obtain ⟨b0, b1, b2, b3⟩ := (hBH.out.below hb).cells; obtain ⟨r0, r1, r2, r3⟩ := (hRH.out.below hb).cells; obtain ⟨f0, f1, f2, f3⟩ := (hRH.out.below hb).free; have hz := Nat.lt_of_lt_of_le hz0.out hb.size)))
    refine bodyPost_ret (v := .tuple #[.agg #[.int .u8 2, .bool (true), .int .i64 0, .string ⟨#[]⟩], .int .u16 0]) (by simp [results, Tryd.results89, go_sem, r0, r1, r2, r3, hz]) rfl ⟨rfl, ?_⟩
    have hbw := hwWH.out.trans (hb.mono hwWH.out.size)
    clear hb
    go_grown

set_option maxHeartbeats 4000000 in
theorem decide_dn_false (w : World) (hT : Tabs w) :
    Calls Tryd.prog 89 #[.agg #[.int .u8 2, .bool (false), .int .i64 0, .string ⟨#[]⟩], .agg #[.int .u8 1, .bool (false), .int .i64 0, .string ⟨#[]⟩], .bool false] w
      fun e w' => e = .returned (.tuple #[.agg #[.int .u8 2, .bool (false), .int .i64 0, .string ⟨#[]⟩], .int .u16 0]) ∧ Below w.heap.size w w' := by
  obtain ⟨W0, hW0, hwW, hA, hB, hR, hzz⟩ := boxes2 w 2 (false) 0 ⟨#[]⟩ 1 (false) 0 ⟨#[]⟩
  have hTH := Lib.hid (hT.below hwW)
  have hAH := Lib.hid hA; have hBH := Lib.hid hB; have hRH := Lib.hid hR; have hz0 := Lib.hid hzz; have hwWH := Lib.hid hwW
  clear hT hA hB hR hzz hwW
  have g1 : fitsD 2 ⟨2, false, 0, ⟨#[]⟩⟩ = true := by decide
  have g2 : fitsD 2 ⟨1, false, 0, ⟨#[]⟩⟩ = true := by decide
  have hb := Below.refl W0.heap.size W0
  obtain ⟨a0, a1, a2, a3⟩ := (hAH.out.below hb).cells; obtain ⟨b0, b1, b2, b3⟩ := (hBH.out.below hb).cells; obtain ⟨r0, r1, r2, r3⟩ := (hRH.out.below hb).cells; obtain ⟨f0, f1, f2, f3⟩ := (hRH.out.below hb).free; have hz := Nat.lt_of_lt_of_le hz0.out hb.size
  go_enter Tryd.func89, Tryd.ntmps89
  go_wp2_with ((go_at_call 108; go_must (refine (fits_any _ _ _ _ _ _ (by exact hTH.out.below hb) (by decide)).mono ?_; rintro e w' ⟨rfl, hb'⟩; replace hb := chainB hb hb' hb.size; clear hb' a0 a1 a2 a3 b0 b1 b2 b3 r0 r1 r2 r3 f0 f1 f2 f3 hz; obtain ⟨a0, a1, a2, a3⟩ := (hAH.out.below hb).cells; obtain ⟨b0, b1, b2, b3⟩ := (hBH.out.below hb).cells; obtain ⟨r0, r1, r2, r3⟩ := (hRH.out.below hb).cells; obtain ⟨f0, f1, f2, f3⟩ := (hRH.out.below hb).free; have hz := Nat.lt_of_lt_of_le hz0.out hb.size)))
  first | (go_region_with ((go_at_call 86; go_must (refine (boolean_any _ _).mono ?_; rintro e w' ⟨rfl, hb'⟩; replace hb := chainB (B := W0.heap.size) (a := W0) (by go_grown) hb' (by have := hb.size; simp; omega); clear hb' a0 a1 a2 a3 b0 b1 b2 b3 r0 r1 r2 r3 f0 f1 f2 f3 hz; obtain ⟨a0, a1, a2, a3⟩ := (hAH.out.below hb).cells; obtain ⟨b0, b1, b2, b3⟩ := (hBH.out.below hb).cells; obtain ⟨r0, r1, r2, r3⟩ := (hRH.out.below hb).cells; obtain ⟨f0, f1, f2, f3⟩ := (hRH.out.below hb).free; have hz := Nat.lt_of_lt_of_le hz0.out hb.size)))) | fail
  all_goals
    go_wp2_with (first | (go_at_call 86; go_must (refine (boolean_any _ _).mono ?_; rintro e w' ⟨rfl, hb'⟩; replace hb := chainB hb hb' hb.size; clear hb' a0 a1 a2 a3 b0 b1 b2 b3 r0 r1 r2 r3 f0 f1 f2 f3 hz; obtain ⟨a0, a1, a2, a3⟩ := (hAH.out.below hb).cells; obtain ⟨b0, b1, b2, b3⟩ := (hBH.out.below hb).cells; obtain ⟨r0, r1, r2, r3⟩ := (hRH.out.below hb).cells; obtain ⟨f0, f1, f2, f3⟩ := (hRH.out.below hb).free; have hz := Nat.lt_of_lt_of_le hz0.out hb.size)) | (go_at_call 84; go_must (refine (isNull_any _ _ _ _ _).mono ?_; rintro e w' ⟨rfl, hb'⟩; replace hb := chainB hb hb' hb.size; clear hb' a0 a1 a2 a3 b0 b1 b2 b3 r0 r1 r2 r3 f0 f1 f2 f3 hz; obtain ⟨a0, a1, a2, a3⟩ := (hAH.out.below hb).cells; obtain ⟨b0, b1, b2, b3⟩ := (hBH.out.below hb).cells; obtain ⟨r0, r1, r2, r3⟩ := (hRH.out.below hb).cells; obtain ⟨f0, f1, f2, f3⟩ := (hRH.out.below hb).free; have hz := Nat.lt_of_lt_of_le hz0.out hb.size)) | (go_at_call 102; go_must (refine (null_any _).mono ?_; rintro e w' ⟨rfl, hb'⟩; replace hb := chainB hb hb' hb.size; clear hb' a0 a1 a2 a3 b0 b1 b2 b3 r0 r1 r2 r3 f0 f1 f2 f3 hz; obtain ⟨a0, a1, a2, a3⟩ := (hAH.out.below hb).cells; obtain ⟨b0, b1, b2, b3⟩ := (hBH.out.below hb).cells; obtain ⟨r0, r1, r2, r3⟩ := (hRH.out.below hb).cells; obtain ⟨f0, f1, f2, f3⟩ := (hRH.out.below hb).free; have hz := Nat.lt_of_lt_of_le hz0.out hb.size)))
    refine bodyPost_ret (v := .tuple #[.agg #[.int .u8 2, .bool (false), .int .i64 0, .string ⟨#[]⟩], .int .u16 0]) (by simp [results, Tryd.results89, go_sem, r0, r1, r2, r3, hz]) rfl ⟨rfl, ?_⟩
    have hbw := hwWH.out.trans (hb.mono hwWH.out.size)
    clear hb
    go_grown

theorem decide_dn (al : Bool) (w : World) (hT : Tabs w) :
    Calls Tryd.prog 89 #[.agg #[.int .u8 2, .bool (al), .int .i64 0, .string ⟨#[]⟩], .agg #[.int .u8 1, .bool (false), .int .i64 0, .string ⟨#[]⟩], .bool al] w
      fun e w' => e = .returned (.tuple #[.agg #[.int .u8 2, .bool (al), .int .i64 0, .string ⟨#[]⟩], .int .u16 0]) ∧ Below w.heap.size w w' := by
  cases al
  · exact decide_dn_false w hT
  · exact decide_dn_true w hT
set_option maxHeartbeats 4000000 in
theorem decide_dd_true (w : World) (hT : Tabs w) :
    Calls Tryd.prog 89 #[.agg #[.int .u8 2, .bool (true), .int .i64 0, .string ⟨#[]⟩], .agg #[.int .u8 2, .bool (true), .int .i64 0, .string ⟨#[]⟩], .bool true] w
      fun e w' => e = .returned (.tuple #[.agg #[.int .u8 2, .bool (true), .int .i64 0, .string ⟨#[]⟩], .int .u16 0]) ∧ Below w.heap.size w w' := by
  obtain ⟨W0, hW0, hwW, hA, hB, hR, hzz⟩ := boxes2 w 2 (true) 0 ⟨#[]⟩ 2 (true) 0 ⟨#[]⟩
  have hTH := Lib.hid (hT.below hwW)
  have hAH := Lib.hid hA; have hBH := Lib.hid hB; have hRH := Lib.hid hR; have hz0 := Lib.hid hzz; have hwWH := Lib.hid hwW
  clear hT hA hB hR hzz hwW
  have g1 : fitsD 2 ⟨2, true, 0, ⟨#[]⟩⟩ = true := by decide
  have g2 : fitsD 2 ⟨2, true, 0, ⟨#[]⟩⟩ = true := by decide
  have hb := Below.refl W0.heap.size W0
  obtain ⟨a0, a1, a2, a3⟩ := (hAH.out.below hb).cells; obtain ⟨b0, b1, b2, b3⟩ := (hBH.out.below hb).cells; obtain ⟨r0, r1, r2, r3⟩ := (hRH.out.below hb).cells; obtain ⟨f0, f1, f2, f3⟩ := (hRH.out.below hb).free; have hz := Nat.lt_of_lt_of_le hz0.out hb.size
  go_enter Tryd.func89, Tryd.ntmps89
  go_wp2_with ((go_at_call 108; go_must (refine (fits_any _ _ _ _ _ _ (by exact hTH.out.below hb) (by decide)).mono ?_; rintro e w' ⟨rfl, hb'⟩; replace hb := chainB hb hb' hb.size; clear hb' a0 a1 a2 a3 b0 b1 b2 b3 r0 r1 r2 r3 f0 f1 f2 f3 hz; obtain ⟨a0, a1, a2, a3⟩ := (hAH.out.below hb).cells; obtain ⟨b0, b1, b2, b3⟩ := (hBH.out.below hb).cells; obtain ⟨r0, r1, r2, r3⟩ := (hRH.out.below hb).cells; obtain ⟨f0, f1, f2, f3⟩ := (hRH.out.below hb).free; have hz := Nat.lt_of_lt_of_le hz0.out hb.size)))
  first | (go_region_with ((go_at_call 86; go_must (refine (boolean_any _ _).mono ?_; rintro e w' ⟨rfl, hb'⟩; replace hb := chainB (B := W0.heap.size) (a := W0) (by go_grown) hb' (by have := hb.size; simp; omega); clear hb' a0 a1 a2 a3 b0 b1 b2 b3 r0 r1 r2 r3 f0 f1 f2 f3 hz; obtain ⟨a0, a1, a2, a3⟩ := (hAH.out.below hb).cells; obtain ⟨b0, b1, b2, b3⟩ := (hBH.out.below hb).cells; obtain ⟨r0, r1, r2, r3⟩ := (hRH.out.below hb).cells; obtain ⟨f0, f1, f2, f3⟩ := (hRH.out.below hb).free; have hz := Nat.lt_of_lt_of_le hz0.out hb.size)))) | fail
  all_goals
    go_wp2_with (first | (go_at_call 86; go_must (refine (boolean_any _ _).mono ?_; rintro e w' ⟨rfl, hb'⟩; replace hb := chainB hb hb' hb.size; clear hb' a0 a1 a2 a3 b0 b1 b2 b3 r0 r1 r2 r3 f0 f1 f2 f3 hz; obtain ⟨a0, a1, a2, a3⟩ := (hAH.out.below hb).cells; obtain ⟨b0, b1, b2, b3⟩ := (hBH.out.below hb).cells; obtain ⟨r0, r1, r2, r3⟩ := (hRH.out.below hb).cells; obtain ⟨f0, f1, f2, f3⟩ := (hRH.out.below hb).free; have hz := Nat.lt_of_lt_of_le hz0.out hb.size)) | (go_at_call 84; go_must (refine (isNull_any _ _ _ _ _).mono ?_; rintro e w' ⟨rfl, hb'⟩; replace hb := chainB hb hb' hb.size; clear hb' a0 a1 a2 a3 b0 b1 b2 b3 r0 r1 r2 r3 f0 f1 f2 f3 hz; obtain ⟨a0, a1, a2, a3⟩ := (hAH.out.below hb).cells; obtain ⟨b0, b1, b2, b3⟩ := (hBH.out.below hb).cells; obtain ⟨r0, r1, r2, r3⟩ := (hRH.out.below hb).cells; obtain ⟨f0, f1, f2, f3⟩ := (hRH.out.below hb).free; have hz := Nat.lt_of_lt_of_le hz0.out hb.size)) | (go_at_call 102; go_must (refine (null_any _).mono ?_; rintro e w' ⟨rfl, hb'⟩; replace hb := chainB hb hb' hb.size; clear hb' a0 a1 a2 a3 b0 b1 b2 b3 r0 r1 r2 r3 f0 f1 f2 f3 hz; obtain ⟨a0, a1, a2, a3⟩ := (hAH.out.below hb).cells; obtain ⟨b0, b1, b2, b3⟩ := (hBH.out.below hb).cells; obtain ⟨r0, r1, r2, r3⟩ := (hRH.out.below hb).cells; obtain ⟨f0, f1, f2, f3⟩ := (hRH.out.below hb).free; have hz := Nat.lt_of_lt_of_le hz0.out hb.size)))
    refine bodyPost_ret (v := .tuple #[.agg #[.int .u8 2, .bool (true), .int .i64 0, .string ⟨#[]⟩], .int .u16 0]) (by simp [results, Tryd.results89, go_sem, r0, r1, r2, r3, hz]) rfl ⟨rfl, ?_⟩
    have hbw := hwWH.out.trans (hb.mono hwWH.out.size)
    clear hb
    go_grown

set_option maxHeartbeats 4000000 in
theorem decide_dd_false (w : World) (hT : Tabs w) :
    Calls Tryd.prog 89 #[.agg #[.int .u8 2, .bool (false), .int .i64 0, .string ⟨#[]⟩], .agg #[.int .u8 2, .bool (false), .int .i64 0, .string ⟨#[]⟩], .bool false] w
      fun e w' => e = .returned (.tuple #[.agg #[.int .u8 2, .bool (false), .int .i64 0, .string ⟨#[]⟩], .int .u16 0]) ∧ Below w.heap.size w w' := by
  obtain ⟨W0, hW0, hwW, hA, hB, hR, hzz⟩ := boxes2 w 2 (false) 0 ⟨#[]⟩ 2 (false) 0 ⟨#[]⟩
  have hTH := Lib.hid (hT.below hwW)
  have hAH := Lib.hid hA; have hBH := Lib.hid hB; have hRH := Lib.hid hR; have hz0 := Lib.hid hzz; have hwWH := Lib.hid hwW
  clear hT hA hB hR hzz hwW
  have g1 : fitsD 2 ⟨2, false, 0, ⟨#[]⟩⟩ = true := by decide
  have g2 : fitsD 2 ⟨2, false, 0, ⟨#[]⟩⟩ = true := by decide
  have hb := Below.refl W0.heap.size W0
  obtain ⟨a0, a1, a2, a3⟩ := (hAH.out.below hb).cells; obtain ⟨b0, b1, b2, b3⟩ := (hBH.out.below hb).cells; obtain ⟨r0, r1, r2, r3⟩ := (hRH.out.below hb).cells; obtain ⟨f0, f1, f2, f3⟩ := (hRH.out.below hb).free; have hz := Nat.lt_of_lt_of_le hz0.out hb.size
  go_enter Tryd.func89, Tryd.ntmps89
  go_wp2_with ((go_at_call 108; go_must (refine (fits_any _ _ _ _ _ _ (by exact hTH.out.below hb) (by decide)).mono ?_; rintro e w' ⟨rfl, hb'⟩; replace hb := chainB hb hb' hb.size; clear hb' a0 a1 a2 a3 b0 b1 b2 b3 r0 r1 r2 r3 f0 f1 f2 f3 hz; obtain ⟨a0, a1, a2, a3⟩ := (hAH.out.below hb).cells; obtain ⟨b0, b1, b2, b3⟩ := (hBH.out.below hb).cells; obtain ⟨r0, r1, r2, r3⟩ := (hRH.out.below hb).cells; obtain ⟨f0, f1, f2, f3⟩ := (hRH.out.below hb).free; have hz := Nat.lt_of_lt_of_le hz0.out hb.size)))
  first | (go_region_with ((go_at_call 86; go_must (refine (boolean_any _ _).mono ?_; rintro e w' ⟨rfl, hb'⟩; replace hb := chainB (B := W0.heap.size) (a := W0) (by go_grown) hb' (by have := hb.size; simp; omega); clear hb' a0 a1 a2 a3 b0 b1 b2 b3 r0 r1 r2 r3 f0 f1 f2 f3 hz; obtain ⟨a0, a1, a2, a3⟩ := (hAH.out.below hb).cells; obtain ⟨b0, b1, b2, b3⟩ := (hBH.out.below hb).cells; obtain ⟨r0, r1, r2, r3⟩ := (hRH.out.below hb).cells; obtain ⟨f0, f1, f2, f3⟩ := (hRH.out.below hb).free; have hz := Nat.lt_of_lt_of_le hz0.out hb.size)))) | fail
  all_goals
    go_wp2_with (first | (go_at_call 86; go_must (refine (boolean_any _ _).mono ?_; rintro e w' ⟨rfl, hb'⟩; replace hb := chainB hb hb' hb.size; clear hb' a0 a1 a2 a3 b0 b1 b2 b3 r0 r1 r2 r3 f0 f1 f2 f3 hz; obtain ⟨a0, a1, a2, a3⟩ := (hAH.out.below hb).cells; obtain ⟨b0, b1, b2, b3⟩ := (hBH.out.below hb).cells; obtain ⟨r0, r1, r2, r3⟩ := (hRH.out.below hb).cells; obtain ⟨f0, f1, f2, f3⟩ := (hRH.out.below hb).free; have hz := Nat.lt_of_lt_of_le hz0.out hb.size)) | (go_at_call 84; go_must (refine (isNull_any _ _ _ _ _).mono ?_; rintro e w' ⟨rfl, hb'⟩; replace hb := chainB hb hb' hb.size; clear hb' a0 a1 a2 a3 b0 b1 b2 b3 r0 r1 r2 r3 f0 f1 f2 f3 hz; obtain ⟨a0, a1, a2, a3⟩ := (hAH.out.below hb).cells; obtain ⟨b0, b1, b2, b3⟩ := (hBH.out.below hb).cells; obtain ⟨r0, r1, r2, r3⟩ := (hRH.out.below hb).cells; obtain ⟨f0, f1, f2, f3⟩ := (hRH.out.below hb).free; have hz := Nat.lt_of_lt_of_le hz0.out hb.size)) | (go_at_call 102; go_must (refine (null_any _).mono ?_; rintro e w' ⟨rfl, hb'⟩; replace hb := chainB hb hb' hb.size; clear hb' a0 a1 a2 a3 b0 b1 b2 b3 r0 r1 r2 r3 f0 f1 f2 f3 hz; obtain ⟨a0, a1, a2, a3⟩ := (hAH.out.below hb).cells; obtain ⟨b0, b1, b2, b3⟩ := (hBH.out.below hb).cells; obtain ⟨r0, r1, r2, r3⟩ := (hRH.out.below hb).cells; obtain ⟨f0, f1, f2, f3⟩ := (hRH.out.below hb).free; have hz := Nat.lt_of_lt_of_le hz0.out hb.size)))
    refine bodyPost_ret (v := .tuple #[.agg #[.int .u8 2, .bool (false), .int .i64 0, .string ⟨#[]⟩], .int .u16 0]) (by simp [results, Tryd.results89, go_sem, r0, r1, r2, r3, hz]) rfl ⟨rfl, ?_⟩
    have hbw := hwWH.out.trans (hb.mono hwWH.out.size)
    clear hb
    go_grown

theorem decide_dd (al : Bool) (w : World) (hT : Tabs w) :
    Calls Tryd.prog 89 #[.agg #[.int .u8 2, .bool (al), .int .i64 0, .string ⟨#[]⟩], .agg #[.int .u8 2, .bool (al), .int .i64 0, .string ⟨#[]⟩], .bool al] w
      fun e w' => e = .returned (.tuple #[.agg #[.int .u8 2, .bool (al), .int .i64 0, .string ⟨#[]⟩], .int .u16 0]) ∧ Below w.heap.size w w' := by
  cases al
  · exact decide_dd_false w hT
  · exact decide_dd_true w hT
set_option maxHeartbeats 4000000 in
theorem decide_do_true (w : World) (hT : Tabs w) :
    Calls Tryd.prog 89 #[.agg #[.int .u8 2, .bool (true), .int .i64 0, .string ⟨#[]⟩], .agg #[.int .u8 2, .bool false, .int .i64 0, .string ⟨#[]⟩], .bool true] w
      fun e w' => e = .returned (.tuple #[.agg #[.int .u8 2, .bool (true), .int .i64 0, .string ⟨#[]⟩], .int .u16 0]) ∧ Below w.heap.size w w' := by
  obtain ⟨W0, hW0, hwW, hA, hB, hR, hzz⟩ := boxes2 w 2 (true) 0 ⟨#[]⟩ 2 false 0 ⟨#[]⟩
  have hTH := Lib.hid (hT.below hwW)
  have hAH := Lib.hid hA; have hBH := Lib.hid hB; have hRH := Lib.hid hR; have hz0 := Lib.hid hzz; have hwWH := Lib.hid hwW
  clear hT hA hB hR hzz hwW
  have g1 : fitsD 2 ⟨2, true, 0, ⟨#[]⟩⟩ = true := by decide
  have g2 : fitsD 2 ⟨2, false, 0, ⟨#[]⟩⟩ = true := by decide
  have hb := Below.refl W0.heap.size W0
  obtain ⟨a0, a1, a2, a3⟩ := (hAH.out.below hb).cells; obtain ⟨b0, b1, b2, b3⟩ := (hBH.out.below hb).cells; obtain ⟨r0, r1, r2, r3⟩ := (hRH.out.below hb).cells; obtain ⟨f0, f1, f2, f3⟩ := (hRH.out.below hb).free; have hz := Nat.lt_of_lt_of_le hz0.out hb.size
  go_enter Tryd.func89, Tryd.ntmps89
  go_wp2_with ((go_at_call 108; go_must (refine (fits_any _ _ _ _ _ _ (by exact hTH.out.below hb) (by decide)).mono ?_; rintro e w' ⟨rfl, hb'⟩; replace hb := chainB hb hb' hb.size; clear hb' a0 a1 a2 a3 b0 b1 b2 b3 r0 r1 r2 r3 f0 f1 f2 f3 hz; obtain ⟨a0, a1, a2, a3⟩ := (hAH.out.below hb).cells; obtain ⟨b0, b1, b2, b3⟩ := (hBH.out.below hb).cells; obtain ⟨r0, r1, r2, r3⟩ := (hRH.out.below hb).cells; obtain ⟨f0, f1, f2, f3⟩ := (hRH.out.below hb).free; have hz := Nat.lt_of_lt_of_le hz0.out hb.size)))
  first | (go_region_with ((go_at_call 86; go_must (refine (boolean_any _ _).mono ?_; rintro e w' ⟨rfl, hb'⟩; replace hb := chainB (B := W0.heap.size) (a := W0) (by go_grown) hb' (by have := hb.size; simp; omega); clear hb' a0 a1 a2 a3 b0 b1 b2 b3 r0 r1 r2 r3 f0 f1 f2 f3 hz; obtain ⟨a0, a1, a2, a3⟩ := (hAH.out.below hb).cells; obtain ⟨b0, b1, b2, b3⟩ := (hBH.out.below hb).cells; obtain ⟨r0, r1, r2, r3⟩ := (hRH.out.below hb).cells; obtain ⟨f0, f1, f2, f3⟩ := (hRH.out.below hb).free; have hz := Nat.lt_of_lt_of_le hz0.out hb.size)))) | fail
  all_goals
    go_wp2_with (first | (go_at_call 86; go_must (refine (boolean_any _ _).mono ?_; rintro e w' ⟨rfl, hb'⟩; replace hb := chainB hb hb' hb.size; clear hb' a0 a1 a2 a3 b0 b1 b2 b3 r0 r1 r2 r3 f0 f1 f2 f3 hz; obtain ⟨a0, a1, a2, a3⟩ := (hAH.out.below hb).cells; obtain ⟨b0, b1, b2, b3⟩ := (hBH.out.below hb).cells; obtain ⟨r0, r1, r2, r3⟩ := (hRH.out.below hb).cells; obtain ⟨f0, f1, f2, f3⟩ := (hRH.out.below hb).free; have hz := Nat.lt_of_lt_of_le hz0.out hb.size)) | (go_at_call 84; go_must (refine (isNull_any _ _ _ _ _).mono ?_; rintro e w' ⟨rfl, hb'⟩; replace hb := chainB hb hb' hb.size; clear hb' a0 a1 a2 a3 b0 b1 b2 b3 r0 r1 r2 r3 f0 f1 f2 f3 hz; obtain ⟨a0, a1, a2, a3⟩ := (hAH.out.below hb).cells; obtain ⟨b0, b1, b2, b3⟩ := (hBH.out.below hb).cells; obtain ⟨r0, r1, r2, r3⟩ := (hRH.out.below hb).cells; obtain ⟨f0, f1, f2, f3⟩ := (hRH.out.below hb).free; have hz := Nat.lt_of_lt_of_le hz0.out hb.size)) | (go_at_call 102; go_must (refine (null_any _).mono ?_; rintro e w' ⟨rfl, hb'⟩; replace hb := chainB hb hb' hb.size; clear hb' a0 a1 a2 a3 b0 b1 b2 b3 r0 r1 r2 r3 f0 f1 f2 f3 hz; obtain ⟨a0, a1, a2, a3⟩ := (hAH.out.below hb).cells; obtain ⟨b0, b1, b2, b3⟩ := (hBH.out.below hb).cells; obtain ⟨r0, r1, r2, r3⟩ := (hRH.out.below hb).cells; obtain ⟨f0, f1, f2, f3⟩ := (hRH.out.below hb).free; have hz := Nat.lt_of_lt_of_le hz0.out hb.size)))
    refine bodyPost_ret (v := .tuple #[.agg #[.int .u8 2, .bool (true), .int .i64 0, .string ⟨#[]⟩], .int .u16 0]) (by simp [results, Tryd.results89, go_sem, r0, r1, r2, r3, hz]) rfl ⟨rfl, ?_⟩
    have hbw := hwWH.out.trans (hb.mono hwWH.out.size)
    clear hb
    go_grown
set_option maxHeartbeats 4000000 in
theorem decide_do_false (w : World) (hT : Tabs w) :
    Calls Tryd.prog 89 #[.agg #[.int .u8 2, .bool (false), .int .i64 0, .string ⟨#[]⟩], .agg #[.int .u8 2, .bool true, .int .i64 0, .string ⟨#[]⟩], .bool false] w
      fun e w' => e = .returned (.tuple #[.agg #[.int .u8 2, .bool (false), .int .i64 0, .string ⟨#[]⟩], .int .u16 0]) ∧ Below w.heap.size w w' := by
  obtain ⟨W0, hW0, hwW, hA, hB, hR, hzz⟩ := boxes2 w 2 (false) 0 ⟨#[]⟩ 2 true 0 ⟨#[]⟩
  have hTH := Lib.hid (hT.below hwW)
  have hAH := Lib.hid hA; have hBH := Lib.hid hB; have hRH := Lib.hid hR; have hz0 := Lib.hid hzz; have hwWH := Lib.hid hwW
  clear hT hA hB hR hzz hwW
  have g1 : fitsD 2 ⟨2, false, 0, ⟨#[]⟩⟩ = true := by decide
  have g2 : fitsD 2 ⟨2, true, 0, ⟨#[]⟩⟩ = true := by decide
  have hb := Below.refl W0.heap.size W0
  obtain ⟨a0, a1, a2, a3⟩ := (hAH.out.below hb).cells; obtain ⟨b0, b1, b2, b3⟩ := (hBH.out.below hb).cells; obtain ⟨r0, r1, r2, r3⟩ := (hRH.out.below hb).cells; obtain ⟨f0, f1, f2, f3⟩ := (hRH.out.below hb).free; have hz := Nat.lt_of_lt_of_le hz0.out hb.size
  go_enter Tryd.func89, Tryd.ntmps89
  go_wp2_with ((go_at_call 108; go_must (refine (fits_any _ _ _ _ _ _ (by exact hTH.out.below hb) (by decide)).mono ?_; rintro e w' ⟨rfl, hb'⟩; replace hb := chainB hb hb' hb.size; clear hb' a0 a1 a2 a3 b0 b1 b2 b3 r0 r1 r2 r3 f0 f1 f2 f3 hz; obtain ⟨a0, a1, a2, a3⟩ := (hAH.out.below hb).cells; obtain ⟨b0, b1, b2, b3⟩ := (hBH.out.below hb).cells; obtain ⟨r0, r1, r2, r3⟩ := (hRH.out.below hb).cells; obtain ⟨f0, f1, f2, f3⟩ := (hRH.out.below hb).free; have hz := Nat.lt_of_lt_of_le hz0.out hb.size)))
  first | (go_region_with ((go_at_call 86; go_must (refine (boolean_any _ _).mono ?_; rintro e w' ⟨rfl, hb'⟩; replace hb := chainB (B := W0.heap.size) (a := W0) (by go_grown) hb' (by have := hb.size; simp; omega); clear hb' a0 a1 a2 a3 b0 b1 b2 b3 r0 r1 r2 r3 f0 f1 f2 f3 hz; obtain ⟨a0, a1, a2, a3⟩ := (hAH.out.below hb).cells; obtain ⟨b0, b1, b2, b3⟩ := (hBH.out.below hb).cells; obtain ⟨r0, r1, r2, r3⟩ := (hRH.out.below hb).cells; obtain ⟨f0, f1, f2, f3⟩ := (hRH.out.below hb).free; have hz := Nat.lt_of_lt_of_le hz0.out hb.size)))) | fail
  all_goals
    go_wp2_with (first | (go_at_call 86; go_must (refine (boolean_any _ _).mono ?_; rintro e w' ⟨rfl, hb'⟩; replace hb := chainB hb hb' hb.size; clear hb' a0 a1 a2 a3 b0 b1 b2 b3 r0 r1 r2 r3 f0 f1 f2 f3 hz; obtain ⟨a0, a1, a2, a3⟩ := (hAH.out.below hb).cells; obtain ⟨b0, b1, b2, b3⟩ := (hBH.out.below hb).cells; obtain ⟨r0, r1, r2, r3⟩ := (hRH.out.below hb).cells; obtain ⟨f0, f1, f2, f3⟩ := (hRH.out.below hb).free; have hz := Nat.lt_of_lt_of_le hz0.out hb.size)) | (go_at_call 84; go_must (refine (isNull_any _ _ _ _ _).mono ?_; rintro e w' ⟨rfl, hb'⟩; replace hb := chainB hb hb' hb.size; clear hb' a0 a1 a2 a3 b0 b1 b2 b3 r0 r1 r2 r3 f0 f1 f2 f3 hz; obtain ⟨a0, a1, a2, a3⟩ := (hAH.out.below hb).cells; obtain ⟨b0, b1, b2, b3⟩ := (hBH.out.below hb).cells; obtain ⟨r0, r1, r2, r3⟩ := (hRH.out.below hb).cells; obtain ⟨f0, f1, f2, f3⟩ := (hRH.out.below hb).free; have hz := Nat.lt_of_lt_of_le hz0.out hb.size)) | (go_at_call 102; go_must (refine (null_any _).mono ?_; rintro e w' ⟨rfl, hb'⟩; replace hb := chainB hb hb' hb.size; clear hb' a0 a1 a2 a3 b0 b1 b2 b3 r0 r1 r2 r3 f0 f1 f2 f3 hz; obtain ⟨a0, a1, a2, a3⟩ := (hAH.out.below hb).cells; obtain ⟨b0, b1, b2, b3⟩ := (hBH.out.below hb).cells; obtain ⟨r0, r1, r2, r3⟩ := (hRH.out.below hb).cells; obtain ⟨f0, f1, f2, f3⟩ := (hRH.out.below hb).free; have hz := Nat.lt_of_lt_of_le hz0.out hb.size)))
    refine bodyPost_ret (v := .tuple #[.agg #[.int .u8 2, .bool (false), .int .i64 0, .string ⟨#[]⟩], .int .u16 0]) (by simp [results, Tryd.results89, go_sem, r0, r1, r2, r3, hz]) rfl ⟨rfl, ?_⟩
    have hbw := hwWH.out.trans (hb.mono hwWH.out.size)
    clear hb
    go_grown
theorem decide_do (al : Bool) (w : World) (hT : Tabs w) :
    Calls Tryd.prog 89 #[.agg #[.int .u8 2, .bool (al), .int .i64 0, .string ⟨#[]⟩], .agg #[.int .u8 2, .bool (!al), .int .i64 0, .string ⟨#[]⟩], .bool al] w
      fun e w' => e = .returned (.tuple #[.agg #[.int .u8 2, .bool (al), .int .i64 0, .string ⟨#[]⟩], .int .u16 0]) ∧ Below w.heap.size w w' := by
  cases al
  · exact decide_do_false w hT
  · exact decide_do_true w hT

end Go.Proofs.YtlodohgoondkhaaDoor
