/-
  The law DatumSides answers true, at this program, at all data, where it asks nothing. Condition: the tables of Go's library lie as their initialisers lay them.
-/
import Derived.Test.YtmdloaioejahdaaDoorKnown
import Derived.Test.YtmdloaioejahdaaDoorLawOrder
set_option linter.unusedVariables false
set_option linter.unusedSimpArgs false
namespace Go.Proofs.YtmdloaioejahdaaDoor
open Go.RowKit Go.Lib

theorem twoBoxes (w : World) (ka : Int) (ba : Bool) (na : Int) (sa : ByteArray) (kb : Int) (bb : Bool) (nb : Int) (sb : ByteArray) :
    ∃ W0, (w.alloc (.cells #[.int .u8 ka, .bool ba, .int .i64 na, .string sa] 24)).alloc (.cells #[.int .u8 kb, .bool bb, .int .i64 nb, .string sb] 24) = W0 ∧ Below w.heap.size w W0 ∧ Has W0 w.heap.size (.int .u8 ka) (.bool ba) (.int .i64 na) (.string sa) ∧ Has W0 (w.heap.size + 1) (.int .u8 kb) (.bool bb) (.int .i64 nb) (.string sb) := by
  refine ⟨_, rfl, by go_grown, (Has.new _ _ _ _ _).alloc _, ?_⟩
  have := Has.new (w.alloc (.cells #[.int .u8 ka, .bool ba, .int .i64 na, .string sa] 24)) (.int .u8 kb) (.bool bb) (.int .i64 nb) (.string sb)
  simpa only [World.size_alloc] using this

set_option maxHeartbeats 4000000 in
theorem sides_a (ka : Int) (ba : Bool) (na : Int) (sa : ByteArray) (kb : Int) (bb : Bool) (nb : Int) (sb : ByteArray) (w : World) (hT : Tabs w) (ha : sa.size ≤ 9223372036854775807) (hb : sb.size ≤ 9223372036854775807) (hac : ¬ chk ⟨ka, ba, na, sa⟩ = 0) :
    Calls Tryd.prog 12 #[.agg #[.int .u8 ka, .bool ba, .int .i64 na, .string sa], .agg #[.int .u8 kb, .bool bb, .int .i64 nb, .string sb]] w fun e w' => e = .returned (.bool true) ∧ Below w.heap.size w w'  := by
  have hca : (chk ⟨ka, ba, na, sa⟩ != 0) = true := by simpa using hac
  have hda : (chk ⟨ka, ba, na, sa⟩ == 0) = false := by simpa using hac
  clear hac
  have haH := Lib.hid ha; have hbbH := Lib.hid hb
  obtain ⟨W0, hW0, hwW, hA, hB⟩ := twoBoxes w ka ba na sa kb bb nb sb
  have hAH := Lib.hid hA; have hBH := Lib.hid hB; have hTH := Lib.hid (hT.below hwW); have hwWH := Lib.hid hwW
  clear hA hB hT hwW ha hb
  have hb := Below.refl W0.heap.size W0
  have hs := hb.size
  obtain ⟨a0, a1, a2, a3⟩ := hAH.out.cells
  obtain ⟨b0, b1, b2, b3⟩ := hBH.out.cells
  go_enter Tryd.func12, Tryd.ntmps12
  go_wp2_with (first | (go_at_call 16; go_must (refine (check_any _ _ _ _ _ (hTH.out.below hb) (by first | exact haH.out | exact hbbH.out)).mono ?_; rintro e w' ⟨rfl, hb'⟩; replace hb := chainB hb hb' hb.size; replace hs := hb.size; clear hb' a0 a1 a2 a3 b0 b1 b2 b3; obtain ⟨a0, a1, a2, a3⟩ := (hAH.out.below hb).cells; obtain ⟨b0, b1, b2, b3⟩ := (hBH.out.below hb).cells)) | (go_at_call 15; go_must (refine (known_any _ (hTH.out.below hb)).mono ?_; rintro e w' ⟨rfl, hb'⟩; replace hb := chainB hb hb' hb.size; replace hs := hb.size; clear hb' a0 a1 a2 a3 b0 b1 b2 b3; obtain ⟨a0, a1, a2, a3⟩ := (hAH.out.below hb).cells; obtain ⟨b0, b1, b2, b3⟩ := (hBH.out.below hb).cells)))
  all_goals (go_ret; exact ⟨rfl, chainB hwWH.out hb hwWH.out.size⟩)

set_option maxHeartbeats 4000000 in
theorem sides_b (ka : Int) (ba : Bool) (na : Int) (sa : ByteArray) (kb : Int) (bb : Bool) (nb : Int) (sb : ByteArray) (w : World) (hT : Tabs w) (ha : sa.size ≤ 9223372036854775807) (hb : sb.size ≤ 9223372036854775807) (hac : chk ⟨ka, ba, na, sa⟩ = 0) (hbc : ¬ chk ⟨kb, bb, nb, sb⟩ = 0) :
    Calls Tryd.prog 12 #[.agg #[.int .u8 ka, .bool ba, .int .i64 na, .string sa], .agg #[.int .u8 kb, .bool bb, .int .i64 nb, .string sb]] w fun e w' => e = .returned (.bool true) ∧ Below w.heap.size w w'  := by
  have hca : (chk ⟨ka, ba, na, sa⟩ != 0) = false := by simpa using hac
  have hda : (chk ⟨ka, ba, na, sa⟩ == 0) = true := by simpa using hac
  clear hac
  have hcb : (chk ⟨kb, bb, nb, sb⟩ != 0) = true := by simpa using hbc
  have hdb : (chk ⟨kb, bb, nb, sb⟩ == 0) = false := by simpa using hbc
  clear hbc
  have haH := Lib.hid ha; have hbbH := Lib.hid hb
  obtain ⟨W0, hW0, hwW, hA, hB⟩ := twoBoxes w ka ba na sa kb bb nb sb
  have hAH := Lib.hid hA; have hBH := Lib.hid hB; have hTH := Lib.hid (hT.below hwW); have hwWH := Lib.hid hwW
  clear hA hB hT hwW ha hb
  have hb := Below.refl W0.heap.size W0
  have hs := hb.size
  obtain ⟨a0, a1, a2, a3⟩ := hAH.out.cells
  obtain ⟨b0, b1, b2, b3⟩ := hBH.out.cells
  go_enter Tryd.func12, Tryd.ntmps12
  go_wp2_with (first | (go_at_call 16; go_must (refine (check_any _ _ _ _ _ (hTH.out.below hb) (by first | exact haH.out | exact hbbH.out)).mono ?_; rintro e w' ⟨rfl, hb'⟩; replace hb := chainB hb hb' hb.size; replace hs := hb.size; clear hb' a0 a1 a2 a3 b0 b1 b2 b3; obtain ⟨a0, a1, a2, a3⟩ := (hAH.out.below hb).cells; obtain ⟨b0, b1, b2, b3⟩ := (hBH.out.below hb).cells)) | (go_at_call 15; go_must (refine (known_any _ (hTH.out.below hb)).mono ?_; rintro e w' ⟨rfl, hb'⟩; replace hb := chainB hb hb' hb.size; replace hs := hb.size; clear hb' a0 a1 a2 a3 b0 b1 b2 b3; obtain ⟨a0, a1, a2, a3⟩ := (hAH.out.below hb).cells; obtain ⟨b0, b1, b2, b3⟩ := (hBH.out.below hb).cells)))
  all_goals (go_ret; exact ⟨rfl, chainB hwWH.out hb hwWH.out.size⟩)

set_option maxHeartbeats 4000000 in
theorem sides_k (ka : Int) (ba : Bool) (na : Int) (sa : ByteArray) (kb : Int) (bb : Bool) (nb : Int) (sb : ByteArray) (w : World) (hT : Tabs w) (ha : sa.size ≤ 9223372036854775807) (hb : sb.size ≤ 9223372036854775807) (hac : chk ⟨ka, ba, na, sa⟩ = 0) (hbc : chk ⟨kb, bb, nb, sb⟩ = 0) (hk : ¬ ka = kb) :
    Calls Tryd.prog 12 #[.agg #[.int .u8 ka, .bool ba, .int .i64 na, .string sa], .agg #[.int .u8 kb, .bool bb, .int .i64 nb, .string sb]] w fun e w' => e = .returned (.bool true) ∧ Below w.heap.size w w'  := by
  have hca : (chk ⟨ka, ba, na, sa⟩ != 0) = false := by simpa using hac
  have hda : (chk ⟨ka, ba, na, sa⟩ == 0) = true := by simpa using hac
  clear hac
  have hcb : (chk ⟨kb, bb, nb, sb⟩ != 0) = false := by simpa using hbc
  have hdb : (chk ⟨kb, bb, nb, sb⟩ == 0) = true := by simpa using hbc
  clear hbc
  have hk1 : (ka != kb) = true := by simpa using hk
  have hk2 : (ka == kb) = false := by simpa using hk
  have haH := Lib.hid ha; have hbbH := Lib.hid hb
  obtain ⟨W0, hW0, hwW, hA, hB⟩ := twoBoxes w ka ba na sa kb bb nb sb
  have hAH := Lib.hid hA; have hBH := Lib.hid hB; have hTH := Lib.hid (hT.below hwW); have hwWH := Lib.hid hwW
  clear hA hB hT hwW ha hb
  have hb := Below.refl W0.heap.size W0
  have hs := hb.size
  obtain ⟨a0, a1, a2, a3⟩ := hAH.out.cells
  obtain ⟨b0, b1, b2, b3⟩ := hBH.out.cells
  go_enter Tryd.func12, Tryd.ntmps12
  go_wp2_with (first | (go_at_call 16; go_must (refine (check_any _ _ _ _ _ (hTH.out.below hb) (by first | exact haH.out | exact hbbH.out)).mono ?_; rintro e w' ⟨rfl, hb'⟩; replace hb := chainB hb hb' hb.size; replace hs := hb.size; clear hb' a0 a1 a2 a3 b0 b1 b2 b3; obtain ⟨a0, a1, a2, a3⟩ := (hAH.out.below hb).cells; obtain ⟨b0, b1, b2, b3⟩ := (hBH.out.below hb).cells)) | (go_at_call 15; go_must (refine (known_any _ (hTH.out.below hb)).mono ?_; rintro e w' ⟨rfl, hb'⟩; replace hb := chainB hb hb' hb.size; replace hs := hb.size; clear hb' a0 a1 a2 a3 b0 b1 b2 b3; obtain ⟨a0, a1, a2, a3⟩ := (hAH.out.below hb).cells; obtain ⟨b0, b1, b2, b3⟩ := (hBH.out.below hb).cells)))
  all_goals (go_ret; exact ⟨rfl, chainB hwWH.out hb hwWH.out.size⟩)

set_option maxHeartbeats 4000000 in
theorem sides_n (ka : Int) (ba : Bool) (na : Int) (sa : ByteArray) (kb : Int) (bb : Bool) (nb : Int) (sb : ByteArray) (w : World) (hT : Tabs w) (ha : sa.size ≤ 9223372036854775807) (hb : sb.size ≤ 9223372036854775807) (hac : chk ⟨ka, ba, na, sa⟩ = 0) (hbc : chk ⟨kb, bb, nb, sb⟩ = 0) (hk : ka = 1) (hk' : kb = 1) :
    Calls Tryd.prog 12 #[.agg #[.int .u8 ka, .bool ba, .int .i64 na, .string sa], .agg #[.int .u8 kb, .bool bb, .int .i64 nb, .string sb]] w fun e w' => e = .returned (.bool true) ∧ Below w.heap.size w w'  := by
  have hca : (chk ⟨ka, ba, na, sa⟩ != 0) = false := by simpa using hac
  have hda : (chk ⟨ka, ba, na, sa⟩ == 0) = true := by simpa using hac
  clear hac
  have hcb : (chk ⟨kb, bb, nb, sb⟩ != 0) = false := by simpa using hbc
  have hdb : (chk ⟨kb, bb, nb, sb⟩ == 0) = true := by simpa using hbc
  clear hbc
  have hk1 : (ka != kb) = false := by simp [hk, hk']
  have hk2 : (ka == kb) = true := by simp [hk, hk']
  have hk3 : (ka == 1) = true := by simp [hk]
  clear hk hk'
  have haH := Lib.hid ha; have hbbH := Lib.hid hb
  obtain ⟨W0, hW0, hwW, hA, hB⟩ := twoBoxes w ka ba na sa kb bb nb sb
  have hAH := Lib.hid hA; have hBH := Lib.hid hB; have hTH := Lib.hid (hT.below hwW); have hwWH := Lib.hid hwW
  clear hA hB hT hwW ha hb
  have hb := Below.refl W0.heap.size W0
  have hs := hb.size
  obtain ⟨a0, a1, a2, a3⟩ := hAH.out.cells
  obtain ⟨b0, b1, b2, b3⟩ := hBH.out.cells
  go_enter Tryd.func12, Tryd.ntmps12
  go_wp2_with (first | (go_at_call 16; go_must (refine (check_any _ _ _ _ _ (hTH.out.below hb) (by first | exact haH.out | exact hbbH.out)).mono ?_; rintro e w' ⟨rfl, hb'⟩; replace hb := chainB hb hb' hb.size; replace hs := hb.size; clear hb' a0 a1 a2 a3 b0 b1 b2 b3; obtain ⟨a0, a1, a2, a3⟩ := (hAH.out.below hb).cells; obtain ⟨b0, b1, b2, b3⟩ := (hBH.out.below hb).cells)) | (go_at_call 15; go_must (refine (known_any _ (hTH.out.below hb)).mono ?_; rintro e w' ⟨rfl, hb'⟩; replace hb := chainB hb hb' hb.size; replace hs := hb.size; clear hb' a0 a1 a2 a3 b0 b1 b2 b3; obtain ⟨a0, a1, a2, a3⟩ := (hAH.out.below hb).cells; obtain ⟨b0, b1, b2, b3⟩ := (hBH.out.below hb).cells)))
  all_goals (go_ret; exact ⟨rfl, chainB hwWH.out hb hwWH.out.size⟩)

end Go.Proofs.YtmdloaioejahdaaDoor
