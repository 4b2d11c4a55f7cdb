/-
  The law DatumOrder answers true, at this program, at all data. Condition: the tables of Go's library lie as their initialisers lay them; the numbers are 64-bit numbers.
-/
import Derived.Test.YtoolojfbjpnllaaDoorKnown
import Derived.Test.YtoolojfbjpnllaaDoorOrd
set_option linter.unusedVariables false
set_option linter.unusedSimpArgs false
namespace Go.Proofs.YtoolojfbjpnllaaDoor
open Go.RowKit Go.Lib

theorem toList_inj {a b : ByteArray} (h : a.toList = b.toList) : a = b := by
  rw [ByteArray.toList_eq, ByteArray.toList_eq] at h
  exact bytes_ext h
/-- What Check answers where a datum may not be. -/
theorem chk_cases (d : Dat) : chk d = 0 ∨ chk d = 12 ∨ chk d = 13 := by
  unfold chk
  repeat' split
  all_goals simp

set_option maxHeartbeats 8000000 in
theorem order_bad1 (ka : Int) (ba : Bool) (na : Int) (sa : ByteArray) (kb : Int) (bb : Bool) (nb : Int) (sb : ByteArray) (kc : Int) (bc : Bool) (nc : Int) (sc : ByteArray) (w : World) (hT : Tabs w)
    (ha : sa.size ≤ 9223372036854775807) (hb : sb.size ≤ 9223372036854775807) (hc : sc.size ≤ 9223372036854775807) (hok : ¬ chk ⟨ka, ba, na, sa⟩ = 0) :
    Calls Tryd.prog 9 #[.agg #[.int .u8 ka, .bool ba, .int .i64 na, .string sa], .agg #[.int .u8 kb, .bool bb, .int .i64 nb, .string sb], .agg #[.int .u8 kc, .bool bc, .int .i64 nc, .string sc]] w
      fun e w' => e = .returned (.bool true) ∧ Below w.heap.size w w' := by
  have hcA : (chk ⟨ka, ba, na, sa⟩ != 0) = true := by simpa using hok
  have hcA2 : (chk ⟨ka, ba, na, sa⟩ == 0) = false := by simpa using hok
  clear hok
  have haH := Lib.hid ha; have hbH := Lib.hid hb; have hcH := Lib.hid hc
  obtain ⟨W0, hW0⟩ : ∃ W0, ((w.alloc (.cells #[.int .u8 ka, .bool ba, .int .i64 na, .string sa] 24)).alloc (.cells #[.int .u8 kb, .bool bb, .int .i64 nb, .string sb] 24)).alloc (.cells #[.int .u8 kc, .bool bc, .int .i64 nc, .string sc] 24) = W0 := ⟨_, rfl⟩
  have hwW : Below w.heap.size w W0 := by rw [← hW0]; go_grown
  have hA : Has W0 w.heap.size (.int .u8 ka) (.bool ba) (.int .i64 na) (.string sa) := by rw [← hW0]; exact ((Has.new _ _ _ _ _).alloc _).alloc _
  have hB : Has W0 (w.heap.size + 1) (.int .u8 kb) (.bool bb) (.int .i64 nb) (.string sb) := by
    rw [← hW0]; have := (Has.new (w.alloc (.cells #[.int .u8 ka, .bool ba, .int .i64 na, .string sa] 24)) (.int .u8 kb) (.bool bb) (.int .i64 nb) (.string sb)).alloc (.cells #[.int .u8 kc, .bool bc, .int .i64 nc, .string sc] 24)
    simpa only [World.size_alloc] using this
  have hC : Has W0 (w.heap.size + 1 + 1) (.int .u8 kc) (.bool bc) (.int .i64 nc) (.string sc) := by
    rw [← hW0]; have := Has.new ((w.alloc (.cells #[.int .u8 ka, .bool ba, .int .i64 na, .string sa] 24)).alloc (.cells #[.int .u8 kb, .bool bb, .int .i64 nb, .string sb] 24)) (.int .u8 kc) (.bool bc) (.int .i64 nc) (.string sc)
    simpa only [World.size_alloc] using this
  have hAH := Lib.hid hA; have hBH := Lib.hid hB; have hCH := Lib.hid hC; have hTH := Lib.hid (hT.below hwW); have hwWH := Lib.hid hwW
  clear hA hB hC hT hwW ha hb hc
  obtain ⟨a0, a1, a2, a3⟩ := hAH.out.cells
  obtain ⟨b0, b1, b2, b3⟩ := hBH.out.cells
  obtain ⟨c0, c1, c2, c3⟩ := hCH.out.cells
  have hb := Below.refl W0.heap.size W0
  have t1 := cmpS_turn ⟨ka, ba, na, sa⟩ ⟨kb, bb, nb, sb⟩
  have r1 := cmpS_range ⟨kb, bb, nb, sb⟩ ⟨ka, ba, na, sa⟩
  have g1 : (cmpS ⟨ka, ba, na, sa⟩ ⟨kb, bb, nb, sb⟩ != -cmpS ⟨kb, bb, nb, sb⟩ ⟨ka, ba, na, sa⟩) = false := by simpa using t1
  have g2 : (cmpS ⟨ka, ba, na, sa⟩ ⟨ka, ba, na, sa⟩ != 0) = false := by simpa using cmpS_self ⟨ka, ba, na, sa⟩
  have g3H := Lib.hid (@cmpS_trans ⟨ka, ba, na, sa⟩ ⟨kb, bb, nb, sb⟩ ⟨kc, bc, nc, sc⟩)
  clear t1
  go_enter Tryd.func9, Tryd.ntmps9
  go_wp2_with (first | (go_at_call 18; go_must (refine (cmp_any _ _ _ _ _ _ _ _ _).mono ?_; rintro e w' ⟨rfl, hb'⟩; replace hb := chainB hb hb' hb.size; clear hb' a0 a1 a2 a3 b0 b1 b2 b3 c0 c1 c2 c3; obtain ⟨a0, a1, a2, a3⟩ := (hAH.out.below hb).cells; obtain ⟨b0, b1, b2, b3⟩ := (hBH.out.below hb).cells; obtain ⟨c0, c1, c2, c3⟩ := (hCH.out.below hb).cells)) | (go_at_call 16; go_must (refine (check_any _ _ _ _ _ (hTH.out.below hb) (by first | exact haH.out | exact hbH.out)).mono ?_; rintro e w' ⟨rfl, hb'⟩; replace hb := chainB hb hb' hb.size; clear hb' a0 a1 a2 a3 b0 b1 b2 b3 c0 c1 c2 c3; obtain ⟨a0, a1, a2, a3⟩ := (hAH.out.below hb).cells; obtain ⟨b0, b1, b2, b3⟩ := (hBH.out.below hb).cells; obtain ⟨c0, c1, c2, c3⟩ := (hCH.out.below hb).cells)) | (go_at_call 15; go_must (refine (known_any _ (hTH.out.below hb)).mono ?_; rintro e w' ⟨rfl, hb'⟩; replace hb := chainB hb hb' hb.size; clear hb' a0 a1 a2 a3 b0 b1 b2 b3 c0 c1 c2 c3; obtain ⟨a0, a1, a2, a3⟩ := (hAH.out.below hb).cells; obtain ⟨b0, b1, b2, b3⟩ := (hBH.out.below hb).cells; obtain ⟨c0, c1, c2, c3⟩ := (hCH.out.below hb).cells)))
  all_goals first
    | (exfalso; have hz := g3H.out (by assumption) (by assumption); omega)
    | (go_ret; exact ⟨rfl, chainB hwWH.out hb hwWH.out.size⟩)

set_option maxHeartbeats 8000000 in
theorem order_bad2 (ka : Int) (ba : Bool) (na : Int) (sa : ByteArray) (kb : Int) (bb : Bool) (nb : Int) (sb : ByteArray) (kc : Int) (bc : Bool) (nc : Int) (sc : ByteArray) (w : World) (hT : Tabs w)
    (ha : sa.size ≤ 9223372036854775807) (hb : sb.size ≤ 9223372036854775807) (hc : sc.size ≤ 9223372036854775807) (hokA : chk ⟨ka, ba, na, sa⟩ = 0) (hok : ¬ chk ⟨kb, bb, nb, sb⟩ = 0) :
    Calls Tryd.prog 9 #[.agg #[.int .u8 ka, .bool ba, .int .i64 na, .string sa], .agg #[.int .u8 kb, .bool bb, .int .i64 nb, .string sb], .agg #[.int .u8 kc, .bool bc, .int .i64 nc, .string sc]] w
      fun e w' => e = .returned (.bool true) ∧ Below w.heap.size w w' := by
  have hcA : (chk ⟨kb, bb, nb, sb⟩ != 0) = true := by simpa using hok
  have hcA2 : (chk ⟨kb, bb, nb, sb⟩ == 0) = false := by simpa using hok
  clear hok
  have haH := Lib.hid ha; have hbH := Lib.hid hb; have hcH := Lib.hid hc
  obtain ⟨W0, hW0⟩ : ∃ W0, ((w.alloc (.cells #[.int .u8 ka, .bool ba, .int .i64 na, .string sa] 24)).alloc (.cells #[.int .u8 kb, .bool bb, .int .i64 nb, .string sb] 24)).alloc (.cells #[.int .u8 kc, .bool bc, .int .i64 nc, .string sc] 24) = W0 := ⟨_, rfl⟩
  have hwW : Below w.heap.size w W0 := by rw [← hW0]; go_grown
  have hA : Has W0 w.heap.size (.int .u8 ka) (.bool ba) (.int .i64 na) (.string sa) := by rw [← hW0]; exact ((Has.new _ _ _ _ _).alloc _).alloc _
  have hB : Has W0 (w.heap.size + 1) (.int .u8 kb) (.bool bb) (.int .i64 nb) (.string sb) := by
    rw [← hW0]; have := (Has.new (w.alloc (.cells #[.int .u8 ka, .bool ba, .int .i64 na, .string sa] 24)) (.int .u8 kb) (.bool bb) (.int .i64 nb) (.string sb)).alloc (.cells #[.int .u8 kc, .bool bc, .int .i64 nc, .string sc] 24)
    simpa only [World.size_alloc] using this
  have hC : Has W0 (w.heap.size + 1 + 1) (.int .u8 kc) (.bool bc) (.int .i64 nc) (.string sc) := by
    rw [← hW0]; have := Has.new ((w.alloc (.cells #[.int .u8 ka, .bool ba, .int .i64 na, .string sa] 24)).alloc (.cells #[.int .u8 kb, .bool bb, .int .i64 nb, .string sb] 24)) (.int .u8 kc) (.bool bc) (.int .i64 nc) (.string sc)
    simpa only [World.size_alloc] using this
  have hAH := Lib.hid hA; have hBH := Lib.hid hB; have hCH := Lib.hid hC; have hTH := Lib.hid (hT.below hwW); have hwWH := Lib.hid hwW
  clear hA hB hC hT hwW ha hb hc
  obtain ⟨a0, a1, a2, a3⟩ := hAH.out.cells
  obtain ⟨b0, b1, b2, b3⟩ := hBH.out.cells
  obtain ⟨c0, c1, c2, c3⟩ := hCH.out.cells
  have hb := Below.refl W0.heap.size W0
  have t1 := cmpS_turn ⟨ka, ba, na, sa⟩ ⟨kb, bb, nb, sb⟩
  have r1 := cmpS_range ⟨kb, bb, nb, sb⟩ ⟨ka, ba, na, sa⟩
  have g1 : (cmpS ⟨ka, ba, na, sa⟩ ⟨kb, bb, nb, sb⟩ != -cmpS ⟨kb, bb, nb, sb⟩ ⟨ka, ba, na, sa⟩) = false := by simpa using t1
  have g2 : (cmpS ⟨ka, ba, na, sa⟩ ⟨ka, ba, na, sa⟩ != 0) = false := by simpa using cmpS_self ⟨ka, ba, na, sa⟩
  have g3H := Lib.hid (@cmpS_trans ⟨ka, ba, na, sa⟩ ⟨kb, bb, nb, sb⟩ ⟨kc, bc, nc, sc⟩)
  clear t1
  go_enter Tryd.func9, Tryd.ntmps9
  go_wp2_with (first | (go_at_call 18; go_must (refine (cmp_any _ _ _ _ _ _ _ _ _).mono ?_; rintro e w' ⟨rfl, hb'⟩; replace hb := chainB hb hb' hb.size; clear hb' a0 a1 a2 a3 b0 b1 b2 b3 c0 c1 c2 c3; obtain ⟨a0, a1, a2, a3⟩ := (hAH.out.below hb).cells; obtain ⟨b0, b1, b2, b3⟩ := (hBH.out.below hb).cells; obtain ⟨c0, c1, c2, c3⟩ := (hCH.out.below hb).cells)) | (go_at_call 16; go_must (refine (check_any _ _ _ _ _ (hTH.out.below hb) (by first | exact haH.out | exact hbH.out)).mono ?_; rintro e w' ⟨rfl, hb'⟩; replace hb := chainB hb hb' hb.size; clear hb' a0 a1 a2 a3 b0 b1 b2 b3 c0 c1 c2 c3; obtain ⟨a0, a1, a2, a3⟩ := (hAH.out.below hb).cells; obtain ⟨b0, b1, b2, b3⟩ := (hBH.out.below hb).cells; obtain ⟨c0, c1, c2, c3⟩ := (hCH.out.below hb).cells)) | (go_at_call 15; go_must (refine (known_any _ (hTH.out.below hb)).mono ?_; rintro e w' ⟨rfl, hb'⟩; replace hb := chainB hb hb' hb.size; clear hb' a0 a1 a2 a3 b0 b1 b2 b3 c0 c1 c2 c3; obtain ⟨a0, a1, a2, a3⟩ := (hAH.out.below hb).cells; obtain ⟨b0, b1, b2, b3⟩ := (hBH.out.below hb).cells; obtain ⟨c0, c1, c2, c3⟩ := (hCH.out.below hb).cells)))
  all_goals first
    | (exfalso; have hz := g3H.out (by assumption) (by assumption); omega)
    | (go_ret; exact ⟨rfl, chainB hwWH.out hb hwWH.out.size⟩)

set_option maxHeartbeats 8000000 in
theorem order_ne (ka : Int) (ba : Bool) (na : Int) (sa : ByteArray) (kb : Int) (bb : Bool) (nb : Int) (sb : ByteArray) (kc : Int) (bc : Bool) (nc : Int) (sc : ByteArray) (w : World) (hT : Tabs w)
    (ha : sa.size ≤ 9223372036854775807) (hb : sb.size ≤ 9223372036854775807) (hc : sc.size ≤ 9223372036854775807) (hokA : chk ⟨ka, ba, na, sa⟩ = 0) (hokB : chk ⟨kb, bb, nb, sb⟩ = 0) (hne : (⟨ka, ba, na, sa⟩ : Dat) ≠ ⟨kb, bb, nb, sb⟩) :
    Calls Tryd.prog 9 #[.agg #[.int .u8 ka, .bool ba, .int .i64 na, .string sa], .agg #[.int .u8 kb, .bool bb, .int .i64 nb, .string sb], .agg #[.int .u8 kc, .bool bc, .int .i64 nc, .string sc]] w
      fun e w' => e = .returned (.bool true) ∧ Below w.heap.size w w' := by
  have hx : (cmpS ⟨ka, ba, na, sa⟩ ⟨kb, bb, nb, sb⟩ == 0) = false := by
    have := fun e => hne ((cmpS_zero (by simpa [okD] using hokA) (by simpa [okD] using hokB)).1 e)
    simpa using this
  have hneH := Lib.hid hne
  clear hne
  have haH := Lib.hid ha; have hbH := Lib.hid hb; have hcH := Lib.hid hc
  obtain ⟨W0, hW0⟩ : ∃ W0, ((w.alloc (.cells #[.int .u8 ka, .bool ba, .int .i64 na, .string sa] 24)).alloc (.cells #[.int .u8 kb, .bool bb, .int .i64 nb, .string sb] 24)).alloc (.cells #[.int .u8 kc, .bool bc, .int .i64 nc, .string sc] 24) = W0 := ⟨_, rfl⟩
  have hwW : Below w.heap.size w W0 := by rw [← hW0]; go_grown
  have hA : Has W0 w.heap.size (.int .u8 ka) (.bool ba) (.int .i64 na) (.string sa) := by rw [← hW0]; exact ((Has.new _ _ _ _ _).alloc _).alloc _
  have hB : Has W0 (w.heap.size + 1) (.int .u8 kb) (.bool bb) (.int .i64 nb) (.string sb) := by
    rw [← hW0]; have := (Has.new (w.alloc (.cells #[.int .u8 ka, .bool ba, .int .i64 na, .string sa] 24)) (.int .u8 kb) (.bool bb) (.int .i64 nb) (.string sb)).alloc (.cells #[.int .u8 kc, .bool bc, .int .i64 nc, .string sc] 24)
    simpa only [World.size_alloc] using this
  have hC : Has W0 (w.heap.size + 1 + 1) (.int .u8 kc) (.bool bc) (.int .i64 nc) (.string sc) := by
    rw [← hW0]; have := Has.new ((w.alloc (.cells #[.int .u8 ka, .bool ba, .int .i64 na, .string sa] 24)).alloc (.cells #[.int .u8 kb, .bool bb, .int .i64 nb, .string sb] 24)) (.int .u8 kc) (.bool bc) (.int .i64 nc) (.string sc)
    simpa only [World.size_alloc] using this
  have hAH := Lib.hid hA; have hBH := Lib.hid hB; have hCH := Lib.hid hC; have hTH := Lib.hid (hT.below hwW); have hwWH := Lib.hid hwW
  clear hA hB hC hT hwW ha hb hc
  obtain ⟨a0, a1, a2, a3⟩ := hAH.out.cells
  obtain ⟨b0, b1, b2, b3⟩ := hBH.out.cells
  obtain ⟨c0, c1, c2, c3⟩ := hCH.out.cells
  have hb := Below.refl W0.heap.size W0
  have t1 := cmpS_turn ⟨ka, ba, na, sa⟩ ⟨kb, bb, nb, sb⟩
  have r1 := cmpS_range ⟨kb, bb, nb, sb⟩ ⟨ka, ba, na, sa⟩
  have g1 : (cmpS ⟨ka, ba, na, sa⟩ ⟨kb, bb, nb, sb⟩ != -cmpS ⟨kb, bb, nb, sb⟩ ⟨ka, ba, na, sa⟩) = false := by simpa using t1
  have g2 : (cmpS ⟨ka, ba, na, sa⟩ ⟨ka, ba, na, sa⟩ != 0) = false := by simpa using cmpS_self ⟨ka, ba, na, sa⟩
  have g3H := Lib.hid (@cmpS_trans ⟨ka, ba, na, sa⟩ ⟨kb, bb, nb, sb⟩ ⟨kc, bc, nc, sc⟩)
  clear t1
  go_enter Tryd.func9, Tryd.ntmps9
  go_wp2_with (first | (go_at_call 18; go_must (refine (cmp_any _ _ _ _ _ _ _ _ _).mono ?_; rintro e w' ⟨rfl, hb'⟩; replace hb := chainB hb hb' hb.size; clear hb' a0 a1 a2 a3 b0 b1 b2 b3 c0 c1 c2 c3; obtain ⟨a0, a1, a2, a3⟩ := (hAH.out.below hb).cells; obtain ⟨b0, b1, b2, b3⟩ := (hBH.out.below hb).cells; obtain ⟨c0, c1, c2, c3⟩ := (hCH.out.below hb).cells)) | (go_at_call 16; go_must (refine (check_any _ _ _ _ _ (hTH.out.below hb) (by first | exact haH.out | exact hbH.out)).mono ?_; rintro e w' ⟨rfl, hb'⟩; replace hb := chainB hb hb' hb.size; clear hb' a0 a1 a2 a3 b0 b1 b2 b3 c0 c1 c2 c3; obtain ⟨a0, a1, a2, a3⟩ := (hAH.out.below hb).cells; obtain ⟨b0, b1, b2, b3⟩ := (hBH.out.below hb).cells; obtain ⟨c0, c1, c2, c3⟩ := (hCH.out.below hb).cells)) | (go_at_call 15; go_must (refine (known_any _ (hTH.out.below hb)).mono ?_; rintro e w' ⟨rfl, hb'⟩; replace hb := chainB hb hb' hb.size; clear hb' a0 a1 a2 a3 b0 b1 b2 b3 c0 c1 c2 c3; obtain ⟨a0, a1, a2, a3⟩ := (hAH.out.below hb).cells; obtain ⟨b0, b1, b2, b3⟩ := (hBH.out.below hb).cells; obtain ⟨c0, c1, c2, c3⟩ := (hCH.out.below hb).cells)))
  all_goals first
    | (exfalso; have hz := g3H.out (by assumption) (by assumption); omega)
    | (exfalso; refine hneH.out ?_; exact Dat.eq_of (by assumption) (by assumption) (by assumption) (toList_inj (by assumption)); done)
    | (go_ret; exact ⟨rfl, chainB hwWH.out hb hwWH.out.size⟩)

set_option maxHeartbeats 8000000 in
theorem order_eq (ka : Int) (ba : Bool) (na : Int) (sa : ByteArray) (kc : Int) (bc : Bool) (nc : Int) (sc : ByteArray) (w : World) (hT : Tabs w)
    (ha : sa.size ≤ 9223372036854775807) (hc : sc.size ≤ 9223372036854775807) (hokA : chk ⟨ka, ba, na, sa⟩ = 0) :
    Calls Tryd.prog 9 #[.agg #[.int .u8 ka, .bool ba, .int .i64 na, .string sa], .agg #[.int .u8 ka, .bool ba, .int .i64 na, .string sa], .agg #[.int .u8 kc, .bool bc, .int .i64 nc, .string sc]] w
      fun e w' => e = .returned (.bool true) ∧ Below w.heap.size w w' := by
  have haH := Lib.hid ha; have hcH := Lib.hid hc
  obtain ⟨W0, hW0⟩ : ∃ W0, ((w.alloc (.cells #[.int .u8 ka, .bool ba, .int .i64 na, .string sa] 24)).alloc (.cells #[.int .u8 ka, .bool ba, .int .i64 na, .string sa] 24)).alloc (.cells #[.int .u8 kc, .bool bc, .int .i64 nc, .string sc] 24) = W0 := ⟨_, rfl⟩
  have hwW : Below w.heap.size w W0 := by rw [← hW0]; go_grown
  have hA : Has W0 w.heap.size (.int .u8 ka) (.bool ba) (.int .i64 na) (.string sa) := by rw [← hW0]; exact ((Has.new _ _ _ _ _).alloc _).alloc _
  have hB : Has W0 (w.heap.size + 1) (.int .u8 ka) (.bool ba) (.int .i64 na) (.string sa) := by
    rw [← hW0]; have := (Has.new (w.alloc (.cells #[.int .u8 ka, .bool ba, .int .i64 na, .string sa] 24)) (.int .u8 ka) (.bool ba) (.int .i64 na) (.string sa)).alloc (.cells #[.int .u8 kc, .bool bc, .int .i64 nc, .string sc] 24)
    simpa only [World.size_alloc] using this
  have hC : Has W0 (w.heap.size + 1 + 1) (.int .u8 kc) (.bool bc) (.int .i64 nc) (.string sc) := by
    rw [← hW0]; have := Has.new ((w.alloc (.cells #[.int .u8 ka, .bool ba, .int .i64 na, .string sa] 24)).alloc (.cells #[.int .u8 ka, .bool ba, .int .i64 na, .string sa] 24)) (.int .u8 kc) (.bool bc) (.int .i64 nc) (.string sc)
    simpa only [World.size_alloc] using this
  have hAH := Lib.hid hA; have hBH := Lib.hid hB; have hCH := Lib.hid hC; have hTH := Lib.hid (hT.below hwW); have hwWH := Lib.hid hwW
  clear hA hB hC hT hwW ha hc
  obtain ⟨a0, a1, a2, a3⟩ := hAH.out.cells
  obtain ⟨b0, b1, b2, b3⟩ := hBH.out.cells
  obtain ⟨c0, c1, c2, c3⟩ := hCH.out.cells
  have hb := Below.refl W0.heap.size W0
  have t1 := cmpS_turn ⟨ka, ba, na, sa⟩ ⟨ka, ba, na, sa⟩
  have r1 := cmpS_self ⟨ka, ba, na, sa⟩
  have g3H := Lib.hid (@cmpS_trans ⟨ka, ba, na, sa⟩ ⟨ka, ba, na, sa⟩ ⟨kc, bc, nc, sc⟩)
  clear t1
  go_enter Tryd.func9, Tryd.ntmps9
  go_wp2_with (first | (go_at_call 18; go_must (refine (cmp_any _ _ _ _ _ _ _ _ _).mono ?_; rintro e w' ⟨rfl, hb'⟩; replace hb := chainB hb hb' hb.size; clear hb' a0 a1 a2 a3 b0 b1 b2 b3 c0 c1 c2 c3; obtain ⟨a0, a1, a2, a3⟩ := (hAH.out.below hb).cells; obtain ⟨b0, b1, b2, b3⟩ := (hBH.out.below hb).cells; obtain ⟨c0, c1, c2, c3⟩ := (hCH.out.below hb).cells)) | (go_at_call 16; go_must (refine (check_any _ _ _ _ _ (hTH.out.below hb) (by exact haH.out)).mono ?_; rintro e w' ⟨rfl, hb'⟩; replace hb := chainB hb hb' hb.size; clear hb' a0 a1 a2 a3 b0 b1 b2 b3 c0 c1 c2 c3; obtain ⟨a0, a1, a2, a3⟩ := (hAH.out.below hb).cells; obtain ⟨b0, b1, b2, b3⟩ := (hBH.out.below hb).cells; obtain ⟨c0, c1, c2, c3⟩ := (hCH.out.below hb).cells)) | (go_at_call 15; go_must (refine (known_any _ (hTH.out.below hb)).mono ?_; rintro e w' ⟨rfl, hb'⟩; replace hb := chainB hb hb' hb.size; clear hb' a0 a1 a2 a3 b0 b1 b2 b3 c0 c1 c2 c3; obtain ⟨a0, a1, a2, a3⟩ := (hAH.out.below hb).cells; obtain ⟨b0, b1, b2, b3⟩ := (hBH.out.below hb).cells; obtain ⟨c0, c1, c2, c3⟩ := (hCH.out.below hb).cells)))
  all_goals first
    | (exfalso; have hz := g3H.out (by rw [cmpS_self]; decide) (by assumption); omega)
    | (go_ret; exact ⟨rfl, chainB hwWH.out hb hwWH.out.size⟩)

set_option maxHeartbeats 8000000 in
theorem order_walk (ka : Int) (ba : Bool) (na : Int) (sa : ByteArray) (kb : Int) (bb : Bool) (nb : Int) (sb : ByteArray) (kc : Int) (bc : Bool) (nc : Int) (sc : ByteArray) (w : World) (hT : Tabs w)
    (ha : sa.size ≤ 9223372036854775807) (hb : sb.size ≤ 9223372036854775807) (hc : sc.size ≤ 9223372036854775807) :
    Calls Tryd.prog 9 #[.agg #[.int .u8 ka, .bool ba, .int .i64 na, .string sa], .agg #[.int .u8 kb, .bool bb, .int .i64 nb, .string sb], .agg #[.int .u8 kc, .bool bc, .int .i64 nc, .string sc]] w
      fun e w' => e = .returned (.bool true) ∧ Below w.heap.size w w' := by
  by_cases hA : chk ⟨ka, ba, na, sa⟩ = 0
  · by_cases hB : chk ⟨kb, bb, nb, sb⟩ = 0
    · by_cases hne : (⟨ka, ba, na, sa⟩ : Dat) = ⟨kb, bb, nb, sb⟩
      · obtain ⟨rfl, rfl, rfl, rfl⟩ := dat_eta hne
        exact order_eq _ _ _ _ _ _ _ _ w hT ha hc hA
      · exact order_ne _ _ _ _ _ _ _ _ _ _ _ _ w hT ha hb hc hA hB hne
    · exact order_bad2 _ _ _ _ _ _ _ _ _ _ _ _ w hT ha hb hc hA hB
  · exact order_bad1 _ _ _ _ _ _ _ _ _ _ _ _ w hT ha hb hc hA

theorem order_any (ka : Int) (ba : Bool) (na : Int) (sa : ByteArray) (kb : Int) (bb : Bool) (nb : Int) (sb : ByteArray) (kc : Int) (bc : Bool) (nc : Int) (sc : ByteArray) (w : World) (hT : Tabs w)
    (ha : sa.size ≤ 9223372036854775807) (_ : I64 na) (_ : 0 ≤ ka ∧ ka ≤ 255) (hb : sb.size ≤ 9223372036854775807) (_ : I64 nb) (_ : 0 ≤ kb ∧ kb ≤ 255) (hc : sc.size ≤ 9223372036854775807) (_ : I64 nc) (_ : 0 ≤ kc ∧ kc ≤ 255) :
    Calls Tryd.prog 9 #[.agg #[.int .u8 ka, .bool ba, .int .i64 na, .string sa], .agg #[.int .u8 kb, .bool bb, .int .i64 nb, .string sb], .agg #[.int .u8 kc, .bool bc, .int .i64 nc, .string sc]] w
      fun e w' => e = .returned (.bool true) ∧ Below w.heap.size w w' := order_walk _ _ _ _ _ _ _ _ _ _ _ _ w hT ha hb hc
end Go.Proofs.YtoolojfbjpnllaaDoor
