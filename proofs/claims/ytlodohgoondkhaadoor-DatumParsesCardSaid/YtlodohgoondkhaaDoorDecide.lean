/-
  What datum.decide, And and Or answer, at this program: for all data. Condition: the tables of Go's library lie as their initialisers lay them.
-/
import Derived.Test.YtlodohgoondkhaaDoorAnd
set_option linter.unusedVariables false
set_option linter.unusedSimpArgs false
namespace Go.Proofs.YtlodohgoondkhaaDoor
open Go.RowKit Go.Lib

set_option maxHeartbeats 2000000 in
theorem decide_bad1 (al : Bool) (ka : Int) (ba : Bool) (na : Int) (sa : ByteArray) (kb : Int) (bb : Bool) (nb : Int) (sb : ByteArray) (w : World) (hT : Tabs w) (ha : sa.size ≤ 9223372036854775807) (hb : sb.size ≤ 9223372036854775807)
    (hbad : fitsD 2 ⟨ka, ba, na, sa⟩ = false) :
    Calls Tryd.prog 89 #[.agg #[.int .u8 ka, .bool ba, .int .i64 na, .string sa], .agg #[.int .u8 kb, .bool bb, .int .i64 nb, .string sb], .bool al] w
      fun e w' => e = .returned (.tuple #[.agg #[.int .u8 0, .bool false, .int .i64 0, .string ⟨#[]⟩], .int .u16 13]) ∧ Below w.heap.size w w' := by
  have hTH := Lib.hid hT
  have hbH := Lib.hid hbad
  clear hT hbad
  have hA0 := ((Has.new w (.int .u8 ka) (.bool ba) (.int .i64 na) (.string sa)).alloc (.cells #[.int .u8 kb, .bool bb, .int .i64 nb, .string sb] 24)).alloc (.cells #[.int .u8 0, .bool false, .int .i64 0, .string ⟨#[]⟩] 24)
  have hB0 := (Has.new (w.alloc (.cells #[.int .u8 ka, .bool ba, .int .i64 na, .string sa] 24)) (.int .u8 kb) (.bool bb) (.int .i64 nb) (.string sb)).alloc (.cells #[.int .u8 0, .bool false, .int .i64 0, .string ⟨#[]⟩] 24)
  have hR0 := Has.new ((w.alloc (.cells #[.int .u8 ka, .bool ba, .int .i64 na, .string sa] 24)).alloc (.cells #[.int .u8 kb, .bool bb, .int .i64 nb, .string sb] 24)) (.int .u8 0) (.bool false) (.int .i64 0) (.string ⟨#[]⟩)
  have hAH := Lib.hid hA0; have hBH := Lib.hid hB0; have hRH := Lib.hid hR0; clear hA0 hB0 hR0
  go_enter Tryd.func89, Tryd.ntmps89
  go_wp2_with fail
  refine (fits_any ka ba na sa 2 _ (((hTH.out.alloc _).alloc _).alloc _) ha).mono ?_
  rintro e w1 ⟨rfl, hb1⟩
  rw [hbH.out]
  have hbw : Below w.heap.size w w1 := chainB (by go_grown) hb1 (by simp; omega)
  obtain ⟨r0, r1, r2, r3⟩ := (hRH.out.below hb1).cells
  obtain ⟨rf0, rf1, rf2, rf3⟩ := (hRH.out.below hb1).free
  simp only [World.size_alloc] at r0 r1 r2 r3 rf0 rf1 rf2 rf3
  go_wp2
  refine bodyPost_ret (v := .tuple #[.agg #[.int .u8 0, .bool false, .int .i64 0, .string ⟨#[]⟩], .int .u16 13]) (by simp [results, Tryd.results89, go_sem, r0, r1, r2, r3]) rfl ⟨rfl, ?_⟩
  have hsz := hb1.size
  go_grown

set_option maxHeartbeats 2000000 in
theorem decide_bad2 (al : Bool) (ka : Int) (ba : Bool) (na : Int) (sa : ByteArray) (kb : Int) (bb : Bool) (nb : Int) (sb : ByteArray) (w : World) (hT : Tabs w) (ha : sa.size ≤ 9223372036854775807) (hb : sb.size ≤ 9223372036854775807)
    (hbad : fitsD 2 ⟨ka, ba, na, sa⟩ = true) (hbad2 : fitsD 2 ⟨kb, bb, nb, sb⟩ = false) :
    Calls Tryd.prog 89 #[.agg #[.int .u8 ka, .bool ba, .int .i64 na, .string sa], .agg #[.int .u8 kb, .bool bb, .int .i64 nb, .string sb], .bool al] w
      fun e w' => e = .returned (.tuple #[.agg #[.int .u8 0, .bool false, .int .i64 0, .string ⟨#[]⟩], .int .u16 13]) ∧ Below w.heap.size w w' := by
  have hTH := Lib.hid hT
  have hbH := Lib.hid hbad
  have hb2H := Lib.hid hbad2
  clear hT hbad hbad2
  have hA0 := ((Has.new w (.int .u8 ka) (.bool ba) (.int .i64 na) (.string sa)).alloc (.cells #[.int .u8 kb, .bool bb, .int .i64 nb, .string sb] 24)).alloc (.cells #[.int .u8 0, .bool false, .int .i64 0, .string ⟨#[]⟩] 24)
  have hB0 := (Has.new (w.alloc (.cells #[.int .u8 ka, .bool ba, .int .i64 na, .string sa] 24)) (.int .u8 kb) (.bool bb) (.int .i64 nb) (.string sb)).alloc (.cells #[.int .u8 0, .bool false, .int .i64 0, .string ⟨#[]⟩] 24)
  have hR0 := Has.new ((w.alloc (.cells #[.int .u8 ka, .bool ba, .int .i64 na, .string sa] 24)).alloc (.cells #[.int .u8 kb, .bool bb, .int .i64 nb, .string sb] 24)) (.int .u8 0) (.bool false) (.int .i64 0) (.string ⟨#[]⟩)
  have hAH := Lib.hid hA0; have hBH := Lib.hid hB0; have hRH := Lib.hid hR0; clear hA0 hB0 hR0
  go_enter Tryd.func89, Tryd.ntmps89
  go_wp2_with fail
  refine (fits_any ka ba na sa 2 _ (((hTH.out.alloc _).alloc _).alloc _) ha).mono ?_
  rintro e w1 ⟨rfl, hb1⟩
  rw [hbH.out]
  have hbw : Below w.heap.size w w1 := chainB (by go_grown) hb1 (by simp; omega)
  obtain ⟨b0, b1, b2, b3⟩ := (hBH.out.below hb1).cells
  simp only [World.size_alloc] at b0 b1 b2 b3
  have hT1 := Lib.hid ((((hTH.out.alloc _).alloc _).alloc _).below hb1)
  go_wp2_with fail
  refine (fits_any kb bb nb sb 2 _ hT1.out hb).mono ?_
  rintro e w2 ⟨rfl, hb2⟩
  clear b0 b1 b2 b3
  have hb12 := hb1.trans (hb2.mono hb1.size)
  have hbw2 : Below w.heap.size w w2 := chainB hbw hb2 (by have := hb1.size; simp at this; omega)
  clear hbw hb2
  rw [hb2H.out]
  obtain ⟨r0, r1, r2, r3⟩ := (hRH.out.below hb12).cells
  obtain ⟨rf0, rf1, rf2, rf3⟩ := (hRH.out.below hb12).free
  simp only [World.size_alloc] at r0 r1 r2 r3 rf0 rf1 rf2 rf3
  go_wp2
  refine bodyPost_ret (v := .tuple #[.agg #[.int .u8 0, .bool false, .int .i64 0, .string ⟨#[]⟩], .int .u16 13]) (by simp [results, Tryd.results89, go_sem, r0, r1, r2, r3]) rfl ⟨rfl, ?_⟩
  have hsz := hb12.size
  go_grown

theorem tri_of {k : Int} {b : Bool} {n : Int} {s : ByteArray} (h : fitsD 2 ⟨k, b, n, s⟩ = true) : Tri k b ∧ n = 0 ∧ s = ⟨#[]⟩ := by
  rcases fits_bool h with h | ⟨x, h⟩
  · obtain ⟨rfl, rfl, rfl, rfl⟩ := dat_parts h
    exact ⟨.inl ⟨rfl, rfl⟩, rfl, rfl⟩
  · obtain ⟨rfl, rfl, rfl, rfl⟩ := dat_parts h
    exact ⟨.inr rfl, rfl, rfl⟩
theorem decide_any (al : Bool) (ka : Int) (ba : Bool) (na : Int) (sa : ByteArray) (kb : Int) (bb : Bool) (nb : Int) (sb : ByteArray) (w : World) (hT : Tabs w) (ha : sa.size ≤ 9223372036854775807) (hb : sb.size ≤ 9223372036854775807) :
    Calls Tryd.prog 89 #[.agg #[.int .u8 ka, .bool ba, .int .i64 na, .string sa], .agg #[.int .u8 kb, .bool bb, .int .i64 nb, .string sb], .bool al] w
      fun e w' => e = .returned (resV (decS al ⟨ka, ba, na, sa⟩ ⟨kb, bb, nb, sb⟩)) ∧ Below w.heap.size w w' := by
  by_cases f1 : fitsD 2 ⟨ka, ba, na, sa⟩ = false
  · rw [show decS al ⟨ka, ba, na, sa⟩ ⟨kb, bb, nb, sb⟩ = (zeroD, 13) by unfold decS; rw [if_pos f1]]
    exact decide_bad1 al ka ba na sa kb bb nb sb w hT ha hb f1
  by_cases f2 : fitsD 2 ⟨kb, bb, nb, sb⟩ = false
  · rw [show decS al ⟨ka, ba, na, sa⟩ ⟨kb, bb, nb, sb⟩ = (zeroD, 13) by unfold decS; rw [if_neg f1, if_pos f2]]
    exact decide_bad2 al ka ba na sa kb bb nb sb w hT ha hb (by simpa using f1) f2
  obtain ⟨t1, rfl, rfl⟩ := tri_of (by simpa using f1)
  obtain ⟨t2, rfl, rfl⟩ := tri_of (by simpa using f2)
  exact decide_tri al ka ba kb bb t1 t2 w hT

set_option maxHeartbeats 2000000 in
theorem and_any (ka : Int) (ba : Bool) (na : Int) (sa : ByteArray) (kb : Int) (bb : Bool) (nb : Int) (sb : ByteArray) (w : World) (hT : Tabs w) (ha : sa.size ≤ 9223372036854775807) (hb : sb.size ≤ 9223372036854775807) :
    Calls Tryd.prog 44 #[.agg #[.int .u8 ka, .bool ba, .int .i64 na, .string sa], .agg #[.int .u8 kb, .bool bb, .int .i64 nb, .string sb]] w
      fun e w' => e = .returned (resV (decS false ⟨ka, ba, na, sa⟩ ⟨kb, bb, nb, sb⟩)) ∧ Below w.heap.size w w' := by
  obtain ⟨r, hr⟩ : ∃ r, decS false ⟨ka, ba, na, sa⟩ ⟨kb, bb, nb, sb⟩ = r := ⟨_, rfl⟩
  rw [hr]
  obtain ⟨⟨k', b', n', s'⟩, x⟩ := r
  have hrH := Lib.hid hr
  clear hr
  have hTH := Lib.hid hT; have haH := Lib.hid ha; have hbH := Lib.hid hb
  clear hT ha hb
  go_enter Tryd.func44, Tryd.ntmps44
  go_wp2_with (go_at_call 89; go_must (refine (decide_any false ka ba na sa kb bb nb sb _ (((hTH.out.alloc _).alloc _).alloc _) haH.out hbH.out).mono ?_; rw [hrH.out]; rintro e w1 ⟨rfl, hb1⟩; have hbw : Below w.heap.size w w1 := chainB (B := w.heap.size) (a := w) (by go_grown) hb1 (by simp; omega); have hR := (Has.new ((w.alloc (.cells #[.int .u8 ka, .bool ba, .int .i64 na, .string sa] 24)).alloc (.cells #[.int .u8 kb, .bool bb, .int .i64 nb, .string sb] 24)) (.int .u8 0) (.bool false) (.int .i64 0) (.string ⟨#[]⟩)).below hb1; obtain ⟨r0, r1, r2, r3⟩ := hR.cells; obtain ⟨rf0, rf1, rf2, rf3⟩ := hR.free; simp only [World.size_alloc] at r0 r1 r2 r3 rf0 rf1 rf2 rf3; have hz : w.heap.size + 1 + 1 < w1.heap.size := (by have := hb1.size; simp at this; omega); clear hR hb1))
  refine bodyPost_ret (v := .tuple #[.agg #[.int .u8 k', .bool b', .int .i64 n', .string s'], .int .u16 x]) (by simp [results, Tryd.results44, go_sem, r0, r1, r2, r3, hz]) rfl ⟨rfl, ?_⟩
  go_grown

set_option maxHeartbeats 2000000 in
theorem or_any (ka : Int) (ba : Bool) (na : Int) (sa : ByteArray) (kb : Int) (bb : Bool) (nb : Int) (sb : ByteArray) (w : World) (hT : Tabs w) (ha : sa.size ≤ 9223372036854775807) (hb : sb.size ≤ 9223372036854775807) :
    Calls Tryd.prog 45 #[.agg #[.int .u8 ka, .bool ba, .int .i64 na, .string sa], .agg #[.int .u8 kb, .bool bb, .int .i64 nb, .string sb]] w
      fun e w' => e = .returned (resV (decS true ⟨ka, ba, na, sa⟩ ⟨kb, bb, nb, sb⟩)) ∧ Below w.heap.size w w' := by
  obtain ⟨r, hr⟩ : ∃ r, decS true ⟨ka, ba, na, sa⟩ ⟨kb, bb, nb, sb⟩ = r := ⟨_, rfl⟩
  rw [hr]
  obtain ⟨⟨k', b', n', s'⟩, x⟩ := r
  have hrH := Lib.hid hr
  clear hr
  have hTH := Lib.hid hT; have haH := Lib.hid ha; have hbH := Lib.hid hb
  clear hT ha hb
  go_enter Tryd.func45, Tryd.ntmps45
  go_wp2_with (go_at_call 89; go_must (refine (decide_any true ka ba na sa kb bb nb sb _ (((hTH.out.alloc _).alloc _).alloc _) haH.out hbH.out).mono ?_; rw [hrH.out]; rintro e w1 ⟨rfl, hb1⟩; have hbw : Below w.heap.size w w1 := chainB (B := w.heap.size) (a := w) (by go_grown) hb1 (by simp; omega); have hR := (Has.new ((w.alloc (.cells #[.int .u8 ka, .bool ba, .int .i64 na, .string sa] 24)).alloc (.cells #[.int .u8 kb, .bool bb, .int .i64 nb, .string sb] 24)) (.int .u8 0) (.bool false) (.int .i64 0) (.string ⟨#[]⟩)).below hb1; obtain ⟨r0, r1, r2, r3⟩ := hR.cells; obtain ⟨rf0, rf1, rf2, rf3⟩ := hR.free; simp only [World.size_alloc] at r0 r1 r2 r3 rf0 rf1 rf2 rf3; have hz : w.heap.size + 1 + 1 < w1.heap.size := (by have := hb1.size; simp at this; omega); clear hR hb1))
  refine bodyPost_ret (v := .tuple #[.agg #[.int .u8 k', .bool b', .int .i64 n', .string s'], .int .u16 x]) (by simp [results, Tryd.results45, go_sem, r0, r1, r2, r3, hz]) rfl ⟨rfl, ?_⟩
  go_grown

end Go.Proofs.YtlodohgoondkhaaDoor
