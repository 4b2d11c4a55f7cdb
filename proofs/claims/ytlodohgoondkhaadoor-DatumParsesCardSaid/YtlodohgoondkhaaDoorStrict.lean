/-
  What datum.strict answers, at this program, for any operation that is handed in. Condition: the tables of Go's library lie as their initialisers lay them; what the operation answers is given.
-/
import Derived.Test.YtlodohgoondkhaaDoorBase
set_option linter.unusedVariables false
set_option linter.unusedSimpArgs false
namespace Go.Proofs.YtlodohgoondkhaaDoor
open Go.RowKit Go.Lib

set_option maxHeartbeats 2000000 in
theorem strict_bad1 (kk ka : Int) (ba : Bool) (na : Int) (sa : ByteArray) (kb : Int) (bb : Bool) (nb : Int) (sb : ByteArray) (fv : Value) (w : World) (hT : Tabs w) (ha : sa.size ≤ 9223372036854775807) (hb : sb.size ≤ 9223372036854775807)
    (hbad : fitsD kk ⟨ka, ba, na, sa⟩ = false) :
    Calls Tryd.prog 78 #[.int .u8 kk, .agg #[.int .u8 ka, .bool ba, .int .i64 na, .string sa], .agg #[.int .u8 kb, .bool bb, .int .i64 nb, .string sb], fv] w
      fun e w' => e = .returned (.tuple #[.agg #[.int .u8 0, .bool false, .int .i64 0, .string ⟨#[]⟩], .int .u16 13]) ∧ Below w.heap.size w w' := by
  have hTH := Lib.hid hT
  have hbH := Lib.hid hbad
  clear hT hbad
  have hA0 := ((Has.new w (.int .u8 ka) (.bool ba) (.int .i64 na) (.string sa)).alloc (.cells #[.int .u8 kb, .bool bb, .int .i64 nb, .string sb] 24)).alloc (.cells #[.int .u8 0, .bool false, .int .i64 0, .string ⟨#[]⟩] 24)
  have hB0 := (Has.new (w.alloc (.cells #[.int .u8 ka, .bool ba, .int .i64 na, .string sa] 24)) (.int .u8 kb) (.bool bb) (.int .i64 nb) (.string sb)).alloc (.cells #[.int .u8 0, .bool false, .int .i64 0, .string ⟨#[]⟩] 24)
  have hR0 := Has.new ((w.alloc (.cells #[.int .u8 ka, .bool ba, .int .i64 na, .string sa] 24)).alloc (.cells #[.int .u8 kb, .bool bb, .int .i64 nb, .string sb] 24)) (.int .u8 0) (.bool false) (.int .i64 0) (.string ⟨#[]⟩)
  have hAH := Lib.hid hA0; have hBH := Lib.hid hB0; have hRH := Lib.hid hR0; clear hA0 hB0 hR0
  go_enter Tryd.func78, Tryd.ntmps78
  go_wp2_with fail
  refine (fits_any ka ba na sa kk _ (((hTH.out.alloc _).alloc _).alloc _) ha).mono ?_
  rintro e w1 ⟨rfl, hb1⟩
  rw [hbH.out]
  have hbw : Below w.heap.size w w1 := chainB (by go_grown) hb1 (by simp; omega)
  obtain ⟨r0, r1, r2, r3⟩ := (hRH.out.below hb1).cells
  obtain ⟨rf0, rf1, rf2, rf3⟩ := (hRH.out.below hb1).free
  simp only [World.size_alloc] at r0 r1 r2 r3 rf0 rf1 rf2 rf3
  go_wp2
  refine bodyPost_ret (v := .tuple #[.agg #[.int .u8 0, .bool false, .int .i64 0, .string ⟨#[]⟩], .int .u16 13]) (by simp [results, Tryd.results78, go_sem, r0, r1, r2, r3]) rfl ⟨rfl, ?_⟩
  have hsz := hb1.size
  go_grown

set_option maxHeartbeats 2000000 in
theorem strict_bad2 (kk ka : Int) (ba : Bool) (na : Int) (sa : ByteArray) (kb : Int) (bb : Bool) (nb : Int) (sb : ByteArray) (fv : Value) (w : World) (hT : Tabs w) (ha : sa.size ≤ 9223372036854775807) (hb : sb.size ≤ 9223372036854775807)
    (hbad : fitsD kk ⟨ka, ba, na, sa⟩ = true) (hbad2 : fitsD kk ⟨kb, bb, nb, sb⟩ = false) :
    Calls Tryd.prog 78 #[.int .u8 kk, .agg #[.int .u8 ka, .bool ba, .int .i64 na, .string sa], .agg #[.int .u8 kb, .bool bb, .int .i64 nb, .string sb], fv] w
      fun e w' => e = .returned (.tuple #[.agg #[.int .u8 0, .bool false, .int .i64 0, .string ⟨#[]⟩], .int .u16 13]) ∧ Below w.heap.size w w' := by
  have hTH := Lib.hid hT
  have hbH := Lib.hid hbad
  have hb2H := Lib.hid hbad2
  clear hT hbad hbad2
  have hA0 := ((Has.new w (.int .u8 ka) (.bool ba) (.int .i64 na) (.string sa)).alloc (.cells #[.int .u8 kb, .bool bb, .int .i64 nb, .string sb] 24)).alloc (.cells #[.int .u8 0, .bool false, .int .i64 0, .string ⟨#[]⟩] 24)
  have hB0 := (Has.new (w.alloc (.cells #[.int .u8 ka, .bool ba, .int .i64 na, .string sa] 24)) (.int .u8 kb) (.bool bb) (.int .i64 nb) (.string sb)).alloc (.cells #[.int .u8 0, .bool false, .int .i64 0, .string ⟨#[]⟩] 24)
  have hR0 := Has.new ((w.alloc (.cells #[.int .u8 ka, .bool ba, .int .i64 na, .string sa] 24)).alloc (.cells #[.int .u8 kb, .bool bb, .int .i64 nb, .string sb] 24)) (.int .u8 0) (.bool false) (.int .i64 0) (.string ⟨#[]⟩)
  have hAH := Lib.hid hA0; have hBH := Lib.hid hB0; have hRH := Lib.hid hR0; clear hA0 hB0 hR0
  go_enter Tryd.func78, Tryd.ntmps78
  go_wp2_with fail
  refine (fits_any ka ba na sa kk _ (((hTH.out.alloc _).alloc _).alloc _) ha).mono ?_
  rintro e w1 ⟨rfl, hb1⟩
  rw [hbH.out]
  have hbw : Below w.heap.size w w1 := chainB (by go_grown) hb1 (by simp; omega)
  obtain ⟨b0, b1, b2, b3⟩ := (hBH.out.below hb1).cells
  simp only [World.size_alloc] at b0 b1 b2 b3
  have hT1 := Lib.hid ((((hTH.out.alloc _).alloc _).alloc _).below hb1)
  go_wp2_with fail
  refine (fits_any kb bb nb sb kk _ hT1.out hb).mono ?_
  rintro e w2 ⟨rfl, hb2⟩
  clear b0 b1 b2 b3
  have hb12 := hb1.trans (hb2.mono hb1.size)
  have hbw2 : Below w.heap.size w w2 := chainB hbw hb2 (by have := hb1.size; simp at this; omega)
  clear hbw hb2
  rw [hb2H.out]
  obtain ⟨r0, r1, r2, r3⟩ := (hRH.out.below hb12).cells
  obtain ⟨rf0, rf1, rf2, rf3⟩ := (hRH.out.below hb12).free
  simp only [World.size_alloc] at r0 r1 r2 r3 rf0 rf1 rf2 rf3
  go_wp2
  refine bodyPost_ret (v := .tuple #[.agg #[.int .u8 0, .bool false, .int .i64 0, .string ⟨#[]⟩], .int .u16 13]) (by simp [results, Tryd.results78, go_sem, r0, r1, r2, r3]) rfl ⟨rfl, ?_⟩
  have hsz := hb12.size
  go_grown

set_option maxHeartbeats 2000000 in
theorem strict_null1 (kk ka : Int) (ba : Bool) (na : Int) (sa : ByteArray) (kb : Int) (bb : Bool) (nb : Int) (sb : ByteArray) (fv : Value) (w : World) (hT : Tabs w) (ha : sa.size ≤ 9223372036854775807) (hb : sb.size ≤ 9223372036854775807)
    (hbad : fitsD kk ⟨ka, ba, na, sa⟩ = true) (hbad2 : fitsD kk ⟨kb, bb, nb, sb⟩ = true) (hk : ka = 1) :
    Calls Tryd.prog 78 #[.int .u8 kk, .agg #[.int .u8 ka, .bool ba, .int .i64 na, .string sa], .agg #[.int .u8 kb, .bool bb, .int .i64 nb, .string sb], fv] w
      fun e w' => e = .returned (.tuple #[.agg #[.int .u8 1, .bool false, .int .i64 0, .string ⟨#[]⟩], .int .u16 0]) ∧ Below w.heap.size w w' := by
  subst hk
  have hTH := Lib.hid hT
  have hbH := Lib.hid hbad
  have hb2H := Lib.hid hbad2
  clear hT hbad hbad2
  have hA0 := ((Has.new w (.int .u8 1) (.bool ba) (.int .i64 na) (.string sa)).alloc (.cells #[.int .u8 kb, .bool bb, .int .i64 nb, .string sb] 24)).alloc (.cells #[.int .u8 0, .bool false, .int .i64 0, .string ⟨#[]⟩] 24)
  have hB0 := (Has.new (w.alloc (.cells #[.int .u8 1, .bool ba, .int .i64 na, .string sa] 24)) (.int .u8 kb) (.bool bb) (.int .i64 nb) (.string sb)).alloc (.cells #[.int .u8 0, .bool false, .int .i64 0, .string ⟨#[]⟩] 24)
  have hR0 := Has.new ((w.alloc (.cells #[.int .u8 1, .bool ba, .int .i64 na, .string sa] 24)).alloc (.cells #[.int .u8 kb, .bool bb, .int .i64 nb, .string sb] 24)) (.int .u8 0) (.bool false) (.int .i64 0) (.string ⟨#[]⟩)
  have hAH := Lib.hid hA0; have hBH := Lib.hid hB0; have hRH := Lib.hid hR0; clear hA0 hB0 hR0
  go_enter Tryd.func78, Tryd.ntmps78
  go_wp2_with fail
  refine (fits_any 1 ba na sa kk _ (((hTH.out.alloc _).alloc _).alloc _) ha).mono ?_
  rintro e w1 ⟨rfl, hb1⟩
  rw [hbH.out]
  have hbw : Below w.heap.size w w1 := chainB (by go_grown) hb1 (by simp; omega)
  obtain ⟨b0, b1, b2, b3⟩ := (hBH.out.below hb1).cells
  simp only [World.size_alloc] at b0 b1 b2 b3
  have hT1 := Lib.hid ((((hTH.out.alloc _).alloc _).alloc _).below hb1)
  go_wp2_with fail
  refine (fits_any kb bb nb sb kk _ hT1.out hb).mono ?_
  rintro e w2 ⟨rfl, hb2⟩
  clear b0 b1 b2 b3
  have hb12 := hb1.trans (hb2.mono hb1.size)
  have hbw2 : Below w.heap.size w w2 := chainB hbw hb2 (by have := hb1.size; simp at this; omega)
  clear hbw hb2
  rw [hb2H.out]
  obtain ⟨r0, r1, r2, r3⟩ := (hRH.out.below hb12).cells
  obtain ⟨rf0, rf1, rf2, rf3⟩ := (hRH.out.below hb12).free
  simp only [World.size_alloc] at r0 r1 r2 r3 rf0 rf1 rf2 rf3
  obtain ⟨a0, a1, a2, a3⟩ := (hAH.out.below hb12).cells
  have hT2 := hb2H
  go_wp2_with fail
  refine (isNull_any 1 ba na sa _).mono ?_
  rintro e w3 ⟨rfl, hb3⟩
  have hbw3 : Below w.heap.size w w3 := chainB hbw2 hb3 (by have := hb12.size; simp at this; omega)
  have hb13 := hb12.trans (hb3.mono hb12.size)
  clear hbw2 hb3
  clear r0 r1 r2 r3 rf0 rf1 rf2 rf3 a0 a1 a2 a3
  obtain ⟨r0, r1, r2, r3⟩ := (hRH.out.below hb13).cells
  obtain ⟨rf0, rf1, rf2, rf3⟩ := (hRH.out.below hb13).free
  simp only [World.size_alloc] at r0 r1 r2 r3 rf0 rf1 rf2 rf3
  have hz : w.heap.size + 1 + 1 < w3.heap.size := by have := hb13.size; simp at this; omega
  go_wp2
  refine bodyPost_ret (v := .tuple #[.agg #[.int .u8 1, .bool false, .int .i64 0, .string ⟨#[]⟩], .int .u16 0]) (by simp [results, Tryd.results78, go_sem, r0, r1, r2, r3, hz]) rfl ⟨rfl, ?_⟩
  have hsz := hb13.size
  go_grown

set_option maxHeartbeats 2000000 in
theorem strict_null2 (kk ka : Int) (ba : Bool) (na : Int) (sa : ByteArray) (kb : Int) (bb : Bool) (nb : Int) (sb : ByteArray) (fv : Value) (w : World) (hT : Tabs w) (ha : sa.size ≤ 9223372036854775807) (hb : sb.size ≤ 9223372036854775807)
    (hbad : fitsD kk ⟨ka, ba, na, sa⟩ = true) (hbad2 : fitsD kk ⟨kb, bb, nb, sb⟩ = true) (hk : (ka == 1) = false) (hk2 : kb = 1) :
    Calls Tryd.prog 78 #[.int .u8 kk, .agg #[.int .u8 ka, .bool ba, .int .i64 na, .string sa], .agg #[.int .u8 kb, .bool bb, .int .i64 nb, .string sb], fv] w
      fun e w' => e = .returned (.tuple #[.agg #[.int .u8 1, .bool false, .int .i64 0, .string ⟨#[]⟩], .int .u16 0]) ∧ Below w.heap.size w w' := by
  subst hk2
  have hTH := Lib.hid hT
  have hbH := Lib.hid hbad
  have hb2H := Lib.hid hbad2
  clear hT hbad hbad2
  have hA0 := ((Has.new w (.int .u8 ka) (.bool ba) (.int .i64 na) (.string sa)).alloc (.cells #[.int .u8 1, .bool bb, .int .i64 nb, .string sb] 24)).alloc (.cells #[.int .u8 0, .bool false, .int .i64 0, .string ⟨#[]⟩] 24)
  have hB0 := (Has.new (w.alloc (.cells #[.int .u8 ka, .bool ba, .int .i64 na, .string sa] 24)) (.int .u8 1) (.bool bb) (.int .i64 nb) (.string sb)).alloc (.cells #[.int .u8 0, .bool false, .int .i64 0, .string ⟨#[]⟩] 24)
  have hR0 := Has.new ((w.alloc (.cells #[.int .u8 ka, .bool ba, .int .i64 na, .string sa] 24)).alloc (.cells #[.int .u8 1, .bool bb, .int .i64 nb, .string sb] 24)) (.int .u8 0) (.bool false) (.int .i64 0) (.string ⟨#[]⟩)
  have hAH := Lib.hid hA0; have hBH := Lib.hid hB0; have hRH := Lib.hid hR0; clear hA0 hB0 hR0
  go_enter Tryd.func78, Tryd.ntmps78
  go_wp2_with fail
  refine (fits_any ka ba na sa kk _ (((hTH.out.alloc _).alloc _).alloc _) ha).mono ?_
  rintro e w1 ⟨rfl, hb1⟩
  rw [hbH.out]
  have hbw : Below w.heap.size w w1 := chainB (by go_grown) hb1 (by simp; omega)
  obtain ⟨b0, b1, b2, b3⟩ := (hBH.out.below hb1).cells
  simp only [World.size_alloc] at b0 b1 b2 b3
  have hT1 := Lib.hid ((((hTH.out.alloc _).alloc _).alloc _).below hb1)
  go_wp2_with fail
  refine (fits_any 1 bb nb sb kk _ hT1.out hb).mono ?_
  rintro e w2 ⟨rfl, hb2⟩
  clear b0 b1 b2 b3
  have hb12 := hb1.trans (hb2.mono hb1.size)
  have hbw2 : Below w.heap.size w w2 := chainB hbw hb2 (by have := hb1.size; simp at this; omega)
  clear hbw hb2
  rw [hb2H.out]
  obtain ⟨r0, r1, r2, r3⟩ := (hRH.out.below hb12).cells
  obtain ⟨rf0, rf1, rf2, rf3⟩ := (hRH.out.below hb12).free
  simp only [World.size_alloc] at r0 r1 r2 r3 rf0 rf1 rf2 rf3
  obtain ⟨a0, a1, a2, a3⟩ := (hAH.out.below hb12).cells
  have hT2 := hb2H
  go_wp2_with fail
  refine (isNull_any ka ba na sa _).mono ?_
  rintro e w3 ⟨rfl, hb3⟩
  have hbw3 : Below w.heap.size w w3 := chainB hbw2 hb3 (by have := hb12.size; simp at this; omega)
  have hb13 := hb12.trans (hb3.mono hb12.size)
  clear hbw2 hb3
  clear r0 r1 r2 r3 rf0 rf1 rf2 rf3 a0 a1 a2 a3
  obtain ⟨r0, r1, r2, r3⟩ := (hRH.out.below hb13).cells
  obtain ⟨rf0, rf1, rf2, rf3⟩ := (hRH.out.below hb13).free
  simp only [World.size_alloc] at r0 r1 r2 r3 rf0 rf1 rf2 rf3
  obtain ⟨b0, b1, b2, b3⟩ := (hBH.out.below hb13).cells
  simp only [World.size_alloc] at b0 b1 b2 b3
  have hT2 := hb2H
  go_wp2_with fail
  refine (isNull_any 1 bb nb sb _).mono ?_
  rintro e w4 ⟨rfl, hb4⟩
  have hbw4 : Below w.heap.size w w4 := chainB hbw3 hb4 (by have := hb13.size; simp at this; omega)
  have hb14 := hb13.trans (hb4.mono hb13.size)
  clear hbw3 hb4
  clear r0 r1 r2 r3 rf0 rf1 rf2 rf3 b0 b1 b2 b3
  obtain ⟨r0, r1, r2, r3⟩ := (hRH.out.below hb14).cells
  obtain ⟨rf0, rf1, rf2, rf3⟩ := (hRH.out.below hb14).free
  simp only [World.size_alloc] at r0 r1 r2 r3 rf0 rf1 rf2 rf3
  have hz : w.heap.size + 1 + 1 < w4.heap.size := by have := hb14.size; simp at this; omega
  go_wp2
  refine bodyPost_ret (v := .tuple #[.agg #[.int .u8 1, .bool false, .int .i64 0, .string ⟨#[]⟩], .int .u16 0]) (by simp [results, Tryd.results78, go_sem, r0, r1, r2, r3, hz]) rfl ⟨rfl, ?_⟩
  have hsz := hb14.size
  go_grown

set_option maxHeartbeats 2000000 in
theorem strict_go (kk ka : Int) (ba : Bool) (na : Int) (sa : ByteArray) (kb : Int) (bb : Bool) (nb : Int) (sb : ByteArray) (fv : Value) (w : World) (hT : Tabs w) (ha : sa.size ≤ 9223372036854775807) (hb : sb.size ≤ 9223372036854775807)
    (hbad : fitsD kk ⟨ka, ba, na, sa⟩ = true) (hbad2 : fitsD kk ⟨kb, bb, nb, sb⟩ = true) (hk : (ka == 1) = false) (hk2 : (kb == 1) = false) (g : Nat) (caps : Array Value)
    (he : ∀ args w, (callFunc g args).run Tryd.prog w = .ok (.enter g args) w) (k' : Int) (b' : Bool) (n' : Int) (s' : ByteArray) (x' : Int) (hfv : fv = .func (.func g) #[] caps)
    (hg : ∀ W, Below w.heap.size w W → Calls Tryd.prog g (#[.agg #[.int .u8 ka, .bool ba, .int .i64 na, .string sa], .agg #[.int .u8 kb, .bool bb, .int .i64 nb, .string sb]] ++ caps) W fun e W' => e = .returned (.tuple #[.agg #[.int .u8 k', .bool b', .int .i64 n', .string s'], .int .u16 x']) ∧ Below W.heap.size W W') :
    Calls Tryd.prog 78 #[.int .u8 kk, .agg #[.int .u8 ka, .bool ba, .int .i64 na, .string sa], .agg #[.int .u8 kb, .bool bb, .int .i64 nb, .string sb], fv] w
      fun e w' => e = .returned (.tuple #[.agg #[.int .u8 k', .bool b', .int .i64 n', .string s'], .int .u16 x']) ∧ Below w.heap.size w w' := by
  subst hfv
  have hTH := Lib.hid hT
  have hbH := Lib.hid hbad
  have hb2H := Lib.hid hbad2
  have hgH := Lib.hid hg
  clear hT hbad hbad2 hg
  have hA0 := ((Has.new w (.int .u8 ka) (.bool ba) (.int .i64 na) (.string sa)).alloc (.cells #[.int .u8 kb, .bool bb, .int .i64 nb, .string sb] 24)).alloc (.cells #[.int .u8 0, .bool false, .int .i64 0, .string ⟨#[]⟩] 24)
  have hB0 := (Has.new (w.alloc (.cells #[.int .u8 ka, .bool ba, .int .i64 na, .string sa] 24)) (.int .u8 kb) (.bool bb) (.int .i64 nb) (.string sb)).alloc (.cells #[.int .u8 0, .bool false, .int .i64 0, .string ⟨#[]⟩] 24)
  have hR0 := Has.new ((w.alloc (.cells #[.int .u8 ka, .bool ba, .int .i64 na, .string sa] 24)).alloc (.cells #[.int .u8 kb, .bool bb, .int .i64 nb, .string sb] 24)) (.int .u8 0) (.bool false) (.int .i64 0) (.string ⟨#[]⟩)
  have hAH := Lib.hid hA0; have hBH := Lib.hid hB0; have hRH := Lib.hid hR0; clear hA0 hB0 hR0
  go_enter Tryd.func78, Tryd.ntmps78
  go_wp2_with fail
  refine (fits_any ka ba na sa kk _ (((hTH.out.alloc _).alloc _).alloc _) ha).mono ?_
  rintro e w1 ⟨rfl, hb1⟩
  rw [hbH.out]
  have hbw : Below w.heap.size w w1 := chainB (by go_grown) hb1 (by simp; omega)
  obtain ⟨b0, b1, b2, b3⟩ := (hBH.out.below hb1).cells
  simp only [World.size_alloc] at b0 b1 b2 b3
  have hT1 := Lib.hid ((((hTH.out.alloc _).alloc _).alloc _).below hb1)
  go_wp2_with fail
  refine (fits_any kb bb nb sb kk _ hT1.out hb).mono ?_
  rintro e w2 ⟨rfl, hb2⟩
  clear b0 b1 b2 b3
  have hb12 := hb1.trans (hb2.mono hb1.size)
  have hbw2 : Below w.heap.size w w2 := chainB hbw hb2 (by have := hb1.size; simp at this; omega)
  clear hbw hb2
  rw [hb2H.out]
  obtain ⟨a0, a1, a2, a3⟩ := (hAH.out.below hb12).cells
  have hT2 := hb2H
  go_wp2_with fail
  refine (isNull_any ka ba na sa _).mono ?_
  rintro e w3 ⟨rfl, hb3⟩
  have hbw3 : Below w.heap.size w w3 := chainB hbw2 hb3 (by have := hb12.size; simp at this; omega)
  have hb13 := hb12.trans (hb3.mono hb12.size)
  clear hbw2 hb3
  clear a0 a1 a2 a3
  obtain ⟨b0, b1, b2, b3⟩ := (hBH.out.below hb13).cells
  simp only [World.size_alloc] at b0 b1 b2 b3
  have hT2 := hb2H
  go_wp2_with fail
  refine (isNull_any kb bb nb sb _).mono ?_
  rintro e w4 ⟨rfl, hb4⟩
  have hbw4 : Below w.heap.size w w4 := chainB hbw3 hb4 (by have := hb13.size; simp at this; omega)
  have hb14 := hb13.trans (hb4.mono hb13.size)
  clear hbw3 hb4
  clear b0 b1 b2 b3
  obtain ⟨a0, a1, a2, a3⟩ := (hAH.out.below hb14).cells
  obtain ⟨b0, b1, b2, b3⟩ := (hBH.out.below hb14).cells
  simp only [World.size_alloc] at b0 b1 b2 b3
  go_wp2_with fail
  refine (hgH.out w4 hbw4).mono ?_
  rintro e w5 ⟨rfl, hb5⟩
  have hbw5 : Below w.heap.size w w5 := chainB hbw4 hb5 (by have := hb14.size; simp at this; omega)
  have hb15 := hb14.trans (hb5.mono hb14.size)
  clear hbw4 hb5 a0 a1 a2 a3 b0 b1 b2 b3
  obtain ⟨r0, r1, r2, r3⟩ := (hRH.out.below hb15).cells
  obtain ⟨rf0, rf1, rf2, rf3⟩ := (hRH.out.below hb15).free
  simp only [World.size_alloc] at r0 r1 r2 r3 rf0 rf1 rf2 rf3
  go_wp2
  refine bodyPost_ret (v := .tuple #[.agg #[.int .u8 k', .bool b', .int .i64 n', .string s'], .int .u16 x']) (by simp [results, Tryd.results78, go_sem, r0, r1, r2, r3]) rfl ⟨rfl, ?_⟩
  have hsz := hb15.size
  go_grown

end Go.Proofs.YtlodohgoondkhaaDoor
