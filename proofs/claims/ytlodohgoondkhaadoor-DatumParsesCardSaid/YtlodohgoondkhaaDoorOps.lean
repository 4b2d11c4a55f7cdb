/-
  What datum.Add, Sub, Mul, Div, Mod and Neg answer, at this program: for all data. Condition: the tables of Go's library lie as their initialisers lay them.
-/
import Derived.Test.YtlodohgoondkhaaDoorNum
import Derived.Test.YtlodohgoondkhaaDoorInts
import Derived.Deep.RegionWith
set_option linter.unusedVariables false
set_option linter.unusedSimpArgs false
namespace Go.Proofs.YtlodohgoondkhaaDoor
open Go.RowKit Go.Lib

set_option maxHeartbeats 2000000 in
theorem add_any (ka : Int) (ba : Bool) (na : Int) (sa : ByteArray) (kb : Int) (bb : Bool) (nb : Int) (sb : ByteArray) (w : World) (hT : Tabs w) (ha : sa.size ≤ 9223372036854775807) (hb : sb.size ≤ 9223372036854775807) (hna : I64 na) (hnb : I64 nb) :
    Calls Tryd.prog 26 #[.agg #[.int .u8 ka, .bool ba, .int .i64 na, .string sa], .agg #[.int .u8 kb, .bool bb, .int .i64 nb, .string sb]] w
      fun e w' => e = .returned (resV (numS ⟨ka, ba, na, sa⟩ ⟨kb, bb, nb, sb⟩ (sumS na nb))) ∧ Below w.heap.size w w' := by
  obtain ⟨r, hr⟩ : ∃ r, numS ⟨ka, ba, na, sa⟩ ⟨kb, bb, nb, sb⟩ (sumS na nb) = r := ⟨_, rfl⟩
  rw [hr]
  obtain ⟨⟨k, b, n, s⟩, x⟩ := r
  have hrH := Lib.hid hr
  clear hr
  have hTH := Lib.hid hT
  have haH := Lib.hid hna; have hbH := Lib.hid hnb
  clear hT hna hnb
  go_enter Tryd.func26, Tryd.ntmps26
  go_wp2_with fail
  refine (numbers_any ka ba na sa kb bb nb sb 72 (sumS na nb) _ (((hTH.out.alloc _).alloc _).alloc _) ha hb (enters_of Tryd.func72 (by kernel_rfl) rfl) (fun W => sum_any na nb W haH.out hbH.out)).mono ?_
  rw [hrH.out]
  rintro e w1 ⟨rfl, hb1⟩
  have hbw : Below w.heap.size w w1 := chainB (by go_grown) hb1 (by simp; omega)
  have hR := (Has.new ((w.alloc (.cells #[.int .u8 ka, .bool ba, .int .i64 na, .string sa] 24)).alloc (.cells #[.int .u8 kb, .bool bb, .int .i64 nb, .string sb] 24)) (.int .u8 0) (.bool false) (.int .i64 0) (.string ⟨#[]⟩)).below hb1
  obtain ⟨r0, r1, r2, r3⟩ := hR.cells
  obtain ⟨rf0, rf1, rf2, rf3⟩ := hR.free
  simp only [World.size_alloc] at r0 r1 r2 r3 rf0 rf1 rf2 rf3
  have hz : w.heap.size + 2 < w1.heap.size := by have := hb1.size; simp at this; omega
  clear hR hb1
  go_wp2
  refine bodyPost_ret (v := .tuple #[.agg #[.int .u8 k, .bool b, .int .i64 n, .string s], .int .u16 x]) (by simp [results, Tryd.results26, go_sem, r0, r1, r2, r3, hz]) rfl ⟨rfl, ?_⟩
  go_grown

set_option maxHeartbeats 2000000 in
theorem sub_any (ka : Int) (ba : Bool) (na : Int) (sa : ByteArray) (kb : Int) (bb : Bool) (nb : Int) (sb : ByteArray) (w : World) (hT : Tabs w) (ha : sa.size ≤ 9223372036854775807) (hb : sb.size ≤ 9223372036854775807) (hna : I64 na) (hnb : I64 nb) :
    Calls Tryd.prog 27 #[.agg #[.int .u8 ka, .bool ba, .int .i64 na, .string sa], .agg #[.int .u8 kb, .bool bb, .int .i64 nb, .string sb]] w
      fun e w' => e = .returned (resV (numS ⟨ka, ba, na, sa⟩ ⟨kb, bb, nb, sb⟩ (difS na nb))) ∧ Below w.heap.size w w' := by
  obtain ⟨r, hr⟩ : ∃ r, numS ⟨ka, ba, na, sa⟩ ⟨kb, bb, nb, sb⟩ (difS na nb) = r := ⟨_, rfl⟩
  rw [hr]
  obtain ⟨⟨k, b, n, s⟩, x⟩ := r
  have hrH := Lib.hid hr
  clear hr
  have hTH := Lib.hid hT
  have haH := Lib.hid hna; have hbH := Lib.hid hnb
  clear hT hna hnb
  go_enter Tryd.func27, Tryd.ntmps27
  go_wp2_with fail
  refine (numbers_any ka ba na sa kb bb nb sb 71 (difS na nb) _ (((hTH.out.alloc _).alloc _).alloc _) ha hb (enters_of Tryd.func71 (by kernel_rfl) rfl) (fun W => difference_any na nb W haH.out hbH.out)).mono ?_
  rw [hrH.out]
  rintro e w1 ⟨rfl, hb1⟩
  have hbw : Below w.heap.size w w1 := chainB (by go_grown) hb1 (by simp; omega)
  have hR := (Has.new ((w.alloc (.cells #[.int .u8 ka, .bool ba, .int .i64 na, .string sa] 24)).alloc (.cells #[.int .u8 kb, .bool bb, .int .i64 nb, .string sb] 24)) (.int .u8 0) (.bool false) (.int .i64 0) (.string ⟨#[]⟩)).below hb1
  obtain ⟨r0, r1, r2, r3⟩ := hR.cells
  obtain ⟨rf0, rf1, rf2, rf3⟩ := hR.free
  simp only [World.size_alloc] at r0 r1 r2 r3 rf0 rf1 rf2 rf3
  have hz : w.heap.size + 2 < w1.heap.size := by have := hb1.size; simp at this; omega
  clear hR hb1
  go_wp2
  refine bodyPost_ret (v := .tuple #[.agg #[.int .u8 k, .bool b, .int .i64 n, .string s], .int .u16 x]) (by simp [results, Tryd.results27, go_sem, r0, r1, r2, r3, hz]) rfl ⟨rfl, ?_⟩
  go_grown

set_option maxHeartbeats 2000000 in
theorem mul_any (ka : Int) (ba : Bool) (na : Int) (sa : ByteArray) (kb : Int) (bb : Bool) (nb : Int) (sb : ByteArray) (w : World) (hT : Tabs w) (ha : sa.size ≤ 9223372036854775807) (hb : sb.size ≤ 9223372036854775807) (hna : I64 na) (hnb : I64 nb) :
    Calls Tryd.prog 28 #[.agg #[.int .u8 ka, .bool ba, .int .i64 na, .string sa], .agg #[.int .u8 kb, .bool bb, .int .i64 nb, .string sb]] w
      fun e w' => e = .returned (resV (numS ⟨ka, ba, na, sa⟩ ⟨kb, bb, nb, sb⟩ (mulS na nb))) ∧ Below w.heap.size w w' := by
  obtain ⟨r, hr⟩ : ∃ r, numS ⟨ka, ba, na, sa⟩ ⟨kb, bb, nb, sb⟩ (mulS na nb) = r := ⟨_, rfl⟩
  rw [hr]
  obtain ⟨⟨k, b, n, s⟩, x⟩ := r
  have hrH := Lib.hid hr
  clear hr
  have hTH := Lib.hid hT
  have haH := Lib.hid hna; have hbH := Lib.hid hnb
  clear hT hna hnb
  go_enter Tryd.func28, Tryd.ntmps28
  go_wp2_with fail
  refine (numbers_any ka ba na sa kb bb nb sb 73 (mulS na nb) _ (((hTH.out.alloc _).alloc _).alloc _) ha hb (enters_of Tryd.func73 (by kernel_rfl) rfl) (fun W => product_any na nb W haH.out hbH.out)).mono ?_
  rw [hrH.out]
  rintro e w1 ⟨rfl, hb1⟩
  have hbw : Below w.heap.size w w1 := chainB (by go_grown) hb1 (by simp; omega)
  have hR := (Has.new ((w.alloc (.cells #[.int .u8 ka, .bool ba, .int .i64 na, .string sa] 24)).alloc (.cells #[.int .u8 kb, .bool bb, .int .i64 nb, .string sb] 24)) (.int .u8 0) (.bool false) (.int .i64 0) (.string ⟨#[]⟩)).below hb1
  obtain ⟨r0, r1, r2, r3⟩ := hR.cells
  obtain ⟨rf0, rf1, rf2, rf3⟩ := hR.free
  simp only [World.size_alloc] at r0 r1 r2 r3 rf0 rf1 rf2 rf3
  have hz : w.heap.size + 2 < w1.heap.size := by have := hb1.size; simp at this; omega
  clear hR hb1
  go_wp2
  refine bodyPost_ret (v := .tuple #[.agg #[.int .u8 k, .bool b, .int .i64 n, .string s], .int .u16 x]) (by simp [results, Tryd.results28, go_sem, r0, r1, r2, r3, hz]) rfl ⟨rfl, ?_⟩
  go_grown

set_option maxHeartbeats 2000000 in
theorem div_any (ka : Int) (ba : Bool) (na : Int) (sa : ByteArray) (kb : Int) (bb : Bool) (nb : Int) (sb : ByteArray) (w : World) (hT : Tabs w) (ha : sa.size ≤ 9223372036854775807) (hb : sb.size ≤ 9223372036854775807) (hna : I64 na) (hnb : I64 nb) :
    Calls Tryd.prog 29 #[.agg #[.int .u8 ka, .bool ba, .int .i64 na, .string sa], .agg #[.int .u8 kb, .bool bb, .int .i64 nb, .string sb]] w
      fun e w' => e = .returned (resV (numS ⟨ka, ba, na, sa⟩ ⟨kb, bb, nb, sb⟩ (quoS na nb))) ∧ Below w.heap.size w w' := by
  obtain ⟨r, hr⟩ : ∃ r, numS ⟨ka, ba, na, sa⟩ ⟨kb, bb, nb, sb⟩ (quoS na nb) = r := ⟨_, rfl⟩
  rw [hr]
  obtain ⟨⟨k, b, n, s⟩, x⟩ := r
  have hrH := Lib.hid hr
  clear hr
  have hTH := Lib.hid hT
  have haH := Lib.hid hna; have hbH := Lib.hid hnb
  clear hT hna hnb
  go_enter Tryd.func29, Tryd.ntmps29
  go_wp2_with fail
  refine (numbers_any ka ba na sa kb bb nb sb 74 (quoS na nb) _ (((hTH.out.alloc _).alloc _).alloc _) ha hb (enters_of Tryd.func74 (by kernel_rfl) rfl) (fun W => quotient_any na nb W haH.out hbH.out)).mono ?_
  rw [hrH.out]
  rintro e w1 ⟨rfl, hb1⟩
  have hbw : Below w.heap.size w w1 := chainB (by go_grown) hb1 (by simp; omega)
  have hR := (Has.new ((w.alloc (.cells #[.int .u8 ka, .bool ba, .int .i64 na, .string sa] 24)).alloc (.cells #[.int .u8 kb, .bool bb, .int .i64 nb, .string sb] 24)) (.int .u8 0) (.bool false) (.int .i64 0) (.string ⟨#[]⟩)).below hb1
  obtain ⟨r0, r1, r2, r3⟩ := hR.cells
  obtain ⟨rf0, rf1, rf2, rf3⟩ := hR.free
  simp only [World.size_alloc] at r0 r1 r2 r3 rf0 rf1 rf2 rf3
  have hz : w.heap.size + 2 < w1.heap.size := by have := hb1.size; simp at this; omega
  clear hR hb1
  go_wp2
  refine bodyPost_ret (v := .tuple #[.agg #[.int .u8 k, .bool b, .int .i64 n, .string s], .int .u16 x]) (by simp [results, Tryd.results29, go_sem, r0, r1, r2, r3, hz]) rfl ⟨rfl, ?_⟩
  go_grown

set_option maxHeartbeats 2000000 in
theorem mod_any (ka : Int) (ba : Bool) (na : Int) (sa : ByteArray) (kb : Int) (bb : Bool) (nb : Int) (sb : ByteArray) (w : World) (hT : Tabs w) (ha : sa.size ≤ 9223372036854775807) (hb : sb.size ≤ 9223372036854775807) (hna : I64 na) (hnb : I64 nb) :
    Calls Tryd.prog 30 #[.agg #[.int .u8 ka, .bool ba, .int .i64 na, .string sa], .agg #[.int .u8 kb, .bool bb, .int .i64 nb, .string sb]] w
      fun e w' => e = .returned (resV (numS ⟨ka, ba, na, sa⟩ ⟨kb, bb, nb, sb⟩ (remS na nb))) ∧ Below w.heap.size w w' := by
  obtain ⟨r, hr⟩ : ∃ r, numS ⟨ka, ba, na, sa⟩ ⟨kb, bb, nb, sb⟩ (remS na nb) = r := ⟨_, rfl⟩
  rw [hr]
  obtain ⟨⟨k, b, n, s⟩, x⟩ := r
  have hrH := Lib.hid hr
  clear hr
  have hTH := Lib.hid hT
  have haH := Lib.hid hna; have hbH := Lib.hid hnb
  clear hT hna hnb
  go_enter Tryd.func30, Tryd.ntmps30
  go_wp2_with fail
  refine (numbers_any ka ba na sa kb bb nb sb 75 (remS na nb) _ (((hTH.out.alloc _).alloc _).alloc _) ha hb (enters_of Tryd.func75 (by kernel_rfl) rfl) (fun W => remainder_any na nb W haH.out hbH.out)).mono ?_
  rw [hrH.out]
  rintro e w1 ⟨rfl, hb1⟩
  have hbw : Below w.heap.size w w1 := chainB (by go_grown) hb1 (by simp; omega)
  have hR := (Has.new ((w.alloc (.cells #[.int .u8 ka, .bool ba, .int .i64 na, .string sa] 24)).alloc (.cells #[.int .u8 kb, .bool bb, .int .i64 nb, .string sb] 24)) (.int .u8 0) (.bool false) (.int .i64 0) (.string ⟨#[]⟩)).below hb1
  obtain ⟨r0, r1, r2, r3⟩ := hR.cells
  obtain ⟨rf0, rf1, rf2, rf3⟩ := hR.free
  simp only [World.size_alloc] at r0 r1 r2 r3 rf0 rf1 rf2 rf3
  have hz : w.heap.size + 2 < w1.heap.size := by have := hb1.size; simp at this; omega
  clear hR hb1
  go_wp2
  refine bodyPost_ret (v := .tuple #[.agg #[.int .u8 k, .bool b, .int .i64 n, .string s], .int .u16 x]) (by simp [results, Tryd.results30, go_sem, r0, r1, r2, r3, hz]) rfl ⟨rfl, ?_⟩
  go_grown

set_option maxHeartbeats 2000000 in
theorem integer_any (n : Int) (w : World) :
    Calls Tryd.prog 70 #[.int .i64 n] w fun e w' => e = .returned (.agg #[.int .u8 3, .bool false, .int .i64 n, .string ⟨#[]⟩]) ∧ Below w.heap.size w w' := by
  go_enter Tryd.func70, Tryd.ntmps70
  go_wp2
  go_returns
  exact ⟨rfl, by go_grown⟩

set_option maxHeartbeats 4000000 in
theorem neg_any (ka : Int) (ba : Bool) (na : Int) (sa : ByteArray) (w : World) (hT : Tabs w) (ha : sa.size ≤ 9223372036854775807) (hna : I64 na) :
    Calls Tryd.prog 25 #[.agg #[.int .u8 ka, .bool ba, .int .i64 na, .string sa]] w
      fun e w' => e = .returned (resV (numS (intD 0) ⟨ka, ba, na, sa⟩ (difS 0 na))) ∧ Below w.heap.size w w' := by
  obtain ⟨r, hr⟩ : ∃ r, numS (intD 0) ⟨ka, ba, na, sa⟩ (difS 0 na) = r := ⟨_, rfl⟩
  rw [hr]
  obtain ⟨⟨k, b, n, s⟩, x⟩ := r
  have hrH := Lib.hid hr
  clear hr
  have hTH := Lib.hid hT
  have haH := Lib.hid hna
  clear hT hna
  have hA0 := ((Has.new w (.int .u8 ka) (.bool ba) (.int .i64 na) (.string sa)).alloc (.cells #[.int .u8 0, .bool false, .int .i64 0, .string ⟨#[]⟩] 24)).drew
  have hR0 := (Has.new (w.alloc (.cells #[.int .u8 ka, .bool ba, .int .i64 na, .string sa] 24)) (.int .u8 0) (.bool false) (.int .i64 0) (.string ⟨#[]⟩)).drew
  have hAH := Lib.hid hA0; have hRH := Lib.hid hR0; clear hA0 hR0
  go_enter Tryd.func25, Tryd.ntmps25
  go_wp2
  go_region_with (first | (go_at_call 70; go_must (refine (integer_any 0 _).mono ?_; rintro e w1 ⟨rfl, hb1⟩; have hA1 := Has.below hAH.out hb1; obtain ⟨a0, a1, a2, a3⟩ := hA1.cells; clear hA1)) | (go_at_call 69; go_must (refine (numbers_any 3 false 0 ⟨#[]⟩ ka ba na sa 71 (difS 0 na) _ (by exact (((hTH.out.alloc _).alloc _).drew).below (by assumption)) (by decide) ha (enters_of Tryd.func71 (by kernel_rfl) rfl) (fun W => difference_any 0 na W (by decide) haH.out)).mono ?_; rw [show numS ⟨3, false, 0, ⟨#[]⟩⟩ ⟨ka, ba, na, sa⟩ (difS 0 na) = _ from hrH.out]; rintro e w2 ⟨rfl, hb2⟩; have hR1 := Has.below (Has.below hRH.out hb1) hb2; obtain ⟨r0, r1, r2, r3⟩ := hR1.cells; obtain ⟨f0, f1, f2, f3⟩ := hR1.free; simp only [World.size_drew, World.size_alloc] at r0 r1 r2 r3 f0 f1 f2 f3; clear hR1 a0 a1 a2 a3)))
  all_goals
    have hbw : Below w.heap.size w w2 := chainB (chainB (by go_grown) hb1 (by simp; omega)) hb2 (by have := hb1.size; simp at this; omega)
    have hz : w.heap.size + 1 < w2.heap.size := by have := hb1.size; have := hb2.size; simp at *; omega
    go_wp2
    refine bodyPost_ret (v := .tuple #[.agg #[.int .u8 k, .bool b, .int .i64 n, .string s], .int .u16 x]) (by simp [results, Tryd.results25, go_sem, r0, r1, r2, r3, hz]) rfl ⟨rfl, ?_⟩
    go_grown
end Go.Proofs.YtlodohgoondkhaaDoor
