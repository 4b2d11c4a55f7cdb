/-
  What datum.And and Or answer, at this program, at nulls and booleans. Condition: the tables of Go's library lie as their initialisers lay them.
-/
import Derived.Test.YtlodohgoondkhaaDoorLogicN
import Derived.Test.YtlodohgoondkhaaDoorLogicO
import Derived.Test.YtlodohgoondkhaaDoorLogicD
import Derived.Test.YtlodohgoondkhaaDoorNum
set_option linter.unusedVariables false
set_option linter.unusedSimpArgs false
namespace Go.Proofs.YtlodohgoondkhaaDoor
open Go.RowKit Go.Lib

/-- A null or a boolean. -/
def Tri (k : Int) (b : Bool) : Prop := (k = 1 ∧ b = false) ∨ k = 2
theorem decide_tri (al : Bool) (ka : Int) (ba : Bool) (kb : Int) (bb : Bool) (ha : Tri ka ba) (hb : Tri kb bb) (w : World) (hT : Tabs w) :
    Calls Tryd.prog 89 #[.agg #[.int .u8 ka, .bool ba, .int .i64 0, .string ⟨#[]⟩], .agg #[.int .u8 kb, .bool bb, .int .i64 0, .string ⟨#[]⟩], .bool al] w
      fun e w' => e = .returned (resV (decS al ⟨ka, ba, 0, ⟨#[]⟩⟩ ⟨kb, bb, 0, ⟨#[]⟩⟩)) ∧ Below w.heap.size w w' := by
  have hz : ∀ x : Bool, x = al ∨ x = !al := fun x => by cases x <;> cases al <;> simp
  rcases ha with ⟨rfl, rfl⟩ | rfl
  · rcases hb with ⟨rfl, rfl⟩ | rfl
    · rw [show decS al ⟨1, false, 0, ⟨#[]⟩⟩ ⟨1, false, 0, ⟨#[]⟩⟩ = (⟨1, false, 0, ⟨#[]⟩⟩, 0) by cases al <;> rfl]; exact decide_nn al w hT
    · rcases hz bb with rfl | rfl
      · rw [show decS bb ⟨1, false, 0, ⟨#[]⟩⟩ ⟨2, bb, 0, ⟨#[]⟩⟩ = (⟨2, bb, 0, ⟨#[]⟩⟩, 0) by cases bb <;> rfl]; exact decide_nd bb w hT
      · rw [show decS al ⟨1, false, 0, ⟨#[]⟩⟩ ⟨2, (!al), 0, ⟨#[]⟩⟩ = (⟨1, false, 0, ⟨#[]⟩⟩, 0) by cases al <;> rfl]; exact decide_no al w hT
  · rcases hz ba with rfl | rfl
    · rcases hb with ⟨rfl, rfl⟩ | rfl
      · rw [show decS ba ⟨2, ba, 0, ⟨#[]⟩⟩ ⟨1, false, 0, ⟨#[]⟩⟩ = (⟨2, ba, 0, ⟨#[]⟩⟩, 0) by cases ba <;> rfl]; exact decide_dn ba w hT
      · rcases hz bb with rfl | rfl
        · rw [show decS bb ⟨2, bb, 0, ⟨#[]⟩⟩ ⟨2, bb, 0, ⟨#[]⟩⟩ = (⟨2, bb, 0, ⟨#[]⟩⟩, 0) by cases bb <;> rfl]; exact decide_dd bb w hT
        · rw [show decS ba ⟨2, ba, 0, ⟨#[]⟩⟩ ⟨2, (!ba), 0, ⟨#[]⟩⟩ = (⟨2, ba, 0, ⟨#[]⟩⟩, 0) by cases ba <;> rfl]; exact decide_do ba w hT
    · rcases hb with ⟨rfl, rfl⟩ | rfl
      · rw [show decS al ⟨2, (!al), 0, ⟨#[]⟩⟩ ⟨1, false, 0, ⟨#[]⟩⟩ = (⟨1, false, 0, ⟨#[]⟩⟩, 0) by cases al <;> rfl]; exact decide_on al w hT
      · rcases hz bb with rfl | rfl
        · rw [show decS bb ⟨2, (!bb), 0, ⟨#[]⟩⟩ ⟨2, bb, 0, ⟨#[]⟩⟩ = (⟨2, bb, 0, ⟨#[]⟩⟩, 0) by cases bb <;> rfl]; exact decide_od bb w hT
        · rw [show decS al ⟨2, (!al), 0, ⟨#[]⟩⟩ ⟨2, (!al), 0, ⟨#[]⟩⟩ = (⟨2, (!al), 0, ⟨#[]⟩⟩, 0) by cases al <;> rfl]; exact decide_oo al w hT

set_option maxHeartbeats 2000000 in
theorem and_tri (ka : Int) (ba : Bool) (kb : Int) (bb : Bool) (w : World) (hT : Tabs w) (ha : Tri ka ba) (hb : Tri kb bb) :
    Calls Tryd.prog 44 #[.agg #[.int .u8 ka, .bool ba, .int .i64 0, .string ⟨#[]⟩], .agg #[.int .u8 kb, .bool bb, .int .i64 0, .string ⟨#[]⟩]] w
      fun e w' => e = .returned (resV (decS false ⟨ka, ba, 0, ⟨#[]⟩⟩ ⟨kb, bb, 0, ⟨#[]⟩⟩)) ∧ Below w.heap.size w w' := by
  obtain ⟨r, hr⟩ : ∃ r, decS false ⟨ka, ba, 0, ⟨#[]⟩⟩ ⟨kb, bb, 0, ⟨#[]⟩⟩ = r := ⟨_, rfl⟩
  rw [hr]
  obtain ⟨⟨k', b', n', s'⟩, x⟩ := r
  have hrH := Lib.hid hr
  clear hr
  have hTH := Lib.hid hT; have haH := Lib.hid ha; have hbH := Lib.hid hb
  clear hT ha hb
  go_enter Tryd.func44, Tryd.ntmps44
  go_wp2_with (go_at_call 89; go_must (refine (decide_tri false ka ba kb bb haH.out hbH.out _ (((hTH.out.alloc _).alloc _).alloc _)).mono ?_; rw [hrH.out]; rintro e w1 ⟨rfl, hb1⟩; have hbw : Below w.heap.size w w1 := chainB (B := w.heap.size) (a := w) (by go_grown) hb1 (by simp; omega); have hR := (Has.new ((w.alloc (.cells #[.int .u8 ka, .bool ba, .int .i64 0, .string ⟨#[]⟩] 24)).alloc (.cells #[.int .u8 kb, .bool bb, .int .i64 0, .string ⟨#[]⟩] 24)) (.int .u8 0) (.bool false) (.int .i64 0) (.string ⟨#[]⟩)).below hb1; obtain ⟨r0, r1, r2, r3⟩ := hR.cells; obtain ⟨rf0, rf1, rf2, rf3⟩ := hR.free; simp only [World.size_alloc] at r0 r1 r2 r3 rf0 rf1 rf2 rf3; have hz : w.heap.size + 1 + 1 < w1.heap.size := (by have := hb1.size; simp at this; omega); clear hR hb1))
  refine bodyPost_ret (v := .tuple #[.agg #[.int .u8 k', .bool b', .int .i64 n', .string s'], .int .u16 x]) (by simp [results, Tryd.results44, go_sem, r0, r1, r2, r3, hz]) rfl ⟨rfl, ?_⟩
  go_grown

set_option maxHeartbeats 2000000 in
theorem or_tri (ka : Int) (ba : Bool) (kb : Int) (bb : Bool) (w : World) (hT : Tabs w) (ha : Tri ka ba) (hb : Tri kb bb) :
    Calls Tryd.prog 45 #[.agg #[.int .u8 ka, .bool ba, .int .i64 0, .string ⟨#[]⟩], .agg #[.int .u8 kb, .bool bb, .int .i64 0, .string ⟨#[]⟩]] w
      fun e w' => e = .returned (resV (decS true ⟨ka, ba, 0, ⟨#[]⟩⟩ ⟨kb, bb, 0, ⟨#[]⟩⟩)) ∧ Below w.heap.size w w' := by
  obtain ⟨r, hr⟩ : ∃ r, decS true ⟨ka, ba, 0, ⟨#[]⟩⟩ ⟨kb, bb, 0, ⟨#[]⟩⟩ = r := ⟨_, rfl⟩
  rw [hr]
  obtain ⟨⟨k', b', n', s'⟩, x⟩ := r
  have hrH := Lib.hid hr
  clear hr
  have hTH := Lib.hid hT; have haH := Lib.hid ha; have hbH := Lib.hid hb
  clear hT ha hb
  go_enter Tryd.func45, Tryd.ntmps45
  go_wp2_with (go_at_call 89; go_must (refine (decide_tri true ka ba kb bb haH.out hbH.out _ (((hTH.out.alloc _).alloc _).alloc _)).mono ?_; rw [hrH.out]; rintro e w1 ⟨rfl, hb1⟩; have hbw : Below w.heap.size w w1 := chainB (B := w.heap.size) (a := w) (by go_grown) hb1 (by simp; omega); have hR := (Has.new ((w.alloc (.cells #[.int .u8 ka, .bool ba, .int .i64 0, .string ⟨#[]⟩] 24)).alloc (.cells #[.int .u8 kb, .bool bb, .int .i64 0, .string ⟨#[]⟩] 24)) (.int .u8 0) (.bool false) (.int .i64 0) (.string ⟨#[]⟩)).below hb1; obtain ⟨r0, r1, r2, r3⟩ := hR.cells; obtain ⟨rf0, rf1, rf2, rf3⟩ := hR.free; simp only [World.size_alloc] at r0 r1 r2 r3 rf0 rf1 rf2 rf3; have hz : w.heap.size + 1 + 1 < w1.heap.size := (by have := hb1.size; simp at this; omega); clear hR hb1))
  refine bodyPost_ret (v := .tuple #[.agg #[.int .u8 k', .bool b', .int .i64 n', .string s'], .int .u16 x]) (by simp [results, Tryd.results45, go_sem, r0, r1, r2, r3, hz]) rfl ⟨rfl, ?_⟩
  go_grown

end Go.Proofs.YtlodohgoondkhaaDoor
