/-
  What datum.Not answers, at this program: for all data. Condition: the tables of Go's library lie as their initialisers lay them.
-/
import Derived.Test.YtlodohgoondkhaaDoorLogic
import Derived.Test.YtlodohgoondkhaaDoorNum
set_option linter.unusedVariables false
set_option linter.unusedSimpArgs false
namespace Go.Proofs.YtlodohgoondkhaaDoor
open Go.RowKit Go.Lib

/-- Not. -/
def notS (a : Dat) : Dat × Int := if fitsD 2 a = false then (zeroD, 13) else if a.k = 1 then (nullD, 0) else (boolD (!a.b), 0)

set_option maxHeartbeats 2000000 in
theorem notClos (k : Int) (b : Bool) (n : Int) (s : ByteArray) (w : World) :
    Calls Tryd.prog 88 #[.agg #[.int .u8 k, .bool b, .int .i64 n, .string s], .agg #[.int .u8 k, .bool b, .int .i64 n, .string s]] w
      fun e w' => e = .returned (.tuple #[.agg #[.int .u8 2, .bool (!b), .int .i64 0, .string ⟨#[]⟩], .int .u16 0]) ∧ Below w.heap.size w w' := by
  go_enter Tryd.func88, Tryd.ntmps88
  go_wp2_with (go_at_call 86; go_must (refine (boolean_any _ _).mono ?_; rintro e w1 ⟨rfl, hb1⟩; have hbw : Below w.heap.size w w1 := chainB (B := w.heap.size) (a := w) (by go_grown) hb1 (by simp; omega); have hR := (Has.new ((w.alloc (.cells #[.int .u8 k, .bool b, .int .i64 n, .string s] 24)).alloc (.cells #[.int .u8 k, .bool b, .int .i64 n, .string s] 24)) (.int .u8 0) (.bool false) (.int .i64 0) (.string ⟨#[]⟩)).below hb1; obtain ⟨r0, r1, r2, r3⟩ := hR.cells; obtain ⟨rf0, rf1, rf2, rf3⟩ := hR.free; simp only [World.size_alloc] at r0 r1 r2 r3 rf0 rf1 rf2 rf3; have hz : w.heap.size + 1 + 1 < w1.heap.size := (by have := hb1.size; simp at this; omega); clear hR hb1))
  refine bodyPost_ret (v := .tuple #[.agg #[.int .u8 2, .bool (!b), .int .i64 0, .string ⟨#[]⟩], .int .u16 0]) (by simp [results, Tryd.results88, go_sem, r0, r1, r2, r3, hz]) rfl ⟨rfl, ?_⟩
  go_grown

theorem strict_not (k : Int) (b : Bool) (n : Int) (s : ByteArray) (w : World) (hT : Tabs w) (hs : s.size ≤ 9223372036854775807) :
    Calls Tryd.prog 78 #[.int .u8 2, .agg #[.int .u8 k, .bool b, .int .i64 n, .string s], .agg #[.int .u8 k, .bool b, .int .i64 n, .string s], .func (.func 88) #[] #[]] w
      fun e w' => e = .returned (resV (notS ⟨k, b, n, s⟩)) ∧ Below w.heap.size w w' := by
  by_cases f1 : fitsD 2 ⟨k, b, n, s⟩ = false
  · rw [show notS ⟨k, b, n, s⟩ = (zeroD, 13) by simp [notS, f1]]
    exact strict_bad1 2 k b n s k b n s _ w hT hs hs f1
  have f1 : fitsD 2 ⟨k, b, n, s⟩ = true := by simpa using f1
  by_cases k1 : k = 1
  · rw [show notS ⟨k, b, n, s⟩ = (nullD, 0) by unfold notS; rw [if_neg (by rw [f1]; decide), if_pos k1]]
    exact strict_null1 2 k b n s k b n s _ w hT hs hs f1 f1 (by simpa using k1)
  · rw [show notS ⟨k, b, n, s⟩ = (boolD (!b), 0) by unfold notS; rw [if_neg (by rw [f1]; decide), if_neg k1]]
    exact strict_go 2 k b n s k b n s _ w hT hs hs f1 f1 (by simpa using k1) (by simpa using k1) 88 _ (enters_of Tryd.func88 (by kernel_rfl) rfl) 2 (!b) 0 ⟨#[]⟩ 0 rfl
      (fun W hW => by rw [app0]; exact notClos k b n s W)

set_option maxHeartbeats 2000000 in
theorem not_any (k : Int) (b : Bool) (n : Int) (s : ByteArray) (w : World) (hT : Tabs w) (hs : s.size ≤ 9223372036854775807) :
    Calls Tryd.prog 43 #[.agg #[.int .u8 k, .bool b, .int .i64 n, .string s]] w
      fun e w' => e = .returned (resV (notS ⟨k, b, n, s⟩)) ∧ Below w.heap.size w w' := by
  obtain ⟨r, hr⟩ : ∃ r, notS ⟨k, b, n, s⟩ = r := ⟨_, rfl⟩
  rw [hr]
  obtain ⟨⟨k', b', n', s'⟩, x⟩ := r
  have hrH := Lib.hid hr
  clear hr
  have hTH := Lib.hid hT
  clear hT
  go_enter Tryd.func43, Tryd.ntmps43
  go_wp2_with (go_at_call 78; go_must (refine (strict_not k b n s _ ((hTH.out.alloc _).alloc _) hs).mono ?_; rw [hrH.out]; rintro e w1 ⟨rfl, hb1⟩; have hbw : Below w.heap.size w w1 := chainB (B := w.heap.size) (a := w) (by go_grown) hb1 (by simp; omega); have hR := (Has.new (w.alloc (.cells #[.int .u8 k, .bool b, .int .i64 n, .string s] 24)) (.int .u8 0) (.bool false) (.int .i64 0) (.string ⟨#[]⟩)).below hb1; obtain ⟨r0, r1, r2, r3⟩ := hR.cells; obtain ⟨rf0, rf1, rf2, rf3⟩ := hR.free; simp only [World.size_alloc] at r0 r1 r2 r3 rf0 rf1 rf2 rf3; have hz : w.heap.size + 1 < w1.heap.size := (by have := hb1.size; simp at this; omega); clear hR hb1))
  refine bodyPost_ret (v := .tuple #[.agg #[.int .u8 k', .bool b', .int .i64 n', .string s'], .int .u16 x]) (by simp [results, Tryd.results43, go_sem, r0, r1, r2, r3, hz]) rfl ⟨rfl, ?_⟩
  go_grown
end Go.Proofs.YtlodohgoondkhaaDoor
