/-
  What the small parts of the document's own answers answer: Null, Bool, sign. No condition.
-/
import Derived.Test.YtlodohgoondkhaaDoorKnown
set_option linter.unusedVariables false
set_option linter.unusedSimpArgs false
namespace Go.Proofs.YtlodohgoondkhaaDoor
open Go.RowKit Go.Lib

set_option maxHeartbeats 1000000 in
theorem refNull_any (w : World) :
    Calls Tryd.prog 66 #[] w fun e w' => e = .returned (.agg #[.int .u8 1, .bool false, .int .i64 0, .string ⟨#[]⟩]) ∧ Below w.heap.size w w' := by
  go_enter Tryd.func66, Tryd.ntmps66
  go_wp2
  go_returns
  exact ⟨rfl, by go_grown⟩
set_option maxHeartbeats 1000000 in
theorem refBool_any (b : Bool) (w : World) :
    Calls Tryd.prog 67 #[.bool b] w fun e w' => e = .returned (.agg #[.int .u8 2, .bool b, .int .i64 0, .string ⟨#[]⟩]) ∧ Below w.heap.size w w' := by
  go_enter Tryd.func67, Tryd.ntmps67
  go_wp2
  go_returns
  exact ⟨rfl, by go_grown⟩
/-- The sign of a comparison. -/
def signS (less same : Bool) : Int := if less then -1 else if same then 0 else 1
set_option maxHeartbeats 1000000 in
theorem refSign_any (less same : Bool) (w : World) :
    Calls Tryd.prog 59 #[.bool less, .bool same] w fun e w' => e = .returned (.int .i64 (signS less same)) ∧ w = w' := by
  cases less <;> cases same
  all_goals
    go_enter Tryd.func59, Tryd.ntmps59
    go_wp2
    go_returns
    exact ⟨rfl, rfl⟩
end Go.Proofs.YtlodohgoondkhaaDoor
