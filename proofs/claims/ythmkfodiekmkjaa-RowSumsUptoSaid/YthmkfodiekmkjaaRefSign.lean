/-
  What the document's own sign answers. No condition.
-/
import Derived.Test.YthmkfodiekmkjaaLite
set_option linter.unusedVariables false
set_option linter.unusedSimpArgs false
namespace Go.Proofs.Ythmkfodiekmkjaa
open Go.RowKit Go.Lib

/-- The sign of a comparison. -/
def signS (less same : Bool) : Int := if less then -1 else if same then 0 else 1
set_option maxHeartbeats 1000000 in
theorem refSign_any (less same : Bool) (w : World) :
    Calls Try.prog 39 #[.bool less, .bool same] w fun e w' => e = .returned (.int .i64 (signS less same)) ∧ w = w' := by
  cases less <;> cases same
  all_goals
    go_enter Try.func39, Try.ntmps39
    go_wp2
    go_returns
    exact ⟨rfl, rfl⟩
end Go.Proofs.Ythmkfodiekmkjaa
