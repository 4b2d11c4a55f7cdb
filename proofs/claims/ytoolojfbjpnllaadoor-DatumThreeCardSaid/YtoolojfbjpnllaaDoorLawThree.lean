/-
  The law DatumThree answers true, at this program, for all numbers. Condition: the tables of Go's library lie as their initialisers lay them.
-/
import Derived.Test.YtoolojfbjpnllaaDoorThree0
import Derived.Test.YtoolojfbjpnllaaDoorThree1
import Derived.Test.YtoolojfbjpnllaaDoorThree2
set_option linter.unusedVariables false
set_option linter.unusedSimpArgs false
namespace Go.Proofs.YtoolojfbjpnllaaDoor
open Go.RowKit Go.Lib

theorem three_any (i k : Int) (w : World) (hT : Tabs w) (hi : 0 ≤ i ∧ i ≤ 255) (hk : 0 ≤ k ∧ k ≤ 255) :
    Calls Tryd.prog 11 #[.int .u8 i, .int .u8 k] w fun e w' => e = .returned (.bool true) ∧ Below w.heap.size w w' := by
  obtain ⟨hi0, hi1⟩ := hi
  obtain ⟨hk0, hk1⟩ := hk
  rcases (show i % 3 = 0 ∨ i % 3 = 1 ∨ i % 3 = 2 by omega) with hi | hi | hi <;> rcases (show k % 3 = 0 ∨ k % 3 = 1 ∨ k % 3 = 2 by omega) with hk | hk | hk
  · exact three_00 i k w hT hi0 hi1 hk0 hk1 hi hk
  · exact three_01 i k w hT hi0 hi1 hk0 hk1 hi hk
  · exact three_02 i k w hT hi0 hi1 hk0 hk1 hi hk
  · exact three_10 i k w hT hi0 hi1 hk0 hk1 hi hk
  · exact three_11 i k w hT hi0 hi1 hk0 hk1 hi hk
  · exact three_12 i k w hT hi0 hi1 hk0 hk1 hi hk
  · exact three_20 i k w hT hi0 hi1 hk0 hk1 hi hk
  · exact three_21 i k w hT hi0 hi1 hk0 hk1 hi hk
  · exact three_22 i k w hT hi0 hi1 hk0 hk1 hi hk
end Go.Proofs.YtoolojfbjpnllaaDoor
