/-
  What the laws' common head answers, at this program: true. Condition: the tables of Go's library lie as their initialisers lay them.
-/
import Derived.Test.YtlodohgoondkhaaDoorPrint
import Derived.Test.YtlodohgoondkhaaDoorOps
set_option linter.unusedVariables false
set_option linter.unusedSimpArgs false
namespace Go.Proofs.YtlodohgoondkhaaDoor
open Go.RowKit Go.Lib

set_option maxHeartbeats 1000000 in
theorem refInt_any (n : Int) (w : World) :
    Calls Tryd.prog 51 #[.int .i64 n] w fun e w' => e = .returned (.agg #[.int .u8 3, .bool false, .int .i64 n, .string ⟨#[]⟩]) ∧ Below w.heap.size w w' := by
  go_enter Tryd.func51, Tryd.ntmps51
  go_wp2
  go_returns
  exact ⟨rfl, by go_grown⟩
set_option maxHeartbeats 1000000 in
theorem refText_any (s : ByteArray) (w : World) :
    Calls Tryd.prog 52 #[.string s] w fun e w' => e = .returned (.agg #[.int .u8 4, .bool false, .int .i64 0, .string s]) ∧ Below w.heap.size w w' := by
  go_enter Tryd.func52, Tryd.ntmps52
  go_wp2
  go_returns
  exact ⟨rfl, by go_grown⟩

theorem known_sum : numS ⟨3, false, 2, ⟨#[]⟩⟩ ⟨3, false, 3, ⟨#[]⟩⟩ (sumS 2 3) = (⟨3, false, 5, ⟨#[]⟩⟩, 0) := by
  rw [show sumS 2 3 = (5, 0) from capS_in (by decide)]
  exact numS_ok (by decide) (by decide) (by decide) (by decide) rfl
theorem known_print : printS ⟨4, false, 0, ⟨#[97, 39, 98]⟩⟩ = [39, 97, 39, 39, 98, 39] := by decide

set_option maxHeartbeats 4000000 in
theorem known_any (w : World) (hT : Tabs w) :
    Calls Tryd.prog 15 #[] w fun e w' => e = .returned (.bool true) ∧ Below w.heap.size w w' := by
  have hTH := Lib.hid hT
  clear hT
  go_enter Tryd.func15, Tryd.ntmps15
  go_wp2_with fail
  refine (refInt_any 2 _).mono ?_
  rintro e w1 ⟨rfl, hb1⟩
  go_wp2_with fail
  refine (refInt_any 3 _).mono ?_
  rintro e w2 ⟨rfl, hb2⟩
  have hb2w := chainB hb1 hb2 hb1.size
  go_wp2_with fail
  refine (add_any 3 false 2 ⟨#[]⟩ 3 false 3 ⟨#[]⟩ w2 (hTH.out.below hb2w) (by decide) (by decide) (by decide) (by decide)).mono ?_
  rw [known_sum]
  rintro e w3 ⟨rfl, hb3⟩
  have hb3w := chainB hb2w hb3 hb2w.size
  clear hb1 hb2 hb2w hb3
  have hT3 := Lib.hid (hTH.out.below hb3w)
  have hR0 := (Has.new w3 (.int .u8 3) (.bool false) (.int .i64 5) (.string ⟨#[]⟩)).drew
  have hRH := Lib.hid hR0; clear hR0
  go_wp2_with fail
  go_region_with (first | (go_at_call 51; go_must (refine (refInt_any 5 _).mono ?_; rintro e w4 ⟨rfl, hb4⟩; have hA1 := Has.below hRH.out hb4; obtain ⟨a0, a1, a2, a3⟩ := hA1.cells; clear hA1)) | (go_at_call 52; go_must (refine (refText_any _ _).mono ?_; rintro e w5 ⟨rfl, hb5⟩)) | (go_at_call 20; go_must (refine (print_any 4 false 0 ⟨#[97, 39, 98]⟩ _ (by exact ((((hT3.out.alloc _).drew).below (by assumption)).below (by assumption))) (by decide) (by decide)).mono ?_; rw [known_print]; rintro e w6 ⟨rfl, hb6⟩)))
  all_goals
    have hb3a : Below w.heap.size w ((w3.alloc (.cells #[.int .u8 3, .bool false, .int .i64 5, .string ⟨#[]⟩] 24)).drew) := (hb3w.alloc hb3w.size _).drew
    have hb4w := chainB hb3a hb4 hb3a.size
    have hb5w := chainB hb4w hb5 hb4w.size
    have hb6w := chainB hb5w hb6 hb5w.size
    clear hb3a hb4 hb5 hb6 hb4w hb5w hb3w
    go_wp2
    go_ret
    exact ⟨rfl, hb6w⟩
end Go.Proofs.YtlodohgoondkhaaDoor
