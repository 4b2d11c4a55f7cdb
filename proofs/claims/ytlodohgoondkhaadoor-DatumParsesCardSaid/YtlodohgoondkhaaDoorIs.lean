/-
  What the laws' own 'is' answers, at this program, where both are the same. No condition.
-/
import Derived.Test.YtlodohgoondkhaaDoorRefNot
set_option linter.unusedVariables false
set_option linter.unusedSimpArgs false
namespace Go.Proofs.YtlodohgoondkhaaDoor
open Go.RowKit Go.Lib

/-- An error's number. -/
def U16 (x : Int) : Prop := 0 ≤ x ∧ x ≤ 65535
theorem resV_eq (k : Int) (b : Bool) (n : Int) (s : ByteArray) (x : Int) : resV (⟨k, b, n, s⟩, x) = .tuple #[.agg #[.int .u8 k, .bool b, .int .i64 n, .string s], .int .u16 x] := rfl
theorem refV_eq (k : Int) (b : Bool) (n : Int) (s : ByteArray) (x : Int) : refV (⟨k, b, n, s⟩, x) = .tuple #[.agg #[.int .u8 k, .bool b, .int .i64 n, .string s], .int .i64 x] := rfl
set_option maxHeartbeats 2000000 in
theorem is_same (k : Int) (b : Bool) (n : Int) (s : ByteArray) (x : Int) (w : World) (hx : U16 x) :
    Calls Tryd.prog 24 #[.agg #[.int .u8 k, .bool b, .int .i64 n, .string s], .int .u16 x, .agg #[.int .u8 k, .bool b, .int .i64 n, .string s], .int .i64 x] w
      fun e w' => e = .returned (.bool true) ∧ Below w.heap.size w w' := by
  obtain ⟨h1, h2⟩ := hx
  go_enter Tryd.func24, Tryd.ntmps24
  go_wp2
  all_goals first
    | (go_ret; exact ⟨rfl, by go_grown⟩)
    | (exfalso; simp_all; done)
    | (exfalso; omega)
theorem notS_u16 (a : Dat) : U16 (notS a).2 := by unfold notS U16; repeat' split
                                                  all_goals exact ⟨by dsimp only; omega, by dsimp only; omega⟩
theorem decS_u16 (al : Bool) (a b : Dat) : U16 (decS al a b).2 := by unfold decS U16; repeat' split
                                                                     all_goals exact ⟨by dsimp only; omega, by dsimp only; omega⟩
end Go.Proofs.YtlodohgoondkhaaDoor
