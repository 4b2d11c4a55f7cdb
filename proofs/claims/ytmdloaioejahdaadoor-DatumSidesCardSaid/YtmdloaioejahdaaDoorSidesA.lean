/-
  The law DatumSides answers true, at this program, at all data: the plain part. Condition: the tables of Go's library lie as their initialisers lay them.
-/
import Derived.Test.YtmdloaioejahdaaDoorSidesS
import Derived.Test.YtmdloaioejahdaaDoorCmpGo
import Derived.Lib.SmallJoins
set_option linter.unusedVariables false
set_option linter.unusedSimpArgs false
namespace Go.Proofs.YtmdloaioejahdaaDoor
open Go.RowKit Go.Lib

/-- The six answers' variable. -/
def Arr (w : World) (B : Nat) (x0 x1 x2 x3 x4 x5 : Bool) : Prop := w.heap[B]? = some (.cells #[.bool x0, .bool x1, .bool x2, .bool x3, .bool x4, .bool x5] 52 (0, 0))
theorem Arr.lt {w : World} {B : Nat} {x0 x1 x2 x3 x4 x5 : Bool} (h : Arr w B x0 x1 x2 x3 x4 x5) : B < w.heap.size := (Array.getElem?_eq_some_iff.1 h).1
theorem Arr.below {w w' : World} {B : Nat} {x0 x1 x2 x3 x4 x5 : Bool} (h : Arr w B x0 x1 x2 x3 x4 x5) (hb : Below w.heap.size w w') : Arr w' B x0 x1 x2 x3 x4 x5 := (hb.block B h.lt).trans h
theorem Arr.alloc {w : World} {B : Nat} {x0 x1 x2 x3 x4 x5 : Bool} (h : Arr w B x0 x1 x2 x3 x4 x5) (o : Obj) : Arr (w.alloc o) B x0 x1 x2 x3 x4 x5 := (Lib.alloc_old w o B h.lt).trans h
theorem Arr.cells {w : World} {B : Nat} {x0 x1 x2 x3 x4 x5 : Bool} (h : Arr w B x0 x1 x2 x3 x4 x5) :
    w.cell? ⟨B, 0, none⟩ = some (.bool x0) ∧ w.cell? ⟨B, 1, none⟩ = some (.bool x1) ∧ w.cell? ⟨B, 2, none⟩ = some (.bool x2) ∧ w.cell? ⟨B, 3, none⟩ = some (.bool x3) ∧ w.cell? ⟨B, 4, none⟩ = some (.bool x4) ∧ w.cell? ⟨B, 5, none⟩ = some (.bool x5) := by
  unfold Arr at h
  refine ⟨?_, ?_, ?_, ?_, ?_, ?_⟩ <;> (simp only [World.cell?, h]; simp)
theorem Arr.free {w : World} {B : Nat} {x0 x1 x2 x3 x4 x5 : Bool} (h : Arr w B x0 x1 x2 x3 x4 x5) :
    w.frozen? ⟨B, 0, none⟩ = false ∧ w.frozen? ⟨B, 1, none⟩ = false ∧ w.frozen? ⟨B, 2, none⟩ = false ∧ w.frozen? ⟨B, 3, none⟩ = false ∧ w.frozen? ⟨B, 4, none⟩ = false ∧ w.frozen? ⟨B, 5, none⟩ = false := by
  unfold Arr at h
  exact ⟨Lib.frozen_of_heap h 0, Lib.frozen_of_heap h 1, Lib.frozen_of_heap h 2, Lib.frozen_of_heap h 3, Lib.frozen_of_heap h 4, Lib.frozen_of_heap h 5⟩
theorem Arr.set0 {w : World} {B : Nat} {x0 x1 x2 x3 x4 x5 : Bool} (y : Bool) (h : Arr w B x0 x1 x2 x3 x4 x5) : Arr (w.setCell ⟨B, 0, none⟩ (.bool y)) B y x1 x2 x3 x4 x5 := Go.Joins.block_setCell h _
theorem Arr.set1 {w : World} {B : Nat} {x0 x1 x2 x3 x4 x5 : Bool} (y : Bool) (h : Arr w B x0 x1 x2 x3 x4 x5) : Arr (w.setCell ⟨B, 1, none⟩ (.bool y)) B x0 y x2 x3 x4 x5 := Go.Joins.block_setCell h _
theorem Arr.set2 {w : World} {B : Nat} {x0 x1 x2 x3 x4 x5 : Bool} (y : Bool) (h : Arr w B x0 x1 x2 x3 x4 x5) : Arr (w.setCell ⟨B, 2, none⟩ (.bool y)) B x0 x1 y x3 x4 x5 := Go.Joins.block_setCell h _
theorem Arr.set3 {w : World} {B : Nat} {x0 x1 x2 x3 x4 x5 : Bool} (y : Bool) (h : Arr w B x0 x1 x2 x3 x4 x5) : Arr (w.setCell ⟨B, 3, none⟩ (.bool y)) B x0 x1 x2 y x4 x5 := Go.Joins.block_setCell h _
theorem Arr.set4 {w : World} {B : Nat} {x0 x1 x2 x3 x4 x5 : Bool} (y : Bool) (h : Arr w B x0 x1 x2 x3 x4 x5) : Arr (w.setCell ⟨B, 4, none⟩ (.bool y)) B x0 x1 x2 x3 y x5 := Go.Joins.block_setCell h _
theorem Arr.set5 {w : World} {B : Nat} {x0 x1 x2 x3 x4 x5 : Bool} (y : Bool) (h : Arr w B x0 x1 x2 x3 x4 x5) : Arr (w.setCell ⟨B, 5, none⟩ (.bool y)) B x0 x1 x2 x3 x4 y := Go.Joins.block_setCell h _
theorem holds_0_0 : holdsS 11 (-1) = false := by decide
theorem holds_0_1 : holdsS 12 (-1) = true := by decide
theorem holds_0_2 : holdsS 13 (-1) = true := by decide
theorem holds_0_3 : holdsS 14 (-1) = true := by decide
theorem holds_0_4 : holdsS 15 (-1) = false := by decide
theorem holds_0_5 : holdsS 16 (-1) = false := by decide
theorem holds_1_0 : holdsS 11 (0) = true := by decide
theorem holds_1_1 : holdsS 12 (0) = false := by decide
theorem holds_1_2 : holdsS 13 (0) = false := by decide
theorem holds_1_3 : holdsS 14 (0) = true := by decide
theorem holds_1_4 : holdsS 15 (0) = false := by decide
theorem holds_1_5 : holdsS 16 (0) = true := by decide
theorem holds_2_0 : holdsS 11 (1) = false := by decide
theorem holds_2_1 : holdsS 12 (1) = true := by decide
theorem holds_2_2 : holdsS 13 (1) = false := by decide
theorem holds_2_3 : holdsS 14 (1) = false := by decide
theorem holds_2_4 : holdsS 15 (1) = true := by decide
theorem holds_2_5 : holdsS 16 (1) = true := by decide
end Go.Proofs.YtmdloaioejahdaaDoor
