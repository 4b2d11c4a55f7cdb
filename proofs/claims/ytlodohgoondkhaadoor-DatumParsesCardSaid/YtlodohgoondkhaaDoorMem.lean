/-
  A list of data's variables, and what they hold, carried from call to call. No condition.
-/
import Derived.Test.YtlodohgoondkhaaDoorBase
set_option linter.unusedVariables false
set_option linter.unusedSimpArgs false
namespace Go.Proofs.YtlodohgoondkhaaDoor
open Go.RowKit Go.Lib

/-- Each of the listed blocks is a datum's variable, and holds what stands beside it. -/
def Mem (W : World) : List (Nat × Value × Value × Value × Value) → Prop
  | [] => True
  | (b, c0, c1, c2, c3) :: l => Has W b c0 c1 c2 c3 ∧ Mem W l
/-- What a walk asks of them. -/
def MemF (W : World) : List (Nat × Value × Value × Value × Value) → Prop
  | [] => True
  | (b, c0, c1, c2, c3) :: l => b < W.heap.size ∧ W.cell? ⟨b, 0, none⟩ = some c0 ∧ W.cell? ⟨b, 1, none⟩ = some c1 ∧ W.cell? ⟨b, 2, none⟩ = some c2 ∧ W.cell? ⟨b, 3, none⟩ = some c3 ∧ MemF W l
theorem Mem.facts {W : World} : ∀ {l}, Mem W l → MemF W l
  | [], _ => trivial
  | (b, c0, c1, c2, c3) :: l, h => ⟨h.1.lt, h.1.cells.1, h.1.cells.2.1, h.1.cells.2.2.1, h.1.cells.2.2.2, Mem.facts h.2⟩
theorem Mem.below {W W' : World} : ∀ {l}, Mem W l → Below W.heap.size W W' → Mem W' l
  | [], _, _ => trivial
  | (_, _, _, _, _) :: _, h, hb => ⟨h.1.below hb, Mem.below h.2 hb⟩
theorem Mem.alloc {W : World} {l} (h : Mem W l) (o : Obj) : Mem (W.alloc o) l := h.below ((Below.refl _ _).alloc (Nat.le_refl _) _)
theorem mem0 {W W' : World} {l} (h : Hid (Mem W l)) (hb : Below W.heap.size W W') : Hid (Mem W' l) := Lib.hid (h.out.below hb)
theorem mem1 {W W' : World} {l} {c0 c1 c2 c3 : Value} (h : Hid (Mem W l)) (hb : Below (W.alloc (.cells #[c0, c1, c2, c3] 24)).heap.size (W.alloc (.cells #[c0, c1, c2, c3] 24)) W') : Hid (Mem W' ((W.heap.size, c0, c1, c2, c3) :: l)) :=
  Lib.hid ⟨(Has.new W c0 c1 c2 c3).below hb, (h.out.alloc _).below hb⟩
theorem mem2 {W W' : World} {l} {c0 c1 c2 c3 d0 d1 d2 d3 : Value} (h : Hid (Mem W l))
    (hb : Below ((W.alloc (.cells #[c0, c1, c2, c3] 24)).alloc (.cells #[d0, d1, d2, d3] 24)).heap.size ((W.alloc (.cells #[c0, c1, c2, c3] 24)).alloc (.cells #[d0, d1, d2, d3] 24)) W') : Hid (Mem W' ((W.heap.size + 1, d0, d1, d2, d3) :: (W.heap.size, c0, c1, c2, c3) :: l)) := by
  have h2 := (Has.new (W.alloc (.cells #[c0, c1, c2, c3] 24)) d0 d1 d2 d3).below hb
  rw [World.size_alloc] at h2
  exact Lib.hid ⟨h2, ((Has.new W c0 c1 c2 c3).alloc _).below hb, ((h.out.alloc _).alloc _).below hb⟩
end Go.Proofs.YtlodohgoondkhaaDoor
