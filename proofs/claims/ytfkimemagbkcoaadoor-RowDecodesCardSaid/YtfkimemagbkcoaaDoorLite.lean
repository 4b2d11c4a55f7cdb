/-
  General words of the proofs: worlds one behind the other, a datum's block. Nothing is walked here. No condition but those written.
-/
import Derived.Test.YtfkimemagbkcoaaDoorPlain
import Derived.Test.YtfkimemagbkcoaaDoorProg
import Derived.Lib.FrozenHead
import Derived.Lib.OthersKept
import Derived.WalkKit
import Derived.WalkLawsBesides
import Derived.WalkSpells
import Derived.Handy
set_option linter.unusedVariables false
set_option linter.unusedSimpArgs false
namespace Go.Proofs.YtfkimemagbkcoaaDoor
open Go.RowKit Go.Lib

/-- Behind new blocks and a call that keeps what was there. -/
theorem chainB {B : Nat} {a b c : World} (h : Below B a b) (k : Below b.heap.size b c) (hB : B ≤ b.heap.size) : Below B a c := h.trans (k.mono hB)

theorem toList_size (s : ByteArray) : s.toList.isEmpty = decide (s.size = 0) := by
  rw [ByteArray.toList_eq]
  rcases s with ⟨⟨l⟩⟩
  cases l <;> simp [ByteArray.size]

theorem ret_bool {a b : Bool} (h : a = b) : Ending.returned (.bool a) = .returned (.bool b) := by rw [h]
theorem ret_int {k : IntKind} {a b : Int} (h : a = b) : Ending.returned (.int k a) = .returned (.int k b) := by rw [h]

theorem cell_new (w : World) (cs : Array Value) (t : TypeId) (i : Nat) : (w.alloc (.cells cs t)).cell? ⟨w.heap.size, i, none⟩ = cs[i]? := by
  have h := heap_alloc_new w (.cells cs t)
  simp only [World.cell?, h]
  simp

abbrev dv (k : Int) (b : Bool) (n : Int) (s : ByteArray) : Value := .agg #[.int .u8 k, .bool b, .int .i64 n, .string s]

/-! ### a datum's block -/
/-- Block b is a datum's variable, and holds these four. -/
def Has (w : World) (b : Nat) (c0 c1 c2 c3 : Value) : Prop := w.heap[b]? = some (.cells #[c0, c1, c2, c3] 79 (0, 0))
theorem Has.new (w : World) (c0 c1 c2 c3 : Value) : Has (w.alloc (.cells #[c0, c1, c2, c3] 79)) w.heap.size c0 c1 c2 c3 := heap_alloc_new w _
theorem Has.lt {w : World} {b : Nat} {c0 c1 c2 c3 : Value} (h : Has w b c0 c1 c2 c3) : b < w.heap.size := (Array.getElem?_eq_some_iff.1 h).1
theorem Has.alloc {w : World} {b : Nat} {c0 c1 c2 c3 : Value} (h : Has w b c0 c1 c2 c3) (o : Obj) : Has (w.alloc o) b c0 c1 c2 c3 := (Lib.alloc_old w o b h.lt).trans h
theorem Has.below {w w' : World} {b : Nat} {c0 c1 c2 c3 : Value} (h : Has w b c0 c1 c2 c3) (hb : Below w.heap.size w w') : Has w' b c0 c1 c2 c3 := (hb.block b h.lt).trans h
theorem Has.drew {w : World} {b : Nat} {c0 c1 c2 c3 : Value} (h : Has w b c0 c1 c2 c3) : Has w.drew b c0 c1 c2 c3 := h
theorem Has.cells {w : World} {b : Nat} {c0 c1 c2 c3 : Value} (h : Has w b c0 c1 c2 c3) :
    w.cell? ⟨b, 0, none⟩ = some c0 ∧ w.cell? ⟨b, 1, none⟩ = some c1 ∧ w.cell? ⟨b, 2, none⟩ = some c2 ∧ w.cell? ⟨b, 3, none⟩ = some c3 := by
  unfold Has at h
  refine ⟨?_, ?_, ?_, ?_⟩ <;> (simp only [World.cell?, h]; simp)
theorem Has.free {w : World} {b : Nat} {c0 c1 c2 c3 : Value} (h : Has w b c0 c1 c2 c3) :
    w.frozen? ⟨b, 0, none⟩ = false ∧ w.frozen? ⟨b, 1, none⟩ = false ∧ w.frozen? ⟨b, 2, none⟩ = false ∧ w.frozen? ⟨b, 3, none⟩ = false := by
  unfold Has at h
  exact ⟨Lib.frozen_of_heap h 0, Lib.frozen_of_heap h 1, Lib.frozen_of_heap h 2, Lib.frozen_of_heap h 3⟩
end Go.Proofs.YtfkimemagbkcoaaDoor
