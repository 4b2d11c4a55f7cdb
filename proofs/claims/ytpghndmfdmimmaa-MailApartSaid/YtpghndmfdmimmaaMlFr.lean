/-
  From what the statements of layer 9 say of an argument (it reads as a datum) to the words of the walks: a list of numbers of 16 bits. Conditions: those written.
-/
import Derived.Test.YtpghndmfdmimmaaMlLp
import Derived.Test.YtpghndmfdmimmaaRows
import Derived.ProofKit
import Derived.Lib.SmallJoins
import Derived.ChangeSlices
import Derived.Deep.Slices
import Derived.Carry
set_option linter.unusedVariables false
set_option linter.unusedSimpArgs false
namespace Go.Proofs.Ytpghndmfdmimmaa
open Go.ChangeShapes Go.WideShapes Go.ChangeAt Go.RowKit Go.Joins Go.Lib Go.Deep

theorem cell_lt {W : World} {a : Addr} {u : Value} (h : W.cell? a = some u) : a.block < W.heap.size := by
  rcases Nat.lt_or_ge a.block W.heap.size with h1 | h1
  · exact h1
  · simp [World.cell?, Array.getElem?_eq_none h1] at h
section
variable {H : Type} {enc : TypeId × Value → H} {W : World}
set_option maxRecDepth 100000 in
theorem arg_u16 {b : Nat} {v : Value} {d : DataW H} {p : List MemPlace} (hv : Value.okWide Try.prog W .any b 84 v) (h : DataW.Trod enc Try.prog W 0 (fun _ => true) true 84 v d p) : ∃ l, U16A W v l ∧ (∀ (i x : Nat), l[i]? = some x → x ≤ 65535) ∧ True := by
  obtain ⟨a', len', cap', rfl⟩ := okWide_slice Try.underlying84 hv
  obtain ⟨fuel, hf⟩ := h
  rcases open_ints Try.underlying84 Try.underlying39 (by kernel_rfl) hf with ⟨h1, _⟩ | ⟨a, len, cap, zs, h1, _, hlc, hcm, hzl, _, hcell, hwf⟩
  · have h2 : (Value.slice a' len' cap') = .slice none 0 0 := by simpa [Value.cells] using h1
    rw [h2]
    exact ⟨[], .inl ⟨rfl, rfl⟩, fun i x hx => by simp at hx, trivial⟩
  · have h2 : (Value.slice a' len' cap') = .slice (some a) len cap := by simpa [Value.cells] using h1
    rw [h2]
    simp only [if_true] at hzl
    have hcap : cap ≤ 9223372036854775807 := by unfold maxLen at hcm; exact hcm
    have hwf' : ∀ i, i < zs.length → 0 ≤ zs.getD i 0 ∧ zs.getD i 0 ≤ 65535 := fun i hi => by
      have := hwf (zs.getD i 0) (by rw [List.getD_eq_getElem?_getD, List.getElem?_eq_getElem hi]; exact List.getElem_mem hi)
      simpa [Lit.wf, IntKind.min, IntKind.max, IntKind.signed, IntKind.bits] using this
    have hl : ((zs.take len).map Int.toNat).length = len := by rw [List.length_map, List.length_take]; omega
    have hat : ∀ (i x : Nat), ((zs.take len).map Int.toNat)[i]? = some x → i < len ∧ zs.getD i 0 = (x : Int) := fun i x hx => by
      have hi : i < len := by
        have := (List.getElem?_eq_some_iff.1 hx).1
        omega
      have hi2 : i < zs.length := by omega
      rw [List.getElem?_map, List.getElem?_take, if_pos hi, List.getElem?_eq_getElem hi2] at hx
      have h0 := hwf' i hi2
      rw [List.getD_eq_getElem?_getD, List.getElem?_eq_getElem hi2] at h0 ⊢
      simp at hx h0 ⊢
      omega
    refine ⟨(zs.take len).map Int.toNat, .inr ⟨a, cap, by rw [hl], by omega, hcap, fun i x hx => ?_⟩, fun i x hx => ?_, trivial⟩
    · obtain ⟨hi, he⟩ := hat i x hx
      have hc := hcell i (by omega)
      rw [he] at hc
      refine ⟨?_, hc⟩
      have := cell_lt hc
      rwa [addr_add_block] at this
    · obtain ⟨hi, he⟩ := hat i x hx
      have := hwf' i (by omega)
      omega
end
end Go.Proofs.Ytpghndmfdmimmaa
