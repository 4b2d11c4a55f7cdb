/-
  From what the statements of layer 2 say of an argument that is bytes (it reads as a datum) to the words of the walks. No condition but those written.
-/
import Derived.Test.YtfkimemagbkcoaaDoorRwFr
import Derived.Test.YtfkimemagbkcoaaDoorRwB9
set_option linter.unusedVariables false
set_option linter.unusedSimpArgs false
namespace Go.Proofs.YtfkimemagbkcoaaDoor
open Go.ChangeShapes Go.WideShapes Go.ChangeAt Go.RowKit Go.Joins Go.Lib Go.Deep

section
variable {H : Type} {enc : TypeId × Value → H} {W : World}
/-- What a slice of bytes reads as. -/
def DatB (x : DataW H) (l : List UInt8) : Prop := (x = .nil ∧ l = []) ∨ ∃ r, x = .slice (l.map (fun z => .lit (.int .u8 z.toNat))) r
set_option maxRecDepth 100000 in
theorem arg_bytes {b : Nat} {v : Value} {d : DataW H} {p : List MemPlace} (hv : Value.okWide Tryd.prog W .any b 22 v) (h : DataW.Trod enc Tryd.prog W 0 (fun _ => true) true 22 v d p) : ∃ l, BytsV W v l ∧ True ∧ DatB d l := by
  obtain ⟨a', len', cap', rfl⟩ := okWide_slice Tryd.underlying22 hv
  obtain ⟨fuel, hf⟩ := h
  rcases open_slice1 Tryd.underlying22 (by kernel_rfl) hf with ⟨h1, h2⟩ | ⟨a, len, cap, m, n, V, D, Pl, h1, _, hlc, hcm, hm, hx, hc⟩
  · simp [Value.cells] at h1
    obtain ⟨rfl, rfl, rfl⟩ := h1
    cases h2
    exact ⟨[], ⟨rfl, none, 0, rfl, Nat.le_refl _, by decide, fun _ => rfl, fun q => absurd q (by simp)⟩, trivial, .inl ⟨rfl, rfl⟩⟩
  · simp [Value.cells] at h1
    obtain ⟨rfl, rfl, rfl⟩ := h1
    cases hx
    have hlm : len' ≤ m := by rw [hm]; simpa using hlc
    have each : ∀ i, i < len' → ∃ z : UInt8, W.cell? (a.add i) = some (.int .u8 z.toNat) ∧ D i = .lit (.int .u8 z.toNat) := by
      intro i hi
      obtain ⟨g1, g2⟩ := hc i (by omega)
      obtain ⟨z, e, hz, wz⟩ := DataW.trod_int Tryd.underlying5 g2
      simp only [List.cons.injEq, and_true] at e
      rw [e] at g1
      have h0 : 0 ≤ z ∧ z ≤ 255 := by simpa [Lit.wf, IntKind.min, IntKind.max, IntKind.signed, IntKind.bits] using wz
      have hzz : ((UInt8.ofNat z.toNat).toNat : Int) = z := by
        rw [UInt8.toNat_ofNat']
        omega
      exact ⟨UInt8.ofNat z.toNat, by rw [hzz]; exact g1, by rw [hzz]; exact congrArg (·.1) hz⟩
    obtain ⟨f, hf'⟩ := choose_lt each
    have hl : ((List.range len').map f).length = len' := by simp
    refine ⟨(List.range len').map f, ⟨by rw [Lib.byteCells_length]; omega, some a, cap', by rw [hl], by rw [hl]; exact hlc, by unfold maxLen at hcm; exact hcm, fun q => (by cases q), fun hp => ⟨a, rfl, ?_, fun j u hj => ?_⟩⟩, trivial, .inr ⟨(List.range (m - len')).map fun j => D (len' + j), ?_⟩⟩
    · rw [hl] at hp
      have := cell_lt (hf' 0 hp).1
      rwa [add_block] at this
    · have hj' : j < len' := by
        have := (List.getElem?_eq_some_iff.1 hj).1
        rw [Lib.byteCells_length, hl] at this
        exact this
      rw [(hf' j hj').1]
      simp [hj', Lib.byteCells] at hj
      rw [hj]
    · congr 1
      rw [List.map_map]
      exact List.map_congr_left fun i hi => (hf' i (List.mem_range.1 hi)).2
end
end Go.Proofs.YtfkimemagbkcoaaDoor
