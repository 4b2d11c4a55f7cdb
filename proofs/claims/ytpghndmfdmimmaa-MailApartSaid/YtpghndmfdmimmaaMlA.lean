/-
  Two boxes of layer 9 beside each other: what is done to one leaves the other as it is. Nothing is walked here. Conditions: those written.
-/
import Derived.Test.YtpghndmfdmimmaaMlE
set_option linter.unusedVariables false
set_option linter.unusedSimpArgs false
namespace Go.Proofs.Ytpghndmfdmimmaa
open Go.RowKit Go.Lib

theorem BoxI.two {w w' : World} {B b W n : Nat} {S : Nat → Nat} {st : Nat → Nat → Ch} (h : BoxI w B b W n S st) {S' T' : Nat} {cs ds : List Value} (k : Two w w' S' T') (hS : HasC w S' cs 98) (hT : HasC w T' ds 31)
    (nS : ∀ f, f < W → S f ≠ S') (nT : ∀ f t, f < W → t < W → (st f t).T ≠ T') : BoxI w' B b W n S st := by
  obtain ⟨h1, h2, ⟨Rb, rs, h3, h4, h5⟩, h6, h7, h8, h9, h10, h11⟩ := h
  refine ⟨h1, h2, ⟨Rb, rs, k.has h3 (h3.types hS (by decide)) (h3.types hT (by decide)), k.has h4 (h4.types hS (by decide)) (h4.types hT (by decide)), h5⟩, fun f hf => ?_, fun f t hf ht => ?_, h8, h9, h10, h11⟩
  · obtain ⟨es, k1, k2⟩ := h6 f hf
    exact ⟨es, k.has k1 (nS f hf) (k1.types hT (by decide)), k2⟩
  · exact (h7 f t hf ht).two k hS hT (nT f t hf ht)
/-- All channels of a box lie below block M. -/
def Hi (W M : Nat) (S : Nat → Nat) (st : Nat → Nat → Ch) : Prop := ∀ f, f < W → S f < M ∧ ∀ t, t < W → (st f t).T < M
theorem BoxI.hi {w : World} {B b W n : Nat} {S : Nat → Nat} {st : Nat → Nat → Ch} (h : BoxI w B b W n S st) : Hi W w.heap.size S st := fun f hf => by
  obtain ⟨cs, h1, -⟩ := h.rows f hf
  refine ⟨h1.lt, fun t ht => ?_⟩
  obtain ⟨ds, h2, -⟩ := h.slots f t hf ht
  exact h2.lt
theorem Hi.upd {W M : Nat} {S : Nat → Nat} {st : Nat → Nat → Ch} (h : Hi W M S st) {f t : Nat} (hf : f < W) (ht : t < W) {r : Ch} (hr : r.T = (st f t).T) : Hi W M S (Go.Proofs.Ytpghndmfdmimmaa.upd st f t r) := fun g hg => by
  refine ⟨(h g hg).1, fun u hu => ?_⟩
  by_cases e : g = f ∧ u = t
  · obtain ⟨rfl, rfl⟩ := e
    rw [upd_same, hr]
    exact (h _ hg).2 _ hu
  · rw [upd_other _ _ _ _ e]
    exact (h _ hg).2 _ hu
theorem BoxI.second {w w' : World} {B b W n B2 b2 n2 M : Nat} {S S2 : Nat → Nat} {st st2 : Nat → Nat → Ch} (h : BoxI w B b W n S st) (h2 : BoxI w B2 b2 W n2 S2 st2) (hi : Hi W M S st) (hM : M ≤ B2) {f t : Nat} (hf : f < W) (ht : t < W)
    (k : Two w w' (S f) (st f t).T) : BoxI w' B2 b2 W n2 S2 st2 := by
  obtain ⟨cs, hcs, -⟩ := h.rows f hf
  obtain ⟨ds, hds, -⟩ := h.slots f t hf ht
  have a1 := (hi f hf).1
  have a2 := (hi f hf).2 t ht
  exact h2.two k hcs hds (fun g hg => by have := (h2.low g hg).1; omega) (fun g u hg hu => by have := (h2.low g hg).2 u hu; omega)
theorem BoxI.first {w w' : World} {B b W n B2 b2 n2 M : Nat} {S S2 : Nat → Nat} {st st2 : Nat → Nat → Ch} (h : BoxI w B b W n S st) (h2 : BoxI w B2 b2 W n2 S2 st2) (hi : Hi W M S st) (hM : M ≤ B2) {f t : Nat} (hf : f < W) (ht : t < W)
    (k : Two w w' (S2 f) (st2 f t).T) : BoxI w' B b W n S st := by
  obtain ⟨cs, hcs, -⟩ := h2.rows f hf
  obtain ⟨ds, hds, -⟩ := h2.slots f t hf ht
  have a1 := (h2.low f hf).1
  have a2 := (h2.low f hf).2 t ht
  exact h.two k hcs hds (fun g hg => by have := (hi g hg).1; omega) (fun g u hg hu => by have := (hi g hg).2 u hu; omega)
/-- A message, and the block of a variable that holds it, stay where a channel changes. -/
theorem BoxI.message {w w' : World} {B b W n : Nat} {S : Nat → Nat} {st : Nat → Nat → Ch} (h : BoxI w B b W n S st) {f t : Nat} (hf : f < W) (ht : t < W) (k : Two w w' (S f) (st f t).T) {v : Value} {z : Int} (hu : UpdV w v z) : UpdV w' v z := by
  obtain ⟨cs, hcs, -⟩ := h.rows f hf
  obtain ⟨ds, hds, -⟩ := h.slots f t hf ht
  exact hu.two k hcs hds
theorem BoxI.var {w w' : World} {B b W n : Nat} {S : Nat → Nat} {st : Nat → Nat → Ch} (h : BoxI w B b W n S st) {f t : Nat} (hf : f < W) (ht : t < W) (k : Two w w' (S f) (st f t).T) {g : Nat} {es : List Value} (hg : HasC w g es 31) (hne : (st f t).T ≠ g) : HasC w' g es 31 := by
  obtain ⟨cs, hcs, -⟩ := h.rows f hf
  exact k.has hg (hg.types hcs (by decide)) (Ne.symm hne)
end Go.Proofs.Ytpghndmfdmimmaa
