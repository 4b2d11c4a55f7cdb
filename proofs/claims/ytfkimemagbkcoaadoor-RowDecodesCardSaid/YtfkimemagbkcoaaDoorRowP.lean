/-
  Plain mathematics of encodings: one is the beginning of another one just if the row is. No condition but those written.
-/
import Derived.Test.YtfkimemagbkcoaaDoorRowV
set_option linter.unusedVariables false
set_option linter.unusedSimpArgs false
namespace Go.Proofs.YtfkimemagbkcoaaDoor
open Go.RowKit Go.Lib

theorem compare_iff : ∀ {x y : List UInt8}, compareBytes x y = 0 ↔ x = y
  | [], [] => by simp [compareBytes]
  | [], _ :: _ => by simp [compareBytes]
  | _ :: _, [] => by simp [compareBytes]
  | a :: x, b :: y => by
    rw [compareBytes]
    by_cases h1 : a < b
    · rw [if_pos h1]
      refine ⟨fun h => by simp at h, fun h => ?_⟩
      injection h with h2 _
      subst h2
      exact absurd h1 (u8_irrefl a)
    · rw [if_neg h1]
      by_cases h2 : b < a
      · rw [if_pos h2]
        refine ⟨fun h => by simp at h, fun h => ?_⟩
        injection h with h3 _
        subst h3
        exact absurd h2 (u8_irrefl a)
      · rw [if_neg h2]
        have e : a = b := by
          have h3 : ¬ a.toNat < b.toNat := fun q => h1 (UInt8.lt_iff_toNat_lt.2 q)
          have h4 : ¬ b.toNat < a.toNat := fun q => h2 (UInt8.lt_iff_toNat_lt.2 q)
          exact UInt8.toNat_inj.1 (by omega)
        subst e
        rw [compare_iff (x := x) (y := y)]
        simp
theorem LtD.not_pre {x y : List UInt8} (h : LtD x y) (s t : List UInt8) : ¬ (x ++ s) <+: (y ++ t) ∧ ¬ (y ++ t) <+: (x ++ s) := by
  obtain ⟨p, a, b, u, v, rfl, rfl, hab⟩ := h
  constructor
  · rintro ⟨r, hr⟩
    rw [List.append_assoc, List.append_assoc, List.append_assoc] at hr
    have := List.append_cancel_left hr
    simp at this
    obtain ⟨e, _⟩ := this
    subst e
    exact u8_irrefl _ hab
  · rintro ⟨r, hr⟩
    rw [List.append_assoc, List.append_assoc, List.append_assoc] at hr
    have := List.append_cancel_left hr
    simp at this
    obtain ⟨e, _⟩ := this
    subst e
    exact u8_irrefl _ hab
theorem encR_cons (d : Dat) (l : List Dat) : encR (d :: l) = encD d ++ encR l := by unfold encR; rw [List.flatMap_cons]
theorem encR_app (l m : List Dat) : encR (l ++ m) = encR l ++ encR m := by unfold encR; rw [List.flatMap_append]
theorem encR_same : ∀ {l m : List Dat}, cmpR l m = 0 → encR l = encR m
  | [], [], _ => rfl
  | [], _ :: _, h => by simp [cmpR] at h
  | _ :: _, [], h => by simp [cmpR] at h
  | a :: p, b :: q, h => by
    rw [cmpR] at h
    by_cases h0 : cmpS a b = 0
    · rw [if_pos h0] at h
      rw [encR_cons, encR_cons, encD_same h0, encR_same h]
    · rw [if_neg h0] at h
      exact absurd h h0
/-- A row is the beginning of another one. -/
def Begins (l m : List Dat) : Prop := l.length ≤ m.length ∧ cmpR l (m.take l.length) = 0
theorem begins_enc {l m : List Dat} (h : Begins l m) : encR l <+: encR m := by
  obtain ⟨h1, h2⟩ := h
  refine ⟨encR (m.drop l.length), ?_⟩
  rw [encR_same h2, ← encR_app, List.take_append_drop]
theorem enc_begins : ∀ {l m : List Dat}, (∀ d ∈ l, Kinded d ∧ Wide d) → (∀ d ∈ m, Kinded d ∧ Wide d) → encR l <+: encR m → Begins l m
  | [], m, _, _, _ => ⟨by simp, by simp [cmpR]⟩
  | d :: l, [], hl, _, h => by
    obtain ⟨r, hr⟩ := h
    have := encD_ne (hl d (by simp)).1
    rw [encR_cons] at hr
    simp [encR] at hr
    exact absurd hr.1 this
  | d :: l, e :: m, hl, hm, h => by
    rw [encR_cons, encR_cons] at h
    have hd := hl d (by simp); have he := hm e (by simp)
    rcases cmpS_cases d e with h0 | h0 | h0
    · rw [encD_same h0] at h
      obtain ⟨r, hr⟩ := h
      rw [List.append_assoc] at hr
      have h2 := enc_begins (fun x hx => hl x (by simp [hx])) (fun x hx => hm x (by simp [hx])) ⟨r, List.append_cancel_left hr⟩
      refine ⟨by simpa using h2.1, ?_⟩
      rw [List.length_cons, List.take_succ_cons, cmpR, if_pos h0]
      exact h2.2
    · exact absurd h (LtD.not_pre (encD_lt hd.1 he.1 hd.2.2 he.2.2 h0) _ _).1
    · exact absurd h (LtD.not_pre (encD_lt he.1 hd.1 he.2.2 hd.2.2 h0) _ _).2
theorem pre_take {x y : List UInt8} : x <+: y ↔ x.length ≤ y.length ∧ compareBytes x (y.take x.length) = 0 := by
  rw [compare_iff]
  constructor
  · intro h
    exact ⟨h.length_le, List.prefix_iff_eq_take.1 h⟩
  · rintro ⟨_, h⟩
    exact List.prefix_iff_eq_take.2 h
end Go.Proofs.YtfkimemagbkcoaaDoor
