/-
  Plain mathematics of layer 1 (datum), on lists and integers alone: what Check, Cmp, the numbers, the texts, the logic and the text form come to. No program is in sight. No condition.
-/
import Derived.Lib.MapLaws
import Derived.Lib.ValidLaws
import Derived.Lib.RuneCount
import Derived.Lib.Bytealg
import Derived.Lib.ItoaLen
import Derived.Lib.ItoaMem
set_option linter.unusedVariables false
set_option linter.unusedSimpArgs false
namespace Go.Proofs.YtfkimemagbkcoaaDoor
open Go.Lib

/-! ### data -/
structure Dat where
  k : Int
  b : Bool
  n : Int
  s : ByteArray

theorem Dat.eq_of {x y : Dat} (hk : x.k = y.k) (hb : x.b = y.b) (hn : x.n = y.n) (hs : x.s = y.s) : x = y := by
  cases x; cases y; simp_all

def zeroD : Dat := ⟨0, false, 0, ⟨#[]⟩⟩
def nullD : Dat := ⟨1, false, 0, ⟨#[]⟩⟩
def boolD (b : Bool) : Dat := ⟨2, b, 0, ⟨#[]⟩⟩
def intD (n : Int) : Dat := ⟨3, false, n, ⟨#[]⟩⟩
def textD (s : ByteArray) : Dat := ⟨4, false, 0, s⟩

theorem bytes_empty {s : ByteArray} (h : s.size = 0) : s = ⟨#[]⟩ := by
  rcases s with ⟨a⟩
  have : a = #[] := Array.eq_empty_of_size_eq_zero h
  rw [this]
theorem bytes_ext {s t : ByteArray} (h : s.data.toList = t.data.toList) : s = t := by
  rcases s with ⟨⟨a⟩⟩; rcases t with ⟨⟨b⟩⟩
  simp at h; rw [h]

/-- May the fields stand together? -/
def form (d : Dat) : Bool :=
  if d.k = 1 then !d.b && decide (d.n = 0) && decide (d.s.size = 0)
  else if d.k = 2 then decide (d.n = 0) && decide (d.s.size = 0)
  else if d.k = 3 then !d.b && decide (d.s.size = 0)
  else if d.k = 4 then !d.b && decide (d.n = 0) && validD d.s.data.toList
  else false
/-- Check's answer. -/
def chk (d : Dat) : Int := if form d = true then (if 1000 < d.s.size then 12 else 0) else 13
def okD (d : Dat) : Bool := decide (chk d = 0)

theorem chk_of_form {d : Dat} (h : form d = true) : chk d = if 1000 < d.s.size then 12 else 0 := by unfold chk; rw [if_pos h]
theorem chk_bad {d : Dat} (h : form d = false) : chk d = 13 := by unfold chk; rw [if_neg (by rw [h]; decide)]
theorem okD_iff (d : Dat) : okD d = true ↔ form d = true ∧ d.s.size ≤ 1000 := by
  unfold okD chk
  by_cases h : form d = true
  · rw [if_pos h]
    by_cases h2 : 1000 < d.s.size
    · rw [if_pos h2]; simp [h]; omega
    · rw [if_neg h2]; simp [h]; omega
  · rw [if_neg h]; simp [h]

/-- What a datum that may be is. -/
theorem ok_cases {d : Dat} (h : okD d = true) : d = nullD ∨ (∃ b, d = boolD b) ∨ (∃ n, d = intD n) ∨ (∃ s, d = textD s ∧ validD s.data.toList = true ∧ s.size ≤ 1000) := by
  obtain ⟨hf, hl⟩ := (okD_iff d).1 h
  rcases d with ⟨k, b, n, s⟩
  unfold form at hf
  simp only at hf hl
  by_cases h1 : k = 1
  · subst h1
    simp at hf
    obtain ⟨⟨rfl, rfl⟩, rfl⟩ := hf
    exact .inl rfl
  · by_cases h2 : k = 2
    · subst h2
      simp at hf
      obtain ⟨rfl, rfl⟩ := hf
      exact .inr (.inl ⟨b, rfl⟩)
    · by_cases h3 : k = 3
      · subst h3
        simp at hf
        obtain ⟨rfl, rfl⟩ := hf
        exact .inr (.inr (.inl ⟨n, rfl⟩))
      · by_cases h4 : k = 4
        · subst h4
          simp at hf
          obtain ⟨⟨rfl, rfl⟩, hs⟩ := hf
          exact .inr (.inr (.inr ⟨s, rfl, hs, hl⟩))
        · simp [h1, h2, h3, h4] at hf
theorem ok_null : okD nullD = true := by decide
theorem ok_bool (b : Bool) : okD (boolD b) = true := by cases b <;> decide
theorem ok_int (n : Int) : okD (intD n) = true := by
  rw [okD_iff]; exact ⟨by simp [form, intD]; rfl, Nat.zero_le _⟩
theorem ok_text (s : ByteArray) : okD (textD s) = true ↔ validD s.data.toList = true ∧ s.size ≤ 1000 := by
  rw [okD_iff]; simp [form, textD]

end Go.Proofs.YtfkimemagbkcoaaDoor
