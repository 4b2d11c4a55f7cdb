/-
  Plain mathematics: two times are written alike just if they are the same. Condition: no number of theirs is below 0.
-/
import Derived.Test.YtdfhchpimpbgfaaGreatDoorStPr
import Derived.Test.YtdfhchpimpbgfaaGreatDoorChM
set_option linter.unusedVariables false
set_option linter.unusedSimpArgs false
namespace Go.Proofs.YtdfhchpimpbgfaaGreatDoor
open Go.Lib

theorem decC_big {n : Nat} (h : ¬ n < 10) : decDigits n = decDigits (n / 10) ++ [UInt8.ofNat (48 + n % 10)] := by rw [decDigits, dif_neg h]
def dvalC (l : List UInt8) : Nat := l.foldl (fun a b => 10 * a + (b.toNat - 48)) 0
theorem digitC_nat {i : Nat} (h : i < 10) : (UInt8.ofNat (48 + i)).toNat = 48 + i := by rw [UInt8.toNat_ofNat']; omega
theorem dvalC_dec (n : Nat) : dvalC (decDigits n) = n := by
  induction n using Nat.strongRecOn with
  | ind n ih =>
    by_cases h : n < 10
    · rw [decDigits_one h]
      simp only [dvalC, List.foldl_cons, List.foldl_nil, digitC_nat h]
      omega
    · have hi := ih (n / 10) (by omega)
      unfold dvalC at hi
      rw [decC_big h]
      simp only [dvalC, List.foldl_append, List.foldl_cons, List.foldl_nil, hi, digitC_nat (show n % 10 < 10 by omega)]
      omega
theorem decC_range (n : Nat) : ∀ b ∈ decDigits n, 48 ≤ b.toNat ∧ b.toNat ≤ 57 := by
  induction n using Nat.strongRecOn with
  | ind n ih =>
    by_cases h : n < 10
    · rw [decDigits_one h]
      intro b hb
      rw [List.mem_singleton] at hb
      rw [hb, digitC_nat h]
      omega
    · rw [decC_big h]
      intro b hb
      rw [List.mem_append, List.mem_singleton] at hb
      rcases hb with hb | hb
      · exact ih (n / 10) (by omega) b hb
      · rw [hb, digitC_nat (show n % 10 < 10 by omega)]
        omega
theorem decI_inj {a b : Int} (ha : 0 ≤ a) (hb : 0 ≤ b) (h : decI a = decI b) : a = b := by
  have h2 := congrArg dvalC h
  unfold decI at h2
  rw [dvalC_dec, dvalC_dec] at h2
  omega
theorem decI_range (z : Int) : ∀ b ∈ decI z, 48 ≤ b.toNat ∧ b.toNat ≤ 57 := decC_range _
/-- Digits, and then something that is none: it parts in one way. -/
theorem digits_part : ∀ (x y r s : List UInt8), (∀ b ∈ x, 48 ≤ b.toNat) → (∀ b ∈ y, 48 ≤ b.toNat) → (∀ b t, r = b :: t → b.toNat < 48) → (∀ b t, s = b :: t → b.toNat < 48) → x ++ r = y ++ s → x = y ∧ r = s
  | [], [], r, s, _, _, _, _, h => ⟨rfl, h⟩
  | [], b :: y, r, s, _, hy, hr, _, h => by
    have h1 := hr b (y ++ s) h
    have h2 := hy b (by simp)
    omega
  | a :: x, [], r, s, hx, _, _, hs, h => by
    have h1 := hs a (x ++ r) h.symm
    have h2 := hx a (by simp)
    omega
  | a :: x, b :: y, r, s, hx, hy, hr, hs, h => by
    rw [List.cons_append, List.cons_append] at h
    injection h with h1 h2
    obtain ⟨h3, h4⟩ := digits_part x y r s (fun b hb => hx b (by simp [hb])) (fun b hb => hy b (by simp [hb])) hr hs h2
    exact ⟨by rw [h1, h3], h4⟩
/-- What stands behind a number within the brackets. -/
def tailD (l : List Int) : List UInt8 := (l.map fun z => 44 :: decI z).flatten ++ [41]
theorem tailD_head {l : List Int} : ∀ b t, tailD l = b :: t → b.toNat < 48 := by
  intro b t h
  cases l with
  | nil => simp [tailD] at h; rw [← h.1]; decide
  | cons a l => simp [tailD] at h; rw [← h.1]; decide
theorem tailD_cons (a : Int) (l : List Int) : tailD (a :: l) = 44 :: (decI a ++ tailD l) := by simp [tailD]
theorem tailD_inj : ∀ l m : List Int, (∀ z ∈ l, 0 ≤ z) → (∀ z ∈ m, 0 ≤ z) → tailD l = tailD m → l = m
  | [], [], _, _, _ => rfl
  | [], b :: m, _, _, h => by rw [tailD_cons] at h; simp [tailD] at h
  | a :: l, [], _, _, h => by rw [tailD_cons] at h; simp [tailD] at h
  | a :: l, b :: m, hl, hm, h => by
    rw [tailD_cons, tailD_cons] at h
    injection h with _ h
    obtain ⟨h1, h2⟩ := digits_part _ _ _ _ (fun x hx => (decI_range a x hx).1) (fun x hx => (decI_range b x hx).1) tailD_head tailD_head h
    rw [decI_inj (hl a (by simp)) (hm b (by simp)) h1, tailD_inj l m (fun z hz => hl z (by simp [hz])) (fun z hz => hm z (by simp [hz])) h2]
theorem printT_tail (e : Int) (a : Int) (l : List Int) : printT ⟨e, a :: l⟩ = decI e ++ 40 :: (decI a ++ tailD l) := by
  unfold printT joinD
  rw [if_neg (by simp), List.map_cons, Lib.join_cons]
  unfold Lib.joinTail tailD
  rw [List.map_map]
  simp [Function.comp_def]
theorem printT_inj {t u : Tm} (ht : TmW t) (hu : TmW u) (h : printT t = printT u) : t = u := by
  obtain ⟨e, l⟩ := t
  obtain ⟨f, m⟩ := u
  have h0 : ∀ {x : Int} {y : List Int}, TmW ⟨x, y⟩ → 0 ≤ x ∧ ∀ z ∈ y, 0 ≤ z := fun hh => ⟨hh.1.1, fun z hz => (hh.2 z hz).1⟩
  obtain ⟨he, hl⟩ := h0 ht
  obtain ⟨hf, hm⟩ := h0 hu
  have p40 : ∀ (r : List UInt8) b t, 40 :: r = b :: t → b.toNat < 48 := by
    intro r b t hh
    injection hh with hh _
    rw [← hh]; decide
  have pn : ∀ (b : UInt8) (t : List UInt8), ([] : List UInt8) = b :: t → b.toNat < 48 := by intro b t hh; cases hh
  have d1 := fun x hx => (decI_range e x hx).1
  have d2 := fun x hx => (decI_range f x hx).1
  have hn : ∀ x : Int, printT ⟨x, []⟩ = decI x ++ [] := fun x => by simp [printT]
  cases l with
  | nil =>
    cases m with
    | nil =>
      rw [hn, hn] at h
      obtain ⟨h1, _⟩ := digits_part _ _ _ _ d1 d2 pn pn h
      rw [decI_inj he hf h1]
    | cons b m =>
      rw [hn, printT_tail] at h
      obtain ⟨_, h2⟩ := digits_part _ _ _ _ d1 d2 pn (p40 _) h
      cases h2
  | cons a l =>
    cases m with
    | nil =>
      rw [hn, printT_tail] at h
      obtain ⟨_, h2⟩ := digits_part _ _ _ _ d1 d2 (p40 _) pn h
      cases h2
    | cons b m =>
      rw [printT_tail, printT_tail] at h
      obtain ⟨h1, h2⟩ := digits_part _ _ _ _ d1 d2 (p40 _) (p40 _) h
      injection h2 with _ h2
      obtain ⟨h3, h4⟩ := digits_part _ _ _ _ (fun x hx => (decI_range a x hx).1) (fun x hx => (decI_range b x hx).1) tailD_head tailD_head h2
      rw [decI_inj he hf h1, decI_inj (hl a (by simp)) (hm b (by simp)) h3, tailD_inj l m (fun z hz => hl z (by simp [hz])) (fun z hz => hm z (by simp [hz])) h4]
theorem printT_len {t : Tm} (ht : TmW t) (hl : t.l.length ≤ 1000000) : (printT t).length ≤ 30000000 := by
  obtain ⟨e, l⟩ := t
  have h1 := decDigits_len e.toNat (by have := ht.1.2; simp only at this; omega)
  have h2 := joinD_len l (fun z hz => (ht.2 z hz).2)
  unfold printT
  simp only at h1 h2 hl ⊢
  split
  · unfold decI; omega
  · simp only [List.length_append, List.length_cons, List.length_nil, decI] at h2 hl ⊢
    omega
end Go.Proofs.YtdfhchpimpbgfaaGreatDoor
