/-
  Plain mathematics: two texts side by side: valid if both are; as many runes as both; not before the first. No condition but those written.
-/
import Derived.Test.YtlodohgoondkhaaDoorRuneS
import Derived.Test.YtlodohgoondkhaaDoorOrd
set_option linter.unusedVariables false
set_option linter.unusedSimpArgs false
namespace Go.Proofs.YtlodohgoondkhaaDoor
open Go.Lib

/-- How many bytes the first rune has; 0: there is none. -/
def lonL (l : List UInt8) : Nat := longN l.length (l.getD 0 0).toNat (l.getD 1 0).toNat (l.getD 2 0).toNat (l.getD 3 0).toNat
theorem lonL_eq (l : List UInt8) (h : l ≠ []) : lonL l = if decodeL l = (65533, 1) then 0 else (decodeL l).2 := by
  unfold lonL
  rw [decodeL_N, longN_eq _ _ _ _ _ (List.length_pos_iff.2 h) (l.getD 0 0).toNat_lt (l.getD 1 0).toNat_lt (l.getD 2 0).toNat_lt (l.getD 3 0).toNat_lt]
theorem validD_lonL (l : List UInt8) (h : l ≠ []) (hv : validD l = true) : lonL l ≠ 0 ∧ (decodeL l).2 = lonL l ∧ validD (l.drop (lonL l)) = true := by
  rw [validD_step l h] at hv
  by_cases hd : (decodeL l).1 = 65533 ∧ (decodeL l).2 = 1
  · rw [if_pos hd] at hv; cases hv
  · rw [if_neg hd] at hv
    have hne : ¬ decodeL l = (65533, 1) := fun e => hd ⟨by rw [e], by rw [e]⟩
    have hk : lonL l = (decodeL l).2 := by rw [lonL_eq l h, if_neg hne]
    rw [hk]
    refine ⟨?_, rfl, hv⟩
    have := decode_width_pos ⟨l.toArray⟩ 0 (by have := List.length_pos_iff.2 h; show 0 < l.toArray.size; simpa using this)
    unfold decodeL
    omega
theorem validD_of_lonL (l : List UInt8) (h : l ≠ []) (hk : lonL l ≠ 0) (hv : validD (l.drop (lonL l)) = true) : validD l = true := by
  rw [validD_step l h]
  rw [lonL_eq l h] at hk hv
  by_cases hd : decodeL l = (65533, 1)
  · rw [if_pos hd] at hk; exact absurd rfl hk
  · rw [if_neg hd] at hv
    rw [if_neg (fun e => hd (Prod.ext e.1 e.2))]
    exact hv
theorem longN_le (n b0 b1 b2 b3 : Nat) (hn : 1 ≤ n) : longN n b0 b1 b2 b3 ≤ n := by
  unfold longN; repeat' split
  all_goals omega
/-- More bytes behind a whole rune change nothing. -/
theorem longN_more (n m b0 b1 b2 b3 c0 c1 c2 c3 : Nat) (hn : 1 ≤ n) (hm : n ≤ m) (h0 : b0 = c0) (h1 : 2 ≤ n → b1 = c1) (h2 : 3 ≤ n → b2 = c2) (h3 : 4 ≤ n → b3 = c3) (hk : longN n b0 b1 b2 b3 ≠ 0) :
    longN m c0 c1 c2 c3 = longN n b0 b1 b2 b3 := by
  subst h0
  unfold longN at *
  by_cases a : b0 < 128
  · simp [a]
  by_cases b : 194 ≤ b0 ∧ b0 < 224
  · simp only [a, b, if_true, if_false] at *
    by_cases e : n < 2
    · simp [e] at hk
    · have := h1 (by omega)
      subst this
      simp [e, show ¬ m < 2 by omega]
  by_cases c : 224 ≤ b0 ∧ b0 < 240
  · simp only [a, b, c, if_true, if_false] at *
    by_cases e : n < 3
    · simp [e] at hk
    · have := h1 (by omega)
      have := h2 (by omega)
      subst_vars
      simp [e, show ¬ m < 3 by omega]
  by_cases d : 240 ≤ b0 ∧ b0 < 245
  · simp only [a, b, c, d, if_true, if_false] at *
    by_cases e : n < 4
    · simp [e] at hk
    · have := h1 (by omega)
      have := h2 (by omega)
      have := h3 (by omega)
      subst_vars
      simp [e, show ¬ m < 4 by omega]
  · simp [a, b, c, d] at hk
theorem getD_app (l m : List UInt8) (i : Nat) (h : i < l.length) : (l ++ m).getD i 0 = l.getD i 0 := by
  simp [List.getD, List.getElem?_append_left h]
theorem lonL_app (l m : List UInt8) (h : l ≠ []) (hk : lonL l ≠ 0) : lonL (l ++ m) = lonL l := by
  have hl := List.length_pos_iff.2 h
  unfold lonL at *
  refine longN_more _ _ _ _ _ _ _ _ _ _ hl (by simp) (by rw [getD_app _ _ _ hl]) ?_ ?_ ?_ hk
  all_goals
    intro hh
    rw [getD_app _ _ _ (by omega)]
theorem lonL_le (l : List UInt8) (h : l ≠ []) : lonL l ≤ l.length := longN_le _ _ _ _ _ (List.length_pos_iff.2 h)
theorem validD_app : ∀ (f : Nat) (l m : List UInt8), l.length ≤ f → validD l = true → validD m = true → validD (l ++ m) = true
  | f, [], m, _, _, hm => by simpa using hm
  | 0, x :: l, m, hf, _, _ => by simp at hf
  | f + 1, x :: l, m, hf, hv, hm => by
    have hne : (x :: l : List UInt8) ≠ [] := by simp
    obtain ⟨hk, _, hd⟩ := validD_lonL _ hne hv
    have hle := lonL_le _ hne
    have ha := lonL_app (x :: l) m hne hk
    refine validD_of_lonL _ (by simp) (by rw [ha]; exact hk) ?_
    rw [ha, List.drop_append_of_le_length hle]
    refine validD_app f _ m ?_ hd hm
    simp only [List.length_drop, List.length_cons] at *
    omega
/-- How many runes a list of bytes has. -/
def cntL : Nat → List UInt8 → Nat
  | 0, _ => 0
  | f + 1, l => if l = [] then 0 else 1 + cntL f (l.drop (decodeL l).2)
theorem cntL_succ (f : Nat) (l : List UInt8) : cntL (f + 1) l = if l = [] then 0 else 1 + cntL f (l.drop (decodeL l).2) := rfl
theorem cntL_nil : ∀ f, cntL f [] = 0
  | 0 => rfl
  | f + 1 => by simp [cntL]
theorem cntS_list (s : ByteArray) : ∀ f pos, runeCountFrom s f pos = cntL f (s.data.toList.drop pos)
  | 0, _ => rfl
  | f + 1, pos => by
    unfold runeCountFrom cntL
    by_cases h : pos < s.size
    · rw [if_pos h, if_neg (drop_ne s pos h), cntS_list s f, decodeL_drop, List.drop_drop]
    · rw [if_neg h, if_pos (List.drop_eq_nil_of_le (by rw [size_list]; omega))]
theorem cntL_app : ∀ (f g k : Nat) (l m : List UInt8), l.length ≤ f → m.length ≤ g → (l ++ m).length ≤ k → validD l = true → cntL k (l ++ m) = cntL f l + cntL g m
  | f, 0, k, [], m, _, hg, hk, _ => by
    have : m = [] := List.length_eq_zero_iff.1 (by omega)
    subst this
    simp [cntL_nil]
  | f, g + 1, k, [], m, hf, hg, hk, _ => by
    rw [cntL_nil]
    simp only [List.nil_append, Nat.zero_add] at *
    exact cntL_fuel k (g + 1) m hk hg
  | 0, _, _, x :: l, m, hf, _, _, _ => by simp at hf
  | f + 1, g, 0, x :: l, m, hf, _, hk, _ => by simp at hk
  | f + 1, g, k + 1, x :: l, m, hf, hg, hk, hv => by
    have hne : (x :: l : List UInt8) ≠ [] := by simp
    obtain ⟨h0, h2, hd⟩ := validD_lonL _ hne hv
    have hle := lonL_le _ hne
    have ha := lonL_app (x :: l) m hne h0
    have hne2 : (x :: l) ++ m ≠ [] := by simp
    have hd2 : (decodeL ((x :: l) ++ m)).2 = lonL (x :: l) := by
      have := lonL_eq _ hne2
      rw [ha] at this
      by_cases e : decodeL ((x :: l) ++ m) = (65533, 1)
      · rw [if_pos e] at this; exact absurd this h0
      · rw [if_neg e] at this; exact this.symm
    rw [cntL_succ k, cntL_succ f, if_neg hne2, if_neg hne, hd2, h2, List.drop_append_of_le_length hle, cntL_app f g k _ m (by simp only [List.length_drop, List.length_cons] at *; omega) hg (by simp only [List.length_append, List.length_drop, List.length_cons] at *; omega) hd]
    omega
where
  cntL_fuel : ∀ (f g : Nat) (l : List UInt8), l.length ≤ f → l.length ≤ g → cntL f l = cntL g l
  | f, g, [], _, _ => by rw [cntL_nil, cntL_nil]
  | 0, _, x :: l, hf, _ => by simp at hf
  | _, 0, x :: l, _, hg => by simp at hg
  | f + 1, g + 1, x :: l, hf, hg => by
    have hp := decode_width_pos ⟨(x :: l).toArray⟩ 0 (by show 0 < (x :: l).toArray.size; simp)
    have hp2 : 1 ≤ (decodeL (x :: l)).2 := hp
    rw [cntL_succ f, cntL_succ g, if_neg (by simp), if_neg (by simp), cntL_fuel f g _ (by rw [List.length_drop]; simp only [List.length_cons] at hf ⊢; omega) (by rw [List.length_drop]; simp only [List.length_cons] at hg ⊢; omega)]
theorem compare_app : ∀ a b : List UInt8, compareBytes a (a ++ b) = if b = [] then 0 else -1
  | [], [] => by simp [compareBytes]
  | [], y :: b => by simp [compareBytes]
  | x :: a, b => by
    have := compare_app a b
    simp only [List.cons_append, compareBytes]
    rw [if_neg (by exact UInt8.lt_irrefl x), if_neg (by exact UInt8.lt_irrefl x)]
    exact this
end Go.Proofs.YtlodohgoondkhaaDoor
