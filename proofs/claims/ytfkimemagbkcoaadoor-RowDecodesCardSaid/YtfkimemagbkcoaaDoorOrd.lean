/-
  Plain mathematics: the order of data. No condition; the last: both data may be.
-/
import Derived.Test.YtfkimemagbkcoaaDoorCmp
set_option linter.unusedVariables false
set_option linter.unusedSimpArgs false
namespace Go.Proofs.YtfkimemagbkcoaaDoor
open Go.Lib

theorem cmp3_turn (x y : Int) : cmp3 x y = -cmp3 y x := by unfold cmp3; repeat' split
                                                           all_goals omega
theorem cmpB_turn (x y : Bool) : cmpB x y = -cmpB y x := by cases x <;> cases y <;> rfl
theorem u8_trichotomy (a b : UInt8) : a < b ∨ a = b ∨ b < a := by
  rcases Nat.lt_trichotomy a.toNat b.toNat with h | h | h
  · exact .inl (UInt8.lt_iff_toNat_lt.2 h)
  · exact .inr (.inl (UInt8.toNat_inj.1 h))
  · exact .inr (.inr (UInt8.lt_iff_toNat_lt.2 h))
theorem u8_asymm {a b : UInt8} (h : a < b) : ¬ b < a := fun h2 => by
  have := UInt8.lt_iff_toNat_lt.1 h
  have := UInt8.lt_iff_toNat_lt.1 h2
  omega
theorem compare_range : ∀ a b : List UInt8, -1 ≤ compareBytes a b ∧ compareBytes a b ≤ 1
  | [], [] => by simp [compareBytes]
  | [], _ :: _ => by simp [compareBytes]
  | _ :: _, [] => by simp [compareBytes]
  | a :: l, b :: m => by
    have := compare_range l m
    unfold compareBytes
    repeat' split
    all_goals omega
theorem compare_turn : ∀ a b : List UInt8, compareBytes a b = -compareBytes b a
  | [], [] => rfl
  | [], _ :: _ => rfl
  | _ :: _, [] => rfl
  | a :: l, b :: m => by
    have ih := compare_turn l m
    unfold compareBytes
    rcases u8_trichotomy a b with h | h | h
    · rw [if_pos h, if_neg (u8_asymm h), if_pos h]
    · subst h
      rw [if_neg (UInt8.lt_irrefl a), if_neg (UInt8.lt_irrefl a), if_neg (UInt8.lt_irrefl a), if_neg (UInt8.lt_irrefl a), ih]
    · rw [if_neg (u8_asymm h), if_pos h, if_pos h]
      rfl
theorem compare_zero : ∀ a b : List UInt8, compareBytes a b = 0 ↔ a = b
  | [], [] => by simp [compareBytes]
  | [], _ :: _ => by simp [compareBytes]
  | _ :: _, [] => by simp [compareBytes]
  | a :: l, b :: m => by
    have ih := compare_zero l m
    unfold compareBytes
    rcases u8_trichotomy a b with h | h | h
    · rw [if_pos h]
      refine ⟨fun e => by omega, fun e => ?_⟩
      simp at e
      rw [e.1] at h
      exact absurd h (UInt8.lt_irrefl b)
    · subst h
      rw [if_neg (UInt8.lt_irrefl a), if_neg (UInt8.lt_irrefl a), ih]
      simp
    · rw [if_neg (u8_asymm h), if_pos h]
      refine ⟨fun e => by omega, fun e => ?_⟩
      simp at e
      rw [e.1] at h
      exact absurd h (UInt8.lt_irrefl b)
theorem compare_trans : ∀ a b c : List UInt8, compareBytes a b ≤ 0 → compareBytes b c ≤ 0 → compareBytes a c ≤ 0
  | [], _, [] => by simp [compareBytes]
  | [], _, _ :: _ => by simp [compareBytes]
  | _ :: _, [], _ => by simp [compareBytes]
  | _ :: _, _ :: _, [] => by simp [compareBytes]
  | a :: l, b :: m, c :: r => by
    have ih := compare_trans l m r
    have tr : ∀ {x y z : UInt8}, x < y → y < z → x < z := fun h h2 => by
      have := UInt8.lt_iff_toNat_lt.1 h
      have := UInt8.lt_iff_toNat_lt.1 h2
      exact UInt8.lt_iff_toNat_lt.2 (by omega)
    unfold compareBytes
    rcases u8_trichotomy a b with h | h | h
    · rcases u8_trichotomy b c with g | g | g
      · rw [if_pos h, if_pos g, if_pos (tr h g)]; intro _ _; omega
      · subst g; rw [if_pos h, if_pos h]; intro _ _; omega
      · rw [if_pos h, if_neg (u8_asymm g), if_pos g]; intro _ _; omega
    · subst h
      rcases u8_trichotomy a c with g | g | g
      · rw [if_pos g, if_pos g]; intro _ _; omega
      · subst g
        rw [if_neg (UInt8.lt_irrefl a), if_neg (UInt8.lt_irrefl a), if_neg (UInt8.lt_irrefl a), if_neg (UInt8.lt_irrefl a), if_neg (UInt8.lt_irrefl a), if_neg (UInt8.lt_irrefl a)]
        exact ih
      · rw [if_neg (u8_asymm g), if_pos g]; intro _ _; omega
    · rw [if_neg (u8_asymm h), if_pos h]; intro _ _; omega

theorem cmpS_turn (a b : Dat) : cmpS a b = -cmpS b a := by
  unfold cmpS
  by_cases h : a.k = b.k
  · rw [if_pos h, if_pos h.symm, h]
    repeat' split
    · exact cmpB_turn _ _
    · exact cmp3_turn _ _
    · exact compare_turn _ _
    · rfl
  · rw [if_neg h, if_neg (fun e => h e.symm)]
    exact cmp3_turn _ _
theorem cmp3_range (x y : Int) : -1 ≤ cmp3 x y ∧ cmp3 x y ≤ 1 := by
  unfold cmp3
  repeat' split
  all_goals omega
theorem cmpS_range (a b : Dat) : -1 ≤ cmpS a b ∧ cmpS a b ≤ 1 := by
  unfold cmpS
  repeat' split
  · cases a.b <;> cases b.b <;> decide
  · exact cmp3_range _ _
  · exact compare_range _ _
  · omega
  · exact cmp3_range _ _
theorem cmpS_self (a : Dat) : cmpS a a = 0 := by
  have := cmpS_turn a a
  omega
theorem cmp3_trans {x y z : Int} (h : cmp3 x y ≤ 0) (h2 : cmp3 y z ≤ 0) : cmp3 x z ≤ 0 := by
  unfold cmp3 at *
  repeat' split at *
  all_goals omega
theorem cmpB_trans {x y z : Bool} (h : cmpB x y ≤ 0) (h2 : cmpB y z ≤ 0) : cmpB x z ≤ 0 := by
  revert h h2
  cases x <;> cases y <;> cases z <;> decide
theorem cmp3_le {x y : Int} : cmp3 x y ≤ 0 ↔ x ≤ y := by
  unfold cmp3
  repeat' split
  all_goals omega
theorem cmpS_trans {a b c : Dat} (h : cmpS a b ≤ 0) (h2 : cmpS b c ≤ 0) : cmpS a c ≤ 0 := by
  unfold cmpS at *
  by_cases e1 : a.k = b.k
  · by_cases e2 : b.k = c.k
    · rw [if_pos e1] at h
      rw [if_pos e2] at h2
      rw [if_pos (e1.trans e2)]
      rw [e1] at h ⊢
      by_cases k2 : b.k = 2
      · simp only [k2, if_true] at *
        exact cmpB_trans h h2
      · by_cases k3 : b.k = 3
        · rw [if_neg k2, if_pos k3] at *
          exact cmp3_trans h h2
        · by_cases k4 : b.k = 4
          · rw [if_neg k2, if_neg k3, if_pos k4] at *
            exact compare_trans _ _ _ h h2
          · rw [if_neg k2, if_neg k3, if_neg k4]
            omega
    · rw [if_neg e2] at h2
      rw [if_neg (by rw [e1]; exact e2), e1]
      exact h2
  · rw [if_neg e1] at h
    by_cases e2 : b.k = c.k
    · rw [if_neg (by rw [← e2]; exact e1), ← e2]
      exact h
    · rw [if_neg e2] at h2
      have h3 := cmp3_le.1 h
      have h4 := cmp3_le.1 h2
      have hne : a.k ≠ c.k := by omega
      rw [if_neg hne]
      exact cmp3_le.2 (by omega)
theorem cmp3_zero {x y : Int} : cmp3 x y = 0 ↔ x = y := by
  unfold cmp3
  repeat' split
  all_goals omega
theorem cmpB_zero {x y : Bool} : cmpB x y = 0 ↔ x = y := by cases x <;> cases y <;> decide
theorem cmpS_zero {a b : Dat} (ha : okD a = true) (hb : okD b = true) : cmpS a b = 0 ↔ a = b := by
  refine ⟨fun h => ?_, fun h => by rw [h]; exact cmpS_self b⟩
  have hk : a.k = b.k := by
    by_cases e : a.k = b.k
    · exact e
    · unfold cmpS at h
      rw [if_neg e] at h
      exact cmp3_zero.1 h
  rcases ok_cases ha with rfl | ⟨x, rfl⟩ | ⟨x, rfl⟩ | ⟨x, rfl, hx1, hx2⟩ <;> rcases ok_cases hb with rfl | ⟨y, rfl⟩ | ⟨y, rfl⟩ | ⟨y, rfl, hy1, hy2⟩
  all_goals first
    | rfl
    | (exfalso; revert hk; simp [nullD, boolD, intD, textD]; done)
    | (rw [cmpB_zero.1 (show cmpB x y = 0 from h)])
    | (rw [cmp3_zero.1 (show cmp3 x y = 0 from h)])
    | (rw [bytes_ext ((compare_zero x.data.toList y.data.toList).1 h)])
end Go.Proofs.YtfkimemagbkcoaaDoor
