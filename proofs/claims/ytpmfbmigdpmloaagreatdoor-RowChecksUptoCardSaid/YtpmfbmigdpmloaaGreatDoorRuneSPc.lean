/-
  Texts that belong together: RuneS. What each one says stands ahead of it.
-/
import Derived.Test.YtpmfbmigdpmloaaGreatDoorPc01
import Derived.Test.YtpmfbmigdpmloaaGreatDoorUtf
import Derived.Lib.RuneCount
import Derived.Lib.ValidLaws
import Derived.Lib.TrimUEq
/-
  Plain mathematics: the document's count of a text's runes (a reader of one rune after the other) against the decoder of the model. No condition.
-/
set_option linter.unusedVariables false
set_option linter.unusedSimpArgs false
namespace Go.Proofs.YtpmfbmigdpmloaaGreatDoor
open Go.Lib

/-- The byte at a place, as a number. -/
def bt (s : ByteArray) (i : Nat) : Nat := (s.get! i).toNat
/-- How many bytes the rune at a place has; 0: there is none. -/
def longS (s : ByteArray) (i : Nat) : Nat := longN (s.size - i) (bt s i) (bt s (i + 1)) (bt s (i + 2)) (bt s (i + 3))
theorem bt_lt (s : ByteArray) (i : Nat) : bt s i < 256 := (s.get! i).toNat_lt
theorem longS_eq (s : ByteArray) (i : Nat) (h : i < s.size) : longS s i = if Utf8.decode s i = (65533, 1) then 0 else (Utf8.decode s i).2 := by
  unfold longS
  rw [longN_eq _ _ _ _ _ (by omega) (bt_lt _ _) (bt_lt _ _) (bt_lt _ _) (bt_lt _ _), decode_at]
  rfl

theorem count_fuel (s : ByteArray) : ∀ f g pos, s.size - pos ≤ f → s.size - pos ≤ g → runeCountFrom s f pos = runeCountFrom s g pos
  | 0, g, pos, hf, hg => by rw [runeCountFrom_end s g pos (by omega)]; rfl
  | f + 1, 0, pos, hf, hg => by rw [runeCountFrom_end s (f + 1) pos (by omega)]; rfl
  | f + 1, g + 1, pos, hf, hg => by
    by_cases hp : pos < s.size
    · have hw := decode_width_pos s pos hp
      rw [runeCountFrom, runeCountFrom, if_pos hp, if_pos hp, count_fuel s f g _ (by omega) (by omega)]
    · rw [runeCountFrom_end _ _ _ hp, runeCountFrom_end _ _ _ hp]
/-- How many runes a text has from a place on. -/
def cntS (s : ByteArray) (pos : Nat) : Nat := runeCountFrom s s.size pos
theorem cntS_zero (s : ByteArray) : cntS s 0 = runeCount s := rfl
theorem cntS_end (s : ByteArray) (pos : Nat) (h : ¬ pos < s.size) : cntS s pos = 0 := runeCountFrom_end _ _ _ h
theorem cntS_step (s : ByteArray) (pos : Nat) (h : pos < s.size) : cntS s pos = 1 + cntS s (pos + (Utf8.decode s pos).2) := by
  have hw := decode_width_pos s pos h
  unfold cntS
  rw [count_fuel s s.size (s.size + 1) pos (by omega) (by omega)]
  conv => lhs; rw [runeCountFrom, if_pos h]
theorem cntS_le (s : ByteArray) (pos : Nat) : cntS s pos ≤ s.size := runeCountFrom_le _ _ _

theorem size_list (s : ByteArray) : s.data.toList.length = s.size := by simp
theorem drop_ne (s : ByteArray) (pos : Nat) (h : pos < s.size) : s.data.toList.drop pos ≠ [] := by
  intro he
  have := congrArg List.length he
  rw [List.length_drop, size_list] at this
  simp at this
  omega
theorem runes_bad {s : ByteArray} {pos : Nat} (h : pos < s.size) (hl : longS s pos = 0) : validD (s.data.toList.drop pos) = false := by
  have hw := decode_width_pos s pos h
  rw [longS_eq s pos h] at hl
  rw [validD_step _ (drop_ne s pos h), decodeL_drop]
  by_cases hd : Utf8.decode s pos = (65533, 1)
  · rw [hd]; rfl
  · rw [if_neg hd] at hl; omega
theorem runes_good {s : ByteArray} {pos : Nat} (h : pos < s.size) (hl : ¬ longS s pos = 0) :
    longS s pos = (Utf8.decode s pos).2 ∧ validD (s.data.toList.drop pos) = validD (s.data.toList.drop (pos + longS s pos)) ∧ pos + longS s pos ≤ s.size ∧ cntS s pos = 1 + cntS s (pos + longS s pos) ∧ 1 ≤ longS s pos := by
  have hw := decode_width_pos s pos h
  have he := longS_eq s pos h
  by_cases hd : Utf8.decode s pos = (65533, 1)
  · rw [if_pos hd] at he; exact absurd he hl
  · rw [if_neg hd] at he
    refine ⟨he, ?_, ?_, ?_, by omega⟩
    · rw [he]
      conv => lhs; rw [validD_step _ (drop_ne s pos h), decodeL_drop, if_neg (fun hc => hd (Prod.ext hc.1 hc.2)), List.drop_drop]
    · have := decodeL_le _ (drop_ne s pos h)
      rw [decodeL_drop, List.length_drop, size_list] at this
      omega
    · rw [he]; exact cntS_step s pos h
/-- The document's count. -/
def runesS (s : ByteArray) : Int := if validD s.data.toList = true then (runeCount s : Int) else -1
end Go.Proofs.YtpmfbmigdpmloaaGreatDoor
