/-
  Texts that belong together: Quote, Esc, Qw, Arith, Print, Writ, RowQ, RefDigits. What each one says stands ahead of it.
-/
import Derived.Test.YtpmfbmigdpmloaaGreatDoorPc01
import Derived.Lib.RuneBytes
import Derived.Test.YtpmfbmigdpmloaaGreatDoorProg
import Derived.WalkKit
import Derived.WalkLawsBesides
import Derived.WalkSpells
import Derived.Handy
import Derived.Deep.QuietTactic
import Derived.BigQuiet
import Derived.Lib.Hide
import Derived.Test.YtpmfbmigdpmloaaGreatDoorPc03
import Derived.BigCall
import Derived.Shelf.Unicode.ValidAny
import Derived.ShutString
import Derived.Laws.BitsAllLaws
import Derived.IntWalk
import Derived.WalkArith
import Derived.Lib.AppendIntMem
import Derived.Shelf.Small.Wraps
import Derived.Lib.Join
import Derived.Deep.RegionHeld3
import Derived.Laws.IdiomStrings
section
/-
  Plain mathematics: how a text is written, byte by byte and rune by rune. Condition of the last: the bytes are UTF-8.
-/
set_option linter.unusedVariables false
set_option linter.unusedSimpArgs false
namespace Go.Proofs.YtpmfbmigdpmloaaGreatDoor
open Go.Lib

def hexD (n : Nat) : UInt8 := if n < 10 then UInt8.ofNat (48 + n) else UInt8.ofNat (87 + n)
/-- A byte as it is written within a text. -/
def escB (c : UInt8) : List UInt8 :=
  if c = 39 then [39, 39] else if c = 92 then [92, 92] else if c = 10 then [92, 110] else if c = 13 then [92, 114] else if c = 9 then [92, 116]
  else if c < 32 ∨ c = 127 then [92, 120, hexD (c.toNat / 16), hexD (c.toNat % 16)] else [c]
/-- A text as it is written. -/
def quoteL (l : List UInt8) : List UInt8 := 39 :: (l.flatMap escB ++ [39])
/-- A rune as it is written. -/
def escR (r : Nat) : List UInt8 :=
  if r = 39 then [39, 39] else if r = 92 then [92, 92] else if r = 10 then [92, 110] else if r = 13 then [92, 114] else if r = 9 then [92, 116]
  else if r < 32 ∨ r = 127 then [92, 120, hexD (r / 16), hexD (r % 16)] else encodeRune r

set_option maxRecDepth 100000 in
theorem escR_low : ∀ i : Fin 128, escR i.val = escB (UInt8.ofNat i.val) := by decide
theorem escB_high {c : UInt8} (h : 128 ≤ c.toNat) : escB c = [c] := by
  have h1 : c ≠ 39 := fun e => by subst e; simp at h
  have h2 : c ≠ 92 := fun e => by subst e; simp at h
  have h3 : c ≠ 10 := fun e => by subst e; simp at h
  have h4 : c ≠ 13 := fun e => by subst e; simp at h
  have h5 : c ≠ 9 := fun e => by subst e; simp at h
  have h6 : ¬ (c < 32 ∨ c = 127) := by
    rintro (e | e)
    · rw [UInt8.lt_iff_toNat_lt] at e
      have : (32 : UInt8).toNat = 32 := rfl
      omega
    · subst e; simp at h
  simp [escB, h1, h2, h3, h4, h5, h6]
theorem flat_high : ∀ l : List UInt8, (∀ c ∈ l, 128 ≤ c.toNat) → l.flatMap escB = l
  | [], _ => rfl
  | c :: l, h => by
    rw [List.flatMap_cons, escB_high (h c (by simp)), flat_high l (fun x hx => h x (by simp [hx]))]
    rfl
theorem encodeZ_high {r : Int} (h : 128 ≤ r) : ∀ x ∈ encodeRuneZ r, 128 ≤ x ∧ x < 256 := by
  intro x hx
  have hb := encodeRuneZ_byte r x hx
  refine ⟨?_, hb.2⟩
  by_cases h1 : r ≤ 2047
  · rw [encodeRuneZ_two h h1] at hx
    simp at hx
    omega
  · by_cases h2 : (2048 ≤ r ∧ r < 55296) ∨ (57343 < r ∧ r ≤ 65535)
    · rw [encodeRuneZ_three h2] at hx
      simp at hx
      omega
    · by_cases h3 : 65536 ≤ r ∧ r ≤ 1114111
      · rw [encodeRuneZ_four h3.1 h3.2] at hx
        simp at hx
        omega
      · rw [encodeRuneZ_bad (by omega)] at hx
        simp at hx
        omega
theorem encode_high {r : Int} (h : 128 ≤ r) : ∀ c ∈ encodeRune r, 128 ≤ c.toNat := by
  intro c hc
  unfold encodeRune at hc
  obtain ⟨x, hx, rfl⟩ := List.mem_map.1 hc
  have hb := encodeZ_high h x hx
  obtain ⟨n, rfl⟩ := Int.eq_ofNat_of_zero_le (show 0 ≤ x by omega)
  simp
  omega
/-- A rune's writing is that of its bytes. -/
theorem escR_bytes (l : List UInt8) (hne : l ≠ []) (hv : ¬ ((decodeL l).1 = 65533 ∧ (decodeL l).2 = 1)) : escR (decodeL l).1 = (l.take (decodeL l).2).flatMap escB := by
  have he := encode_decode l hne hv
  by_cases h : (decodeL l).1 < 128
  · have hlow := escR_low ⟨(decodeL l).1, h⟩
    simp only at hlow
    rw [hlow, ← he]
    have e1 : encodeRune ((decodeL l).1 : Int) = [UInt8.ofNat (decodeL l).1] := by
      unfold encodeRune
      rw [encodeRuneZ_one (by omega) (by omega)]
      simp
    rw [e1]
    simp
  · have hbig : escR (decodeL l).1 = encodeRune ((decodeL l).1 : Int) := by
      unfold escR
      rw [if_neg (by omega), if_neg (by omega), if_neg (by omega), if_neg (by omega), if_neg (by omega), if_neg (by omega)]
    rw [hbig, ← he, flat_high _ (encode_high (by omega))]

/-- What quote writes from place pos on. -/
theorem quote_step (l : List UInt8) (hne : l ≠ []) (hv : validD l = true) : l.flatMap escB = escR (decodeL l).1 ++ (l.drop (decodeL l).2).flatMap escB ∧ validD (l.drop (decodeL l).2) = true := by
  rw [validD_step l hne] at hv
  split at hv
  · cases hv
  · rename_i h
    refine ⟨?_, hv⟩
    rw [escR_bytes l hne h, ← List.flatMap_append, List.take_append_drop]
theorem escB_len (c : UInt8) : 1 ≤ (escB c).length ∧ (escB c).length ≤ 4 := by
  unfold escB
  repeat' split
  all_goals simp
theorem flat_len : ∀ l : List UInt8, (l.flatMap escB).length ≤ 4 * l.length
  | [] => by simp
  | c :: l => by
    have := flat_len l
    have := (escB_len c).2
    simp only [List.flatMap_cons, List.length_append, List.length_cons]
    omega
end Go.Proofs.YtpmfbmigdpmloaaGreatDoor
end
section
/-
  What datum.escape answers, at this program. Condition: the rune is one that the decoder gives.
-/
set_option linter.unusedVariables false
set_option linter.unusedSimpArgs false
namespace Go.Proofs.YtpmfbmigdpmloaaGreatDoor
open Go.RowKit Go.Lib

theorem ret_str {a b : ByteArray} (h : a = b) : Ending.returned (.string a) = .returned (.string b) := by rw [h]

theorem encode_eq (z : Int) : Utf8.encode z = ⟨(encodeRune z).toArray⟩ := by
  apply bytes_ext
  have hb : ∀ n : Nat, UInt8.ofNat n = ((n : Int).toNat.toUInt8) := fun n => by simp
  unfold Utf8.encode encodeRune
  by_cases hv : Utf8.valid z = true
  · rw [if_pos hv]
    simp only [Utf8.valid, Bool.or_eq_true, Bool.and_eq_true, decide_eq_true_eq] at hv
    obtain ⟨n, rfl⟩ := Int.eq_ofNat_of_zero_le (show 0 ≤ z by omega)
    simp only [Int.toNat_natCast]
    by_cases c1 : n < 128
    · rw [if_pos c1, encodeRuneZ_one (by omega) (by omega)]
      simp
    · rw [if_neg c1]
      by_cases c2 : n < 2048
      · rw [if_pos c2, encodeRuneZ_two (by omega) (by omega)]
        simp only [List.map_cons, List.map_nil]
        rw [show (192 : Int) + n / 64 = ((192 + n / 64 : Nat) : Int) by omega, show (128 : Int) + n % 64 = ((128 + n % 64 : Nat) : Int) by omega]
        rfl
      · rw [if_neg c2]
        by_cases c3 : n < 65536
        · rw [if_pos c3, encodeRuneZ_three (by omega)]
          simp only [List.map_cons, List.map_nil]
          rw [show (224 : Int) + n / 4096 = ((224 + n / 4096 : Nat) : Int) by omega, show (128 : Int) + n / 64 % 64 = ((128 + n / 64 % 64 : Nat) : Int) by omega, show (128 : Int) + n % 64 = ((128 + n % 64 : Nat) : Int) by omega]
          rfl
        · rw [if_neg c3, encodeRuneZ_four (by omega) (by omega)]
          simp only [List.map_cons, List.map_nil]
          rw [show (240 : Int) + n / 262144 = ((240 + n / 262144 : Nat) : Int) by omega, show (128 : Int) + n / 4096 % 64 = ((128 + n / 4096 % 64 : Nat) : Int) by omega, show (128 : Int) + n / 64 % 64 = ((128 + n / 64 % 64 : Nat) : Int) by omega, show (128 : Int) + n % 64 = ((128 + n % 64 : Nat) : Int) by omega]
          rfl
  · rw [if_neg hv, encodeRuneZ_bad (by
      simp only [Utf8.valid, Bool.or_eq_true, Bool.and_eq_true, decide_eq_true_eq] at hv
      omega)]
    rfl
/-- What escape answers at a rune. -/
def EscAt (z : Int) : Prop := ∀ w : World, Calls Tryz.prog 88 #[.int .i32 z] w fun e w' => e = .returned (.string ⟨(escR z.toNat).toArray⟩) ∧ ∃ n, w' = w.drewN n

theorem escape_0 : EscAt 0 := by
  intro w
  have hr : (⟨(escR (0 : Int).toNat).toArray⟩ : ByteArray) = ⟨#[92, 120, 48, 48]⟩ := by decide
  rw [hr]
  clear hr
  have hb : bits .and .i32 0 15 = 0 := by decide
  go_enter Tryz.func88, Tryz.ntmps88
  go_wp2
  go_quiet (fail)
  go_wp2
  go_ret
  exact ⟨ret_str (by decide), _, rfl⟩
theorem escape_1 : EscAt 1 := by
  intro w
  have hr : (⟨(escR (1 : Int).toNat).toArray⟩ : ByteArray) = ⟨#[92, 120, 48, 49]⟩ := by decide
  rw [hr]
  clear hr
  have hb : bits .and .i32 1 15 = 1 := by decide
  go_enter Tryz.func88, Tryz.ntmps88
  go_wp2
  go_quiet (fail)
  go_wp2
  go_ret
  exact ⟨ret_str (by decide), _, rfl⟩
theorem escape_2 : EscAt 2 := by
  intro w
  have hr : (⟨(escR (2 : Int).toNat).toArray⟩ : ByteArray) = ⟨#[92, 120, 48, 50]⟩ := by decide
  rw [hr]
  clear hr
  have hb : bits .and .i32 2 15 = 2 := by decide
  go_enter Tryz.func88, Tryz.ntmps88
  go_wp2
  go_quiet (fail)
  go_wp2
  go_ret
  exact ⟨ret_str (by decide), _, rfl⟩
theorem escape_3 : EscAt 3 := by
  intro w
  have hr : (⟨(escR (3 : Int).toNat).toArray⟩ : ByteArray) = ⟨#[92, 120, 48, 51]⟩ := by decide
  rw [hr]
  clear hr
  have hb : bits .and .i32 3 15 = 3 := by decide
  go_enter Tryz.func88, Tryz.ntmps88
  go_wp2
  go_quiet (fail)
  go_wp2
  go_ret
  exact ⟨ret_str (by decide), _, rfl⟩
theorem escape_4 : EscAt 4 := by
  intro w
  have hr : (⟨(escR (4 : Int).toNat).toArray⟩ : ByteArray) = ⟨#[92, 120, 48, 52]⟩ := by decide
  rw [hr]
  clear hr
  have hb : bits .and .i32 4 15 = 4 := by decide
  go_enter Tryz.func88, Tryz.ntmps88
  go_wp2
  go_quiet (fail)
  go_wp2
  go_ret
  exact ⟨ret_str (by decide), _, rfl⟩
theorem escape_5 : EscAt 5 := by
  intro w
  have hr : (⟨(escR (5 : Int).toNat).toArray⟩ : ByteArray) = ⟨#[92, 120, 48, 53]⟩ := by decide
  rw [hr]
  clear hr
  have hb : bits .and .i32 5 15 = 5 := by decide
  go_enter Tryz.func88, Tryz.ntmps88
  go_wp2
  go_quiet (fail)
  go_wp2
  go_ret
  exact ⟨ret_str (by decide), _, rfl⟩
theorem escape_6 : EscAt 6 := by
  intro w
  have hr : (⟨(escR (6 : Int).toNat).toArray⟩ : ByteArray) = ⟨#[92, 120, 48, 54]⟩ := by decide
  rw [hr]
  clear hr
  have hb : bits .and .i32 6 15 = 6 := by decide
  go_enter Tryz.func88, Tryz.ntmps88
  go_wp2
  go_quiet (fail)
  go_wp2
  go_ret
  exact ⟨ret_str (by decide), _, rfl⟩
theorem escape_7 : EscAt 7 := by
  intro w
  have hr : (⟨(escR (7 : Int).toNat).toArray⟩ : ByteArray) = ⟨#[92, 120, 48, 55]⟩ := by decide
  rw [hr]
  clear hr
  have hb : bits .and .i32 7 15 = 7 := by decide
  go_enter Tryz.func88, Tryz.ntmps88
  go_wp2
  go_quiet (fail)
  go_wp2
  go_ret
  exact ⟨ret_str (by decide), _, rfl⟩
theorem escape_8 : EscAt 8 := by
  intro w
  have hr : (⟨(escR (8 : Int).toNat).toArray⟩ : ByteArray) = ⟨#[92, 120, 48, 56]⟩ := by decide
  rw [hr]
  clear hr
  have hb : bits .and .i32 8 15 = 8 := by decide
  go_enter Tryz.func88, Tryz.ntmps88
  go_wp2
  go_quiet (fail)
  go_wp2
  go_ret
  exact ⟨ret_str (by decide), _, rfl⟩
theorem escape_11 : EscAt 11 := by
  intro w
  have hr : (⟨(escR (11 : Int).toNat).toArray⟩ : ByteArray) = ⟨#[92, 120, 48, 98]⟩ := by decide
  rw [hr]
  clear hr
  have hb : bits .and .i32 11 15 = 11 := by decide
  go_enter Tryz.func88, Tryz.ntmps88
  go_wp2
  go_quiet (fail)
  go_wp2
  go_ret
  exact ⟨ret_str (by decide), _, rfl⟩
theorem escape_12 : EscAt 12 := by
  intro w
  have hr : (⟨(escR (12 : Int).toNat).toArray⟩ : ByteArray) = ⟨#[92, 120, 48, 99]⟩ := by decide
  rw [hr]
  clear hr
  have hb : bits .and .i32 12 15 = 12 := by decide
  go_enter Tryz.func88, Tryz.ntmps88
  go_wp2
  go_quiet (fail)
  go_wp2
  go_ret
  exact ⟨ret_str (by decide), _, rfl⟩
theorem escape_14 : EscAt 14 := by
  intro w
  have hr : (⟨(escR (14 : Int).toNat).toArray⟩ : ByteArray) = ⟨#[92, 120, 48, 101]⟩ := by decide
  rw [hr]
  clear hr
  have hb : bits .and .i32 14 15 = 14 := by decide
  go_enter Tryz.func88, Tryz.ntmps88
  go_wp2
  go_quiet (fail)
  go_wp2
  go_ret
  exact ⟨ret_str (by decide), _, rfl⟩
theorem escape_15 : EscAt 15 := by
  intro w
  have hr : (⟨(escR (15 : Int).toNat).toArray⟩ : ByteArray) = ⟨#[92, 120, 48, 102]⟩ := by decide
  rw [hr]
  clear hr
  have hb : bits .and .i32 15 15 = 15 := by decide
  go_enter Tryz.func88, Tryz.ntmps88
  go_wp2
  go_quiet (fail)
  go_wp2
  go_ret
  exact ⟨ret_str (by decide), _, rfl⟩
theorem escape_16 : EscAt 16 := by
  intro w
  have hr : (⟨(escR (16 : Int).toNat).toArray⟩ : ByteArray) = ⟨#[92, 120, 49, 48]⟩ := by decide
  rw [hr]
  clear hr
  have hb : bits .and .i32 16 15 = 0 := by decide
  go_enter Tryz.func88, Tryz.ntmps88
  go_wp2
  go_quiet (fail)
  go_wp2
  go_ret
  exact ⟨ret_str (by decide), _, rfl⟩
theorem escape_17 : EscAt 17 := by
  intro w
  have hr : (⟨(escR (17 : Int).toNat).toArray⟩ : ByteArray) = ⟨#[92, 120, 49, 49]⟩ := by decide
  rw [hr]
  clear hr
  have hb : bits .and .i32 17 15 = 1 := by decide
  go_enter Tryz.func88, Tryz.ntmps88
  go_wp2
  go_quiet (fail)
  go_wp2
  go_ret
  exact ⟨ret_str (by decide), _, rfl⟩
theorem escape_18 : EscAt 18 := by
  intro w
  have hr : (⟨(escR (18 : Int).toNat).toArray⟩ : ByteArray) = ⟨#[92, 120, 49, 50]⟩ := by decide
  rw [hr]
  clear hr
  have hb : bits .and .i32 18 15 = 2 := by decide
  go_enter Tryz.func88, Tryz.ntmps88
  go_wp2
  go_quiet (fail)
  go_wp2
  go_ret
  exact ⟨ret_str (by decide), _, rfl⟩
theorem escape_19 : EscAt 19 := by
  intro w
  have hr : (⟨(escR (19 : Int).toNat).toArray⟩ : ByteArray) = ⟨#[92, 120, 49, 51]⟩ := by decide
  rw [hr]
  clear hr
  have hb : bits .and .i32 19 15 = 3 := by decide
  go_enter Tryz.func88, Tryz.ntmps88
  go_wp2
  go_quiet (fail)
  go_wp2
  go_ret
  exact ⟨ret_str (by decide), _, rfl⟩
theorem escape_20 : EscAt 20 := by
  intro w
  have hr : (⟨(escR (20 : Int).toNat).toArray⟩ : ByteArray) = ⟨#[92, 120, 49, 52]⟩ := by decide
  rw [hr]
  clear hr
  have hb : bits .and .i32 20 15 = 4 := by decide
  go_enter Tryz.func88, Tryz.ntmps88
  go_wp2
  go_quiet (fail)
  go_wp2
  go_ret
  exact ⟨ret_str (by decide), _, rfl⟩
theorem escape_21 : EscAt 21 := by
  intro w
  have hr : (⟨(escR (21 : Int).toNat).toArray⟩ : ByteArray) = ⟨#[92, 120, 49, 53]⟩ := by decide
  rw [hr]
  clear hr
  have hb : bits .and .i32 21 15 = 5 := by decide
  go_enter Tryz.func88, Tryz.ntmps88
  go_wp2
  go_quiet (fail)
  go_wp2
  go_ret
  exact ⟨ret_str (by decide), _, rfl⟩
theorem escape_22 : EscAt 22 := by
  intro w
  have hr : (⟨(escR (22 : Int).toNat).toArray⟩ : ByteArray) = ⟨#[92, 120, 49, 54]⟩ := by decide
  rw [hr]
  clear hr
  have hb : bits .and .i32 22 15 = 6 := by decide
  go_enter Tryz.func88, Tryz.ntmps88
  go_wp2
  go_quiet (fail)
  go_wp2
  go_ret
  exact ⟨ret_str (by decide), _, rfl⟩
theorem escape_23 : EscAt 23 := by
  intro w
  have hr : (⟨(escR (23 : Int).toNat).toArray⟩ : ByteArray) = ⟨#[92, 120, 49, 55]⟩ := by decide
  rw [hr]
  clear hr
  have hb : bits .and .i32 23 15 = 7 := by decide
  go_enter Tryz.func88, Tryz.ntmps88
  go_wp2
  go_quiet (fail)
  go_wp2
  go_ret
  exact ⟨ret_str (by decide), _, rfl⟩
theorem escape_24 : EscAt 24 := by
  intro w
  have hr : (⟨(escR (24 : Int).toNat).toArray⟩ : ByteArray) = ⟨#[92, 120, 49, 56]⟩ := by decide
  rw [hr]
  clear hr
  have hb : bits .and .i32 24 15 = 8 := by decide
  go_enter Tryz.func88, Tryz.ntmps88
  go_wp2
  go_quiet (fail)
  go_wp2
  go_ret
  exact ⟨ret_str (by decide), _, rfl⟩
theorem escape_25 : EscAt 25 := by
  intro w
  have hr : (⟨(escR (25 : Int).toNat).toArray⟩ : ByteArray) = ⟨#[92, 120, 49, 57]⟩ := by decide
  rw [hr]
  clear hr
  have hb : bits .and .i32 25 15 = 9 := by decide
  go_enter Tryz.func88, Tryz.ntmps88
  go_wp2
  go_quiet (fail)
  go_wp2
  go_ret
  exact ⟨ret_str (by decide), _, rfl⟩
theorem escape_26 : EscAt 26 := by
  intro w
  have hr : (⟨(escR (26 : Int).toNat).toArray⟩ : ByteArray) = ⟨#[92, 120, 49, 97]⟩ := by decide
  rw [hr]
  clear hr
  have hb : bits .and .i32 26 15 = 10 := by decide
  go_enter Tryz.func88, Tryz.ntmps88
  go_wp2
  go_quiet (fail)
  go_wp2
  go_ret
  exact ⟨ret_str (by decide), _, rfl⟩
theorem escape_27 : EscAt 27 := by
  intro w
  have hr : (⟨(escR (27 : Int).toNat).toArray⟩ : ByteArray) = ⟨#[92, 120, 49, 98]⟩ := by decide
  rw [hr]
  clear hr
  have hb : bits .and .i32 27 15 = 11 := by decide
  go_enter Tryz.func88, Tryz.ntmps88
  go_wp2
  go_quiet (fail)
  go_wp2
  go_ret
  exact ⟨ret_str (by decide), _, rfl⟩
theorem escape_28 : EscAt 28 := by
  intro w
  have hr : (⟨(escR (28 : Int).toNat).toArray⟩ : ByteArray) = ⟨#[92, 120, 49, 99]⟩ := by decide
  rw [hr]
  clear hr
  have hb : bits .and .i32 28 15 = 12 := by decide
  go_enter Tryz.func88, Tryz.ntmps88
  go_wp2
  go_quiet (fail)
  go_wp2
  go_ret
  exact ⟨ret_str (by decide), _, rfl⟩
theorem escape_29 : EscAt 29 := by
  intro w
  have hr : (⟨(escR (29 : Int).toNat).toArray⟩ : ByteArray) = ⟨#[92, 120, 49, 100]⟩ := by decide
  rw [hr]
  clear hr
  have hb : bits .and .i32 29 15 = 13 := by decide
  go_enter Tryz.func88, Tryz.ntmps88
  go_wp2
  go_quiet (fail)
  go_wp2
  go_ret
  exact ⟨ret_str (by decide), _, rfl⟩
theorem escape_30 : EscAt 30 := by
  intro w
  have hr : (⟨(escR (30 : Int).toNat).toArray⟩ : ByteArray) = ⟨#[92, 120, 49, 101]⟩ := by decide
  rw [hr]
  clear hr
  have hb : bits .and .i32 30 15 = 14 := by decide
  go_enter Tryz.func88, Tryz.ntmps88
  go_wp2
  go_quiet (fail)
  go_wp2
  go_ret
  exact ⟨ret_str (by decide), _, rfl⟩
theorem escape_31 : EscAt 31 := by
  intro w
  have hr : (⟨(escR (31 : Int).toNat).toArray⟩ : ByteArray) = ⟨#[92, 120, 49, 102]⟩ := by decide
  rw [hr]
  clear hr
  have hb : bits .and .i32 31 15 = 15 := by decide
  go_enter Tryz.func88, Tryz.ntmps88
  go_wp2
  go_quiet (fail)
  go_wp2
  go_ret
  exact ⟨ret_str (by decide), _, rfl⟩
theorem escape_127 : EscAt 127 := by
  intro w
  have hr : (⟨(escR (127 : Int).toNat).toArray⟩ : ByteArray) = ⟨#[92, 120, 55, 102]⟩ := by decide
  rw [hr]
  clear hr
  have hb : bits .and .i32 127 15 = 15 := by decide
  go_enter Tryz.func88, Tryz.ntmps88
  go_wp2
  go_quiet (fail)
  go_wp2
  go_ret
  exact ⟨ret_str (by decide), _, rfl⟩
theorem escape_39 : EscAt 39 := by
  intro w
  have hr : (⟨(escR (39 : Int).toNat).toArray⟩ : ByteArray) = ⟨#[39, 39]⟩ := by decide
  rw [hr]
  clear hr
  go_enter Tryz.func88, Tryz.ntmps88
  go_wp2
  go_ret
  exact ⟨rfl, 0, rfl⟩
theorem escape_92 : EscAt 92 := by
  intro w
  have hr : (⟨(escR (92 : Int).toNat).toArray⟩ : ByteArray) = ⟨#[92, 92]⟩ := by decide
  rw [hr]
  clear hr
  go_enter Tryz.func88, Tryz.ntmps88
  go_wp2
  go_ret
  exact ⟨rfl, 0, rfl⟩
theorem escape_10 : EscAt 10 := by
  intro w
  have hr : (⟨(escR (10 : Int).toNat).toArray⟩ : ByteArray) = ⟨#[92, 110]⟩ := by decide
  rw [hr]
  clear hr
  go_enter Tryz.func88, Tryz.ntmps88
  go_wp2
  go_ret
  exact ⟨rfl, 0, rfl⟩
theorem escape_13 : EscAt 13 := by
  intro w
  have hr : (⟨(escR (13 : Int).toNat).toArray⟩ : ByteArray) = ⟨#[92, 114]⟩ := by decide
  rw [hr]
  clear hr
  go_enter Tryz.func88, Tryz.ntmps88
  go_wp2
  go_ret
  exact ⟨rfl, 0, rfl⟩
theorem escape_9 : EscAt 9 := by
  intro w
  have hr : (⟨(escR (9 : Int).toNat).toArray⟩ : ByteArray) = ⟨#[92, 116]⟩ := by decide
  rw [hr]
  clear hr
  go_enter Tryz.func88, Tryz.ntmps88
  go_wp2
  go_ret
  exact ⟨rfl, 0, rfl⟩
set_option maxHeartbeats 1000000 in
theorem escape_plain (z : Int) (h : 32 ≤ z) (h0 : z ≠ 127) (h1 : z ≠ 39) (h2 : z ≠ 92) (hr : z ≤ 1114111) : EscAt z := by
  intro w
  have g0 : (z == 127) = false := by simpa using h0
  have g1 : (z == 39) = false := by simpa using h1
  have g2 : (z == 92) = false := by simpa using h2
  have g3 : (z == 10) = false := by simp; omega
  have g4 : (z == 13) = false := by simp; omega
  have g5 : (z == 9) = false := by simp; omega
  have g6 : ¬ z < 32 := by omega
  have hesc := Lib.hid (show escR z.toNat = encodeRune z by
    obtain ⟨n, rfl⟩ := Int.eq_ofNat_of_zero_le (show 0 ≤ z by omega)
    rw [Int.toNat_natCast]
    unfold escR
    rw [if_neg (by omega), if_neg (by omega), if_neg (by omega), if_neg (by omega), if_neg (by omega), if_neg (by omega)])
  clear h0 h1 h2
  go_enter Tryz.func88, Tryz.ntmps88
  go_wp2
  go_ret
  exact ⟨ret_str (by rw [encode_eq, hesc.out]), 0, rfl⟩

/-- What escape answers, at every rune that the decoder gives. -/
theorem escape_any (z : Int) (h0 : 0 ≤ z) (h1 : z ≤ 1114111) : EscAt z := by
  by_cases h : z < 32
  · have hc : z = 0 ∨ z = 1 ∨ z = 2 ∨ z = 3 ∨ z = 4 ∨ z = 5 ∨ z = 6 ∨ z = 7 ∨ z = 8 ∨ z = 9 ∨ z = 10 ∨ z = 11 ∨ z = 12 ∨ z = 13 ∨ z = 14 ∨ z = 15 ∨ z = 16 ∨ z = 17 ∨ z = 18 ∨ z = 19 ∨ z = 20 ∨ z = 21 ∨ z = 22 ∨ z = 23 ∨ z = 24 ∨ z = 25 ∨ z = 26 ∨ z = 27 ∨ z = 28 ∨ z = 29 ∨ z = 30 ∨ z = 31 := by omega
    rcases hc with rfl | rfl | rfl | rfl | rfl | rfl | rfl | rfl | rfl | rfl | rfl | rfl | rfl | rfl | rfl | rfl | rfl | rfl | rfl | rfl | rfl | rfl | rfl | rfl | rfl | rfl | rfl | rfl | rfl | rfl | rfl | rfl
    · exact escape_0
    · exact escape_1
    · exact escape_2
    · exact escape_3
    · exact escape_4
    · exact escape_5
    · exact escape_6
    · exact escape_7
    · exact escape_8
    · exact escape_9
    · exact escape_10
    · exact escape_11
    · exact escape_12
    · exact escape_13
    · exact escape_14
    · exact escape_15
    · exact escape_16
    · exact escape_17
    · exact escape_18
    · exact escape_19
    · exact escape_20
    · exact escape_21
    · exact escape_22
    · exact escape_23
    · exact escape_24
    · exact escape_25
    · exact escape_26
    · exact escape_27
    · exact escape_28
    · exact escape_29
    · exact escape_30
    · exact escape_31
  · by_cases a : z = 127
    · subst a; exact escape_127
    by_cases b : z = 39
    · subst b; exact escape_39
    by_cases c : z = 92
    · subst c; exact escape_92
    exact escape_plain z (by omega) a b c h1
end Go.Proofs.YtpmfbmigdpmloaaGreatDoor
end
section
/-
  What datum.quote answers, at this program. Condition: the text is UTF-8 of at most 1000 bytes.
-/
set_option linter.unusedVariables false
set_option linter.unusedSimpArgs false
namespace Go.Proofs.YtpmfbmigdpmloaaGreatDoor
open Go.RowKit Go.Lib

theorem strCells_list (l : List UInt8) : Lib.strCells ⟨l.toArray⟩ = Lib.byteCells l := by
  simp [Lib.strCells, Lib.byteCells]

theorem heap_drewN (w : World) : ∀ n, (w.drewN n).heap = w.heap
  | 0 => rfl
  | n + 1 => heap_drewN w n
theorem isB_heap {T e B b : Nat} {bs : List Value} {w w' : World} (h : w'.heap = w.heap) (hI : Lib.IsBuilderF T e B b bs w) : Lib.IsBuilderF T e B b bs w' := by
  unfold Lib.IsBuilderF Lib.BuilderAtF World.ownsRowF at *
  rw [h]
  exact hI

set_option maxHeartbeats 4000000 in
set_option maxRecDepth 1000000 in
theorem quote_any (s : ByteArray) (w : World) (hv : validD s.data.toList = true) (hs : s.size ≤ 1000) :
    Calls Tryz.prog 54 #[.string s] w fun e w' => e = .returned (.string ⟨(quoteL s.data.toList).toArray⟩) ∧ Below w.heap.size w w' := by
  have hvH := Lib.hid hv
  clear hv
  go_enter Tryz.func54, Tryz.ntmps54
  go_wp2_with fail
  refine (Tryz.Builder_Grow_fresh w.heap.size w.heap.size (s.size + 2) _ (Nat.le_refl _) (by exact heap_alloc_new w _) (by simp) (by omega)).mono ?_
  rintro e W1 ⟨rfl, hg, hb1⟩
  have hb1w : Below w.heap.size w W1 := ((Below.refl _ w).alloc (Nat.le_refl _) _).trans hb1
  have hgF : Lib.IsBuilderF 96 5 w.heap.size w.heap.size [] W1 := Lib.IsBuilderF.of (.inr hg)
  clear hg hb1
  go_wp2_with fail
  refine (writeByte_k w.heap.size w.heap.size [] 39 W1 hgF (by simp) hb1w.size).mono ?_
  rintro e W2 ⟨rfl, hg2, hb2, _⟩
  have hb2w := hb1w.trans hb2
  have hg2F : Lib.IsBuilderF 96 5 w.heap.size w.heap.size (Lib.byteCells [39]) W2 := .inr hg2
  have hlt2 : w.heap.size < W2.heap.size := by obtain ⟨_, v, hbk, _⟩ := hg2; exact lt_of_block hbk
  clear hg2 hgF hb1w hb2
  go_wp2_with fail
  have hlen := s.data.toList.length
  go_loopw [] (fun wr => ∃ (pos : Nat) (acc : List UInt8), Lib.IsBuilderF 96 5 w.heap.size w.heap.size (Lib.byteCells acc) wr ∧ wr.heap[W2.heap.size]? = some (.stringIter s pos) ∧ Below w.heap.size w wr ∧ acc ++ (s.data.toList.drop pos).flatMap escB = 39 :: s.data.toList.flatMap escB ∧ validD (s.data.toList.drop pos) = true ∧ acc.length ≤ 1 + 4 * s.size) (fun wr => s.size - wr.iterPos W2.heap.size)
  case atStart =>
    refine ⟨0, [39], hg2F.alloc _, ?_, hb2w.alloc (by omega) _, by simp, by simpa using hvH.out, by simp⟩
    have := World.iter_heap W2 s 0
    simpa using this
  case round =>
    obtain ⟨pos, acc, hI, hit, hbw, hacc, hval, hal⟩ := hrel
    have hsz : W2.heap.size < wr.heap.size := (Array.getElem?_eq_some_iff.1 hit).1
    have haccH := Lib.hid hacc
    have hvalH := Lib.hid hval
    clear hacc hval
    by_cases hp : pos < s.size
    · have hnx : ∀ ty, (Instr.next (.pointer (some ⟨W2.heap.size, 0, none⟩)) true ty).run Tryz.prog wr = _ := fun ty => Lib.run_next_any_at wr W2.heap.size s pos ty hit hp
      have hne : s.data.toList.drop pos ≠ [] := by
        intro he
        have := congrArg List.length he
        simp at this
        have : s.data.size = s.size := rfl
        omega
      obtain ⟨hst, hv2⟩ := quote_step _ hne hvalH.out
      rw [decodeL_drop] at hst hv2
      have hd1 := decode_le s pos
      have hwd : 1 ≤ (Utf8.decode s pos).2 := decode_width_pos s pos hp
      have hI2 := hI.iterAt hit (pos + (Utf8.decode s pos).2)
      have hit2 := Lib.iterAt_heap wr W2.heap.size s pos (pos + (Utf8.decode s pos).2) hit
      have hbw2 := Lib.below_iterAt hbw (k := W2.heap.size) (by omega) s (pos + (Utf8.decode s pos).2)
      have hsz2 : w.heap.size ≤ (wr.iterAt W2.heap.size s (pos + (Utf8.decode s pos).2)).heap.size := by rw [Lib.iterAt_size]; omega
      have hlenE : (acc ++ escR (Utf8.decode s pos).1).length ≤ 1 + 4 * s.size := by
        have h1 : (acc ++ (escR (Utf8.decode s pos).1 ++ ((s.data.toList.drop pos).drop (Utf8.decode s pos).2).flatMap escB)).length = (39 :: s.data.toList.flatMap escB).length := by rw [← hst, haccH.out]
        have h2 := flat_len s.data.toList
        have h3 : s.data.toList.length = s.size := by simp
        rw [← List.append_assoc, List.length_append, List.length_cons] at h1
        omega
      have hit0 := Lib.hid hit
      have hstH := Lib.hid hst; have hv2H := Lib.hid hv2; have hlenEH := Lib.hid hlenE
      clear hst hv2 hlenE
      go_wp2_with fail
      refine (escape_any (Utf8.decode s pos).1 (by omega) (by have := Lib.rune_le s pos; omega) _).mono ?_
      rintro e W3 ⟨rfl, nq, rfl⟩
      rw [Int.toNat_natCast]
      have heq : ((wr.iterAt W2.heap.size s (pos + (Utf8.decode s pos).2)).drewN nq).heap = (wr.iterAt W2.heap.size s (pos + (Utf8.decode s pos).2)).heap := heap_drewN _ nq
      have hI3 := isB_heap heq hI2
      have hit3 := (congrArg (·[W2.heap.size]?) heq).trans hit2
      have hbw3 := below_drewNv hbw2 nq
      have hsz3 : w.heap.size ≤ ((wr.iterAt W2.heap.size s (pos + (Utf8.decode s pos).2)).drewN nq).heap.size := by rw [heq]; exact hsz2
      have heqH := Lib.hid heq
      clear heq hI2 hit2 hbw2 hI hit hbw
      go_wp2_with fail
      refine (writeString_k w.heap.size w.heap.size (Lib.byteCells acc) ⟨(escR (Utf8.decode s pos).1).toArray⟩ _ hI3 (by have h := hlenEH.out; rw [List.length_append] at h; rw [Lib.byteCells_length, size_of_list]; omega) hsz3).mono ?_
      rintro e W4 ⟨rfl, h1, b1, k1⟩
      have hitN := k1.iter hit3 (by omega)
      clear hnx
      go_wp2
      go_roundw
      case rel =>
        refine ⟨pos + (Utf8.decode s pos).2, acc ++ escR (Utf8.decode s pos).1, ?_, hitN, hbw3.trans b1, ?_, ?_, hlenEH.out⟩
        · rw [Lib.byteCells_append, ← strCells_list]; exact Or.inr h1
        · rw [List.append_assoc, ← List.drop_drop, ← hstH.out]; exact haccH.out
        · rw [← List.drop_drop]; exact hv2H.out
      case measure =>
        simp only [World.iterPos, hitN, hit0.out]
        omega
    · have hnx : ∀ ty, (Instr.next (.pointer (some ⟨W2.heap.size, 0, none⟩)) true ty).run Tryz.prog wr = _ := fun ty => Lib.run_next_end_at wr W2.heap.size s pos ty hit hp
      have hend : acc = 39 :: s.data.toList.flatMap escB := by
        have h := haccH.out
        rw [List.drop_eq_nil_of_le (by simp; have : s.data.size = s.size := rfl; omega)] at h
        simpa using h
      have hendH := Lib.hid hend
      clear hend
      go_wp2_with fail
      refine (writeByte_k w.heap.size w.heap.size (Lib.byteCells acc) 39 _ hI (by rw [Lib.byteCells_length]; omega) (by omega)).mono ?_
      rintro e W4 ⟨rfl, h1, b1, _⟩
      have h1F : Lib.IsBuilderF 96 5 w.heap.size w.heap.size (Lib.byteCells (acc ++ [39])) W4 := by rw [Lib.byteCells_append]; exact .inr h1
      have hbw4 := hbw.trans b1
      go_wp2_with fail
      refine (Tryz.Builder_String_any_k w.heap.size w.heap.size (acc ++ [39]) W4 h1F hbw4.size).mono ?_
      rintro e W5 ⟨rfl, _, b2, _⟩
      go_wp2
      go_ret
      exact ⟨ret_str (by rw [hendH.out]; rfl), hbw4.trans b2⟩
end Go.Proofs.YtpmfbmigdpmloaaGreatDoor
end
section
/-
  Plain mathematics: checked sums, differences, products, quotients and rests of 64-bit numbers; signs of bit operations. Condition: the numbers are 64-bit numbers.
-/
set_option linter.unusedVariables false
set_option linter.unusedSimpArgs false
namespace Go.Proofs.YtpmfbmigdpmloaaGreatDoor
open Go Go.RowKit

/-- A 64-bit number. -/
def I64 (z : Int) : Prop := -9223372036854775808 ≤ z ∧ z ≤ 9223372036854775807
instance (z : Int) : Decidable (I64 z) := by unfold I64; infer_instance
/-- A result, if it is a 64-bit number; else the error for too great ones. -/
def capS (z : Int) : Int × Int := if I64 z then (z, 0) else (0, 10)
def sumS (x y : Int) : Int × Int := capS (x + y)
def difS (x y : Int) : Int × Int := capS (x - y)
def mulS (x y : Int) : Int × Int := capS (x * y)
def quoS (x y : Int) : Int × Int := if y = 0 then (0, 11) else capS (x.tdiv y)
def remS (x y : Int) : Int × Int := if y = 0 then (0, 11) else (x.tmod y, 0)

theorem capS_in {z : Int} (h : I64 z) : capS z = (z, 0) := if_pos h
theorem capS_out {z : Int} (h : ¬ I64 z) : capS z = (0, 10) := if_neg h
theorem wrap64_I64 (z : Int) : I64 (wrap64 z) := by unfold I64 wrap64; omega
theorem wrap64_of {z : Int} (h : I64 z) : wrap64 z = z := by unfold I64 at h; unfold wrap64; omega

/-! ### signs of bit operations -/
theorem wrap_toInt (v : BitVec 64) : IntKind.i64.wrap (v.toNat : Int) = v.toInt := by
  rw [BitVec.toInt_eq_toNat_cond]
  have := v.isLt
  simp [IntKind.wrap, IntKind.bits, IntKind.signed]
  split <;> split <;> omega
theorem bits_xor64 (x y : Int) : bits .xor .i64 x y = (BitVec.ofInt 64 x ^^^ BitVec.ofInt 64 y).toInt := wrap_toInt _
theorem bits_and64 (x y : Int) : bits .and .i64 x y = (BitVec.ofInt 64 x &&& BitVec.ofInt 64 y).toInt := wrap_toInt _
theorem toInt_neg (v : BitVec 64) : (v.toInt < 0) = (v.msb = true) := by
  rw [BitVec.msb_eq_toInt]; simp
theorem msb_of {x : Int} (h : I64 x) : (BitVec.ofInt 64 x).msb = decide (x < 0) := by
  rw [BitVec.msb_eq_toInt, BitVec.toInt_ofInt]
  unfold I64 at h
  congr 1
  rw [Int.bmod_def]
  apply propext
  constructor <;> intro hh <;> (split at * <;> omega)
/-- (x ^ n) & (y ^ n) is below 0 just if n's sign is neither x's nor y's. -/
theorem sign_and_xor {x y n : Int} (hx : I64 x) (hy : I64 y) (hn : I64 n) :
    (bits .and .i64 (bits .xor .i64 x n) (bits .xor .i64 y n) < 0) = (((x < 0) ≠ (n < 0)) ∧ ((y < 0) ≠ (n < 0))) := by
  rw [bits_and64, toInt_neg, bits_xor64, bits_xor64, BitVec.ofInt_toInt, BitVec.ofInt_toInt, BitVec.msb_and, BitVec.msb_xor, BitVec.msb_xor, msb_of hx, msb_of hy, msb_of hn]
  by_cases a : x < 0 <;> by_cases b : y < 0 <;> by_cases c : n < 0 <;> simp [a, b, c]

theorem sum_test {x y : Int} (hx : I64 x) (hy : I64 y) : (bits .and .i64 (bits .xor .i64 x (wrap64 (x + y))) (bits .xor .i64 y (wrap64 (x + y))) < 0) = ¬ I64 (x + y) := by
  rw [sign_and_xor hx hy (wrap64_I64 _)]
  unfold I64 at *
  unfold wrap64
  apply propext
  by_cases a : x < 0 <;> by_cases b : y < 0 <;> by_cases c : (x + y + 9223372036854775808) % 18446744073709551616 - 9223372036854775808 < 0 <;> simp only [a, b, c] <;> simp <;> omega
/-- Of a difference: (x ^ y) & (x ^ n). -/
theorem dif_test {x y : Int} (hx : I64 x) (hy : I64 y) : (bits .and .i64 (bits .xor .i64 x y) (bits .xor .i64 x (wrap64 (x - y))) < 0) = ¬ I64 (x - y) := by
  have hn := wrap64_I64 (x - y)
  rw [bits_and64, toInt_neg, bits_xor64, bits_xor64, BitVec.ofInt_toInt, BitVec.ofInt_toInt, BitVec.msb_and, BitVec.msb_xor, BitVec.msb_xor, msb_of hx, msb_of hy, msb_of hn]
  clear hn
  unfold I64 at *
  unfold wrap64
  apply propext
  by_cases a : x < 0 <;> by_cases b : y < 0 <;> by_cases c : (x - y + 9223372036854775808) % 18446744073709551616 - 9223372036854775808 < 0 <;> simp only [a, b, c] <;> simp <;> omega

/-! ### products -/
/-- If the quotient of the wrapped product by one factor is the other one, nothing was wrapped. -/
theorem prod_back {x y : Int} (hx : I64 x) (hy : I64 y) (hy0 : y ≠ 0) (h : (wrap64 (x * y)).tdiv y = x) : I64 (x * y) := by
  have hd := Int.mul_tdiv_add_tmod (wrap64 (x * y)) y
  rw [h] at hd
  have hm : ((wrap64 (x * y)).tmod y).natAbs < y.natAbs := by
    rw [Int.natAbs_tmod]
    exact Nat.mod_lt _ (by omega)
  have hw := wrap64_I64 (x * y)
  rw [Int.mul_comm y x] at hd
  generalize hP : x * y = P at *
  have hc : (wrap64 P - P) % 18446744073709551616 = 0 := by unfold wrap64; omega
  unfold I64 at *
  omega
theorem tdiv_range {n y : Int} (hn : I64 n) (hy0 : y ≠ 0) : -9223372036854775808 ≤ n.tdiv y ∧ n.tdiv y ≤ 9223372036854775808 := by
  have h : (n.tdiv y).natAbs = n.natAbs / y.natAbs := Int.natAbs_tdiv n y
  have h2 : n.natAbs / y.natAbs ≤ n.natAbs := Nat.div_le_self _ _
  unfold I64 at hn
  omega
theorem tdiv_big {n y : Int} (hn : I64 n) (hy0 : y ≠ 0) (h : n.tdiv y = 9223372036854775808) : n = -9223372036854775808 ∧ y = -1 := by
  have h1 : (n.tdiv y).natAbs = n.natAbs / y.natAbs := Int.natAbs_tdiv n y
  rw [h] at h1
  have h2 : n.natAbs / y.natAbs * y.natAbs ≤ n.natAbs := Nat.div_mul_le_self _ _
  rw [← h1] at h2
  unfold I64 at hn
  have hn2 : n.natAbs ≤ 9223372036854775808 := by omega
  have hy1 : y.natAbs = 1 := by
    rcases Nat.lt_or_ge y.natAbs 2 with g | g
    · omega
    · have : 9223372036854775808 * 2 ≤ (9223372036854775808 : Int).natAbs * y.natAbs := Nat.mul_le_mul_left _ g
      omega
  have hcase : y = 1 ∨ y = -1 := by omega
  rcases hcase with rfl | rfl
  · rw [Int.tdiv_one] at h
    omega
  · refine ⟨?_, rfl⟩
    rw [Int.tdiv_neg, Int.tdiv_one] at h
    omega
theorem quot_fits {n y : Int} (hn : I64 n) (hy0 : y ≠ 0) (h : ¬ (n = -9223372036854775808 ∧ y = -1)) : I64 (n.tdiv y) := by
  have h1 := tdiv_range hn hy0
  have h2 : n.tdiv y ≠ 9223372036854775808 := fun e => h (tdiv_big hn hy0 e)
  unfold I64
  omega
/-- The test of a product: y not 0. -/
theorem mul_test {x y : Int} (hx : I64 x) (hy : I64 y) (hy0 : y ≠ 0) :
    (wrap64 ((wrap64 (x * y)).tdiv y) ≠ x ∨ (y = -1 ∧ x = -9223372036854775808)) = ¬ I64 (x * y) := by
  apply propext
  constructor
  · intro h hin
    rw [wrap64_of hin, Int.mul_tdiv_cancel _ hy0, wrap64_of hx] at h
    rcases h with h | ⟨h1, h2⟩
    · exact h rfl
    · subst h1 h2
      unfold I64 at hin
      omega
  · intro hno
    by_cases hb : y = -1 ∧ x = -9223372036854775808
    · exact .inr hb
    · refine .inl fun he => ?_
      have hw := wrap64_I64 (x * y)
      by_cases hq : wrap64 (x * y) = -9223372036854775808 ∧ y = -1
      · obtain ⟨h1, h2⟩ := hq
        subst h2
        rw [h1] at he
        have : x = -9223372036854775808 := by
          rw [← he, Int.tdiv_neg, Int.tdiv_one]
          unfold wrap64
          omega
        exact hb ⟨rfl, this⟩
      · rw [wrap64_of (quot_fits hw hy0 hq)] at he
        exact hno (prod_back hx hy hy0 he)
end Go.Proofs.YtpmfbmigdpmloaaGreatDoor
end
section
/-
  What datum.Print answers, at this program: for all data. Condition: the tables of Go's library lie as their initialisers lay them; the number is a 64-bit number.
-/
set_option linter.unusedVariables false
set_option linter.unusedSimpArgs false
namespace Go.Proofs.YtpmfbmigdpmloaaGreatDoor
open Go.RowKit Go.Lib

/-- The text form of a datum; empty: it may not be. -/
def printS (d : Dat) : List UInt8 :=
  if okD d = false then [] else if d.k = 1 then [110, 117, 108, 108] else if d.k = 2 then Lib.formatBool d.b
  else if d.k = 3 then Lib.itoa d.n else quoteL d.s.data.toList
theorem printS_bad {d : Dat} (h : okD d = false) : printS d = [] := by unfold printS; rw [if_pos h]
theorem printS_null : printS nullD = [110, 117, 108, 108] := by decide
theorem printS_bool (b : Bool) : printS (boolD b) = Lib.formatBool b := by cases b <;> decide
theorem printS_int (n : Int) : printS (intD n) = Lib.itoa n := by
  unfold printS
  rw [if_neg (by rw [ok_int]; decide), if_neg (show ¬ (intD n).k = 1 from (by decide : ¬ (3 : Int) = 1)), if_neg (show ¬ (intD n).k = 2 from (by decide : ¬ (3 : Int) = 2)), if_pos (show (intD n).k = 3 from rfl)]
  rfl
theorem printS_text {s : ByteArray} (h : okD (textD s) = true) : printS (textD s) = quoteL s.data.toList := by
  unfold printS
  rw [if_neg (by rw [h]; decide), if_neg (show ¬ (textD s).k = 1 from (by decide : ¬ (4 : Int) = 1)), if_neg (show ¬ (textD s).k = 2 from (by decide : ¬ (4 : Int) = 2)), if_neg (show ¬ (textD s).k = 3 from (by decide : ¬ (4 : Int) = 3))]
  rfl
theorem dat_eta {k : Int} {b : Bool} {n : Int} {s : ByteArray} {d : Dat} (h : (⟨k, b, n, s⟩ : Dat) = d) : k = d.k ∧ b = d.b ∧ n = d.n ∧ s = d.s := by subst h; exact ⟨rfl, rfl, rfl, rfl⟩

set_option maxHeartbeats 2000000 in
theorem print_any (k : Int) (b : Bool) (n : Int) (s : ByteArray) (w : World) (hT : Tabs w) (hs : s.size ≤ 9223372036854775807) (hn : I64 n) :
    Calls Tryz.prog 31 #[.agg #[.int .u8 k, .bool b, .int .i64 n, .string s]] w fun e w' => e = .returned (.string ⟨(printS ⟨k, b, n, s⟩).toArray⟩) ∧ Below w.heap.size w w' := by
  have hTH := Lib.hid hT
  have hnH := Lib.hid hn
  clear hT hn
  cases ho : okD ⟨k, b, n, s⟩ with
  | false =>
    rw [printS_bad ho]
    have hc := okD_chk_ne ho
    generalize hx : chk ⟨k, b, n, s⟩ = c at hc
    have hc2 : (c != 0) = true := by simpa using hc
    have hxH := Lib.hid hx
    clear hx ho hc
    go_enter Tryz.func31, Tryz.ntmps31
    go_wp2_with fail
    refine (check_any k b n s _ (hTH.out.alloc _) hs).mono ?_
    rintro e w1 ⟨rfl, hb1⟩
    rw [hxH.out]
    go_wp2
    go_ret
    exact ⟨rfl, chainB (by go_grown) hb1 (by simp)⟩
  | true =>
    have hc := Lib.hid (okD_chk ho)
    rcases ok_cases ho with h | ⟨b', h⟩ | ⟨n', h⟩ | ⟨s', h, hv, hl⟩
    · obtain ⟨rfl, rfl, rfl, rfl⟩ := dat_eta h
      rw [h, printS_null]
      clear h ho
      show Calls Tryz.prog 31 #[.agg #[.int .u8 1, .bool false, .int .i64 0, .string ⟨#[]⟩]] w _
      go_enter Tryz.func31, Tryz.ntmps31
      go_wp2_with fail
      refine (check_any 1 false 0 ⟨#[]⟩ _ (hTH.out.alloc _) (by decide)).mono ?_
      rintro e w1 ⟨rfl, hb1⟩
      rw [show chk ⟨1, false, 0, ⟨#[]⟩⟩ = 0 from hc.out]
      obtain ⟨a0, a1, a2, a3⟩ := ((Has.new w (.int .u8 1) (.bool false) (.int .i64 0) (.string ⟨#[]⟩)).below hb1).cells
      go_wp2
      go_ret
      exact ⟨rfl, chainB (by go_grown) hb1 (by simp)⟩
    · obtain ⟨rfl, rfl, rfl, rfl⟩ := dat_eta h
      rw [h, printS_bool]
      clear h ho
      show Calls Tryz.prog 31 #[.agg #[.int .u8 2, .bool b, .int .i64 0, .string ⟨#[]⟩]] w _
      go_enter Tryz.func31, Tryz.ntmps31
      go_wp2_with fail
      refine (check_any 2 b 0 ⟨#[]⟩ _ (hTH.out.alloc _) (by decide)).mono ?_
      rintro e w1 ⟨rfl, hb1⟩
      rw [show chk ⟨2, b, 0, ⟨#[]⟩⟩ = 0 from hc.out]
      obtain ⟨a0, a1, a2, a3⟩ := ((Has.new w (.int .u8 2) (.bool b) (.int .i64 0) (.string ⟨#[]⟩)).below hb1).cells
      go_wp2_with fail
      refine (Tryz.strconv_FormatBool b _).mono ?_
      rintro e w2 ⟨rfl, rfl⟩
      go_wp2
      go_ret
      exact ⟨rfl, chainB (by go_grown) hb1 (by simp)⟩
    · obtain ⟨rfl, rfl, rfl, rfl⟩ := dat_eta h
      rw [h, printS_int]
      clear h ho
      show Calls Tryz.prog 31 #[.agg #[.int .u8 3, .bool false, .int .i64 n, .string ⟨#[]⟩]] w _
      go_enter Tryz.func31, Tryz.ntmps31
      go_wp2_with fail
      refine (check_any 3 false n ⟨#[]⟩ _ (hTH.out.alloc _) (by decide)).mono ?_
      rintro e w1 ⟨rfl, hb1⟩
      rw [show chk ⟨3, false, n, ⟨#[]⟩⟩ = 0 from hc.out]
      obtain ⟨a0, a1, a2, a3⟩ := ((Has.new w (.int .u8 3) (.bool false) (.int .i64 n) (.string ⟨#[]⟩)).below hb1).cells
      go_wp2_with fail
      refine (Tryz.strconv_FormatInt_10 n hnH.out.1 hnH.out.2 _ ((hTH.out.alloc _).below hb1).pow).mono ?_
      rintro e w2 ⟨rfl, kk, os, rfl⟩
      have hb2 : Below w1.heap.size w1 (Sort.grow (w1.drewN kk) os) := Lib.below_grow _ w1 (Nat.le_refl _) kk os
      generalize Sort.grow (w1.drewN kk) os = w2 at hb2
      go_wp2
      go_ret
      exact ⟨rfl, chainB (chainB (by go_grown) hb1 (by simp)) hb2 (by have := hb1.size; simp at this; omega)⟩
    · obtain ⟨rfl, rfl, rfl, rfl⟩ := dat_eta h
      have ho' : okD (textD s) = true := ho
      rw [h, printS_text ho']
      clear h ho ho'
      have hvH := Lib.hid hv
      clear hv
      show Calls Tryz.prog 31 #[.agg #[.int .u8 4, .bool false, .int .i64 0, .string s]] w _
      go_enter Tryz.func31, Tryz.ntmps31
      go_wp2_with fail
      refine (check_any 4 false 0 s _ (hTH.out.alloc _) hs).mono ?_
      rintro e w1 ⟨rfl, hb1⟩
      rw [show chk ⟨4, false, 0, s⟩ = 0 from hc.out]
      obtain ⟨a0, a1, a2, a3⟩ := ((Has.new w (.int .u8 4) (.bool false) (.int .i64 0) (.string s)).below hb1).cells
      go_wp2_with fail
      refine (quote_any s _ hvH.out hl).mono ?_
      rintro e w2 ⟨rfl, hb2⟩
      go_wp2
      go_ret
      exact ⟨rfl, chainB (chainB (by go_grown) hb1 (by simp)) hb2 (by have := hb1.size; simp at this; omega)⟩
end Go.Proofs.YtpmfbmigdpmloaaGreatDoor
end
section
/-
  Plain mathematics: what is written of data that may be: two are written alike just if they are the same; the bytes; the quotes. No condition but those written.
-/
set_option linter.unusedVariables false
set_option linter.unusedSimpArgs false
namespace Go.Proofs.YtpmfbmigdpmloaaGreatDoor
open Go.Lib

/-! ### numbers -/
theorem dec_big {n : Nat} (h : ¬ n < 10) : decDigits n = decDigits (n / 10) ++ [UInt8.ofNat (48 + n % 10)] := by rw [decDigits, dif_neg h]
def dval (l : List UInt8) : Nat := l.foldl (fun a b => 10 * a + (b.toNat - 48)) 0
theorem digit_nat {i : Nat} (h : i < 10) : (UInt8.ofNat (48 + i)).toNat = 48 + i := by rw [UInt8.toNat_ofNat']; omega
theorem dval_dec (n : Nat) : dval (decDigits n) = n := by
  induction n using Nat.strongRecOn with
  | ind n ih =>
    by_cases h : n < 10
    · rw [decDigits_one h]
      simp only [dval, List.foldl_cons, List.foldl_nil, digit_nat h]
      omega
    · have hi := ih (n / 10) (by omega)
      unfold dval at hi
      rw [dec_big h]
      simp only [dval, List.foldl_append, List.foldl_cons, List.foldl_nil, hi, digit_nat (show n % 10 < 10 by omega)]
      omega
theorem dec_range (n : Nat) : ∀ b ∈ decDigits n, 48 ≤ b.toNat ∧ b.toNat ≤ 57 := by
  induction n using Nat.strongRecOn with
  | ind n ih =>
    by_cases h : n < 10
    · rw [decDigits_one h]
      intro b hb
      rw [List.mem_singleton] at hb
      rw [hb, digit_nat h]
      omega
    · rw [dec_big h]
      intro b hb
      rw [List.mem_append, List.mem_singleton] at hb
      rcases hb with hb | hb
      · exact ih (n / 10) (by omega) b hb
      · rw [hb, digit_nat (show n % 10 < 10 by omega)]
        omega
theorem dec_ne (n : Nat) : decDigits n ≠ [] := by
  by_cases h : n < 10
  · rw [decDigits_one h]; simp
  · rw [dec_big h]; simp
theorem dec_no45 (n : Nat) (l : List UInt8) : decDigits n ≠ 45 :: l := by
  intro e
  have h := dec_range n 45 (by rw [e]; simp)
  have : (45 : UInt8).toNat = 45 := rfl
  omega
theorem itoa_inj {a b : Int} (h : itoa a = itoa b) : a = b := by
  unfold itoa at h
  by_cases ha : a < 0 <;> by_cases hb : b < 0
  · rw [if_pos ha, if_pos hb] at h
    have h2 := congrArg dval (List.cons.inj h).2
    rw [dval_dec, dval_dec] at h2
    omega
  · rw [if_pos ha, if_neg hb] at h
    exact absurd h.symm (dec_no45 _ _)
  · rw [if_neg ha, if_pos hb] at h
    exact absurd h (dec_no45 _ _)
  · rw [if_neg ha, if_neg hb] at h
    have h2 := congrArg dval h
    rw [dval_dec, dval_dec] at h2
    omega
/-! ### texts -/
def unhexN (c : UInt8) : Nat := if c.toNat < 58 then c.toNat - 48 else c.toNat - 87
theorem unhex_fin : ∀ i : Fin 16, unhexN (hexD i.val) = i.val := by decide
theorem unhex_hex {n : Nat} (h : n < 16) : unhexN (hexD n) = n := unhex_fin ⟨n, h⟩
/-- The byte that is written at the beginning. -/
def decB : List UInt8 → Option (UInt8 × List UInt8)
  | [] => none
  | c :: l =>
    if c = 39 then some (39, l.drop 1)
    else if c = 92 then
      (if l.head? = some 92 then some (92, l.drop 1) else if l.head? = some 110 then some (10, l.drop 1) else if l.head? = some 114 then some (13, l.drop 1) else if l.head? = some 116 then some (9, l.drop 1)
       else some (UInt8.ofNat (16 * unhexN ((l.drop 1).headD 0) + unhexN ((l.drop 2).headD 0)), l.drop 3))
    else some (c, l)
theorem decB_esc (c : UInt8) (x : List UInt8) : decB (escB c ++ x) = some (c, x) := by
  unfold escB
  by_cases h1 : c = 39
  · subst h1; simp [decB]
  by_cases h2 : c = 92
  · subst h2; simp [decB]
  by_cases h3 : c = 10
  · subst h3; simp [decB]
  by_cases h4 : c = 13
  · subst h4; simp [decB]
  by_cases h5 : c = 9
  · subst h5; simp [decB]
  by_cases h6 : c < 32 ∨ c = 127
  · rw [if_neg h1, if_neg h2, if_neg h3, if_neg h4, if_neg h5, if_pos h6]
    have hc := c.toNat_lt
    have e1 := unhex_hex (n := c.toNat / 16) (by omega)
    have e2 := unhex_hex (n := c.toNat % 16) (by omega)
    simp only [decB, List.cons_append, List.nil_append, List.drop_succ_cons, List.drop_zero, List.headD_cons, List.head?_cons, e1, e2]
    have e3 : 16 * (c.toNat / 16) + c.toNat % 16 = c.toNat := by omega
    rw [e3]
    simp
  · rw [if_neg h1, if_neg h2, if_neg h3, if_neg h4, if_neg h5, if_neg h6]
    simp [decB, h1, h2]
theorem flat_inj : ∀ l m : List UInt8, l.flatMap escB = m.flatMap escB → l = m
  | [], [], _ => rfl
  | [], d :: m, h => by
    have h2 := congrArg List.length h
    have := (escB_len d).1
    simp only [List.flatMap_nil, List.length_nil, List.flatMap_cons, List.length_append] at h2
    omega
  | c :: l, [], h => by
    have h2 := congrArg List.length h
    have := (escB_len c).1
    simp only [List.flatMap_nil, List.length_nil, List.flatMap_cons, List.length_append] at h2
    omega
  | c :: l, d :: m, h => by
    have h2 := congrArg decB h
    rw [List.flatMap_cons, List.flatMap_cons, decB_esc, decB_esc] at h2
    have h3 := Option.some.inj h2
    have h4 := flat_inj l m (Prod.mk.inj h3).2
    rw [(Prod.mk.inj h3).1, h4]
theorem quoteL_inj {l m : List UInt8} (h : quoteL l = quoteL m) : l = m := by
  unfold quoteL at h
  exact flat_inj l m (List.append_cancel_right (List.cons.inj h).2)
theorem hex_fin : ∀ i : Fin 16, 32 ≤ (hexD i.val).toNat ∧ (hexD i.val).toNat ≠ 127 ∧ hexD i.val ≠ 39 := by decide
theorem hex_clean {n : Nat} (h : n < 16) : 32 ≤ (hexD n).toNat ∧ (hexD n).toNat ≠ 127 ∧ hexD n ≠ 39 := hex_fin ⟨n, h⟩
theorem esc_clean (c : UInt8) : ∀ b ∈ escB c, 32 ≤ b.toNat ∧ b.toNat ≠ 127 := by
  have hc := c.toNat_lt
  have e1 := hex_clean (n := c.toNat / 16) (by omega)
  have e2 := hex_clean (n := c.toNat % 16) (by omega)
  unfold escB
  repeat' split
  all_goals
    intro b hb
    simp only [List.mem_cons, List.not_mem_nil, or_false] at hb
  · rcases hb with rfl | rfl <;> decide
  · rcases hb with rfl | rfl <;> decide
  · rcases hb with rfl | rfl <;> decide
  · rcases hb with rfl | rfl <;> decide
  · rcases hb with rfl | rfl <;> decide
  · rcases hb with rfl | rfl | rfl | rfl
    · decide
    · decide
    · exact ⟨e1.1, e1.2.1⟩
    · exact ⟨e2.1, e2.2.1⟩
  · rename_i h
    subst hb
    refine ⟨?_, ?_⟩
    · rcases Nat.lt_or_ge b.toNat 32 with g | g
      · exact absurd (.inl (UInt8.lt_iff_toNat_lt.2 g)) h
      · exact g
    · intro e
      exact h (.inr (UInt8.toNat_inj.1 e))
theorem esc_count (c : UInt8) : (escB c).count 39 = if c = 39 then 2 else 0 := by
  have hc := c.toNat_lt
  have e1 := (hex_clean (n := c.toNat / 16) (by omega)).2.2
  have e2 := (hex_clean (n := c.toNat % 16) (by omega)).2.2
  unfold escB
  repeat' split
  all_goals simp_all
theorem flat_clean (l : List UInt8) : ∀ b ∈ l.flatMap escB, 32 ≤ b.toNat ∧ b.toNat ≠ 127 := by
  intro b hb
  obtain ⟨c, _, h⟩ := List.mem_flatMap.1 hb
  exact esc_clean c b h
theorem flat_count : ∀ l : List UInt8, (l.flatMap escB).count 39 % 2 = 0
  | [] => rfl
  | c :: l => by
    have := flat_count l
    rw [List.flatMap_cons, List.count_append, esc_count]
    split <;> omega
/-! ### data -/
theorem print_clean {d : Dat} (h : okD d = true) : ∀ b ∈ printS d, 32 ≤ b.toNat ∧ b.toNat ≠ 127 := by
  rcases ok_cases h with rfl | ⟨b, rfl⟩ | ⟨n, rfl⟩ | ⟨s, rfl, _⟩
  · rw [printS_null]; decide
  · rw [printS_bool]; cases b <;> decide
  · rw [printS_int]
    unfold itoa
    intro b hb
    split at hb
    · rcases List.mem_cons.1 hb with rfl | hb
      · decide
      · have := dec_range _ b hb; omega
    · have := dec_range _ b hb; omega
  · rw [printS_text h]
    unfold quoteL
    intro b hb
    rcases List.mem_cons.1 hb with rfl | hb
    · decide
    · rcases List.mem_append.1 hb with hb | hb
      · exact flat_clean _ b hb
      · rw [List.mem_singleton] at hb; subst hb; decide
theorem dec_count (n : Nat) : (decDigits n).count 39 = 0 := by
  rw [List.count_eq_zero]
  intro hm
  have h := dec_range n 39 hm
  have : (39 : UInt8).toNat = 39 := rfl
  omega
theorem print_quotes {d : Dat} (h : okD d = true) : (printS d).count 39 % 2 = 0 ∧ (0 < (printS d).count 39 ↔ d.k = 4) := by
  rcases ok_cases h with rfl | ⟨b, rfl⟩ | ⟨n, rfl⟩ | ⟨s, rfl, _⟩
  · rw [printS_null]; decide
  · rw [printS_bool]; cases b <;> decide
  · have e : (printS (intD n)).count 39 = 0 := by
      rw [printS_int]
      unfold itoa
      split
      · rw [List.count_cons_of_ne (by decide), dec_count]
      · rw [dec_count]
    rw [e]
    exact ⟨rfl, ⟨fun h => absurd h (by omega), fun h => absurd h (by simp [intD])⟩⟩
  · rw [printS_text h]
    have hf := flat_count s.data.toList
    have e : (quoteL s.data.toList).count 39 = (s.data.toList.flatMap escB).count 39 + 2 := by
      unfold quoteL
      rw [List.count_cons_self, List.count_append, List.count_singleton_self]
    rw [e]
    exact ⟨by omega, ⟨fun _ => rfl, fun _ => by omega⟩⟩
theorem print_ne {d : Dat} (h : okD d = true) : printS d ≠ [] := by
  rcases ok_cases h with rfl | ⟨b, rfl⟩ | ⟨n, rfl⟩ | ⟨s, rfl, _⟩
  · rw [printS_null]; decide
  · rw [printS_bool]; cases b <;> decide
  · rw [printS_int]
    unfold itoa
    split
    · simp
    · exact dec_ne _
  · rw [printS_text h]
    unfold quoteL
    simp
/-- The kind, by the first byte. -/
def kindL (l : List UInt8) : Int := if l.head? = some 110 then 1 else if l.head? = some 116 ∨ l.head? = some 102 then 2 else if l.head? = some 39 then 4 else 3
theorem dec_head (n : Nat) : ∃ b l, decDigits n = b :: l ∧ 48 ≤ b.toNat ∧ b.toNat ≤ 57 := by
  have hr := dec_range n
  cases h : decDigits n with
  | nil => exact absurd h (dec_ne n)
  | cons b l => exact ⟨b, l, rfl, hr b (by rw [h]; simp)⟩
theorem print_kind {d : Dat} (h : okD d = true) : kindL (printS d) = d.k := by
  rcases ok_cases h with rfl | ⟨b, rfl⟩ | ⟨n, rfl⟩ | ⟨s, rfl, _⟩
  · rw [printS_null]; rfl
  · rw [printS_bool]; cases b <;> rfl
  · rw [printS_int]
    unfold itoa
    split
    · rfl
    · obtain ⟨b, l, e, h1, h2⟩ := dec_head n.toNat
      rw [e]
      have k : ∀ x : UInt8, (x.toNat < 48 ∨ 57 < x.toNat) → ¬ b = x := fun x hx e => by rw [e] at h1 h2; omega
      unfold kindL
      simp only [List.head?_cons, Option.some.injEq]
      rw [if_neg (k 110 (by decide)), if_neg (fun h => h.elim (k 116 (by decide)) (k 102 (by decide))), if_neg (k 39 (by decide))]
      rfl
  · rw [printS_text h]; rfl
theorem print_inj {a b : Dat} (ha : okD a = true) (hb : okD b = true) (h : printS a = printS b) : a = b := by
  have hk : a.k = b.k := by rw [← print_kind ha, ← print_kind hb, h]
  rcases ok_cases ha with rfl | ⟨x, rfl⟩ | ⟨x, rfl⟩ | ⟨x, rfl, _⟩ <;> rcases ok_cases hb with rfl | ⟨y, rfl⟩ | ⟨y, rfl⟩ | ⟨y, rfl, _⟩ <;> first | rfl | (exfalso; revert hk; simp [nullD, boolD, intD, textD]; done) | skip
  · rw [printS_bool, printS_bool] at h
    cases x <;> cases y <;> first | rfl | exact absurd h (by decide)
  · rw [printS_int, printS_int] at h
    rw [itoa_inj h]
  · rw [printS_text ha, printS_text hb] at h
    rw [bytes_ext (quoteL_inj h)]
theorem print_len {d : Dat} (h : okD d = true) (hn : -9223372036854775808 ≤ d.n ∧ d.n ≤ 9223372036854775807) : (printS d).length ≤ 5000 := by
  rcases ok_cases h with rfl | ⟨b, rfl⟩ | ⟨n, rfl⟩ | ⟨s, rfl, _, hs⟩
  · rw [printS_null]; decide
  · rw [printS_bool]; cases b <;> decide
  · rw [printS_int]
    have := itoa_length_le n hn.1 hn.2
    omega
  · rw [printS_text h]
    have := flat_len s.data.toList
    unfold quoteL
    rw [List.length_cons, List.length_append, List.length_singleton]
    have hl : s.data.toList.length = s.size := by simp
    omega
end Go.Proofs.YtpmfbmigdpmloaaGreatDoor
end
section
/-
  Plain mathematics of rows as they are written: where the text form of a datum ends within that of a row; rows that may be are written alike just if they are the same. No condition but those written.
-/
set_option linter.unusedVariables false
set_option linter.unusedSimpArgs false
namespace Go.Proofs.YtpmfbmigdpmloaaGreatDoor
open Go.Lib

/-- The data, with what stands between them. -/
def joinR (l : List Dat) : List UInt8 := Lib.join (l.map printS) [44, 32]
def tailR (l : List Dat) : List UInt8 := Lib.joinTail [44, 32] (l.map printS)
/-- A row as it is written. -/
def printR (l : List Dat) : List UInt8 := 40 :: (joinR l ++ [41])
theorem joinR_cons (d : Dat) (l : List Dat) : joinR (d :: l) = printS d ++ tailR l := by
  unfold joinR tailR
  rw [List.map_cons, Lib.join_cons]
theorem tailR_nil : tailR [] = [] := rfl
theorem tailR_cons (d : Dat) (l : List Dat) : tailR (d :: l) = 44 :: 32 :: joinR (d :: l) := by
  rw [joinR_cons]
  unfold tailR Lib.joinTail
  simp
/-- The first text form, and what stands behind what separates it; none: there is one alone. -/
def cutF : Bool → List UInt8 → Option (List UInt8 × List UInt8)
  | _, [] => none
  | q, b :: l => if (if b = 39 then !q else q) = false ∧ b = 44 ∧ l.head? = some 32 then some ([], l.tail) else (cutF (if b = 39 then !q else q) l).map (fun x => (b :: x.1, x.2))
theorem map_app (x : List UInt8) (b : UInt8) (o : Option (List UInt8 × List UInt8)) : (o.map (fun y => (x ++ y.1, y.2))).map (fun y => (b :: y.1, y.2)) = o.map (fun y => ((b :: x) ++ y.1, y.2)) := by cases o <;> rfl
theorem map_id (o : Option (List UInt8 × List UInt8)) : o.map (fun y => (([] : List UInt8) ++ y.1, y.2)) = o := by cases o <;> rfl
/-- Within a text: what has no quote is passed over. -/
theorem cutF_in : ∀ (x z : List UInt8), 39 ∉ x → cutF true (x ++ z) = (cutF true z).map (fun y => (x ++ y.1, y.2))
  | [], z, _ => (map_id _).symm
  | b :: x, z, h => by
    have hb : b ≠ 39 := fun e => h (by rw [e]; simp)
    rw [List.cons_append, cutF, if_neg hb, if_neg (by simp), cutF_in x z (fun q => h (by simp [q])), map_app]
/-- Outside: what has neither quote nor comma. -/
theorem cutF_out : ∀ (x z : List UInt8), 39 ∉ x → 44 ∉ x → cutF false (x ++ z) = (cutF false z).map (fun y => (x ++ y.1, y.2))
  | [], z, _, _ => (map_id _).symm
  | b :: x, z, h, h' => by
    have hb : b ≠ 39 := fun e => h (by rw [e]; simp)
    have hc : b ≠ 44 := fun e => h' (by rw [e]; simp)
    rw [List.cons_append, cutF, if_neg hb, if_neg (fun q => hc q.2.1), cutF_out x z (fun q => h (by simp [q])) (fun q => h' (by simp [q])), map_app]
theorem esc_no39 {c : UInt8} (h : c ≠ 39) : 39 ∉ escB c := by
  have := esc_count c
  rw [if_neg h] at this
  exact List.count_eq_zero.1 this
theorem cutF_text : ∀ (s z : List UInt8), cutF true (s.flatMap escB ++ z) = (cutF true z).map (fun y => (s.flatMap escB ++ y.1, y.2))
  | [], z => (map_id _).symm
  | c :: s, z => by
    rw [List.flatMap_cons, List.append_assoc]
    by_cases hc : c = 39
    · subst hc
      have e : escB 39 = [39, 39] := rfl
      have h1 : ∀ y, cutF true (39 :: 39 :: y) = (cutF true y).map (fun x => (39 :: 39 :: x.1, x.2)) := by
        intro y
        rw [cutF]
        simp only [if_true]
        rw [if_neg (by simp), cutF]
        simp only [if_true]
        rw [if_neg (by simp)]
        show (((cutF true y).map _).map _) = _
        cases cutF true y <;> rfl
      rw [e]
      show cutF true (39 :: 39 :: (s.flatMap escB ++ z)) = _
      rw [h1, cutF_text s z]
      cases cutF true z <;> rfl
    · rw [cutF_in _ _ (esc_no39 hc), cutF_text s z]
      cases cutF true z <;> simp
theorem dec_no (n : Nat) {x : UInt8} (h : x.toNat < 48 ∨ 57 < x.toNat) : x ∉ decDigits n := by
  intro hm
  have := dec_range n x hm
  omega
theorem itoa_no (n : Int) {x : UInt8} (h : x.toNat < 48 ∨ 57 < x.toNat) (h' : x ≠ 45) : x ∉ itoa n := by
  unfold itoa
  split
  · intro hm
    rcases List.mem_cons.1 hm with e | hm
    · exact h' e
    · exact dec_no _ h hm
  · exact dec_no _ h
/-- Of no text: no quote, comma, bracket, no backslash. -/
theorem print_bare {d : Dat} (h : okD d = true) (hk : d.k ≠ 4) : 39 ∉ printS d ∧ 44 ∉ printS d ∧ 41 ∉ printS d := by
  rcases ok_cases h with rfl | ⟨b, rfl⟩ | ⟨n, rfl⟩ | ⟨s, rfl, _⟩
  · rw [printS_null]; decide
  · rw [printS_bool]; cases b <;> decide
  · rw [printS_int]
    exact ⟨itoa_no n (by decide) (by decide), itoa_no n (by decide) (by decide), itoa_no n (by decide) (by decide)⟩
  · exact absurd rfl hk
/-- What stands behind a datum: nothing, or what separates it from the next one. -/
theorem cutF_print {d : Dat} (h : okD d = true) (z : List UInt8) : cutF false (printS d ++ z) = (cutF false z).map (fun y => (printS d ++ y.1, y.2)) := by
  by_cases hk : d.k = 4
  · rcases ok_cases h with rfl | ⟨b, rfl⟩ | ⟨n, rfl⟩ | ⟨s, rfl, _⟩
    · exact absurd hk (by simp [nullD])
    · exact absurd hk (by simp [boolD])
    · exact absurd hk (by simp [intD])
    · rw [printS_text h]
      unfold quoteL
      rw [List.cons_append, cutF]
      simp only [if_true]
      rw [if_neg (by simp), List.append_assoc]
      show ((cutF true _).map _) = _
      rw [cutF_text]
      have h1 : cutF true ([39] ++ z) = (cutF false z).map (fun x => (39 :: x.1, x.2)) := by
        show cutF true (39 :: z) = _
        rw [cutF]
        simp only [if_true]
        rw [if_neg (by simp)]
        rfl
      rw [h1]
      cases cutF false z <;> simp
  · obtain ⟨h1, h2, _⟩ := print_bare h hk
    exact cutF_out _ _ h1 h2
theorem cutF_sep (r : List UInt8) : cutF false (44 :: 32 :: r) = some ([], r) := by
  rw [cutF, if_pos (by simp)]
  rfl
theorem cutF_last {d : Dat} (h : okD d = true) : cutF false (printS d) = none := by
  have := cutF_print h []
  rw [List.append_nil] at this
  rw [this]
  rfl
theorem cutF_more {d : Dat} (h : okD d = true) (r : List UInt8) : cutF false (printS d ++ 44 :: 32 :: r) = some (printS d, r) := by
  rw [cutF_print h, cutF_sep]
  simp
theorem cutF_join {d : Dat} (h : okD d = true) (l : List Dat) : cutF false (joinR (d :: l)) = match l with
    | [] => none
    | e :: m => some (printS d, joinR (e :: m)) := by
  rw [joinR_cons]
  cases l with
  | nil => rw [tailR_nil, List.append_nil]; exact cutF_last h
  | cons e m => rw [tailR_cons]; exact cutF_more h _
theorem okL {l : List Dat} (h : chkR l = 0) : l.length ≤ 32 ∧ ∀ d ∈ l, okD d = true := by
  have h1 : ∀ l : List Dat, chkL l = 0 → ∀ d ∈ l, okD d = true := by
    intro l
    induction l with
    | nil => intro _ d hd; cases hd
    | cons e l ih =>
      intro h d hd
      unfold chkL at h
      by_cases h0 : chk e = 0
      · rw [if_pos h0] at h
        rcases List.mem_cons.1 hd with rfl | hd
        · simp [okD, h0]
        · exact ih h d hd
      · rw [if_neg h0] at h
        exact absurd h h0
  unfold chkR at h
  split at h
  · omega
  · exact ⟨by omega, h1 l h⟩
theorem chkR_of {l : List Dat} (h : l.length ≤ 32) (ho : ∀ d ∈ l, okD d = true) : chkR l = 0 := by
  have h1 : ∀ l : List Dat, (∀ d ∈ l, okD d = true) → chkL l = 0 := by
    intro l
    induction l with
    | nil => intro _; rfl
    | cons e l ih =>
      intro ho
      have he : chk e = 0 := by simpa [okD] using ho e (by simp)
      rw [chkL, if_pos he]
      exact ih (fun d hd => ho d (by simp [hd]))
  unfold chkR
  rw [if_neg (by omega)]
  exact h1 l ho
theorem joinR_ne {d : Dat} (h : okD d = true) (l : List Dat) : joinR (d :: l) ≠ [] := by
  rw [joinR_cons]
  intro e
  exact print_ne h (List.append_eq_nil_iff.1 e).1
theorem joinR_inj : ∀ {l m : List Dat}, (∀ d ∈ l, okD d = true) → (∀ d ∈ m, okD d = true) → joinR l = joinR m → l = m
  | [], [], _, _, _ => rfl
  | [], e :: m, _, hm, h => absurd h.symm (joinR_ne (hm e (by simp)) m)
  | d :: l, [], hl, _, h => absurd h (joinR_ne (hl d (by simp)) l)
  | d :: l, e :: m, hl, hm, h => by
    have hd := hl d (by simp)
    have he := hm e (by simp)
    have h1 := cutF_join hd l
    have h2 := cutF_join he m
    rw [h] at h1
    rw [h1] at h2
    cases l with
    | nil =>
      cases m with
      | nil =>
        rw [joinR_cons, joinR_cons, tailR_nil, List.append_nil, List.append_nil] at h
        rw [print_inj hd he h]
      | cons f m => simp at h2
    | cons g l =>
      cases m with
      | nil => simp at h2
      | cons f m =>
        simp only [Option.some.injEq, Prod.mk.injEq] at h2
        rw [print_inj hd he h2.1, joinR_inj (fun x hx => hl x (by simp [hx])) (fun x hx => hm x (by simp [hx])) h2.2]
theorem printR_inj {l m : List Dat} (hl : chkR l = 0) (hm : chkR m = 0) (h : printR l = printR m) : l = m := by
  unfold printR at h
  simp only [List.cons.injEq, true_and, List.append_cancel_right_eq] at h
  exact joinR_inj (okL hl).2 (okL hm).2 h
/-- Where a datum ends, as the document tells it: at a comma, or a bracket, outside of a text; within, what stands behind a backslash is passed over. -/
def endF : Bool → Bool → List UInt8 → Option Nat
  | _, _, [] => none
  | q, true, _ :: l => (endF q false l).map (· + 1)
  | q, false, b :: l => if b = 92 ∧ q = true then (endF q true l).map (· + 1)
    else if (if b = 39 then !q else q) = false ∧ (b = 44 ∨ b = 41) then some 0 else (endF (if b = 39 then !q else q) false l).map (· + 1)
theorem map_plus (o : Option Nat) (k : Nat) : (o.map (· + k)).map (· + 1) = o.map (· + (k + 1)) := by cases o <;> simp [Nat.add_assoc]
theorem map_zero (o : Option Nat) : o.map (· + 0) = o := by cases o <;> rfl
theorem endF_in : ∀ (x z : List UInt8), 39 ∉ x → 92 ∉ x → endF true false (x ++ z) = (endF true false z).map (· + x.length)
  | [], z, _, _ => (map_zero _).symm
  | b :: x, z, h, h' => by
    have hb : b ≠ 39 := fun e => h (by rw [e]; simp)
    have hc : b ≠ 92 := fun e => h' (by rw [e]; simp)
    rw [List.cons_append, endF, if_neg (fun q => hc q.1), if_neg hb, if_neg (by simp), endF_in x z (fun q => h (by simp [q])) (fun q => h' (by simp [q])), map_plus, List.length_cons]
theorem endF_out : ∀ (x z : List UInt8), 39 ∉ x → 44 ∉ x → 41 ∉ x → endF false false (x ++ z) = (endF false false z).map (· + x.length)
  | [], z, _, _, _ => (map_zero _).symm
  | b :: x, z, h, h', h'' => by
    have hb : b ≠ 39 := fun e => h (by rw [e]; simp)
    have hc : b ≠ 44 := fun e => h' (by rw [e]; simp)
    have hd : b ≠ 41 := fun e => h'' (by rw [e]; simp)
    rw [List.cons_append, endF, if_neg (fun q => by cases q.2), if_neg hb, if_neg (fun q => q.2.elim hc hd), endF_out x z (fun q => h (by simp [q])) (fun q => h' (by simp [q])) (fun q => h'' (by simp [q])), map_plus, List.length_cons]
theorem hex_no {n : Nat} (h : n < 16) : hexD n ≠ 39 ∧ hexD n ≠ 92 := by
  have : ∀ i : Fin 16, hexD i.val ≠ 39 ∧ hexD i.val ≠ 92 := by decide
  exact this ⟨n, h⟩
theorem endF_two (b : UInt8) (z : List UInt8) : endF true false (92 :: b :: z) = (endF true false z).map (· + 2) := by
  rw [endF, if_pos (by simp), endF, map_plus]
theorem endF_quotes (z : List UInt8) : endF true false (39 :: 39 :: z) = (endF true false z).map (· + 2) := by
  rw [endF, if_neg (by simp)]
  simp only [if_true]
  rw [if_neg (by simp), endF, if_neg (by simp)]
  simp only [if_true]
  rw [if_neg (by simp), map_plus]
  rfl
theorem endF_esc (c : UInt8) (z : List UInt8) : endF true false (escB c ++ z) = (endF true false z).map (· + (escB c).length) := by
  by_cases h1 : c = 39
  · subst h1; exact endF_quotes z
  by_cases h2 : c = 92
  · subst h2; exact endF_two 92 z
  by_cases h3 : c = 10
  · subst h3; exact endF_two 110 z
  by_cases h4 : c = 13
  · subst h4; exact endF_two 114 z
  by_cases h5 : c = 9
  · subst h5; exact endF_two 116 z
  by_cases h6 : c < 32 ∨ c = 127
  · have e : escB c = [92, 120, hexD (c.toNat / 16), hexD (c.toNat % 16)] := by simp [escB, h1, h2, h3, h4, h5, h6]
    rw [e]
    obtain ⟨k1, k2⟩ := hex_no (n := c.toNat / 16) (by have := c.toNat_lt; omega)
    obtain ⟨k3, k4⟩ := hex_no (n := c.toNat % 16) (by omega)
    show endF true false (92 :: 120 :: ([hexD (c.toNat / 16), hexD (c.toNat % 16)] ++ z)) = _
    rw [endF_two, endF_in _ _ (by simp; exact ⟨k1.symm, k3.symm⟩) (by simp; exact ⟨k2.symm, k4.symm⟩)]
    cases endF true false z <;> simp
  · have e : escB c = [c] := by simp [escB, h1, h2, h3, h4, h5, h6]
    rw [e]
    exact endF_in [c] z (by simp; exact fun q => h1 q.symm) (by simp; exact fun q => h2 q.symm)
theorem endF_text : ∀ (s z : List UInt8), endF true false (s.flatMap escB ++ z) = (endF true false z).map (· + (s.flatMap escB).length)
  | [], z => (map_zero _).symm
  | c :: s, z => by
    rw [List.flatMap_cons, List.append_assoc, endF_esc, endF_text s z, List.length_append]
    cases endF true false z <;> simp [Nat.add_comm, Nat.add_left_comm]
theorem endF_print {d : Dat} (h : okD d = true) (z : List UInt8) : endF false false (printS d ++ z) = (endF false false z).map (· + (printS d).length) := by
  by_cases hk : d.k = 4
  · rcases ok_cases h with rfl | ⟨b, rfl⟩ | ⟨n, rfl⟩ | ⟨s, rfl, _⟩
    · exact absurd hk (by simp [nullD])
    · exact absurd hk (by simp [boolD])
    · exact absurd hk (by simp [intD])
    · rw [printS_text h]
      unfold quoteL
      rw [List.cons_append, endF, if_neg (by simp)]
      simp only [if_true]
      rw [if_neg (by simp), List.append_assoc]
      show ((endF true false _).map _) = _
      rw [endF_text]
      have h1 : endF true false ([39] ++ z) = (endF false false z).map (· + 1) := by
        show endF true false (39 :: z) = _
        rw [endF, if_neg (by simp)]
        simp only [if_true]
        rw [if_neg (by simp)]
        rfl
      rw [h1]
      cases endF false false z <;> simp [Nat.add_comm, Nat.add_left_comm] <;> omega
  · obtain ⟨h1, h2, h3⟩ := print_bare h hk
    exact endF_out _ _ h1 h2 h3
theorem endF_at {d : Dat} (h : okD d = true) {b : UInt8} (hb : b = 44 ∨ b = 41) (z : List UInt8) : endF false false (printS d ++ b :: z) = some (printS d).length := by
  rw [endF_print h]
  have : endF false false (b :: z) = some 0 := by
    rw [endF, if_neg (by simp), if_pos]
    refine ⟨?_, hb⟩
    rw [if_neg]
    rintro rfl
    rcases hb with hb | hb <;> exact absurd hb (by decide)
  rw [this]
  simp
end Go.Proofs.YtpmfbmigdpmloaaGreatDoor
end
section
/-
  What the document's own digits answers, at this program: of every number below 2^64. No other condition.
-/
set_option linter.unusedVariables false
set_option linter.unusedSimpArgs false
namespace Go.Proofs.YtpmfbmigdpmloaaGreatDoor
open Go.RowKit Go.Lib

/-- A byte, as a text of its own: read from a slice of one. -/
theorem convAt (b : Nat) (x : Nat) (hx : x < 256) (w : World) (hc : w.cell? ⟨b, 0, none⟩ = some (.int .u8 (x : Int))) :
    (convert 31 9 (.slice (some ⟨b, 0, none⟩) 1 1)).run Tryz.prog w = .ok (.string ⟨#[UInt8.ofNat x]⟩) w := by
  have h := run_convert_bytes_back (P := Tryz.prog) w 31 9 5 ⟨b, 0, none⟩ 1 [UInt8.ofNat x] Tryz.underlying31 Tryz.underlying5 Tryz.underlying9 (by
    intro j hj
    match j, hj with
    | 0, _ =>
      have e : (UInt8.ofNat x).toNat = x := by rw [UInt8.toNat_ofNat']; omega
      simpa [Addr.add, e] using hc)
  exact h
theorem convNew (x : Nat) (hx : x < 256) (T : TypeId) (w : World) :
    (convert 31 9 (.slice (some ⟨w.heap.size, 0, none⟩) 1 1)).run Tryz.prog (w.alloc (.cells #[.int .u8 (x : Int)] T)) = .ok (.string ⟨#[UInt8.ofNat x]⟩) (w.alloc (.cells #[.int .u8 (x : Int)] T)) :=
  convAt _ x hx _ (cell_new w #[.int .u8 (x : Int)] T 0)
theorem convNewD (x : Nat) (hx : x < 256) (T : TypeId) (w : World) :
    (convert 31 9 (.slice (some ⟨w.heap.size, 0, none⟩) 1 1)).run Tryz.prog (w.alloc (.cells #[.int .u8 (x : Int)] T)).drew = .ok (.string ⟨#[UInt8.ofNat x]⟩) (w.alloc (.cells #[.int .u8 (x : Int)] T)).drew :=
  convAt _ x hx _ (cell_new w #[.int .u8 (x : Int)] T 0)
theorem ret_strL {x y : List UInt8} (h : x = y) : Ending.returned (.string ⟨x.toArray⟩) = Ending.returned (.string ⟨y.toArray⟩) := by rw [h]

theorem u64_in (x : Nat) (h : x < 18446744073709551616) : IntKind.u64.wrap (x : Int) = (x : Int) := by
  simp [IntKind.wrap, IntKind.bits, IntKind.signed]; omega
theorem u8_in (x : Nat) (h : x < 256) : IntKind.u8.wrap (x : Int) = (x : Int) := by
  simp [IntKind.wrap, IntKind.bits, IntKind.signed]; omega
theorem decDigits_big2 {n : Nat} (h : ¬ n < 10) : decDigits n = decDigits (n / 10) ++ [UInt8.ofNat (48 + n % 10)] := by rw [decDigits, dif_neg h]
theorem decDigits_len : ∀ (k n : Nat), n < 10 ^ (k + 1) → (decDigits n).length ≤ k + 1
  | 0, n, h => by rw [decDigits_one (by omega)]; simp
  | k + 1, n, h => by
    by_cases g : n < 10
    · rw [decDigits_one g]; simp
    · have := decDigits_len k (n / 10) (by rw [Nat.pow_succ] at h; omega)
      rw [decDigits_big2 g, List.length_append, List.length_singleton]
      omega
theorem ret_str2 {x y : ByteArray} (h : x = y) : Ending.returned (.string x) = Ending.returned (.string y) := by rw [h]

set_option maxRecDepth 100000 in
set_option maxHeartbeats 8000000 in
theorem digits_small (n : Nat) (hn : n < 10) (w : World) :
    Calls Tryz.prog 59 #[.int .u64 (n : Int)] w fun e w' => e = .returned (.string ⟨(decDigits n).toArray⟩) ∧ Below w.heap.size w w' := by
  have hg : (n : Int) < 10 := by omega
  obtain ⟨d, hd⟩ : ∃ d, 48 + n = d := ⟨_, rfl⟩
  have hd2 : d < 256 := by omega
  obtain ⟨c, hc⟩ : ∃ c, UInt8.ofNat d = c := ⟨_, rfl⟩
  have hcv := fun T w0 => convNew d hd2 T w0
  rw [hc] at hcv
  have a1 : (48 : Int) + (n : Int) = (d : Int) := by omega
  have a2 := u8_in d hd2
  have a3 := u8_in n (by omega)
  have hr : (decDigits n) = [c] := by rw [decDigits_one hn, hd, hc]
  rw [hr]
  clear hr hc hd hd2
  go_enter Tryz.func59, Tryz.ntmps59
  go_wp2
  go_ret
  exact ⟨rfl, by go_grown⟩

set_option maxRecDepth 100000 in
set_option maxHeartbeats 8000000 in
theorem digits_big (n : Nat) (hn : ¬ n < 10) (hn2 : n < 18446744073709551616) (w : World)
    (ih : ∀ w, Calls Tryz.prog 59 #[.int .u64 ((n / 10 : Nat) : Int)] w fun e w' => e = .returned (.string ⟨(decDigits (n / 10)).toArray⟩) ∧ Below w.heap.size w w') :
    Calls Tryz.prog 59 #[.int .u64 (n : Int)] w fun e w' => e = .returned (.string ⟨(decDigits n).toArray⟩) ∧ Below w.heap.size w w' := by
  have hg : ¬ (n : Int) < 10 := by omega
  rw [decDigits_big2 hn]
  have hlen := decDigits_len 19 (n / 10) (by omega)
  obtain ⟨q, hq⟩ : ∃ q, n / 10 = q := ⟨_, rfl⟩
  obtain ⟨r, hr⟩ : ∃ r, n % 10 = r := ⟨_, rfl⟩
  obtain ⟨d, hd⟩ : ∃ d, 48 + r = d := ⟨_, rfl⟩
  have hd2 : d < 256 := by omega
  obtain ⟨c, hc⟩ : ∃ c, UInt8.ofNat d = c := ⟨_, rfl⟩
  have e1 : (n : Int).tdiv 10 = (q : Int) := by rw [show (n : Int).tdiv 10 = ((n / 10 : Nat) : Int) from rfl, hq]
  have e2 : (n : Int) / 10 = (q : Int) := by omega
  have e3 := u64_in q (by omega)
  have m1 : (n : Int).tmod 10 = (r : Int) := by rw [show (n : Int).tmod 10 = ((n % 10 : Nat) : Int) from rfl, hr]
  have m2 : (n : Int) % 10 = (r : Int) := by omega
  have m3 := u64_in r (by omega)
  have m4 := u8_in r (by omega)
  have a1 : (48 : Int) + (r : Int) = (d : Int) := by omega
  have a2 := u8_in d hd2
  rw [hr, hd, hc]
  rw [hq] at ih hlen ⊢
  have hdH := Lib.hid hd2
  have hcv := fun T w0 => convNew d hd2 T w0
  have hcvD := fun T w0 => convNewD d hd2 T w0
  rw [hc] at hcv hcvD
  have hcH := Lib.hid hc
  obtain ⟨ds, hds⟩ : ∃ ds, decDigits q = ds := ⟨_, rfl⟩
  rw [hds] at ih hlen ⊢
  have ihH := Lib.hid ih
  have hlen2 : ds.length ≤ 9223372036854775806 := by omega
  clear hq hr hd hc ih hds hlen hn hn2 hd2
  go_enter Tryz.func59, Tryz.ntmps59
  go_wp2_with fail
  refine wp_region_noPanic ?_
  refine wp_region_held_drew (S := (fun _ => True)) (by kernel_rfl) trivial (fun hHeld => ?_)
  refine' wpAnyH_take (i := 0) (v := .int .u64 (n : Int)) ?hi0x1 ?hs0x1 ?hf0x1 ?hr0x1 ?hQ0x1 ?hy0x1 ?hS0x1 ?rest0x1
  case hi0x1 => (simp only [List.getElem?_toArray, List.getElem?_cons_succ, List.getElem?_cons_zero]; try rfl)
  case hs0x1 => kernel_rfl
  case hf0x1 => kernel_rfl
  case hr0x1 => kernel_rfl
  case hQ0x1 => exact fun _ _ _ h => h
  case hy0x1 => exact Or.inl ⟨by rfl, by (intro w hSw; (try dsimp only at hSw); go_simp)⟩
  case hS0x1 => assumption
  (try simp only [Act.put, List.setIfInBounds_toArray, List.set_cons_zero, List.set_cons_succ])
  refine' wpAnyH_take (i := 1) (v := .int .u64 (q : Int)) ?hi1x2 ?hs1x2 ?hf1x2 ?hr1x2 ?hQ1x2 ?hy1x2 ?hS1x2 ?rest1x2
  case hi1x2 => (simp only [List.getElem?_toArray, List.getElem?_cons_succ, List.getElem?_cons_zero]; try rfl)
  case hs1x2 => kernel_rfl
  case hf1x2 => kernel_rfl
  case hr1x2 => kernel_rfl
  case hQ1x2 => exact fun _ _ _ h => h
  case hy1x2 => exact Or.inl ⟨by rfl, by (intro w hSw; (try dsimp only at hSw); go_simp)⟩
  case hS1x2 => assumption
  (try simp only [Act.put, List.setIfInBounds_toArray, List.set_cons_zero, List.set_cons_succ])
  refine' wpAnyH_take (i := 3) (v := .int .u64 (n : Int)) ?hi3x3 ?hs3x3 ?hf3x3 ?hr3x3 ?hQ3x3 ?hy3x3 ?hS3x3 ?rest3x3
  case hi3x3 => (simp only [List.getElem?_toArray, List.getElem?_cons_succ, List.getElem?_cons_zero]; try rfl)
  case hs3x3 => kernel_rfl
  case hf3x3 => kernel_rfl
  case hr3x3 => kernel_rfl
  case hQ3x3 => exact fun _ _ _ h => h
  case hy3x3 => exact Or.inl ⟨by rfl, by (intro w hSw; (try dsimp only at hSw); go_simp)⟩
  case hS3x3 => assumption
  (try simp only [Act.put, List.setIfInBounds_toArray, List.set_cons_zero, List.set_cons_succ])
  refine' wpAnyH_take (i := 4) (v := .int .u64 (r : Int)) ?hi4x4 ?hs4x4 ?hf4x4 ?hr4x4 ?hQ4x4 ?hy4x4 ?hS4x4 ?rest4x4
  case hi4x4 => (simp only [List.getElem?_toArray, List.getElem?_cons_succ, List.getElem?_cons_zero]; try rfl)
  case hs4x4 => kernel_rfl
  case hf4x4 => kernel_rfl
  case hr4x4 => kernel_rfl
  case hQ4x4 => exact fun _ _ _ h => h
  case hy4x4 => exact Or.inl ⟨by rfl, by (intro w hSw; (try dsimp only at hSw); go_simp)⟩
  case hS4x4 => assumption
  (try simp only [Act.put, List.setIfInBounds_toArray, List.set_cons_zero, List.set_cons_succ])
  refine' wpAnyH_take (i := 5) (v := .int .u8 (r : Int)) ?hi5x5 ?hs5x5 ?hf5x5 ?hr5x5 ?hQ5x5 ?hy5x5 ?hS5x5 ?rest5x5
  case hi5x5 => (simp only [List.getElem?_toArray, List.getElem?_cons_succ, List.getElem?_cons_zero]; try rfl)
  case hs5x5 => kernel_rfl
  case hf5x5 => kernel_rfl
  case hr5x5 => kernel_rfl
  case hQ5x5 => exact fun _ _ _ h => h
  case hy5x5 => exact Or.inl ⟨by rfl, by (intro w hSw; (try dsimp only at hSw); go_simp)⟩
  case hS5x5 => assumption
  (try simp only [Act.put, List.setIfInBounds_toArray, List.set_cons_zero, List.set_cons_succ])
  refine' wpAnyH_take (i := 6) (v := .int .u8 (d : Int)) ?hi6x6 ?hs6x6 ?hf6x6 ?hr6x6 ?hQ6x6 ?hy6x6 ?hS6x6 ?rest6x6
  case hi6x6 => (simp only [List.getElem?_toArray, List.getElem?_cons_succ, List.getElem?_cons_zero]; try rfl)
  case hs6x6 => kernel_rfl
  case hf6x6 => kernel_rfl
  case hr6x6 => kernel_rfl
  case hQ6x6 => exact fun _ _ _ h => h
  case hy6x6 => exact Or.inl ⟨by rfl, by (intro w hSw; (try dsimp only at hSw); go_simp)⟩
  case hS6x6 => assumption
  (try simp only [Act.put, List.setIfInBounds_toArray, List.set_cons_zero, List.set_cons_succ])
  refine wpAnyH_ready (rs := [2, 7]) (by kernel_rfl) (by simp) ?_
  refine' AllReadyH.cons (i := 2) ?ho2x7 (fun K hK => ?st2x7) (AllReadyH.cons (i := 7) ?ho7x8 (fun K hK => ?st7x8) AllReadyH.nil)
  case ho2x7 => (simp only [List.getElem?_toArray, List.getElem?_cons_succ, List.getElem?_cons_zero]; try rfl)
  case ho7x8 => (simp only [List.getElem?_toArray, List.getElem?_cons_succ, List.getElem?_cons_zero]; try rfl)
  case st2x7 =>
    go_simp
    refine (ihH.out _).mono ?_
    rintro e w' ⟨rfl, hb'⟩
    have hb := chainB (B := w.heap.size) (a := w) (by go_grown) hb' (by first | omega | (simp; done) | (simp; omega))
    have hs := hb.size
    refine hK.out _ _ ?_ (fun hHeld => ?_)
    · trivial
    clear hK K
    (try simp only [Act.put, List.setIfInBounds_toArray, List.set_cons_zero, List.set_cons_succ])
    refine wpAnyH_ready (rs := [7]) (by kernel_rfl) (by simp) ?_
    refine' AllReadyH.cons (i := 7) ?ho7x9 (fun K hK => ?st7x9) AllReadyH.nil
    case ho7x9 => (simp only [List.getElem?_toArray, List.getElem?_cons_succ, List.getElem?_cons_zero]; try rfl)
    go_simp
    refine hK.out _ _ ?_ (fun hHeld => ?_)
    · trivial
    clear hK K
    (try simp only [Act.put, List.setIfInBounds_toArray, List.set_cons_zero, List.set_cons_succ])
    refine wpAnyH_ready (rs := [8]) (by kernel_rfl) (by simp) ?_
    refine' AllReadyH.cons (i := 8) ?ho8x10 (fun K hK => ?st8x10) AllReadyH.nil
    case ho8x10 => (simp only [List.getElem?_toArray, List.getElem?_cons_succ, List.getElem?_cons_zero]; try rfl)
    go_simp
    refine hK.out _ _ ?_ (fun hHeld => ?_)
    · trivial
    clear hK K
    (try simp only [Act.put, List.setIfInBounds_toArray, List.set_cons_zero, List.set_cons_succ])
    refine' wpAnyH_take (i := 9) (v := .string (⟨ds.toArray⟩ ++ ⟨#[c]⟩)) ?hi9x11 ?hs9x11 ?hf9x11 ?hr9x11 ?hQ9x11 ?hy9x11 ?hS9x11 ?rest9x11
    case hi9x11 => (simp only [List.getElem?_toArray, List.getElem?_cons_succ, List.getElem?_cons_zero]; try rfl)
    case hs9x11 => kernel_rfl
    case hf9x11 => kernel_rfl
    case hr9x11 => kernel_rfl
    case hQ9x11 => exact fun _ _ _ h => h
    case hy9x11 => exact Or.inl ⟨by rfl, by (intro w hSw; (try dsimp only at hSw); go_simp)⟩
    case hS9x11 => assumption
    (try simp only [Act.put, List.setIfInBounds_toArray, List.set_cons_zero, List.set_cons_succ])
    refine' wpAnyH_take (i := 10) (v := .string (⟨ds.toArray⟩ ++ ⟨#[c]⟩)) ?hi10x12 ?hs10x12 ?hf10x12 ?hr10x12 ?hQ10x12 ?hy10x12 ?hS10x12 ?rest10x12
    case hi10x12 => (simp only [List.getElem?_toArray, List.getElem?_cons_succ, List.getElem?_cons_zero]; try rfl)
    case hs10x12 => kernel_rfl
    case hf10x12 => kernel_rfl
    case hr10x12 => kernel_rfl
    case hQ10x12 => exact fun _ _ _ h => h
    case hy10x12 => exact Or.inl ⟨by rfl, by (intro w hSw; (try dsimp only at hSw); go_simp)⟩
    case hS10x12 => assumption
    (try simp only [Act.put, List.setIfInBounds_toArray, List.set_cons_zero, List.set_cons_succ])
    refine wpAnyH_done (by kernel_rfl) ?_ _
    refine NoPanic.normal ?_
    go_wp2
    go_ret
    exact ⟨ret_str2 (bytes_ext (by simp)), by go_grown⟩
  case st7x8 =>
    go_simp
    refine hK.out _ _ ?_ (fun hHeld => ?_)
    · trivial
    clear hK K
    (try simp only [Act.put, List.setIfInBounds_toArray, List.set_cons_zero, List.set_cons_succ])
    refine wpAnyH_ready (rs := [2, 8]) (by kernel_rfl) (by simp) ?_
    refine' AllReadyH.cons (i := 2) ?ho2x13 (fun K hK => ?st2x13) (AllReadyH.cons (i := 8) ?ho8x14 (fun K hK => ?st8x14) AllReadyH.nil)
    case ho2x13 => (simp only [List.getElem?_toArray, List.getElem?_cons_succ, List.getElem?_cons_zero]; try rfl)
    case ho8x14 => (simp only [List.getElem?_toArray, List.getElem?_cons_succ, List.getElem?_cons_zero]; try rfl)
    case st2x13 =>
      go_simp
      refine (ihH.out _).mono ?_
      rintro e w' ⟨rfl, hb'⟩
      have hb := chainB (B := w.heap.size) (a := w) (by go_grown) hb' (by first | omega | (simp; done) | (simp; omega))
      have hs := hb.size
      have hcv2 := convAt w.heap.size d hdH.out w' ((hb'.cell (p := ⟨w.heap.size, 0, none⟩) (by simp)).trans (cell_new w #[.int .u8 (d : Int)] 5 0))
      rw [hcH.out] at hcv2
      refine hK.out _ _ ?_ (fun hHeld => ?_)
      · trivial
      clear hK K
      (try simp only [Act.put, List.setIfInBounds_toArray, List.set_cons_zero, List.set_cons_succ])
      refine wpAnyH_ready (rs := [8]) (by kernel_rfl) (by simp) ?_
      refine' AllReadyH.cons (i := 8) ?ho8x15 (fun K hK => ?st8x15) AllReadyH.nil
      case ho8x15 => (simp only [List.getElem?_toArray, List.getElem?_cons_succ, List.getElem?_cons_zero]; try rfl)
      go_simp
      refine hK.out _ _ ?_ (fun hHeld => ?_)
      · trivial
      clear hK K
      (try simp only [Act.put, List.setIfInBounds_toArray, List.set_cons_zero, List.set_cons_succ])
      refine' wpAnyH_take (i := 9) (v := .string (⟨ds.toArray⟩ ++ ⟨#[c]⟩)) ?hi9x16 ?hs9x16 ?hf9x16 ?hr9x16 ?hQ9x16 ?hy9x16 ?hS9x16 ?rest9x16
      case hi9x16 => (simp only [List.getElem?_toArray, List.getElem?_cons_succ, List.getElem?_cons_zero]; try rfl)
      case hs9x16 => kernel_rfl
      case hf9x16 => kernel_rfl
      case hr9x16 => kernel_rfl
      case hQ9x16 => exact fun _ _ _ h => h
      case hy9x16 => exact Or.inl ⟨by rfl, by (intro w hSw; (try dsimp only at hSw); go_simp)⟩
      case hS9x16 => assumption
      (try simp only [Act.put, List.setIfInBounds_toArray, List.set_cons_zero, List.set_cons_succ])
      refine' wpAnyH_take (i := 10) (v := .string (⟨ds.toArray⟩ ++ ⟨#[c]⟩)) ?hi10x17 ?hs10x17 ?hf10x17 ?hr10x17 ?hQ10x17 ?hy10x17 ?hS10x17 ?rest10x17
      case hi10x17 => (simp only [List.getElem?_toArray, List.getElem?_cons_succ, List.getElem?_cons_zero]; try rfl)
      case hs10x17 => kernel_rfl
      case hf10x17 => kernel_rfl
      case hr10x17 => kernel_rfl
      case hQ10x17 => exact fun _ _ _ h => h
      case hy10x17 => exact Or.inl ⟨by rfl, by (intro w hSw; (try dsimp only at hSw); go_simp)⟩
      case hS10x17 => assumption
      (try simp only [Act.put, List.setIfInBounds_toArray, List.set_cons_zero, List.set_cons_succ])
      refine wpAnyH_done (by kernel_rfl) ?_ _
      refine NoPanic.normal ?_
      go_wp2
      go_ret
      exact ⟨ret_str2 (bytes_ext (by simp)), by go_grown⟩
    case st8x14 =>
      go_simp
      refine hK.out _ _ ?_ (fun hHeld => ?_)
      · trivial
      clear hK K
      (try simp only [Act.put, List.setIfInBounds_toArray, List.set_cons_zero, List.set_cons_succ])
      refine wpAnyH_ready (rs := [2]) (by kernel_rfl) (by simp) ?_
      refine' AllReadyH.cons (i := 2) ?ho2x18 (fun K hK => ?st2x18) AllReadyH.nil
      case ho2x18 => (simp only [List.getElem?_toArray, List.getElem?_cons_succ, List.getElem?_cons_zero]; try rfl)
      go_simp
      refine (ihH.out _).mono ?_
      rintro e w' ⟨rfl, hb'⟩
      have hb := chainB (B := w.heap.size) (a := w) (by go_grown) hb' (by first | omega | (simp; done) | (simp; omega))
      have hs := hb.size
      refine hK.out _ _ ?_ (fun hHeld => ?_)
      · trivial
      clear hK K
      (try simp only [Act.put, List.setIfInBounds_toArray, List.set_cons_zero, List.set_cons_succ])
      refine' wpAnyH_take (i := 9) (v := .string (⟨ds.toArray⟩ ++ ⟨#[c]⟩)) ?hi9x19 ?hs9x19 ?hf9x19 ?hr9x19 ?hQ9x19 ?hy9x19 ?hS9x19 ?rest9x19
      case hi9x19 => (simp only [List.getElem?_toArray, List.getElem?_cons_succ, List.getElem?_cons_zero]; try rfl)
      case hs9x19 => kernel_rfl
      case hf9x19 => kernel_rfl
      case hr9x19 => kernel_rfl
      case hQ9x19 => exact fun _ _ _ h => h
      case hy9x19 => exact Or.inl ⟨by rfl, by (intro w hSw; (try dsimp only at hSw); go_simp)⟩
      case hS9x19 => assumption
      (try simp only [Act.put, List.setIfInBounds_toArray, List.set_cons_zero, List.set_cons_succ])
      refine' wpAnyH_take (i := 10) (v := .string (⟨ds.toArray⟩ ++ ⟨#[c]⟩)) ?hi10x20 ?hs10x20 ?hf10x20 ?hr10x20 ?hQ10x20 ?hy10x20 ?hS10x20 ?rest10x20
      case hi10x20 => (simp only [List.getElem?_toArray, List.getElem?_cons_succ, List.getElem?_cons_zero]; try rfl)
      case hs10x20 => kernel_rfl
      case hf10x20 => kernel_rfl
      case hr10x20 => kernel_rfl
      case hQ10x20 => exact fun _ _ _ h => h
      case hy10x20 => exact Or.inl ⟨by rfl, by (intro w hSw; (try dsimp only at hSw); go_simp)⟩
      case hS10x20 => assumption
      (try simp only [Act.put, List.setIfInBounds_toArray, List.set_cons_zero, List.set_cons_succ])
      refine wpAnyH_done (by kernel_rfl) ?_ _
      refine NoPanic.normal ?_
      go_wp2
      go_ret
      exact ⟨ret_str2 (bytes_ext (by simp)), by go_grown⟩

/-- The document's digits, of every number below 2^64. -/
theorem refDigits_any : ∀ (n : Nat), n < 18446744073709551616 → ∀ w, Calls Tryz.prog 59 #[.int .u64 (n : Int)] w fun e w' => e = .returned (.string ⟨(decDigits n).toArray⟩) ∧ Below w.heap.size w w' := by
  intro n
  induction n using Nat.strongRecOn with
  | ind n ih =>
    intro hn w
    by_cases h : n < 10
    · exact digits_small n h w
    · exact digits_big n h hn w (ih (n / 10) (by omega) (by omega))
end Go.Proofs.YtpmfbmigdpmloaaGreatDoor
end
