/-
  Plain mathematics: how a text is written, byte by byte and rune by rune. Condition of the last: the bytes are UTF-8.
-/
import Derived.Test.YtlodohgoondkhaaDoorPlain
import Derived.Lib.RuneBytes
set_option linter.unusedVariables false
set_option linter.unusedSimpArgs false
namespace Go.Proofs.YtlodohgoondkhaaDoor
open Go.Lib

def hexD (n : Nat) : UInt8 := if n < 10 then UInt8.ofNat (48 + n) else UInt8.ofNat (87 + n)
/-- A byte as it is written within a text. -/
def escB (c : UInt8) : List UInt8 :=
  if c = 39 then [39, 39] else if c = 92 then [92, 92] else if c = 10 then [92, 110] else if c = 13 then [92, 114] else if c = 9 then [92, 116]
  else if c < 32 ∨ c = 127 then [92, 120, hexD (c.toNat / 16), hexD (c.toNat % 16)] else [c]
/-- A text as it is written. -/
def quoteL (l : List UInt8) : List UInt8 := 39 :: (l.flatMap escB ++ [39])
/-- A rune as it is written. -/
def escR (r : Nat) : List UInt8 :=
  if r = 39 then [39, 39] else if r = 92 then [92, 92] else if r = 10 then [92, 110] else if r = 13 then [92, 114] else if r = 9 then [92, 116]
  else if r < 32 ∨ r = 127 then [92, 120, hexD (r / 16), hexD (r % 16)] else encodeRune r

set_option maxRecDepth 100000 in
theorem escR_low : ∀ i : Fin 128, escR i.val = escB (UInt8.ofNat i.val) := by decide
theorem escB_high {c : UInt8} (h : 128 ≤ c.toNat) : escB c = [c] := by
  have h1 : c ≠ 39 := fun e => by subst e; simp at h
  have h2 : c ≠ 92 := fun e => by subst e; simp at h
  have h3 : c ≠ 10 := fun e => by subst e; simp at h
  have h4 : c ≠ 13 := fun e => by subst e; simp at h
  have h5 : c ≠ 9 := fun e => by subst e; simp at h
  have h6 : ¬ (c < 32 ∨ c = 127) := by
    rintro (e | e)
    · rw [UInt8.lt_iff_toNat_lt] at e
      have : (32 : UInt8).toNat = 32 := rfl
      omega
    · subst e; simp at h
  simp [escB, h1, h2, h3, h4, h5, h6]
theorem flat_high : ∀ l : List UInt8, (∀ c ∈ l, 128 ≤ c.toNat) → l.flatMap escB = l
  | [], _ => rfl
  | c :: l, h => by
    rw [List.flatMap_cons, escB_high (h c (by simp)), flat_high l (fun x hx => h x (by simp [hx]))]
    rfl
theorem encodeZ_high {r : Int} (h : 128 ≤ r) : ∀ x ∈ encodeRuneZ r, 128 ≤ x ∧ x < 256 := by
  intro x hx
  have hb := encodeRuneZ_byte r x hx
  refine ⟨?_, hb.2⟩
  by_cases h1 : r ≤ 2047
  · rw [encodeRuneZ_two h h1] at hx
    simp at hx
    omega
  · by_cases h2 : (2048 ≤ r ∧ r < 55296) ∨ (57343 < r ∧ r ≤ 65535)
    · rw [encodeRuneZ_three h2] at hx
      simp at hx
      omega
    · by_cases h3 : 65536 ≤ r ∧ r ≤ 1114111
      · rw [encodeRuneZ_four h3.1 h3.2] at hx
        simp at hx
        omega
      · rw [encodeRuneZ_bad (by omega)] at hx
        simp at hx
        omega
theorem encode_high {r : Int} (h : 128 ≤ r) : ∀ c ∈ encodeRune r, 128 ≤ c.toNat := by
  intro c hc
  unfold encodeRune at hc
  obtain ⟨x, hx, rfl⟩ := List.mem_map.1 hc
  have hb := encodeZ_high h x hx
  obtain ⟨n, rfl⟩ := Int.eq_ofNat_of_zero_le (show 0 ≤ x by omega)
  simp
  omega
/-- A rune's writing is that of its bytes. -/
theorem escR_bytes (l : List UInt8) (hne : l ≠ []) (hv : ¬ ((decodeL l).1 = 65533 ∧ (decodeL l).2 = 1)) : escR (decodeL l).1 = (l.take (decodeL l).2).flatMap escB := by
  have he := encode_decode l hne hv
  by_cases h : (decodeL l).1 < 128
  · have hlow := escR_low ⟨(decodeL l).1, h⟩
    simp only at hlow
    rw [hlow, ← he]
    have e1 : encodeRune ((decodeL l).1 : Int) = [UInt8.ofNat (decodeL l).1] := by
      unfold encodeRune
      rw [encodeRuneZ_one (by omega) (by omega)]
      simp
    rw [e1]
    simp
  · have hbig : escR (decodeL l).1 = encodeRune ((decodeL l).1 : Int) := by
      unfold escR
      rw [if_neg (by omega), if_neg (by omega), if_neg (by omega), if_neg (by omega), if_neg (by omega), if_neg (by omega)]
    rw [hbig, ← he, flat_high _ (encode_high (by omega))]

/-- What quote writes from place pos on. -/
theorem quote_step (l : List UInt8) (hne : l ≠ []) (hv : validD l = true) : l.flatMap escB = escR (decodeL l).1 ++ (l.drop (decodeL l).2).flatMap escB ∧ validD (l.drop (decodeL l).2) = true := by
  rw [validD_step l hne] at hv
  split at hv
  · cases hv
  · rename_i h
    refine ⟨?_, hv⟩
    rw [escR_bytes l hne h, ← List.flatMap_append, List.take_append_drop]
theorem escB_len (c : UInt8) : 1 ≤ (escB c).length ∧ (escB c).length ≤ 4 := by
  unfold escB
  repeat' split
  all_goals simp
theorem flat_len : ∀ l : List UInt8, (l.flatMap escB).length ≤ 4 * l.length
  | [] => by simp
  | c :: l => by
    have := flat_len l
    have := (escB_len c).2
    simp only [List.flatMap_cons, List.length_append, List.length_cons]
    omega
end Go.Proofs.YtlodohgoondkhaaDoor
