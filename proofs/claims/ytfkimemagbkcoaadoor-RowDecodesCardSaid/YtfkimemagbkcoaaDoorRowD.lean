/-
  Plain mathematics: what the bytes of a row are read as. No condition but those written.
-/
import Derived.Test.YtfkimemagbkcoaaDoorRowV
set_option linter.unusedVariables false
set_option linter.unusedSimpArgs false
namespace Go.Proofs.YtfkimemagbkcoaaDoor
open Go.Lib

/-- The number of bytes, the greatest first. -/
def beV (l : List UInt8) : Nat := l.foldl (fun a b => a * 256 + b.toNat) 0
/-- Eight bytes, as a number, and what stands behind. -/
def intS (L : List UInt8) : Option (Int × List UInt8) := if L.length < 8 then none else some ((beV (L.take 8) : Int) - 9223372036854775808, L.drop 8)
/-- A text, up to its end, and what stands behind. -/
def textS : List UInt8 → Option (List UInt8 × List UInt8)
  | [] => none
  | [_] => none
  | b :: m :: r =>
    if b = 0 then (if m = 1 then some ([], r) else if m = 255 then (textS r).map (fun x => (0 :: x.1, x.2)) else none) else (textS (m :: r)).map (fun x => (b :: x.1, x.2))
/-- A datum, checked or not. -/
def rawS (b : UInt8) (L : List UInt8) : Option (Dat × List UInt8) :=
  if b = 16 then some (⟨1, false, 0, ⟨#[]⟩⟩, L) else if b = 32 then some (⟨2, false, 0, ⟨#[]⟩⟩, L) else if b = 33 then some (⟨2, true, 0, ⟨#[]⟩⟩, L)
  else if b = 48 then (intS L).map (fun x => (⟨3, false, x.1, ⟨#[]⟩⟩, x.2)) else if b = 64 then (textS L).map (fun x => (⟨4, false, 0, ⟨x.1.toArray⟩⟩, x.2)) else none
def datS : List UInt8 → Option (Dat × List UInt8)
  | [] => none
  | b :: L => match rawS b L with
    | none => none
    | some (d, r) => if chk d = 0 then some (d, r) else none
/-- At most n more data, up to the end. -/
def rowS : Nat → List UInt8 → Option (List Dat)
  | _, [] => some []
  | 0, _ :: _ => none
  | n + 1, b :: L => match datS (b :: L) with
    | none => none
    | some (d, r) => (rowS n r).map (d :: ·)
def decS (L : List UInt8) : Option (List Dat) := rowS 32 L
theorem intS_short {L : List UInt8} (h : L.length < 8) : intS L = none := if_pos h
theorem beV_snoc (l : List UInt8) (b : UInt8) : beV (l ++ [b]) = beV l * 256 + b.toNat := by simp [beV, List.foldl_append]
theorem beF_lt : ∀ (l : List UInt8) (a : Nat), l.foldl (fun a b => a * 256 + b.toNat) a < (a + 1) * 256 ^ l.length
  | [], a => by simp
  | b :: l, a => by
    have h := beF_lt l (a * 256 + b.toNat)
    have hb := b.toNat_lt
    rw [List.foldl_cons, List.length_cons, Nat.pow_succ]
    refine Nat.lt_of_lt_of_le h ?_
    rw [Nat.mul_comm (256 ^ l.length) 256, ← Nat.mul_assoc]
    exact Nat.mul_le_mul_right _ (by omega)
theorem beV_lt (l : List UInt8) : beV l < 256 ^ l.length := by
  have := beF_lt l 0
  simpa [beV] using this
/-- What stands behind is of what was there, and shorter. -/
theorem textS_len : ∀ (L : List UInt8) (x : List UInt8 × List UInt8), textS L = some x → x.1.length + x.2.length + 2 ≤ L.length
  | [], x, h => by simp [textS] at h
  | [_], x, h => by simp [textS] at h
  | b :: m :: r, x, h => by
    rw [textS] at h
    split at h
    · split at h
      · cases h; simp
      · split at h
        · cases hr : textS r with
          | none => rw [hr] at h; cases h
          | some y =>
            rw [hr] at h; cases h
            have := textS_len r y hr
            simp only [List.length_cons]; omega
        · cases h
    · cases hr : textS (m :: r) with
      | none => rw [hr] at h; cases h
      | some y =>
        rw [hr] at h; cases h
        have := textS_len (m :: r) y hr
        simp only [List.length_cons] at this ⊢; omega
end Go.Proofs.YtfkimemagbkcoaaDoor
