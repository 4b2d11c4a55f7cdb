/-
  Plain mathematics: the document's reader of one rune (by ranges of the first byte, and of the number) against the decoder of the model. No condition but that bytes are bytes.
-/
import Derived.Lib.MapLaws
set_option linter.unusedVariables false
set_option linter.unusedSimpArgs false
namespace Go.Proofs.YtpmfbmigdpmloaaGreatDoor
open Go.Lib

/-! ### UTF-8: the document's reader of one rune against the decoder -/
def longN (n b0 b1 b2 b3 : Nat) : Nat :=
  if b0 < 128 then 1
  else if 194 ≤ b0 ∧ b0 < 224 then (if n < 2 then 0 else if b1 < 128 ∨ 192 ≤ b1 then 0 else 2)
  else if 224 ≤ b0 ∧ b0 < 240 then (if n < 3 then 0 else if b1 < 128 ∨ 192 ≤ b1 then 0 else if b2 < 128 ∨ 192 ≤ b2 then 0 else
    if 64 * (64 * (b0 - 224) + b1 - 128) + b2 - 128 < 2048 ∨ (55296 ≤ 64 * (64 * (b0 - 224) + b1 - 128) + b2 - 128 ∧ 64 * (64 * (b0 - 224) + b1 - 128) + b2 - 128 < 57344) then 0 else 3)
  else if 240 ≤ b0 ∧ b0 < 245 then (if n < 4 then 0 else if b1 < 128 ∨ 192 ≤ b1 then 0 else if b2 < 128 ∨ 192 ≤ b2 then 0 else if b3 < 128 ∨ 192 ≤ b3 then 0 else
    if 64 * (64 * (64 * (b0 - 240) + b1 - 128) + b2 - 128) + b3 - 128 < 65536 ∨ 1114111 < 64 * (64 * (64 * (b0 - 240) + b1 - 128) + b2 - 128) + b3 - 128 then 0 else 4)
  else 0

set_option maxRecDepth 100000 in
set_option maxHeartbeats 4000000 in
theorem longN_eq (n b0 b1 b2 b3 : Nat) (hn : 1 ≤ n) (h0 : b0 < 256) (h1 : b1 < 256) (h2 : b2 < 256) (h3 : b3 < 256) :
    longN n b0 b1 b2 b3 = if decodeN n b0 b1 b2 b3 = (65533, 1) then 0 else (decodeN n b0 b1 b2 b3).2 := by
  unfold longN decodeN
  by_cases a : b0 < 128
  · simp [a]; omega
  by_cases b : b0 / 32 = 6
  · by_cases c : 194 ≤ b0
    · repeat' split
      all_goals (first | rfl | (exfalso; omega) | (simp_all; done) | (exfalso; simp_all; omega))
    · repeat' split
      all_goals (first | rfl | (exfalso; omega) | (simp_all; done) | (exfalso; simp_all; omega))
  by_cases b : b0 / 16 = 14
  · repeat' split
    all_goals (first | rfl | (exfalso; omega) | (simp_all; done) | (exfalso; simp_all; omega))
  by_cases b : b0 / 8 = 30
  · repeat' split
    all_goals (first | rfl | (exfalso; omega) | (simp_all; done) | (exfalso; simp_all; omega))
  · repeat' split
    all_goals (first | rfl | (exfalso; omega) | (simp_all; done) | (exfalso; simp_all; omega))
end Go.Proofs.YtpmfbmigdpmloaaGreatDoor
