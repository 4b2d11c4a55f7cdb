/-
  What the document's own Mul answers, at this program. Condition: the texts have at most 2^47 bytes, the numbers are 64-bit numbers.
-/
import Derived.Test.YtoolojfbjpnllaaDoorRefMul0
import Derived.Test.YtoolojfbjpnllaaDoorRefMul1
import Derived.Test.YtoolojfbjpnllaaDoorRefMul2
import Derived.Test.YtoolojfbjpnllaaDoorRefMul3
import Derived.Test.YtoolojfbjpnllaaDoorRefMul4
set_option linter.unusedVariables false
set_option linter.unusedSimpArgs false
namespace Go.Proofs.YtoolojfbjpnllaaDoor
open Go.RowKit Go.Lib

/-- Mul, of all data. -/
theorem refMul_any (k0 : Int) (b0 : Bool) (n0 : Int) (s0 : ByteArray) (k1 : Int) (b1 : Bool) (n1 : Int) (s1 : ByteArray) (w : World) (hs0 : s0.size ≤ 140737488355328) (hs1 : s1.size ≤ 140737488355328) (hn0 : I64 n0) (hn1 : I64 n1) :
    Calls Tryd.prog 34 #[.agg #[.int .u8 k0, .bool b0, .int .i64 n0, .string s0], .agg #[.int .u8 k1, .bool b1, .int .i64 n1, .string s1]] w fun e w' => e = .returned (refV (numS ⟨k0, b0, n0, s0⟩ ⟨k1, b1, n1, s1⟩ (mulS n0 n1))) ∧ Below w.heap.size w w' := by
  have h0 := hn0; have h1 := hn1
  unfold I64 at h0 h1
  by_cases hA : n0 = -1
  · by_cases hB : n1 = -9223372036854775808
    · have hI : ¬ I64 (n0 * n1) := by subst hA hB; unfold I64; omega
      rw [numS_congr (r := mulS n0 n1) (r' := (wrap64 (n0 * n1), 10)) (by unfold mulS; rw [capS_out hI]) (by unfold mulS; rw [capS_out hI]; intro h; cases h)]
      exact refMul_a k0 b0 n0 s0 k1 b1 n1 s1 w hs0 hs1 ⟨hA, hB⟩
    · have hI : I64 (n0 * n1) := by subst hA; unfold I64; omega
      rw [numS_congr (r := mulS n0 n1) (r' := (wrap64 (n0 * n1), 0)) (by unfold mulS; rw [capS_in hI]) (by unfold mulS; rw [capS_in hI]; intro _; exact (wrap64_of hI).symm)]
      by_cases hC : n1 = -1
      · exact refMul_b k0 b0 n0 s0 k1 b1 n1 s1 w hs0 hs1 ⟨hA, hC⟩
      · exact refMul_c k0 b0 n0 s0 k1 b1 n1 s1 w hs0 hs1 ⟨hA, hB, hC⟩
  by_cases hZ : n0 = 0
  · have hI : I64 (n0 * n1) := by subst hZ; unfold I64; omega
    rw [numS_congr (r := mulS n0 n1) (r' := (wrap64 (n0 * n1), 0)) (by unfold mulS; rw [capS_in hI]) (by unfold mulS; rw [capS_in hI]; intro _; exact (wrap64_of hI).symm)]
    by_cases hC : n1 = -1
    · exact refMul_e k0 b0 n0 s0 k1 b1 n1 s1 w hs0 hs1 ⟨hZ, hC⟩
    · exact refMul_h k0 b0 n0 s0 k1 b1 n1 s1 w hs0 hs1 ⟨hZ, hC⟩
  have ht := mul_test hn1 hn0 hZ
  rw [Int.mul_comm n1 n0] at ht
  by_cases hC : n1 = -1
  · by_cases hD : n0 = -9223372036854775808
    · have hI : ¬ I64 (n0 * n1) := by subst hC hD; unfold I64; omega
      rw [numS_congr (r := mulS n0 n1) (r' := (wrap64 (n0 * n1), 10)) (by unfold mulS; rw [capS_out hI]) (by unfold mulS; rw [capS_out hI]; intro h; cases h)]
      exact refMul_d k0 b0 n0 s0 k1 b1 n1 s1 w hs0 hs1 ⟨hD, hC⟩
    · by_cases hd : wrap64 ((wrap64 (n0 * n1)).tdiv n0) = n1
      · have hI : I64 (n0 * n1) := Decidable.not_not.1 (fun hI => by rw [← ht] at hI; rcases hI with h | h; exact h hd; exact hA h.1)
        rw [numS_congr (r := mulS n0 n1) (r' := (wrap64 (n0 * n1), 0)) (by unfold mulS; rw [capS_in hI]) (by unfold mulS; rw [capS_in hI]; intro _; exact (wrap64_of hI).symm)]
        exact refMul_g k0 b0 n0 s0 k1 b1 n1 s1 w hs0 hs1 ⟨hD, hZ, hA, hC⟩ hd
      · have hI : ¬ I64 (n0 * n1) := by rw [← ht]; exact .inl hd
        rw [numS_congr (r := mulS n0 n1) (r' := (wrap64 (n0 * n1), 10)) (by unfold mulS; rw [capS_out hI]) (by unfold mulS; rw [capS_out hI]; intro h; cases h)]
        exact refMul_f k0 b0 n0 s0 k1 b1 n1 s1 w hs0 hs1 ⟨hD, hZ, hA, hC⟩ hd
  · by_cases hd : wrap64 ((wrap64 (n0 * n1)).tdiv n0) = n1
    · have hI : I64 (n0 * n1) := Decidable.not_not.1 (fun hI => by rw [← ht] at hI; rcases hI with h | h; exact h hd; exact hA h.1)
      rw [numS_congr (r := mulS n0 n1) (r' := (wrap64 (n0 * n1), 0)) (by unfold mulS; rw [capS_in hI]) (by unfold mulS; rw [capS_in hI]; intro _; exact (wrap64_of hI).symm)]
      exact refMul_j k0 b0 n0 s0 k1 b1 n1 s1 w hs0 hs1 ⟨hZ, hA, hC⟩ hd
    · have hI : ¬ I64 (n0 * n1) := by rw [← ht]; exact .inl hd
      rw [numS_congr (r := mulS n0 n1) (r' := (wrap64 (n0 * n1), 10)) (by unfold mulS; rw [capS_out hI]) (by unfold mulS; rw [capS_out hI]; intro h; cases h)]
      exact refMul_i k0 b0 n0 s0 k1 b1 n1 s1 w hs0 hs1 ⟨hZ, hA, hC⟩ hd
end Go.Proofs.YtoolojfbjpnllaaDoor
