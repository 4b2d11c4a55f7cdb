/-
  What the document's own Div answers, at this program. Condition: the texts have at most 2^47 bytes, the numbers are 64-bit numbers.
-/
import Derived.Test.YtoolojfbjpnllaaDoorRefDiv0
import Derived.Test.YtoolojfbjpnllaaDoorRefDiv1
set_option linter.unusedVariables false
set_option linter.unusedSimpArgs false
namespace Go.Proofs.YtoolojfbjpnllaaDoor
open Go.RowKit Go.Lib

/-- Div, of all data. -/
theorem refDiv_any (k0 : Int) (b0 : Bool) (n0 : Int) (s0 : ByteArray) (k1 : Int) (b1 : Bool) (n1 : Int) (s1 : ByteArray) (w : World) (hs0 : s0.size ≤ 140737488355328) (hs1 : s1.size ≤ 140737488355328) (hn0 : I64 n0) (hn1 : I64 n1) :
    Calls Tryd.prog 35 #[.agg #[.int .u8 k0, .bool b0, .int .i64 n0, .string s0], .agg #[.int .u8 k1, .bool b1, .int .i64 n1, .string s1]] w fun e w' => e = .returned (refV (numS ⟨k0, b0, n0, s0⟩ ⟨k1, b1, n1, s1⟩ (quoS n0 n1))) ∧ Below w.heap.size w w' := by
  by_cases hz : n1 = 0
  · rw [show quoS n0 n1 = (0, 11) by unfold quoS; rw [if_pos hz]]
    exact refDiv_zero k0 b0 n0 s0 k1 b1 n1 s1 w hs0 hs1 hz
  have hq : quoS n0 n1 = capS (n0.tdiv n1) := by unfold quoS; rw [if_neg hz]
  rw [hq]
  by_cases hC : n1 = -1
  · have ht : n0.tdiv n1 = -n0 := by rw [hC, Int.tdiv_neg, Int.tdiv_one]
    rw [ht]
    by_cases hL : n0 = -9223372036854775808
    · have hI : ¬ I64 (-n0) := by unfold I64; omega
      rw [numS_congr (r := capS (-n0)) (r' := (wrap64 (-n0), 10)) (by rw [capS_out hI]) (by rw [capS_out hI]; intro h; cases h)]
      exact refDiv_least k0 b0 n0 s0 k1 b1 n1 s1 w hs0 hs1 ⟨hC, hL⟩
    · have hI : I64 (-n0) := by unfold I64 at *; omega
      rw [numS_congr (r := capS (-n0)) (r' := (wrap64 (-n0), 0)) (by rw [capS_in hI]) (by rw [capS_in hI]; intro _; exact (wrap64_of hI).symm)]
      exact refDiv_other k0 b0 n0 s0 k1 b1 n1 s1 w hs0 hs1 ⟨hC, hL⟩
  · have hI : I64 (n0.tdiv n1) := quot_fits hn0 hz (fun h => hC h.2)
    rw [numS_congr (r := capS (n0.tdiv n1)) (r' := (wrap64 (n0.tdiv n1), 0)) (by rw [capS_in hI]) (by rw [capS_in hI]; intro _; exact (wrap64_of hI).symm)]
    exact refDiv_go k0 b0 n0 s0 k1 b1 n1 s1 w hs0 hs1 ⟨hz, hC⟩
end Go.Proofs.YtoolojfbjpnllaaDoor
