/-
  What the document's own Add answers, at this program. Condition: the texts have at most 2^47 bytes, the numbers are 64-bit numbers.
-/
import Derived.Test.YtoolojfbjpnllaaDoorRefAdd0
import Derived.Test.YtoolojfbjpnllaaDoorRefAdd1
import Derived.Test.YtoolojfbjpnllaaDoorRefAdd2
set_option linter.unusedVariables false
set_option linter.unusedSimpArgs false
namespace Go.Proofs.YtoolojfbjpnllaaDoor
open Go.RowKit Go.Lib

/-- Add, of all data. -/
theorem refAdd_any (k0 : Int) (b0 : Bool) (n0 : Int) (s0 : ByteArray) (k1 : Int) (b1 : Bool) (n1 : Int) (s1 : ByteArray) (w : World) (hs0 : s0.size ≤ 140737488355328) (hs1 : s1.size ≤ 140737488355328) (hn0 : I64 n0) (hn1 : I64 n1) :
    Calls Tryd.prog 32 #[.agg #[.int .u8 k0, .bool b0, .int .i64 n0, .string s0], .agg #[.int .u8 k1, .bool b1, .int .i64 n1, .string s1]] w fun e w' => e = .returned (refV (numS ⟨k0, b0, n0, s0⟩ ⟨k1, b1, n1, s1⟩ (sumS n0 n1))) ∧ Below w.heap.size w w' := by
  have h0 := hn0; have h1 := hn1
  unfold I64 at h0 h1
  have hw : wrap64 (n0 + n1) = (n0 + n1 + 9223372036854775808) % 18446744073709551616 - 9223372036854775808 := by unfold wrap64; rfl
  by_cases ha : 0 ≤ n0
  · by_cases hb1 : 0 ≤ n1
    · by_cases hc : 0 ≤ wrap64 (n0 + n1)
      · rw [numS_congr (r := sumS n0 n1) (r' := (wrap64 (n0 + n1), 0)) (by unfold sumS; rw [capS_in (by unfold I64; omega)]) (by unfold sumS; rw [capS_in (by unfold I64; omega)]; intro _; simp only; omega)]
        exact refAdd_ppp k0 b0 n0 s0 k1 b1 n1 s1 w hs0 hs1 ha hb1 hc
      · rw [numS_congr (r := sumS n0 n1) (r' := (wrap64 (n0 + n1), 10)) (by unfold sumS; rw [capS_out (by unfold I64; omega)]) (by unfold sumS; rw [capS_out (by unfold I64; omega)]; intro h; cases h)]
        exact refAdd_ppn k0 b0 n0 s0 k1 b1 n1 s1 w hs0 hs1 ha hb1 (by omega)
    · rw [numS_congr (r := sumS n0 n1) (r' := (wrap64 (n0 + n1), 0)) (by unfold sumS; rw [capS_in (by unfold I64; omega)]) (by unfold sumS; rw [capS_in (by unfold I64; omega)]; intro _; simp only; omega)]
      exact refAdd_pn k0 b0 n0 s0 k1 b1 n1 s1 w hs0 hs1 ha (by omega)
  · by_cases hb1 : 0 ≤ n1
    · rw [numS_congr (r := sumS n0 n1) (r' := (wrap64 (n0 + n1), 0)) (by unfold sumS; rw [capS_in (by unfold I64; omega)]) (by unfold sumS; rw [capS_in (by unfold I64; omega)]; intro _; simp only; omega)]
      exact refAdd_np k0 b0 n0 s0 k1 b1 n1 s1 w hs0 hs1 (by omega) hb1
    · by_cases hc : 0 ≤ wrap64 (n0 + n1)
      · rw [numS_congr (r := sumS n0 n1) (r' := (wrap64 (n0 + n1), 10)) (by unfold sumS; rw [capS_out (by unfold I64; omega)]) (by unfold sumS; rw [capS_out (by unfold I64; omega)]; intro h; cases h)]
        exact refAdd_nnp k0 b0 n0 s0 k1 b1 n1 s1 w hs0 hs1 (by omega) (by omega) hc
      · rw [numS_congr (r := sumS n0 n1) (r' := (wrap64 (n0 + n1), 0)) (by unfold sumS; rw [capS_in (by unfold I64; omega)]) (by unfold sumS; rw [capS_in (by unfold I64; omega)]; intro _; simp only; omega)]
        exact refAdd_nnn k0 b0 n0 s0 k1 b1 n1 s1 w hs0 hs1 (by omega) (by omega) (by omega)
end Go.Proofs.YtoolojfbjpnllaaDoor
