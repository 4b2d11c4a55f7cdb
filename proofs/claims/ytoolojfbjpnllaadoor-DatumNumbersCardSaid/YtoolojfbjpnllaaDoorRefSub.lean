/-
  What the document's own Sub answers, at this program. Condition: the texts have at most 2^47 bytes, the numbers are 64-bit numbers.
-/
import Derived.Test.YtoolojfbjpnllaaDoorRefSub0
import Derived.Test.YtoolojfbjpnllaaDoorRefSub1
import Derived.Test.YtoolojfbjpnllaaDoorRefSub2
set_option linter.unusedVariables false
set_option linter.unusedSimpArgs false
namespace Go.Proofs.YtoolojfbjpnllaaDoor
open Go.RowKit Go.Lib

/-- Sub, of all data. -/
theorem refSub_any (k0 : Int) (b0 : Bool) (n0 : Int) (s0 : ByteArray) (k1 : Int) (b1 : Bool) (n1 : Int) (s1 : ByteArray) (w : World) (hs0 : s0.size ≤ 140737488355328) (hs1 : s1.size ≤ 140737488355328) (hn0 : I64 n0) (hn1 : I64 n1) :
    Calls Tryd.prog 33 #[.agg #[.int .u8 k0, .bool b0, .int .i64 n0, .string s0], .agg #[.int .u8 k1, .bool b1, .int .i64 n1, .string s1]] w fun e w' => e = .returned (refV (numS ⟨k0, b0, n0, s0⟩ ⟨k1, b1, n1, s1⟩ (difS n0 n1))) ∧ Below w.heap.size w w' := by
  have h0 := hn0; have h1 := hn1
  unfold I64 at h0 h1
  have hw : wrap64 (n0 - n1) = (n0 - n1 + 9223372036854775808) % 18446744073709551616 - 9223372036854775808 := by unfold wrap64; rfl
  by_cases ha : 0 ≤ n0
  · by_cases hb1 : 0 ≤ n1
    · rw [numS_congr (r := difS n0 n1) (r' := (wrap64 (n0 - n1), 0)) (by unfold difS; rw [capS_in (by unfold I64; omega)]) (by unfold difS; rw [capS_in (by unfold I64; omega)]; intro _; simp only; omega)]
      exact refSub_pp k0 b0 n0 s0 k1 b1 n1 s1 w hs0 hs1 ha hb1
    · by_cases hc : 0 ≤ wrap64 (n0 - n1)
      · rw [numS_congr (r := difS n0 n1) (r' := (wrap64 (n0 - n1), 0)) (by unfold difS; rw [capS_in (by unfold I64; omega)]) (by unfold difS; rw [capS_in (by unfold I64; omega)]; intro _; simp only; omega)]
        exact refSub_pnp k0 b0 n0 s0 k1 b1 n1 s1 w hs0 hs1 ha (by omega) hc
      · rw [numS_congr (r := difS n0 n1) (r' := (wrap64 (n0 - n1), 10)) (by unfold difS; rw [capS_out (by unfold I64; omega)]) (by unfold difS; rw [capS_out (by unfold I64; omega)]; intro h; cases h)]
        exact refSub_pnn k0 b0 n0 s0 k1 b1 n1 s1 w hs0 hs1 ha (by omega) (by omega)
  · by_cases hb1 : 0 < n1
    · by_cases hc : 0 ≤ wrap64 (n0 - n1)
      · rw [numS_congr (r := difS n0 n1) (r' := (wrap64 (n0 - n1), 10)) (by unfold difS; rw [capS_out (by unfold I64; omega)]) (by unfold difS; rw [capS_out (by unfold I64; omega)]; intro h; cases h)]
        exact refSub_npp k0 b0 n0 s0 k1 b1 n1 s1 w hs0 hs1 (by omega) hb1 hc
      · rw [numS_congr (r := difS n0 n1) (r' := (wrap64 (n0 - n1), 0)) (by unfold difS; rw [capS_in (by unfold I64; omega)]) (by unfold difS; rw [capS_in (by unfold I64; omega)]; intro _; simp only; omega)]
        exact refSub_npn k0 b0 n0 s0 k1 b1 n1 s1 w hs0 hs1 (by omega) hb1 (by omega)
    · rw [numS_congr (r := difS n0 n1) (r' := (wrap64 (n0 - n1), 0)) (by unfold difS; rw [capS_in (by unfold I64; omega)]) (by unfold difS; rw [capS_in (by unfold I64; omega)]; intro _; simp only; omega)]
      exact refSub_nn k0 b0 n0 s0 k1 b1 n1 s1 w hs0 hs1 (by omega) (by omega)
end Go.Proofs.YtoolojfbjpnllaaDoor
