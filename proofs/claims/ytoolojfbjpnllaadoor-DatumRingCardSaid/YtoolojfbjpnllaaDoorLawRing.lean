/-
  The law DatumRing answers true, at this program, at all numbers. Condition: the tables of Go's library lie as their initialisers lay them; both are 64-bit numbers.
-/
import Derived.Test.YtoolojfbjpnllaaDoorRingA
import Derived.Test.YtoolojfbjpnllaaDoorRingB
import Derived.Test.YtoolojfbjpnllaaDoorRingC
import Derived.Test.YtoolojfbjpnllaaDoorRingD
import Derived.Test.YtoolojfbjpnllaaDoorRingE
import Derived.Test.YtoolojfbjpnllaaDoorRingF
set_option linter.unusedVariables false
set_option linter.unusedSimpArgs false
namespace Go.Proofs.YtoolojfbjpnllaaDoor
open Go.RowKit Go.Lib

theorem ring_any (n m : Int) (w : World) (hT : Tabs w) (hn : I64 n) (hm : I64 m) :
    Calls Tryd.prog 10 #[.int .i64 n, .int .i64 m] w fun e w' => e = .returned (.bool true) ∧ Below w.heap.size w w' := by
  by_cases hsum : I64 (n + m)
  · by_cases h0 : m = 0
    · exact ring_zero_ok n m w hT hn hm h0 hsum
    · by_cases hov : n = -9223372036854775808 ∧ m = -1
      · exact ring_over_ok n m w hT hn hm hov.1 hov.2 hsum
      · have hq := quot_fits hn h0 hov
        obtain ⟨_, hr⟩ := rest_facts hn hm h0
        rcases (show m < 0 ∨ 0 ≤ m by omega) with hm0 | hm0
        · rcases hr with hr | hr | hr
          · exact ring_ok_zn n m w hT hn hm h0 hq hsum hr hm0
          · exact ring_ok_nn n m w hT hn hm h0 hq hsum hr hm0
          · exact ring_ok_pn n m w hT hn hm h0 hq hsum hr hm0
        · rcases hr with hr | hr | hr
          · exact ring_ok_zp n m w hT hn hm h0 hq hsum hr (by omega)
          · exact ring_ok_np n m w hT hn hm h0 hq hsum hr (by omega)
          · exact ring_ok_pp n m w hT hn hm h0 hq hsum hr (by omega)
  · by_cases h0 : m = 0
    · exact ring_zero_bad n m w hT hn hm h0 hsum
    · by_cases hov : n = -9223372036854775808 ∧ m = -1
      · exact ring_over_bad n m w hT hn hm hov.1 hov.2 hsum
      · have hq := quot_fits hn h0 hov
        obtain ⟨_, hr⟩ := rest_facts hn hm h0
        rcases (show m < 0 ∨ 0 ≤ m by omega) with hm0 | hm0
        · rcases hr with hr | hr | hr
          · exact ring_bad_zn n m w hT hn hm h0 hq hsum hr hm0
          · exact ring_bad_nn n m w hT hn hm h0 hq hsum hr hm0
          · exact ring_bad_pn n m w hT hn hm h0 hq hsum hr hm0
        · rcases hr with hr | hr | hr
          · exact ring_bad_zp n m w hT hn hm h0 hq hsum hr (by omega)
          · exact ring_bad_np n m w hT hn hm h0 hq hsum hr (by omega)
          · exact ring_bad_pp n m w hT hn hm h0 hq hsum hr (by omega)
end Go.Proofs.YtoolojfbjpnllaaDoor
