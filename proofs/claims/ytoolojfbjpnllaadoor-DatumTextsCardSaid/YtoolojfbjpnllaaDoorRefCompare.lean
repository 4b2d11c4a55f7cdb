/-
  What the document's own Compare answers, at this program. Condition: the texts have at most 2^47 bytes.
-/
import Derived.Test.YtoolojfbjpnllaaDoorRefCmpC
import Derived.Test.YtoolojfbjpnllaaDoorRefCmp
import Derived.Test.YtoolojfbjpnllaaDoorCmpAll
import Derived.Test.YtoolojfbjpnllaaDoorOrd
set_option linter.unusedVariables false
set_option linter.unusedSimpArgs false
namespace Go.Proofs.YtoolojfbjpnllaaDoor
open Go.RowKit Go.Lib

/-- Compare, of all data, by every operator. -/
theorem refCompare_any (op : Int) (k0 : Int) (b0 : Bool) (n0 : Int) (s0 : ByteArray) (k1 : Int) (b1 : Bool) (n1 : Int) (s1 : ByteArray) (w : World) (hs0 : s0.size ≤ 140737488355328) (hs1 : s1.size ≤ 140737488355328) :
    Calls Tryd.prog 42 #[.int .u8 op, .agg #[.int .u8 k0, .bool b0, .int .i64 n0, .string s0], .agg #[.int .u8 k1, .bool b1, .int .i64 n1, .string s1]] w fun e w' => e = .returned (refV (compareS op ⟨k0, b0, n0, s0⟩ ⟨k1, b1, n1, s1⟩)) ∧ Below w.heap.size w w' := by
  by_cases ho : op < 11 ∨ 16 < op
  · rw [refV_mk (show compareS op ⟨k0, b0, n0, s0⟩ ⟨k1, b1, n1, s1⟩ = (zeroD, 13) by unfold compareS; rw [if_pos ho])]
    rcases ho with h | h
    · exact refCompare_lo op k0 b0 n0 s0 k1 b1 n1 s1 w hs0 hs1 h
    · exact refCompare_hi op k0 b0 n0 s0 k1 b1 n1 s1 w hs0 hs1 h
  have ho' : 11 ≤ op ∧ op ≤ 16 := by omega
  by_cases hA : chk ⟨k0, b0, n0, s0⟩ = 0
  case neg =>
    rw [refV_mk (show compareS op ⟨k0, b0, n0, s0⟩ ⟨k1, b1, n1, s1⟩ = (zeroD, 13) by unfold compareS okD; rw [if_neg ho, if_pos (.inl (by simpa using hA))])]
    exact refCompare_a op k0 b0 n0 s0 k1 b1 n1 s1 w hs0 hs1 ho' hA
  by_cases hB : chk ⟨k1, b1, n1, s1⟩ = 0
  case neg =>
    rw [refV_mk (show compareS op ⟨k0, b0, n0, s0⟩ ⟨k1, b1, n1, s1⟩ = (zeroD, 13) by unfold compareS okD; rw [if_neg ho, if_pos (.inr (by simpa using hB))])]
    exact refCompare_b op k0 b0 n0 s0 k1 b1 n1 s1 w hs0 hs1 ho' hA hB
  have hok : ¬ (okD ⟨k0, b0, n0, s0⟩ = false ∨ okD ⟨k1, b1, n1, s1⟩ = false) := by unfold okD; simp [hA, hB]
  by_cases h1 : k0 = 1
  · rw [refV_mk (show compareS op ⟨k0, b0, n0, s0⟩ ⟨k1, b1, n1, s1⟩ = (nullD, 0) by unfold compareS; rw [if_neg ho, if_neg hok, if_pos (.inl h1)])]
    exact refCompare_na op k0 b0 n0 s0 k1 b1 n1 s1 w hs0 hs1 ho' hA hB h1
  by_cases h2 : k1 = 1
  · rw [refV_mk (show compareS op ⟨k0, b0, n0, s0⟩ ⟨k1, b1, n1, s1⟩ = (nullD, 0) by unfold compareS; rw [if_neg ho, if_neg hok, if_pos (.inr h2)])]
    exact refCompare_nb op k0 b0 n0 s0 k1 b1 n1 s1 w hs0 hs1 ho' hA hB h1 h2
  have hn : ¬ (k0 = 1 ∨ k1 = 1) := by omega
  by_cases hk : k0 = k1
  case neg =>
    rw [refV_mk (show compareS op ⟨k0, b0, n0, s0⟩ ⟨k1, b1, n1, s1⟩ = (zeroD, 13) by unfold compareS; rw [if_neg ho, if_neg hok, if_neg hn, if_pos hk])]
    exact refCompare_k op k0 b0 n0 s0 k1 b1 n1 s1 w hs0 hs1 ho' hA hB h1 h2 hk
  have hr := cmpS_range ⟨k0, b0, n0, s0⟩ ⟨k1, b1, n1, s1⟩
  have hmk : compareS op ⟨k0, b0, n0, s0⟩ ⟨k1, b1, n1, s1⟩ = (boolD (holdsS op (cmpS ⟨k0, b0, n0, s0⟩ ⟨k1, b1, n1, s1⟩)), 0) := by unfold compareS; rw [if_neg ho, if_neg hok, if_neg hn, if_neg (by simpa using hk)]
  rw [refV_mk hmk]
  rcases (show cmpS ⟨k0, b0, n0, s0⟩ ⟨k1, b1, n1, s1⟩ = -1 ∨ cmpS ⟨k0, b0, n0, s0⟩ ⟨k1, b1, n1, s1⟩ = 0 ∨ cmpS ⟨k0, b0, n0, s0⟩ ⟨k1, b1, n1, s1⟩ = 1 by omega) with hc | hc | hc <;> rw [hc] <;> rcases (show op = 11 ∨ op = 12 ∨ op = 13 ∨ op = 14 ∨ op = 15 ∨ op = 16 by omega) with rfl | rfl | rfl | rfl | rfl | rfl
  · exact refCompare_0_0 k0 b0 n0 s0 k1 b1 n1 s1 w hs0 hs1 hA hB h1 h2 hk hc
  · exact refCompare_0_1 k0 b0 n0 s0 k1 b1 n1 s1 w hs0 hs1 hA hB h1 h2 hk hc
  · exact refCompare_0_2 k0 b0 n0 s0 k1 b1 n1 s1 w hs0 hs1 hA hB h1 h2 hk hc
  · exact refCompare_0_3 k0 b0 n0 s0 k1 b1 n1 s1 w hs0 hs1 hA hB h1 h2 hk hc
  · exact refCompare_0_4 k0 b0 n0 s0 k1 b1 n1 s1 w hs0 hs1 hA hB h1 h2 hk hc
  · exact refCompare_0_5 k0 b0 n0 s0 k1 b1 n1 s1 w hs0 hs1 hA hB h1 h2 hk hc
  · exact refCompare_1_0 k0 b0 n0 s0 k1 b1 n1 s1 w hs0 hs1 hA hB h1 h2 hk hc
  · exact refCompare_1_1 k0 b0 n0 s0 k1 b1 n1 s1 w hs0 hs1 hA hB h1 h2 hk hc
  · exact refCompare_1_2 k0 b0 n0 s0 k1 b1 n1 s1 w hs0 hs1 hA hB h1 h2 hk hc
  · exact refCompare_1_3 k0 b0 n0 s0 k1 b1 n1 s1 w hs0 hs1 hA hB h1 h2 hk hc
  · exact refCompare_1_4 k0 b0 n0 s0 k1 b1 n1 s1 w hs0 hs1 hA hB h1 h2 hk hc
  · exact refCompare_1_5 k0 b0 n0 s0 k1 b1 n1 s1 w hs0 hs1 hA hB h1 h2 hk hc
  · exact refCompare_2_0 k0 b0 n0 s0 k1 b1 n1 s1 w hs0 hs1 hA hB h1 h2 hk hc
  · exact refCompare_2_1 k0 b0 n0 s0 k1 b1 n1 s1 w hs0 hs1 hA hB h1 h2 hk hc
  · exact refCompare_2_2 k0 b0 n0 s0 k1 b1 n1 s1 w hs0 hs1 hA hB h1 h2 hk hc
  · exact refCompare_2_3 k0 b0 n0 s0 k1 b1 n1 s1 w hs0 hs1 hA hB h1 h2 hk hc
  · exact refCompare_2_4 k0 b0 n0 s0 k1 b1 n1 s1 w hs0 hs1 hA hB h1 h2 hk hc
  · exact refCompare_2_5 k0 b0 n0 s0 k1 b1 n1 s1 w hs0 hs1 hA hB h1 h2 hk hc
end Go.Proofs.YtoolojfbjpnllaaDoor
