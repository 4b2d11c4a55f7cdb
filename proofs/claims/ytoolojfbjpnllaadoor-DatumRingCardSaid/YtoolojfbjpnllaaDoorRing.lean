/-
  The law DatumRing answers true, at this program, at all numbers: the plain part. Condition: the tables of Go's library lie as their initialisers lay them; both are 64-bit numbers.
-/
import Derived.Test.YtoolojfbjpnllaaDoorKnown
import Derived.Test.YtoolojfbjpnllaaDoorMem
set_option linter.unusedVariables false
set_option linter.unusedSimpArgs false
namespace Go.Proofs.YtoolojfbjpnllaaDoor
open Go.RowKit Go.Lib

theorem bcell2 {W w1 : World} (hb : Below W.heap.size W w1) : (∀ b o, b < W.heap.size → w1.cell? ⟨b, o, none⟩ = W.cell? ⟨b, o, none⟩) ∧ (∀ b o, b < W.heap.size → w1.frozen? ⟨b, o, none⟩ = W.frozen? ⟨b, o, none⟩) :=
  ⟨fun b o h => hb.cell (p := ⟨b, o, none⟩) h, fun b o h => hb.frozen (p := ⟨b, o, none⟩) h⟩
theorem fits_int (n : Int) : fitsD 3 (intD n) = true := by unfold fitsD; rw [ok_int]; rfl
theorem numS_int_ok {x y : Int} {r : Int × Int} (h : r.2 = 0) : numS ⟨3, false, x, ⟨#[]⟩⟩ ⟨3, false, y, ⟨#[]⟩⟩ r = (⟨3, false, r.1, ⟨#[]⟩⟩, 0) :=
  numS_ok (fits_int x) (fits_int y) (show ¬ (3 : Int) = 1 by decide) (show ¬ (3 : Int) = 1 by decide) h
theorem numS_int_err {x y : Int} {r : Int × Int} (h : ¬ r.2 = 0) : numS ⟨3, false, x, ⟨#[]⟩⟩ ⟨3, false, y, ⟨#[]⟩⟩ r = (⟨0, false, 0, ⟨#[]⟩⟩, r.2) :=
  numS_err (fits_int x) (fits_int y) (show ¬ (3 : Int) = 1 by decide) (show ¬ (3 : Int) = 1 by decide) h
theorem sumS_comm (x y : Int) : sumS x y = sumS y x := by unfold sumS; rw [Int.add_comm]
theorem mulS_comm (x y : Int) : mulS x y = mulS y x := by unfold mulS; rw [Int.mul_comm]
theorem numS_comm_int (x y : Int) (r : Int × Int) : numS ⟨3, false, x, ⟨#[]⟩⟩ ⟨3, false, y, ⟨#[]⟩⟩ r = numS ⟨3, false, y, ⟨#[]⟩⟩ ⟨3, false, x, ⟨#[]⟩⟩ r := by
  by_cases h : r.2 = 0
  · rw [numS_int_ok h, numS_int_ok h]
  · rw [numS_int_err h, numS_int_err h]
/-- The rest of a division: how great it is, and of what sign. -/
theorem rest_facts {n m : Int} (hn : I64 n) (hm : I64 m) (h0 : m ≠ 0) : (n.tmod m).natAbs < m.natAbs ∧ (n.tmod m = 0 ∨ (n.tmod m < 0 ∧ n < 0) ∨ (0 < n.tmod m ∧ 0 < n)) := by
  have h1 : (n.tmod m).natAbs < m.natAbs := by
    rw [Int.natAbs_tmod]
    exact Nat.mod_lt _ (by omega)
  refine ⟨h1, ?_⟩
  rcases Int.lt_trichotomy n 0 with h | h | h
  · have := Int.tmod_nonneg m (show 0 ≤ -n by omega)
    rw [Int.neg_tmod] at this
    omega
  · subst h
    simp
  · have := Int.tmod_nonneg m (show 0 ≤ n by omega)
    omega
theorem quot_back {n m : Int} (hn : I64 n) (hm : I64 m) (h0 : m ≠ 0) : I64 (n.tdiv m * m) ∧ n.tdiv m * m + n.tmod m = n := by
  have h1 := Int.mul_tdiv_add_tmod n m
  rw [Int.mul_comm m] at h1
  obtain ⟨h2, h3⟩ := rest_facts hn hm h0
  refine ⟨?_, h1⟩
  generalize n.tdiv m * m = p at *
  generalize n.tmod m = r at *
  unfold I64 at *
  omega

set_option maxHeartbeats 1000000 in
theorem number_any (n : Int) (w : World) :
    Calls Tryd.prog 49 #[.int .i64 n] w fun e w' => e = .returned (.agg #[.int .u8 3, .bool false, .int .i64 n, .string ⟨#[]⟩]) ∧ Below w.heap.size w w' := by
  go_enter Tryd.func49, Tryd.ntmps49
  go_wp2
  go_returns
  exact ⟨rfl, by go_grown⟩
end Go.Proofs.YtoolojfbjpnllaaDoor
