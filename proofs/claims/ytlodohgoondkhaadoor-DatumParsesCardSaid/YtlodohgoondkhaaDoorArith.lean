/-
  Plain mathematics: checked sums, differences, products, quotients and rests of 64-bit numbers; signs of bit operations. Condition: the numbers are 64-bit numbers.
-/
import Derived.Laws.BitsAllLaws
import Derived.IntWalk
import Derived.WalkArith
set_option linter.unusedVariables false
set_option linter.unusedSimpArgs false
namespace Go.Proofs.YtlodohgoondkhaaDoor
open Go Go.RowKit

/-- A 64-bit number. -/
def I64 (z : Int) : Prop := -9223372036854775808 ≤ z ∧ z ≤ 9223372036854775807
instance (z : Int) : Decidable (I64 z) := by unfold I64; infer_instance
/-- A result, if it is a 64-bit number; else the error for too great ones. -/
def capS (z : Int) : Int × Int := if I64 z then (z, 0) else (0, 10)
def sumS (x y : Int) : Int × Int := capS (x + y)
def difS (x y : Int) : Int × Int := capS (x - y)
def mulS (x y : Int) : Int × Int := capS (x * y)
def quoS (x y : Int) : Int × Int := if y = 0 then (0, 11) else capS (x.tdiv y)
def remS (x y : Int) : Int × Int := if y = 0 then (0, 11) else (x.tmod y, 0)

theorem capS_in {z : Int} (h : I64 z) : capS z = (z, 0) := if_pos h
theorem capS_out {z : Int} (h : ¬ I64 z) : capS z = (0, 10) := if_neg h
theorem wrap64_I64 (z : Int) : I64 (wrap64 z) := by unfold I64 wrap64; omega
theorem wrap64_of {z : Int} (h : I64 z) : wrap64 z = z := by unfold I64 at h; unfold wrap64; omega

/-! ### signs of bit operations -/
theorem wrap_toInt (v : BitVec 64) : IntKind.i64.wrap (v.toNat : Int) = v.toInt := by
  rw [BitVec.toInt_eq_toNat_cond]
  have := v.isLt
  simp [IntKind.wrap, IntKind.bits, IntKind.signed]
  split <;> split <;> omega
theorem bits_xor64 (x y : Int) : bits .xor .i64 x y = (BitVec.ofInt 64 x ^^^ BitVec.ofInt 64 y).toInt := wrap_toInt _
theorem bits_and64 (x y : Int) : bits .and .i64 x y = (BitVec.ofInt 64 x &&& BitVec.ofInt 64 y).toInt := wrap_toInt _
theorem toInt_neg (v : BitVec 64) : (v.toInt < 0) = (v.msb = true) := by
  rw [BitVec.msb_eq_toInt]; simp
theorem msb_of {x : Int} (h : I64 x) : (BitVec.ofInt 64 x).msb = decide (x < 0) := by
  rw [BitVec.msb_eq_toInt, BitVec.toInt_ofInt]
  unfold I64 at h
  congr 1
  rw [Int.bmod_def]
  apply propext
  constructor <;> intro hh <;> (split at * <;> omega)
/-- (x ^ n) & (y ^ n) is below 0 just if n's sign is neither x's nor y's. -/
theorem sign_and_xor {x y n : Int} (hx : I64 x) (hy : I64 y) (hn : I64 n) :
    (bits .and .i64 (bits .xor .i64 x n) (bits .xor .i64 y n) < 0) = (((x < 0) ≠ (n < 0)) ∧ ((y < 0) ≠ (n < 0))) := by
  rw [bits_and64, toInt_neg, bits_xor64, bits_xor64, BitVec.ofInt_toInt, BitVec.ofInt_toInt, BitVec.msb_and, BitVec.msb_xor, BitVec.msb_xor, msb_of hx, msb_of hy, msb_of hn]
  by_cases a : x < 0 <;> by_cases b : y < 0 <;> by_cases c : n < 0 <;> simp [a, b, c]

theorem sum_test {x y : Int} (hx : I64 x) (hy : I64 y) : (bits .and .i64 (bits .xor .i64 x (wrap64 (x + y))) (bits .xor .i64 y (wrap64 (x + y))) < 0) = ¬ I64 (x + y) := by
  rw [sign_and_xor hx hy (wrap64_I64 _)]
  unfold I64 at *
  unfold wrap64
  apply propext
  by_cases a : x < 0 <;> by_cases b : y < 0 <;> by_cases c : (x + y + 9223372036854775808) % 18446744073709551616 - 9223372036854775808 < 0 <;> simp only [a, b, c] <;> simp <;> omega
/-- Of a difference: (x ^ y) & (x ^ n). -/
theorem dif_test {x y : Int} (hx : I64 x) (hy : I64 y) : (bits .and .i64 (bits .xor .i64 x y) (bits .xor .i64 x (wrap64 (x - y))) < 0) = ¬ I64 (x - y) := by
  have hn := wrap64_I64 (x - y)
  rw [bits_and64, toInt_neg, bits_xor64, bits_xor64, BitVec.ofInt_toInt, BitVec.ofInt_toInt, BitVec.msb_and, BitVec.msb_xor, BitVec.msb_xor, msb_of hx, msb_of hy, msb_of hn]
  clear hn
  unfold I64 at *
  unfold wrap64
  apply propext
  by_cases a : x < 0 <;> by_cases b : y < 0 <;> by_cases c : (x - y + 9223372036854775808) % 18446744073709551616 - 9223372036854775808 < 0 <;> simp only [a, b, c] <;> simp <;> omega

/-! ### products -/
/-- If the quotient of the wrapped product by one factor is the other one, nothing was wrapped. -/
theorem prod_back {x y : Int} (hx : I64 x) (hy : I64 y) (hy0 : y ≠ 0) (h : (wrap64 (x * y)).tdiv y = x) : I64 (x * y) := by
  have hd := Int.mul_tdiv_add_tmod (wrap64 (x * y)) y
  rw [h] at hd
  have hm : ((wrap64 (x * y)).tmod y).natAbs < y.natAbs := by
    rw [Int.natAbs_tmod]
    exact Nat.mod_lt _ (by omega)
  have hw := wrap64_I64 (x * y)
  rw [Int.mul_comm y x] at hd
  generalize hP : x * y = P at *
  have hc : (wrap64 P - P) % 18446744073709551616 = 0 := by unfold wrap64; omega
  unfold I64 at *
  omega
theorem tdiv_range {n y : Int} (hn : I64 n) (hy0 : y ≠ 0) : -9223372036854775808 ≤ n.tdiv y ∧ n.tdiv y ≤ 9223372036854775808 := by
  have h : (n.tdiv y).natAbs = n.natAbs / y.natAbs := Int.natAbs_tdiv n y
  have h2 : n.natAbs / y.natAbs ≤ n.natAbs := Nat.div_le_self _ _
  unfold I64 at hn
  omega
theorem tdiv_big {n y : Int} (hn : I64 n) (hy0 : y ≠ 0) (h : n.tdiv y = 9223372036854775808) : n = -9223372036854775808 ∧ y = -1 := by
  have h1 : (n.tdiv y).natAbs = n.natAbs / y.natAbs := Int.natAbs_tdiv n y
  rw [h] at h1
  have h2 : n.natAbs / y.natAbs * y.natAbs ≤ n.natAbs := Nat.div_mul_le_self _ _
  rw [← h1] at h2
  unfold I64 at hn
  have hn2 : n.natAbs ≤ 9223372036854775808 := by omega
  have hy1 : y.natAbs = 1 := by
    rcases Nat.lt_or_ge y.natAbs 2 with g | g
    · omega
    · have : 9223372036854775808 * 2 ≤ (9223372036854775808 : Int).natAbs * y.natAbs := Nat.mul_le_mul_left _ g
      omega
  have hcase : y = 1 ∨ y = -1 := by omega
  rcases hcase with rfl | rfl
  · rw [Int.tdiv_one] at h
    omega
  · refine ⟨?_, rfl⟩
    rw [Int.tdiv_neg, Int.tdiv_one] at h
    omega
theorem quot_fits {n y : Int} (hn : I64 n) (hy0 : y ≠ 0) (h : ¬ (n = -9223372036854775808 ∧ y = -1)) : I64 (n.tdiv y) := by
  have h1 := tdiv_range hn hy0
  have h2 : n.tdiv y ≠ 9223372036854775808 := fun e => h (tdiv_big hn hy0 e)
  unfold I64
  omega
/-- The test of a product: y not 0. -/
theorem mul_test {x y : Int} (hx : I64 x) (hy : I64 y) (hy0 : y ≠ 0) :
    (wrap64 ((wrap64 (x * y)).tdiv y) ≠ x ∨ (y = -1 ∧ x = -9223372036854775808)) = ¬ I64 (x * y) := by
  apply propext
  constructor
  · intro h hin
    rw [wrap64_of hin, Int.mul_tdiv_cancel _ hy0, wrap64_of hx] at h
    rcases h with h | ⟨h1, h2⟩
    · exact h rfl
    · subst h1 h2
      unfold I64 at hin
      omega
  · intro hno
    by_cases hb : y = -1 ∧ x = -9223372036854775808
    · exact .inr hb
    · refine .inl fun he => ?_
      have hw := wrap64_I64 (x * y)
      by_cases hq : wrap64 (x * y) = -9223372036854775808 ∧ y = -1
      · obtain ⟨h1, h2⟩ := hq
        subst h2
        rw [h1] at he
        have : x = -9223372036854775808 := by
          rw [← he, Int.tdiv_neg, Int.tdiv_one]
          unfold wrap64
          omega
        exact hb ⟨rfl, this⟩
      · rw [wrap64_of (quot_fits hw hy0 hq)] at he
        exact hno (prod_back hx hy hy0 he)
end Go.Proofs.YtlodohgoondkhaaDoor
