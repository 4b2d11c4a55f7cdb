/-
  What datum.sum, difference, product, quotient and remainder answer, at this program. Condition: both numbers are 64-bit numbers.
-/
import Derived.Test.YtlodohgoondkhaaDoorProg
import Derived.Test.YtlodohgoondkhaaDoorArith
import Derived.WalkKit
import Derived.WalkLawsBesides
import Derived.WalkSpells
import Derived.Handy
import Derived.Lib.Hide
set_option linter.unusedVariables false
set_option linter.unusedSimpArgs false
namespace Go.Proofs.YtlodohgoondkhaaDoor
open Go.RowKit Go.Lib

theorem ret_pair {a b : Int} {c d : Int} (h : a = b) (h2 : c = d) : Ending.returned (.tuple #[.int .i64 a, .int .u16 c]) = .returned (.tuple #[.int .i64 b, .int .u16 d]) := by rw [h, h2]

set_option maxHeartbeats 1000000 in
theorem sum_any (x y : Int) (w : World) (hx : I64 x) (hy : I64 y) :
    Calls Tryd.prog 72 #[.int .i64 x, .int .i64 y] w fun e w' => e = .returned (.tuple #[.int .i64 (sumS x y).1, .int .u16 (sumS x y).2]) ∧ w = w' := by
  have ht := sum_test hx hy
  by_cases h : I64 (x + y)
  · have hr := Lib.hid (show sumS x y = (x + y, 0) from capS_in h)
    have hw := Lib.hid (wrap64_of h)
    have hb : ¬ (bits .and .i64 (bits .xor .i64 x (wrap64 (x + y))) (bits .xor .i64 y (wrap64 (x + y))) < 0) := by rw [ht]; exact not_not_intro h
    clear ht h hx hy
    go_enter Tryd.func72, Tryd.ntmps72
    go_wp2
    go_ret2
    exact ⟨ret_pair (by rw [hr.out, hw.out]) (by rw [hr.out]), rfl⟩
  · have hr := Lib.hid (show sumS x y = (0, 10) from capS_out h)
    have hb : (bits .and .i64 (bits .xor .i64 x (wrap64 (x + y))) (bits .xor .i64 y (wrap64 (x + y))) < 0) := by rw [ht]; exact h
    clear ht h hx hy
    go_enter Tryd.func72, Tryd.ntmps72
    go_wp2
    go_ret2
    exact ⟨ret_pair (by rw [hr.out]) (by rw [hr.out]), rfl⟩

set_option maxHeartbeats 1000000 in
theorem difference_any (x y : Int) (w : World) (hx : I64 x) (hy : I64 y) :
    Calls Tryd.prog 71 #[.int .i64 x, .int .i64 y] w fun e w' => e = .returned (.tuple #[.int .i64 (difS x y).1, .int .u16 (difS x y).2]) ∧ w = w' := by
  have ht := dif_test hx hy
  by_cases h : I64 (x - y)
  · have hr := Lib.hid (show difS x y = (x - y, 0) from capS_in h)
    have hw := Lib.hid (wrap64_of h)
    have hb : ¬ (bits .and .i64 (bits .xor .i64 x y) (bits .xor .i64 x (wrap64 (x - y))) < 0) := by rw [ht]; exact not_not_intro h
    clear ht h hx hy
    go_enter Tryd.func71, Tryd.ntmps71
    go_wp2
    go_ret2
    exact ⟨ret_pair (by rw [hr.out, hw.out]) (by rw [hr.out]), rfl⟩
  · have hr := Lib.hid (show difS x y = (0, 10) from capS_out h)
    have hb : (bits .and .i64 (bits .xor .i64 x y) (bits .xor .i64 x (wrap64 (x - y))) < 0) := by rw [ht]; exact h
    clear ht h hx hy
    go_enter Tryd.func71, Tryd.ntmps71
    go_wp2
    go_ret2
    exact ⟨ret_pair (by rw [hr.out]) (by rw [hr.out]), rfl⟩

set_option maxHeartbeats 1000000 in
theorem product_any (x y : Int) (w : World) (hx : I64 x) (hy : I64 y) :
    Calls Tryd.prog 73 #[.int .i64 x, .int .i64 y] w fun e w' => e = .returned (.tuple #[.int .i64 (mulS x y).1, .int .u16 (mulS x y).2]) ∧ w = w' := by
  by_cases h0 : x = 0
  · subst h0
    have hr := Lib.hid (show mulS 0 y = (0, 0) by unfold mulS; rw [Int.zero_mul]; exact capS_in (by decide))
    clear hx hy
    go_enter Tryd.func73, Tryd.ntmps73
    go_wp2
    go_ret2
    exact ⟨ret_pair (by rw [hr.out]) (by rw [hr.out]), rfl⟩
  by_cases h1 : y = 0
  · subst h1
    have hr := Lib.hid (show mulS x 0 = (0, 0) by unfold mulS; rw [Int.mul_zero]; exact capS_in (by decide))
    clear hx hy
    go_enter Tryd.func73, Tryd.ntmps73
    go_wp2
    go_ret2
    exact ⟨ret_pair (by rw [hr.out]) (by rw [hr.out]), rfl⟩
  have h0b : (x == 0) = false := by simpa using h0
  have h1b : (y == 0) = false := by simpa using h1
  by_cases hy1 : y = -1
  · subst hy1
    have hbx : (wrap64 (-wrap64 (-x)) != x) = false := by
      have : wrap64 (-wrap64 (-x)) = x := by unfold I64 at hx; unfold wrap64; omega
      simpa using this
    by_cases hm : x = -9223372036854775808
    · have hr := Lib.hid (show mulS x (-1) = (0, 10) from capS_out (by unfold I64; omega))
      have hmb : (x == -9223372036854775808) = true := by simpa using hm
      clear hx hy hm h0 h1 h1b
      go_enter Tryd.func73, Tryd.ntmps73
      go_wp2
      go_ret2
      exact ⟨ret_pair (by rw [hr.out]) (by rw [hr.out]), rfl⟩
    · have hI : I64 (x * -1) := by unfold I64 at *; omega
      have hr := Lib.hid (show mulS x (-1) = (x * -1, 0) from capS_in hI)
      have hw := Lib.hid (show wrap64 (-x) = x * -1 by rw [← wrap64_of hI]; congr 1; omega)
      have hmb : (x == -9223372036854775808) = false := by simpa using hm
      clear hx hy hm h0 h1 h1b hI
      go_enter Tryd.func73, Tryd.ntmps73
      go_wp2
      go_ret2
      exact ⟨ret_pair (by rw [hr.out, hw.out]) (by rw [hr.out]), rfl⟩
  · have ht := mul_test hx hy h1
    have hy1b : (y == -1) = false := by simpa using hy1
    by_cases h : I64 (x * y)
    · have hr := Lib.hid (show mulS x y = (x * y, 0) from capS_in h)
      have hw := Lib.hid (wrap64_of h)
      have hn : ¬ (wrap64 ((wrap64 (x * y)).tdiv y) ≠ x ∨ (y = -1 ∧ x = -9223372036854775808)) := by rw [ht]; exact not_not_intro h
      have hb : (wrap64 ((wrap64 (x * y)).tdiv y) != x) = false := by
        have : wrap64 ((wrap64 (x * y)).tdiv y) = x := Classical.byContradiction fun hh => hn (.inl hh)
        simpa using this
      have h1p : ¬ y = 0 := h1
      clear ht h hx hy hn hy1 h0
      go_enter Tryd.func73, Tryd.ntmps73
      go_wp2
      go_ret2
      exact ⟨ret_pair (by rw [hr.out, hw.out]) (by rw [hr.out]), rfl⟩
    · have hr := Lib.hid (show mulS x y = (0, 10) from capS_out h)
      have hn : (wrap64 ((wrap64 (x * y)).tdiv y) ≠ x ∨ (y = -1 ∧ x = -9223372036854775808)) := by rw [ht]; exact h
      have hb : (wrap64 ((wrap64 (x * y)).tdiv y) != x) = true := by
        have := hn.resolve_right (fun hh => hy1 hh.1)
        simpa using this
      clear ht h hx hy hn hy1 h0
      go_enter Tryd.func73, Tryd.ntmps73
      go_wp2
      go_ret2
      exact ⟨ret_pair (by rw [hr.out]) (by rw [hr.out]), rfl⟩

set_option maxHeartbeats 1000000 in
theorem quotient_any (x y : Int) (w : World) (hx : I64 x) (hy : I64 y) :
    Calls Tryd.prog 74 #[.int .i64 x, .int .i64 y] w fun e w' => e = .returned (.tuple #[.int .i64 (quoS x y).1, .int .u16 (quoS x y).2]) ∧ w = w' := by
  by_cases h1 : y = 0
  · subst h1
    have hr := Lib.hid (show quoS x 0 = (0, 11) from if_pos rfl)
    clear hx hy
    go_enter Tryd.func74, Tryd.ntmps74
    go_wp2
    go_ret2
    exact ⟨ret_pair (by rw [hr.out]) (by rw [hr.out]), rfl⟩
  by_cases hm : x = -9223372036854775808 ∧ y = -1
  · obtain ⟨rfl, rfl⟩ := hm
    have hr := Lib.hid (show quoS (-9223372036854775808) (-1) = (0, 10) by
      unfold quoS; rw [if_neg (by decide), Int.tdiv_neg, Int.tdiv_one]; exact capS_out (by unfold I64; omega))
    clear hx hy
    go_enter Tryd.func74, Tryd.ntmps74
    go_wp2
    go_ret2
    exact ⟨ret_pair (by rw [hr.out]) (by rw [hr.out]), rfl⟩
  · have hq := quot_fits hx h1 hm
    have hr := Lib.hid (show quoS x y = (x.tdiv y, 0) by unfold quoS; rw [if_neg h1]; exact capS_in hq)
    have hw := Lib.hid (wrap64_of hq)
    have hmH := Lib.hid hm
    clear hx hy hq hm
    by_cases hx1 : x = -9223372036854775808
    · have hy1 : (y == -1) = false := by
        have : y ≠ -1 := fun e => hmH.out ⟨hx1, e⟩
        simpa using this
      have hx2 : (x == -9223372036854775808) = true := by simpa using hx1
      clear hx1
      go_enter Tryd.func74, Tryd.ntmps74
      go_wp2
      go_ret2
      exact ⟨ret_pair (by rw [hr.out, hw.out]) (by rw [hr.out]), rfl⟩
    · have hx2 : (x == -9223372036854775808) = false := by simpa using hx1
      clear hx1
      go_enter Tryd.func74, Tryd.ntmps74
      go_wp2
      go_ret2
      exact ⟨ret_pair (by rw [hr.out, hw.out]) (by rw [hr.out]), rfl⟩

theorem rem_fits {x y : Int} (hx : I64 x) (hy : I64 y) (h : y ≠ 0) : I64 (x.tmod y) := by
  have hm : (x.tmod y).natAbs < y.natAbs := by
    rw [Int.natAbs_tmod]
    exact Nat.mod_lt _ (by omega)
  unfold I64 at *
  omega
set_option maxHeartbeats 1000000 in
theorem remainder_any (x y : Int) (w : World) (hx : I64 x) (hy : I64 y) :
    Calls Tryd.prog 75 #[.int .i64 x, .int .i64 y] w fun e w' => e = .returned (.tuple #[.int .i64 (remS x y).1, .int .u16 (remS x y).2]) ∧ w = w' := by
  by_cases h1 : y = 0
  · subst h1
    have hr := Lib.hid (show remS x 0 = (0, 11) from if_pos rfl)
    clear hx hy
    go_enter Tryd.func75, Tryd.ntmps75
    go_wp2
    go_ret2
    exact ⟨ret_pair (by rw [hr.out]) (by rw [hr.out]), rfl⟩
  · have hr := Lib.hid (show remS x y = (x.tmod y, 0) from if_neg h1)
    clear hx hy
    go_enter Tryd.func75, Tryd.ntmps75
    go_wp2
    go_ret2
    exact ⟨ret_pair (by rw [hr.out]) (by rw [hr.out]), rfl⟩
end Go.Proofs.YtlodohgoondkhaaDoor
