/-
  What stamp's leaves, grown and at answer, at this program. Conditions: those written.
-/
import Derived.Test.YtkpjbmbdndkalaaDoorStV
import Derived.BigQuiet
import Derived.Deep.RegionHeld3
set_option linter.unusedVariables false
set_option linter.unusedSimpArgs false
namespace Go.Proofs.YtkpjbmbdndkalaaDoor
open Go.RowKit Go.Lib

set_option maxHeartbeats 4000000 in
set_option maxRecDepth 100000 in
theorem leaves_any (v : Value) (p : Pt) (d : Int) (w : World) (hv : PtV w v p) :
    Calls Tryd.prog 61 #[v, .int .i64 d] w fun e w' => e = .returned (.bool (leavesB p d)) ∧ Below w.heap.size w w' := by
  obtain ⟨lv, ad, en⟩ := p
  obtain ⟨s, rfl, hs⟩ := hv
  simp only at hs ⊢
  obtain ⟨r, hr⟩ : ∃ r, leavesB ⟨lv, ad, en⟩ d = r := ⟨_, rfl⟩
  rw [hr]
  unfold leavesB at hr
  simp only at hr
  have hrH := Lib.hid hr
  clear hr hs
  by_cases h1 : 0 ≤ lv
  · by_cases h2 : lv ≤ d
    · go_enter Tryd.func61, Tryd.ntmps61
      go_wp2_with fail
      go_ret
      exact ⟨ret_bool (by rw [← hrH.out]; simp [h1, h2]), by go_grown⟩
    · go_enter Tryd.func61, Tryd.ntmps61
      go_wp2_with fail
      go_ret
      exact ⟨ret_bool (by rw [← hrH.out]; simp; omega), by go_grown⟩
  · go_enter Tryd.func61, Tryd.ntmps61
    go_wp2_with fail
    go_ret
    exact ⟨ret_bool (by rw [← hrH.out]; simp; omega), by go_grown⟩

set_option maxHeartbeats 4000000 in
set_option maxRecDepth 100000 in
theorem grown64_any (n a : Int) (w : World) (hn : 0 ≤ n ∧ n ≤ 18446744073709551615) (ha : 0 ≤ a ∧ a ≤ 4294967295) :
    Calls Tryd.prog 63 #[.int .u64 n, .int .u32 a] w
      fun e w' => e = .returned (.tuple #[.int .u64 (IntKind.u64.wrap (n + a)), .bool (decide (n + a ≤ 18446744073709551615))]) ∧ w = w' := by
  obtain ⟨a0, a1⟩ := ha
  obtain ⟨n0, n1⟩ := hn
  have h0 : IntKind.u64.wrap a = a := by rw [IntKind.wrap_u64]; omega
  obtain ⟨x, hx⟩ : ∃ x, IntKind.u64.wrap (n + a) = x := ⟨_, rfl⟩
  have hx' := hx
  rw [IntKind.wrap_u64] at hx'
  by_cases h : n + a ≤ 18446744073709551615
  · rw [show decide (n + a ≤ 18446744073709551615) = true by simpa using h, hx]
    have h1 : n ≤ x := by omega
    clear hx'
    go_enter Tryd.func63, Tryd.ntmps63
    go_wp2_with fail
    go_ret2
    exact ⟨rfl, rfl⟩
  · rw [show decide (n + a ≤ 18446744073709551615) = false by simpa using h, hx]
    have h1 : ¬ n ≤ x := by omega
    clear hx' h
    go_enter Tryd.func63, Tryd.ntmps63
    go_wp2_with fail
    go_ret2
    exact ⟨rfl, rfl⟩

set_option maxHeartbeats 4000000 in
set_option maxRecDepth 100000 in
theorem grown32_any (n a : Int) (w : World) (hn : 0 ≤ n ∧ n ≤ 4294967295) (ha : 0 ≤ a ∧ a ≤ 4294967295) :
    Calls Tryd.prog 64 #[.int .u32 n, .int .u32 a] w
      fun e w' => e = .returned (.tuple #[.int .u32 (IntKind.u32.wrap (n + a)), .bool (decide (n + a ≤ 4294967295))]) ∧ w = w' := by
  obtain ⟨a0, a1⟩ := ha
  obtain ⟨n0, n1⟩ := hn
  have h0 : IntKind.u32.wrap a = a := by rw [IntKind.wrap_u32]; omega
  obtain ⟨x, hx⟩ : ∃ x, IntKind.u32.wrap (n + a) = x := ⟨_, rfl⟩
  have hx' := hx
  rw [IntKind.wrap_u32] at hx'
  by_cases h : n + a ≤ 4294967295
  · rw [show decide (n + a ≤ 4294967295) = true by simpa using h, hx]
    have h1 : n ≤ x := by omega
    clear hx'
    go_enter Tryd.func64, Tryd.ntmps64
    go_wp2_with fail
    go_ret2
    exact ⟨rfl, rfl⟩
  · rw [show decide (n + a ≤ 4294967295) = false by simpa using h, hx]
    have h1 : ¬ n ≤ x := by omega
    clear hx' h
    go_enter Tryd.func64, Tryd.ntmps64
    go_wp2_with fail
    go_ret2
    exact ⟨rfl, rfl⟩

set_option maxHeartbeats 4000000 in
set_option maxRecDepth 100000 in
theorem at_any (v : Value) (p : Pt) (k i : Nat) (w : World) (hv : PtV w v p) (hk : k ≤ 3) (hi : i ≤ k + p.en.length) (hi4 : i ≤ 4) :
    Calls Tryd.prog 65 #[v, .int .i64 (k : Int), .int .i64 (i : Int)] w fun e w' => e = .returned (.tuple #[.bool (atK p k i), .int .u32 (atB p k i)]) ∧ Below w.heap.size w w' := by
  obtain ⟨lv, ad, en⟩ := p
  obtain ⟨s, rfl, hs⟩ := hv
  simp only at hs hi ⊢
  obtain ⟨S, n, c, rfl, hn, hnc, hc⟩ := hs.form
  obtain ⟨W0, hW0, hwW, hA, hzz⟩ := boxes1 w [.int .i64 lv, .int .u32 ad, .slice S n c] 62
  have hsH := Lib.hid (hs.below hwW); have hAH := Lib.hid hA; have hwWH := Lib.hid hwW
  have a0_ := hA.cell 0 rfl; have a1_ := hA.cell 1 rfl; have a2_ := hA.cell 2 rfl
  clear hs hA hwW
  by_cases h1 : k < i
  · obtain ⟨j, rfl⟩ : ∃ j, i = k + 1 + j := ⟨i - k - 1, by omega⟩
    have hjl : j < en.length := by omega
    have hj : j < n := by omega
    obtain ⟨bd, rfl, hbb, bc_⟩ := hsH.out.at hjl
    rw [show atK ⟨lv, ad, en⟩ k (k + 1 + j) = false by simp [atK]; omega]
    rw [show atB ⟨lv, ad, en⟩ k (k + 1 + j) = en[j] by
      unfold atB
      rw [if_pos (by omega), show k + 1 + j - k - 1 = j by omega, List.getD_eq_getElem?_getD, List.getElem?_eq_getElem hjl]; rfl]
    obtain ⟨y, hy⟩ : ∃ y, en[j] = y := ⟨_, rfl⟩
    rw [hy] at bc_ ⊢
    have e1 : wrap64 (((k + 1 + j : Nat) : Int) - (k : Int)) = ((j + 1 : Nat) : Int) := by unfold wrap64; omega
    have e2 : wrap64 (((j + 1 : Nat) : Int) - 1) = (j : Int) := by unfold wrap64; omega
    have e3 : ((k + 1 + j : Nat) : Int) > (k : Int) := by omega
    clear hy hjl hn hi
    obtain ⟨i, hi⟩ : ∃ i, k + 1 + j = i := ⟨_, rfl⟩
    obtain ⟨j1, hj1⟩ : ∃ x, j + 1 = x := ⟨_, rfl⟩
    rw [hi, hj1] at e1
    rw [hj1] at e2
    rw [hi] at e3 ⊢
    clear hi hj1 h1
    go_enter Tryd.func65, Tryd.ntmps65
    go_wp2_with fail
    go_quiet (fail)
    go_wp2_with fail
    go_ret2
    exact ⟨rfl, by first | exact hwWH.out | exact drewsN hwWH.out _ | go_grown⟩
  · by_cases h2 : i = k
    · subst h2
      rw [show atK ⟨lv, ad, en⟩ i i = true by simp [atK], show atB ⟨lv, ad, en⟩ i i = ad by simp [atB]]
      go_enter Tryd.func65, Tryd.ntmps65
      go_wp2_with fail
      go_quiet (fail)
      go_wp2_with fail
      go_ret2
      exact ⟨rfl, by first | exact hwWH.out | exact drewsN hwWH.out _ | go_grown⟩
    · rw [show atK ⟨lv, ad, en⟩ k i = true by simp [atK]; omega, show atB ⟨lv, ad, en⟩ k i = 0 by unfold atB; rw [if_neg h1, if_neg h2]]
      have e3 : ¬ ((i : Int) > (k : Int)) := by omega
      have e4 : ((i : Int) == (k : Int)) = false := by simp; omega
      go_enter Tryd.func65, Tryd.ntmps65
      go_wp2_with fail
      go_ret2
      exact ⟨rfl, by first | exact hwWH.out | exact drewsN hwWH.out _ | go_grown⟩
end Go.Proofs.YtkpjbmbdndkalaaDoor
