/-
  What the document's own Mul answers, at this program, part 0. Condition: the texts have at most 2^47 bytes, the numbers are 64-bit numbers.
-/
import Derived.Test.YtoolojfbjpnllaaDoorRefNeg
import Derived.Test.YtoolojfbjpnllaaDoorOps
import Derived.Deep.RegionHeld3
set_option linter.unusedVariables false
set_option linter.unusedSimpArgs false
namespace Go.Proofs.YtoolojfbjpnllaaDoor
open Go.RowKit Go.Lib

set_option maxRecDepth 100000 in
set_option maxHeartbeats 8000000 in
theorem refMul_a (k0 : Int) (b0 : Bool) (n0 : Int) (s0 : ByteArray) (k1 : Int) (b1 : Bool) (n1 : Int) (s1 : ByteArray) (w : World) (hs0 : s0.size ≤ 140737488355328) (hs1 : s1.size ≤ 140737488355328) (hc : n0 = -1 ∧ n1 = -9223372036854775808) :
    Calls Tryd.prog 34 #[.agg #[.int .u8 k0, .bool b0, .int .i64 n0, .string s0], .agg #[.int .u8 k1, .bool b1, .int .i64 n1, .string s1]] w fun e w' => e = .returned (refV (numS ⟨k0, b0, n0, s0⟩ ⟨k1, b1, n1, s1⟩ (wrap64 (n0 * n1), 10))) ∧ Below w.heap.size w w' := by
  obtain ⟨r, hr⟩ : ∃ r, numS ⟨k0, b0, n0, s0⟩ ⟨k1, b1, n1, s1⟩ (wrap64 (n0 * n1), 10) = r := ⟨_, rfl⟩
  rw [hr]
  obtain ⟨⟨k', b', n', s'⟩, x⟩ := r
  rw [refVm]
  have hrH := Lib.hid hr
  clear hr
  have hs0H := Lib.hid hs0; have hs1H := Lib.hid hs1
  have dA : (n0 == -1) = true := by simp; omega
  have dAn : (n0 != -1) = false := by simp; omega
  have dAd : decide (n0 = -1) = true := by simp; omega
  have dB : (n1 == -9223372036854775808) = true := by simp; omega
  have dBn : (n1 != -9223372036854775808) = false := by simp; omega
  have dBd : decide (n1 = -9223372036854775808) = true := by simp; omega
  have dC : (n1 == -1) = false := by simp; omega
  have dCn : (n1 != -1) = true := by simp; omega
  have dCd : decide (n1 = -1) = false := by simp; omega
  have dD : (n0 == -9223372036854775808) = false := by simp; omega
  have dDn : (n0 != -9223372036854775808) = true := by simp; omega
  have dDd : decide (n0 = -9223372036854775808) = false := by simp; omega
  have dZ : (n0 == 0) = false := by simp; omega
  have dZn : (n0 != 0) = true := by simp; omega
  have dZd : decide (n0 = 0) = false := by simp; omega
  clear hc
  obtain ⟨m, hm⟩ : ∃ m, wrap64 (n0 * n1) = m := ⟨_, rfl⟩
  have hm' : IntKind.i64.wrap (n0 * n1) = m := by rw [wrap_is, hm]
  rw [hm] at hrH
  obtain ⟨W0, hW0, hwW, hA, hB, hR, hzz⟩ := boxes2 w k0 b0 n0 s0 k1 b1 n1 s1
  have hAH := Lib.hid hA; have hBH := Lib.hid hB; have hRH := Lib.hid hR; have hz0 := Lib.hid hzz; have hwWH := Lib.hid hwW
  clear hA hB hR hzz hwW hs0 hs1
  have hb := Below.refl W0.heap.size W0
  obtain ⟨a0_, a1_, a2_, a3_⟩ := (hAH.out.below hb).cells; obtain ⟨b0_, b1_, b2_, b3_⟩ := (hBH.out.below hb).cells; obtain ⟨r0_, r1_, r2_, r3_⟩ := (hRH.out.below hb).cells; obtain ⟨f0_, f1_, f2_, f3_⟩ := (hRH.out.below hb).free; have hz := Nat.lt_of_lt_of_le hz0.out hb.size; have hs := hb.size
  go_enter Tryd.func34, Tryd.ntmps34
  go_wp2_with fail
  refine wp_region_noPanic ?_
  refine wp_region_held_drew (S := (fun w' => w'.cell? ⟨w.heap.size, 0, none⟩ = some (.int .u8 k0) ∧ w'.cell? ⟨w.heap.size, 1, none⟩ = some (.bool b0) ∧ w'.cell? ⟨w.heap.size, 2, none⟩ = some (.int .i64 n0) ∧ w'.cell? ⟨w.heap.size, 3, none⟩ = some (.string s0) ∧ w'.cell? ⟨w.heap.size + 1, 0, none⟩ = some (.int .u8 k1) ∧ w'.cell? ⟨w.heap.size + 1, 1, none⟩ = some (.bool b1) ∧ w'.cell? ⟨w.heap.size + 1, 2, none⟩ = some (.int .i64 n1) ∧ w'.cell? ⟨w.heap.size + 1, 3, none⟩ = some (.string s1))) (by kernel_rfl) (by first | exact ⟨a0_, a1_, a2_, a3_, b0_, b1_, b2_, b3_⟩ | go_keep) (fun hHeld => ?_)
  refine' wpAnyH_take (i := 0) (v := .pointer (some ⟨w.heap.size, 2, none⟩)) ?hi0x559 ?hs0x559 ?hf0x559 ?hr0x559 ?hQ0x559 ?hy0x559 ?hS0x559 ?rest0x559
  case hi0x559 => (simp only [List.getElem?_toArray, List.getElem?_cons_succ, List.getElem?_cons_zero]; try rfl)
  case hs0x559 => kernel_rfl
  case hf0x559 => kernel_rfl
  case hr0x559 => kernel_rfl
  case hQ0x559 => exact fun _ _ _ h => h
  case hy0x559 => exact Or.inl ⟨by rfl, by (intro w hSw; (try dsimp only at hSw); go_simp)⟩
  case hS0x559 => assumption
  (try simp only [Act.put, List.setIfInBounds_toArray, List.set_cons_zero, List.set_cons_succ])
  refine' wpAnyH_take (i := 1) (v := .int .i64 n0) ?hi1x560 ?hs1x560 ?hf1x560 ?hr1x560 ?hQ1x560 ?hy1x560 ?hS1x560 ?rest1x560
  case hi1x560 => (simp only [List.getElem?_toArray, List.getElem?_cons_succ, List.getElem?_cons_zero]; try rfl)
  case hs1x560 => kernel_rfl
  case hf1x560 => kernel_rfl
  case hr1x560 => kernel_rfl
  case hQ1x560 => exact fun _ _ _ h => h
  case hy1x560 => exact Or.inl ⟨by rfl, by (intro w hSw; (try dsimp only at hSw); go_simp)⟩
  case hS1x560 => assumption
  (try simp only [Act.put, List.setIfInBounds_toArray, List.set_cons_zero, List.set_cons_succ])
  refine' wpAnyH_take (i := 2) (v := .bool true) ?hi2x561 ?hs2x561 ?hf2x561 ?hr2x561 ?hQ2x561 ?hy2x561 ?hS2x561 ?rest2x561
  case hi2x561 => (simp only [List.getElem?_toArray, List.getElem?_cons_succ, List.getElem?_cons_zero]; try rfl)
  case hs2x561 => kernel_rfl
  case hf2x561 => kernel_rfl
  case hr2x561 => kernel_rfl
  case hQ2x561 => exact fun _ _ _ h => h
  case hy2x561 => exact Or.inl ⟨by rfl, by (intro w hSw; (try dsimp only at hSw); go_simp)⟩
  case hS2x561 => assumption
  (try simp only [Act.put, List.setIfInBounds_toArray, List.set_cons_zero, List.set_cons_succ])
  refine' wpAnyH_take (i := 3) (v := .bool true) ?hi3x562 ?hs3x562 ?hf3x562 ?hr3x562 ?hQ3x562 ?hy3x562 ?hS3x562 ?rest3x562
  case hi3x562 => (simp only [List.getElem?_toArray, List.getElem?_cons_succ, List.getElem?_cons_zero]; try rfl)
  case hs3x562 => kernel_rfl
  case hf3x562 => kernel_rfl
  case hr3x562 => kernel_rfl
  case hQ3x562 => exact fun _ _ _ h => h
  case hy3x562 => exact Or.inl ⟨by rfl, by (intro w hSw; (try dsimp only at hSw); go_simp)⟩
  case hS3x562 => assumption
  (try simp only [Act.put, List.setIfInBounds_toArray, List.set_cons_zero, List.set_cons_succ])
  refine' wpAnyH_take (i := 4) (v := .pointer (some ⟨w.heap.size + 1, 2, none⟩)) ?hi4x563 ?hs4x563 ?hf4x563 ?hr4x563 ?hQ4x563 ?hy4x563 ?hS4x563 ?rest4x563
  case hi4x563 => (simp only [List.getElem?_toArray, List.getElem?_cons_succ, List.getElem?_cons_zero]; try rfl)
  case hs4x563 => kernel_rfl
  case hf4x563 => kernel_rfl
  case hr4x563 => kernel_rfl
  case hQ4x563 => exact fun _ _ _ h => h
  case hy4x563 => exact Or.inl ⟨by rfl, by (intro w hSw; (try dsimp only at hSw); go_simp)⟩
  case hS4x563 => assumption
  (try simp only [Act.put, List.setIfInBounds_toArray, List.set_cons_zero, List.set_cons_succ])
  refine' wpAnyH_take (i := 5) (v := .int .i64 n1) ?hi5x564 ?hs5x564 ?hf5x564 ?hr5x564 ?hQ5x564 ?hy5x564 ?hS5x564 ?rest5x564
  case hi5x564 => (simp only [List.getElem?_toArray, List.getElem?_cons_succ, List.getElem?_cons_zero]; try rfl)
  case hs5x564 => kernel_rfl
  case hf5x564 => kernel_rfl
  case hr5x564 => kernel_rfl
  case hQ5x564 => exact fun _ _ _ h => h
  case hy5x564 => exact Or.inl ⟨by rfl, by (intro w hSw; (try dsimp only at hSw); go_simp)⟩
  case hS5x564 => assumption
  (try simp only [Act.put, List.setIfInBounds_toArray, List.set_cons_zero, List.set_cons_succ])
  refine' wpAnyH_take (i := 6) (v := .bool true) ?hi6x565 ?hs6x565 ?hf6x565 ?hr6x565 ?hQ6x565 ?hy6x565 ?hS6x565 ?rest6x565
  case hi6x565 => (simp only [List.getElem?_toArray, List.getElem?_cons_succ, List.getElem?_cons_zero]; try rfl)
  case hs6x565 => kernel_rfl
  case hf6x565 => kernel_rfl
  case hr6x565 => kernel_rfl
  case hQ6x565 => exact fun _ _ _ h => h
  case hy6x565 => exact Or.inl ⟨by rfl, by (intro w hSw; (try dsimp only at hSw); go_simp)⟩
  case hS6x565 => assumption
  (try simp only [Act.put, List.setIfInBounds_toArray, List.set_cons_zero, List.set_cons_succ])
  refine' wpAnyH_take (i := 7) (v := .bool true) ?hi7x566 ?hs7x566 ?hf7x566 ?hr7x566 ?hQ7x566 ?hy7x566 ?hS7x566 ?rest7x566
  case hi7x566 => (simp only [List.getElem?_toArray, List.getElem?_cons_succ, List.getElem?_cons_zero]; try rfl)
  case hs7x566 => kernel_rfl
  case hf7x566 => kernel_rfl
  case hr7x566 => kernel_rfl
  case hQ7x566 => exact fun _ _ _ h => h
  case hy7x566 => exact Or.inl ⟨by rfl, by (intro w hSw; (try dsimp only at hSw); go_simp)⟩
  case hS7x566 => assumption
  (try simp only [Act.put, List.setIfInBounds_toArray, List.set_cons_zero, List.set_cons_succ])
  refine' wpAnyH_take (i := 8) (v := .bool true) ?hi8x567 ?hs8x567 ?hf8x567 ?hr8x567 ?hQ8x567 ?hy8x567 ?hS8x567 ?rest8x567
  case hi8x567 => (simp only [List.getElem?_toArray, List.getElem?_cons_succ, List.getElem?_cons_zero]; try rfl)
  case hs8x567 => kernel_rfl
  case hf8x567 => kernel_rfl
  case hr8x567 => kernel_rfl
  case hQ8x567 => exact fun _ _ _ h => h
  case hy8x567 => exact Or.inl ⟨by rfl, by (intro w hSw; (try dsimp only at hSw); go_simp)⟩
  case hS8x567 => assumption
  (try simp only [Act.put, List.setIfInBounds_toArray, List.set_cons_zero, List.set_cons_succ])
  refine' wpAnyH_take (i := 9) (v := undef) ?hi9x568 ?hs9x568 ?hf9x568 ?hr9x568 ?hQ9x568 ?hy9x568 ?hS9x568 ?rest9x568
  case hi9x568 => (simp only [List.getElem?_toArray, List.getElem?_cons_succ, List.getElem?_cons_zero]; try rfl)
  case hs9x568 => kernel_rfl
  case hf9x568 => kernel_rfl
  case hr9x568 => kernel_rfl
  case hQ9x568 => exact fun _ _ _ h => h
  case hy9x568 => exact Or.inr ⟨by rfl, rfl⟩
  case hS9x568 => assumption
  (try simp only [Act.put, List.setIfInBounds_toArray, List.set_cons_zero, List.set_cons_succ])
  refine' wpAnyH_take (i := 10) (v := undef) ?hi10x569 ?hs10x569 ?hf10x569 ?hr10x569 ?hQ10x569 ?hy10x569 ?hS10x569 ?rest10x569
  case hi10x569 => (simp only [List.getElem?_toArray, List.getElem?_cons_succ, List.getElem?_cons_zero]; try rfl)
  case hs10x569 => kernel_rfl
  case hf10x569 => kernel_rfl
  case hr10x569 => kernel_rfl
  case hQ10x569 => exact fun _ _ _ h => h
  case hy10x569 => exact Or.inr ⟨by rfl, rfl⟩
  case hS10x569 => assumption
  (try simp only [Act.put, List.setIfInBounds_toArray, List.set_cons_zero, List.set_cons_succ])
  refine' wpAnyH_take (i := 11) (v := undef) ?hi11x570 ?hs11x570 ?hf11x570 ?hr11x570 ?hQ11x570 ?hy11x570 ?hS11x570 ?rest11x570
  case hi11x570 => (simp only [List.getElem?_toArray, List.getElem?_cons_succ, List.getElem?_cons_zero]; try rfl)
  case hs11x570 => kernel_rfl
  case hf11x570 => kernel_rfl
  case hr11x570 => kernel_rfl
  case hQ11x570 => exact fun _ _ _ h => h
  case hy11x570 => exact Or.inr ⟨by rfl, rfl⟩
  case hS11x570 => assumption
  (try simp only [Act.put, List.setIfInBounds_toArray, List.set_cons_zero, List.set_cons_succ])
  refine' wpAnyH_take (i := 12) (v := undef) ?hi12x571 ?hs12x571 ?hf12x571 ?hr12x571 ?hQ12x571 ?hy12x571 ?hS12x571 ?rest12x571
  case hi12x571 => (simp only [List.getElem?_toArray, List.getElem?_cons_succ, List.getElem?_cons_zero]; try rfl)
  case hs12x571 => kernel_rfl
  case hf12x571 => kernel_rfl
  case hr12x571 => kernel_rfl
  case hQ12x571 => exact fun _ _ _ h => h
  case hy12x571 => exact Or.inr ⟨by rfl, rfl⟩
  case hS12x571 => assumption
  (try simp only [Act.put, List.setIfInBounds_toArray, List.set_cons_zero, List.set_cons_succ])
  refine' wpAnyH_take (i := 13) (v := undef) ?hi13x572 ?hs13x572 ?hf13x572 ?hr13x572 ?hQ13x572 ?hy13x572 ?hS13x572 ?rest13x572
  case hi13x572 => (simp only [List.getElem?_toArray, List.getElem?_cons_succ, List.getElem?_cons_zero]; try rfl)
  case hs13x572 => kernel_rfl
  case hf13x572 => kernel_rfl
  case hr13x572 => kernel_rfl
  case hQ13x572 => exact fun _ _ _ h => h
  case hy13x572 => exact Or.inr ⟨by rfl, rfl⟩
  case hS13x572 => assumption
  (try simp only [Act.put, List.setIfInBounds_toArray, List.set_cons_zero, List.set_cons_succ])
  refine' wpAnyH_take (i := 14) (v := undef) ?hi14x573 ?hs14x573 ?hf14x573 ?hr14x573 ?hQ14x573 ?hy14x573 ?hS14x573 ?rest14x573
  case hi14x573 => (simp only [List.getElem?_toArray, List.getElem?_cons_succ, List.getElem?_cons_zero]; try rfl)
  case hs14x573 => kernel_rfl
  case hf14x573 => kernel_rfl
  case hr14x573 => kernel_rfl
  case hQ14x573 => exact fun _ _ _ h => h
  case hy14x573 => exact Or.inr ⟨by rfl, rfl⟩
  case hS14x573 => assumption
  (try simp only [Act.put, List.setIfInBounds_toArray, List.set_cons_zero, List.set_cons_succ])
  refine' wpAnyH_take (i := 15) (v := undef) ?hi15x574 ?hs15x574 ?hf15x574 ?hr15x574 ?hQ15x574 ?hy15x574 ?hS15x574 ?rest15x574
  case hi15x574 => (simp only [List.getElem?_toArray, List.getElem?_cons_succ, List.getElem?_cons_zero]; try rfl)
  case hs15x574 => kernel_rfl
  case hf15x574 => kernel_rfl
  case hr15x574 => kernel_rfl
  case hQ15x574 => exact fun _ _ _ h => h
  case hy15x574 => exact Or.inr ⟨by rfl, rfl⟩
  case hS15x574 => assumption
  (try simp only [Act.put, List.setIfInBounds_toArray, List.set_cons_zero, List.set_cons_succ])
  refine' wpAnyH_take (i := 16) (v := undef) ?hi16x575 ?hs16x575 ?hf16x575 ?hr16x575 ?hQ16x575 ?hy16x575 ?hS16x575 ?rest16x575
  case hi16x575 => (simp only [List.getElem?_toArray, List.getElem?_cons_succ, List.getElem?_cons_zero]; try rfl)
  case hs16x575 => kernel_rfl
  case hf16x575 => kernel_rfl
  case hr16x575 => kernel_rfl
  case hQ16x575 => exact fun _ _ _ h => h
  case hy16x575 => exact Or.inr ⟨by rfl, rfl⟩
  case hS16x575 => assumption
  (try simp only [Act.put, List.setIfInBounds_toArray, List.set_cons_zero, List.set_cons_succ])
  refine' wpAnyH_take (i := 17) (v := .bool true) ?hi17x576 ?hs17x576 ?hf17x576 ?hr17x576 ?hQ17x576 ?hy17x576 ?hS17x576 ?rest17x576
  case hi17x576 => (simp only [List.getElem?_toArray, List.getElem?_cons_succ, List.getElem?_cons_zero]; try rfl)
  case hs17x576 => kernel_rfl
  case hf17x576 => kernel_rfl
  case hr17x576 => kernel_rfl
  case hQ17x576 => exact fun _ _ _ h => h
  case hy17x576 => exact Or.inl ⟨by rfl, by (intro w hSw; (try dsimp only at hSw); go_simp)⟩
  case hS17x576 => assumption
  (try simp only [Act.put, List.setIfInBounds_toArray, List.set_cons_zero, List.set_cons_succ])
  refine' wpAnyH_take (i := 18) (v := .bool true) ?hi18x577 ?hs18x577 ?hf18x577 ?hr18x577 ?hQ18x577 ?hy18x577 ?hS18x577 ?rest18x577
  case hi18x577 => (simp only [List.getElem?_toArray, List.getElem?_cons_succ, List.getElem?_cons_zero]; try rfl)
  case hs18x577 => kernel_rfl
  case hf18x577 => kernel_rfl
  case hr18x577 => kernel_rfl
  case hQ18x577 => exact fun _ _ _ h => h
  case hy18x577 => exact Or.inl ⟨by rfl, by (intro w hSw; (try dsimp only at hSw); go_simp)⟩
  case hS18x577 => assumption
  (try simp only [Act.put, List.setIfInBounds_toArray, List.set_cons_zero, List.set_cons_succ])
  refine' wpAnyH_take (i := 19) (v := undef) ?hi19x578 ?hs19x578 ?hf19x578 ?hr19x578 ?hQ19x578 ?hy19x578 ?hS19x578 ?rest19x578
  case hi19x578 => (simp only [List.getElem?_toArray, List.getElem?_cons_succ, List.getElem?_cons_zero]; try rfl)
  case hs19x578 => kernel_rfl
  case hf19x578 => kernel_rfl
  case hr19x578 => kernel_rfl
  case hQ19x578 => exact fun _ _ _ h => h
  case hy19x578 => exact Or.inr ⟨by rfl, rfl⟩
  case hS19x578 => assumption
  (try simp only [Act.put, List.setIfInBounds_toArray, List.set_cons_zero, List.set_cons_succ])
  refine' wpAnyH_take (i := 20) (v := undef) ?hi20x579 ?hs20x579 ?hf20x579 ?hr20x579 ?hQ20x579 ?hy20x579 ?hS20x579 ?rest20x579
  case hi20x579 => (simp only [List.getElem?_toArray, List.getElem?_cons_succ, List.getElem?_cons_zero]; try rfl)
  case hs20x579 => kernel_rfl
  case hf20x579 => kernel_rfl
  case hr20x579 => kernel_rfl
  case hQ20x579 => exact fun _ _ _ h => h
  case hy20x579 => exact Or.inr ⟨by rfl, rfl⟩
  case hS20x579 => assumption
  (try simp only [Act.put, List.setIfInBounds_toArray, List.set_cons_zero, List.set_cons_succ])
  refine' wpAnyH_take (i := 21) (v := undef) ?hi21x580 ?hs21x580 ?hf21x580 ?hr21x580 ?hQ21x580 ?hy21x580 ?hS21x580 ?rest21x580
  case hi21x580 => (simp only [List.getElem?_toArray, List.getElem?_cons_succ, List.getElem?_cons_zero]; try rfl)
  case hs21x580 => kernel_rfl
  case hf21x580 => kernel_rfl
  case hr21x580 => kernel_rfl
  case hQ21x580 => exact fun _ _ _ h => h
  case hy21x580 => exact Or.inr ⟨by rfl, rfl⟩
  case hS21x580 => assumption
  (try simp only [Act.put, List.setIfInBounds_toArray, List.set_cons_zero, List.set_cons_succ])
  refine' wpAnyH_take (i := 22) (v := undef) ?hi22x581 ?hs22x581 ?hf22x581 ?hr22x581 ?hQ22x581 ?hy22x581 ?hS22x581 ?rest22x581
  case hi22x581 => (simp only [List.getElem?_toArray, List.getElem?_cons_succ, List.getElem?_cons_zero]; try rfl)
  case hs22x581 => kernel_rfl
  case hf22x581 => kernel_rfl
  case hr22x581 => kernel_rfl
  case hQ22x581 => exact fun _ _ _ h => h
  case hy22x581 => exact Or.inr ⟨by rfl, rfl⟩
  case hS22x581 => assumption
  (try simp only [Act.put, List.setIfInBounds_toArray, List.set_cons_zero, List.set_cons_succ])
  refine' wpAnyH_take (i := 23) (v := undef) ?hi23x582 ?hs23x582 ?hf23x582 ?hr23x582 ?hQ23x582 ?hy23x582 ?hS23x582 ?rest23x582
  case hi23x582 => (simp only [List.getElem?_toArray, List.getElem?_cons_succ, List.getElem?_cons_zero]; try rfl)
  case hs23x582 => kernel_rfl
  case hf23x582 => kernel_rfl
  case hr23x582 => kernel_rfl
  case hQ23x582 => exact fun _ _ _ h => h
  case hy23x582 => exact Or.inr ⟨by rfl, rfl⟩
  case hS23x582 => assumption
  (try simp only [Act.put, List.setIfInBounds_toArray, List.set_cons_zero, List.set_cons_succ])
  refine' wpAnyH_take (i := 24) (v := undef) ?hi24x583 ?hs24x583 ?hf24x583 ?hr24x583 ?hQ24x583 ?hy24x583 ?hS24x583 ?rest24x583
  case hi24x583 => (simp only [List.getElem?_toArray, List.getElem?_cons_succ, List.getElem?_cons_zero]; try rfl)
  case hs24x583 => kernel_rfl
  case hf24x583 => kernel_rfl
  case hr24x583 => kernel_rfl
  case hQ24x583 => exact fun _ _ _ h => h
  case hy24x583 => exact Or.inr ⟨by rfl, rfl⟩
  case hS24x583 => assumption
  (try simp only [Act.put, List.setIfInBounds_toArray, List.set_cons_zero, List.set_cons_succ])
  refine' wpAnyH_take (i := 25) (v := undef) ?hi25x584 ?hs25x584 ?hf25x584 ?hr25x584 ?hQ25x584 ?hy25x584 ?hS25x584 ?rest25x584
  case hi25x584 => (simp only [List.getElem?_toArray, List.getElem?_cons_succ, List.getElem?_cons_zero]; try rfl)
  case hs25x584 => kernel_rfl
  case hf25x584 => kernel_rfl
  case hr25x584 => kernel_rfl
  case hQ25x584 => exact fun _ _ _ h => h
  case hy25x584 => exact Or.inr ⟨by rfl, rfl⟩
  case hS25x584 => assumption
  (try simp only [Act.put, List.setIfInBounds_toArray, List.set_cons_zero, List.set_cons_succ])
  refine' wpAnyH_take (i := 26) (v := undef) ?hi26x585 ?hs26x585 ?hf26x585 ?hr26x585 ?hQ26x585 ?hy26x585 ?hS26x585 ?rest26x585
  case hi26x585 => (simp only [List.getElem?_toArray, List.getElem?_cons_succ, List.getElem?_cons_zero]; try rfl)
  case hs26x585 => kernel_rfl
  case hf26x585 => kernel_rfl
  case hr26x585 => kernel_rfl
  case hQ26x585 => exact fun _ _ _ h => h
  case hy26x585 => exact Or.inr ⟨by rfl, rfl⟩
  case hS26x585 => assumption
  (try simp only [Act.put, List.setIfInBounds_toArray, List.set_cons_zero, List.set_cons_succ])
  refine' wpAnyH_take (i := 27) (v := undef) ?hi27x586 ?hs27x586 ?hf27x586 ?hr27x586 ?hQ27x586 ?hy27x586 ?hS27x586 ?rest27x586
  case hi27x586 => (simp only [List.getElem?_toArray, List.getElem?_cons_succ, List.getElem?_cons_zero]; try rfl)
  case hs27x586 => kernel_rfl
  case hf27x586 => kernel_rfl
  case hr27x586 => kernel_rfl
  case hQ27x586 => exact fun _ _ _ h => h
  case hy27x586 => exact Or.inr ⟨by rfl, rfl⟩
  case hS27x586 => assumption
  (try simp only [Act.put, List.setIfInBounds_toArray, List.set_cons_zero, List.set_cons_succ])
  refine' wpAnyH_take (i := 28) (v := undef) ?hi28x587 ?hs28x587 ?hf28x587 ?hr28x587 ?hQ28x587 ?hy28x587 ?hS28x587 ?rest28x587
  case hi28x587 => (simp only [List.getElem?_toArray, List.getElem?_cons_succ, List.getElem?_cons_zero]; try rfl)
  case hs28x587 => kernel_rfl
  case hf28x587 => kernel_rfl
  case hr28x587 => kernel_rfl
  case hQ28x587 => exact fun _ _ _ h => h
  case hy28x587 => exact Or.inr ⟨by rfl, rfl⟩
  case hS28x587 => assumption
  (try simp only [Act.put, List.setIfInBounds_toArray, List.set_cons_zero, List.set_cons_succ])
  refine' wpAnyH_take (i := 29) (v := undef) ?hi29x588 ?hs29x588 ?hf29x588 ?hr29x588 ?hQ29x588 ?hy29x588 ?hS29x588 ?rest29x588
  case hi29x588 => (simp only [List.getElem?_toArray, List.getElem?_cons_succ, List.getElem?_cons_zero]; try rfl)
  case hs29x588 => kernel_rfl
  case hf29x588 => kernel_rfl
  case hr29x588 => kernel_rfl
  case hQ29x588 => exact fun _ _ _ h => h
  case hy29x588 => exact Or.inr ⟨by rfl, rfl⟩
  case hS29x588 => assumption
  (try simp only [Act.put, List.setIfInBounds_toArray, List.set_cons_zero, List.set_cons_succ])
  refine' wpAnyH_take (i := 30) (v := undef) ?hi30x589 ?hs30x589 ?hf30x589 ?hr30x589 ?hQ30x589 ?hy30x589 ?hS30x589 ?rest30x589
  case hi30x589 => (simp only [List.getElem?_toArray, List.getElem?_cons_succ, List.getElem?_cons_zero]; try rfl)
  case hs30x589 => kernel_rfl
  case hf30x589 => kernel_rfl
  case hr30x589 => kernel_rfl
  case hQ30x589 => exact fun _ _ _ h => h
  case hy30x589 => exact Or.inr ⟨by rfl, rfl⟩
  case hS30x589 => assumption
  (try simp only [Act.put, List.setIfInBounds_toArray, List.set_cons_zero, List.set_cons_succ])
  refine' wpAnyH_take (i := 31) (v := undef) ?hi31x590 ?hs31x590 ?hf31x590 ?hr31x590 ?hQ31x590 ?hy31x590 ?hS31x590 ?rest31x590
  case hi31x590 => (simp only [List.getElem?_toArray, List.getElem?_cons_succ, List.getElem?_cons_zero]; try rfl)
  case hs31x590 => kernel_rfl
  case hf31x590 => kernel_rfl
  case hr31x590 => kernel_rfl
  case hQ31x590 => exact fun _ _ _ h => h
  case hy31x590 => exact Or.inr ⟨by rfl, rfl⟩
  case hS31x590 => assumption
  (try simp only [Act.put, List.setIfInBounds_toArray, List.set_cons_zero, List.set_cons_succ])
  refine' wpAnyH_take (i := 32) (v := undef) ?hi32x591 ?hs32x591 ?hf32x591 ?hr32x591 ?hQ32x591 ?hy32x591 ?hS32x591 ?rest32x591
  case hi32x591 => (simp only [List.getElem?_toArray, List.getElem?_cons_succ, List.getElem?_cons_zero]; try rfl)
  case hs32x591 => kernel_rfl
  case hf32x591 => kernel_rfl
  case hr32x591 => kernel_rfl
  case hQ32x591 => exact fun _ _ _ h => h
  case hy32x591 => exact Or.inr ⟨by rfl, rfl⟩
  case hS32x591 => assumption
  (try simp only [Act.put, List.setIfInBounds_toArray, List.set_cons_zero, List.set_cons_succ])
  refine' wpAnyH_take (i := 33) (v := undef) ?hi33x592 ?hs33x592 ?hf33x592 ?hr33x592 ?hQ33x592 ?hy33x592 ?hS33x592 ?rest33x592
  case hi33x592 => (simp only [List.getElem?_toArray, List.getElem?_cons_succ, List.getElem?_cons_zero]; try rfl)
  case hs33x592 => kernel_rfl
  case hf33x592 => kernel_rfl
  case hr33x592 => kernel_rfl
  case hQ33x592 => exact fun _ _ _ h => h
  case hy33x592 => exact Or.inr ⟨by rfl, rfl⟩
  case hS33x592 => assumption
  (try simp only [Act.put, List.setIfInBounds_toArray, List.set_cons_zero, List.set_cons_succ])
  refine' wpAnyH_take (i := 34) (v := undef) ?hi34x593 ?hs34x593 ?hf34x593 ?hr34x593 ?hQ34x593 ?hy34x593 ?hS34x593 ?rest34x593
  case hi34x593 => (simp only [List.getElem?_toArray, List.getElem?_cons_succ, List.getElem?_cons_zero]; try rfl)
  case hs34x593 => kernel_rfl
  case hf34x593 => kernel_rfl
  case hr34x593 => kernel_rfl
  case hQ34x593 => exact fun _ _ _ h => h
  case hy34x593 => exact Or.inr ⟨by rfl, rfl⟩
  case hS34x593 => assumption
  (try simp only [Act.put, List.setIfInBounds_toArray, List.set_cons_zero, List.set_cons_succ])
  refine' wpAnyH_take (i := 35) (v := undef) ?hi35x594 ?hs35x594 ?hf35x594 ?hr35x594 ?hQ35x594 ?hy35x594 ?hS35x594 ?rest35x594
  case hi35x594 => (simp only [List.getElem?_toArray, List.getElem?_cons_succ, List.getElem?_cons_zero]; try rfl)
  case hs35x594 => kernel_rfl
  case hf35x594 => kernel_rfl
  case hr35x594 => kernel_rfl
  case hQ35x594 => exact fun _ _ _ h => h
  case hy35x594 => exact Or.inr ⟨by rfl, rfl⟩
  case hS35x594 => assumption
  (try simp only [Act.put, List.setIfInBounds_toArray, List.set_cons_zero, List.set_cons_succ])
  refine' wpAnyH_take (i := 36) (v := .bool true) ?hi36x595 ?hs36x595 ?hf36x595 ?hr36x595 ?hQ36x595 ?hy36x595 ?hS36x595 ?rest36x595
  case hi36x595 => (simp only [List.getElem?_toArray, List.getElem?_cons_succ, List.getElem?_cons_zero]; try rfl)
  case hs36x595 => kernel_rfl
  case hf36x595 => kernel_rfl
  case hr36x595 => kernel_rfl
  case hQ36x595 => exact fun _ _ _ h => h
  case hy36x595 => exact Or.inl ⟨by rfl, by (intro w hSw; (try dsimp only at hSw); go_simp)⟩
  case hS36x595 => assumption
  (try simp only [Act.put, List.setIfInBounds_toArray, List.set_cons_zero, List.set_cons_succ])
  refine' wpAnyH_take (i := 37) (v := .bool true) ?hi37x596 ?hs37x596 ?hf37x596 ?hr37x596 ?hQ37x596 ?hy37x596 ?hS37x596 ?rest37x596
  case hi37x596 => (simp only [List.getElem?_toArray, List.getElem?_cons_succ, List.getElem?_cons_zero]; try rfl)
  case hs37x596 => kernel_rfl
  case hf37x596 => kernel_rfl
  case hr37x596 => kernel_rfl
  case hQ37x596 => exact fun _ _ _ h => h
  case hy37x596 => exact Or.inl ⟨by rfl, by (intro w hSw; (try dsimp only at hSw); go_simp)⟩
  case hS37x596 => assumption
  (try simp only [Act.put, List.setIfInBounds_toArray, List.set_cons_zero, List.set_cons_succ])
  refine wpAnyH_done (by kernel_rfl) ?_ _
  refine NoPanic.normal ?_
  clear hHeld
  go_wp2_with fail
  refine wp_region_noPanic ?_
  refine wp_region_held_drew (S := (fun w' => w'.cell? ⟨w.heap.size, 0, none⟩ = some (.int .u8 k0) ∧ w'.cell? ⟨w.heap.size, 1, none⟩ = some (.bool b0) ∧ w'.cell? ⟨w.heap.size, 2, none⟩ = some (.int .i64 n0) ∧ w'.cell? ⟨w.heap.size, 3, none⟩ = some (.string s0) ∧ w'.cell? ⟨w.heap.size + 1, 0, none⟩ = some (.int .u8 k1) ∧ w'.cell? ⟨w.heap.size + 1, 1, none⟩ = some (.bool b1) ∧ w'.cell? ⟨w.heap.size + 1, 2, none⟩ = some (.int .i64 n1) ∧ w'.cell? ⟨w.heap.size + 1, 3, none⟩ = some (.string s1))) (by kernel_rfl) (by first | exact ⟨a0_, a1_, a2_, a3_, b0_, b1_, b2_, b3_⟩ | go_keep) (fun hHeld => ?_)
  refine' wpAnyH_take (i := 0) (v := .int .i64 m) ?hi0x597 ?hs0x597 ?hf0x597 ?hr0x597 ?hQ0x597 ?hy0x597 ?hS0x597 ?rest0x597
  case hi0x597 => (simp only [List.getElem?_toArray, List.getElem?_cons_succ, List.getElem?_cons_zero]; try rfl)
  case hs0x597 => kernel_rfl
  case hf0x597 => kernel_rfl
  case hr0x597 => kernel_rfl
  case hQ0x597 => exact fun _ _ _ h => h
  case hy0x597 => exact Or.inl ⟨by rfl, by (intro w hSw; (try dsimp only at hSw); go_simp)⟩
  case hS0x597 => assumption
  (try simp only [Act.put, List.setIfInBounds_toArray, List.set_cons_zero, List.set_cons_succ])
  refine' wpAnyH_take (i := 1) (v := .bool true) ?hi1x598 ?hs1x598 ?hf1x598 ?hr1x598 ?hQ1x598 ?hy1x598 ?hS1x598 ?rest1x598
  case hi1x598 => (simp only [List.getElem?_toArray, List.getElem?_cons_succ, List.getElem?_cons_zero]; try rfl)
  case hs1x598 => kernel_rfl
  case hf1x598 => kernel_rfl
  case hr1x598 => kernel_rfl
  case hQ1x598 => exact fun _ _ _ h => h
  case hy1x598 => exact Or.inl ⟨by rfl, by (intro w hSw; (try dsimp only at hSw); go_simp)⟩
  case hS1x598 => assumption
  (try simp only [Act.put, List.setIfInBounds_toArray, List.set_cons_zero, List.set_cons_succ])
  refine' wpAnyH_take (i := 3) (v := .agg #[.int .u8 k0, .bool b0, .int .i64 n0, .string s0]) ?hi3x599 ?hs3x599 ?hf3x599 ?hr3x599 ?hQ3x599 ?hy3x599 ?hS3x599 ?rest3x599
  case hi3x599 => (simp only [List.getElem?_toArray, List.getElem?_cons_succ, List.getElem?_cons_zero]; try rfl)
  case hs3x599 => kernel_rfl
  case hf3x599 => kernel_rfl
  case hr3x599 => kernel_rfl
  case hQ3x599 => exact fun _ _ _ h => h
  case hy3x599 => exact Or.inl ⟨by rfl, by (intro w hSw; (try dsimp only at hSw); go_simp)⟩
  case hS3x599 => assumption
  (try simp only [Act.put, List.setIfInBounds_toArray, List.set_cons_zero, List.set_cons_succ])
  refine' wpAnyH_take (i := 4) (v := .agg #[.int .u8 k1, .bool b1, .int .i64 n1, .string s1]) ?hi4x600 ?hs4x600 ?hf4x600 ?hr4x600 ?hQ4x600 ?hy4x600 ?hS4x600 ?rest4x600
  case hi4x600 => (simp only [List.getElem?_toArray, List.getElem?_cons_succ, List.getElem?_cons_zero]; try rfl)
  case hs4x600 => kernel_rfl
  case hf4x600 => kernel_rfl
  case hr4x600 => kernel_rfl
  case hQ4x600 => exact fun _ _ _ h => h
  case hy4x600 => exact Or.inl ⟨by rfl, by (intro w hSw; (try dsimp only at hSw); go_simp)⟩
  case hS4x600 => assumption
  (try simp only [Act.put, List.setIfInBounds_toArray, List.set_cons_zero, List.set_cons_succ])
  refine wpAnyH_ready (rs := [2, 5]) (by kernel_rfl) (by simp) ?_
  refine' AllReadyH.cons (i := 2) ?ho2x601 (fun K hK => ?st2x601) (AllReadyH.cons (i := 5) ?ho5x602 (fun K hK => ?st5x602) AllReadyH.nil)
  case ho2x601 => (simp only [List.getElem?_toArray, List.getElem?_cons_succ, List.getElem?_cons_zero]; try rfl)
  case ho5x602 => (simp only [List.getElem?_toArray, List.getElem?_cons_succ, List.getElem?_cons_zero]; try rfl)
  case st2x601 =>
    go_simp
    refine (refOver_any _ _).mono ?_
    rintro e w' ⟨rfl, rfl⟩
    go_wp2_with fail
    refine hK.out _ _ ?_ (fun hHeld => ?_)
    · (first | exact ⟨a0_, a1_, a2_, a3_, b0_, b1_, b2_, b3_⟩ | go_keep)
    clear hK K
    (try simp only [Act.put, List.setIfInBounds_toArray, List.set_cons_zero, List.set_cons_succ])
    refine wpAnyH_ready (rs := [5]) (by kernel_rfl) (by simp) ?_
    refine' AllReadyH.cons (i := 5) ?ho5x603 (fun K hK => ?st5x603) AllReadyH.nil
    case ho5x603 => (simp only [List.getElem?_toArray, List.getElem?_cons_succ, List.getElem?_cons_zero]; try rfl)
    go_simp
    refine hK.out _ _ ?_ (fun hHeld => ?_)
    · (first | exact ⟨a0_, a1_, a2_, a3_, b0_, b1_, b2_, b3_⟩ | go_keep)
    clear hK K
    (try simp only [Act.put, List.setIfInBounds_toArray, List.set_cons_zero, List.set_cons_succ])
    refine wpAnyH_ready (rs := [6]) (by kernel_rfl) (by simp) ?_
    refine' AllReadyH.cons (i := 6) ?ho6x604 (fun K hK => ?st6x604) AllReadyH.nil
    case ho6x604 => (simp only [List.getElem?_toArray, List.getElem?_cons_succ, List.getElem?_cons_zero]; try rfl)
    go_simp
    refine (refNum2_any _ _ k0 b0 n0 s0 k1 b1 n1 s1 _ _ _ (by exact heap_at _ _ _ (by first | rfl | simp)) hs0H.out hs1H.out).mono ?_
    rw [hrH.out, refVm]
    rintro e w' ⟨rfl, hb'⟩
    replace hb := chainB (B := W0.heap.size) (a := W0) (by go_grown) hb' (by have := hb.size; first | omega | (simp; done) | (simp; omega))
    clear hb' a0_ a1_ a2_ a3_ b0_ b1_ b2_ b3_ r0_ r1_ r2_ r3_ f0_ f1_ f2_ f3_ hz hs
    obtain ⟨a0_, a1_, a2_, a3_⟩ := (hAH.out.below hb).cells; obtain ⟨b0_, b1_, b2_, b3_⟩ := (hBH.out.below hb).cells; obtain ⟨r0_, r1_, r2_, r3_⟩ := (hRH.out.below hb).cells; obtain ⟨f0_, f1_, f2_, f3_⟩ := (hRH.out.below hb).free; have hz := Nat.lt_of_lt_of_le hz0.out hb.size; have hs := hb.size
    go_wp2_with fail
    refine hK.out _ _ ?_ (fun hHeld => ?_)
    · (first | exact ⟨a0_, a1_, a2_, a3_, b0_, b1_, b2_, b3_⟩ | go_keep)
    clear hK K
    (try simp only [Act.put, List.setIfInBounds_toArray, List.set_cons_zero, List.set_cons_succ])
    refine' wpAnyH_take (i := 7) (v := .agg #[.int .u8 k', .bool b', .int .i64 n', .string s']) ?hi7x605 ?hs7x605 ?hf7x605 ?hr7x605 ?hQ7x605 ?hy7x605 ?hS7x605 ?rest7x605
    case hi7x605 => (simp only [List.getElem?_toArray, List.getElem?_cons_succ, List.getElem?_cons_zero]; try rfl)
    case hs7x605 => kernel_rfl
    case hf7x605 => kernel_rfl
    case hr7x605 => kernel_rfl
    case hQ7x605 => exact fun _ _ _ h => h
    case hy7x605 => exact Or.inl ⟨by rfl, by (intro w hSw; (try dsimp only at hSw); go_simp)⟩
    case hS7x605 => assumption
    (try simp only [Act.put, List.setIfInBounds_toArray, List.set_cons_zero, List.set_cons_succ])
    refine' wpAnyH_take (i := 8) (v := .int .i64 x) ?hi8x606 ?hs8x606 ?hf8x606 ?hr8x606 ?hQ8x606 ?hy8x606 ?hS8x606 ?rest8x606
    case hi8x606 => (simp only [List.getElem?_toArray, List.getElem?_cons_succ, List.getElem?_cons_zero]; try rfl)
    case hs8x606 => kernel_rfl
    case hf8x606 => kernel_rfl
    case hr8x606 => kernel_rfl
    case hQ8x606 => exact fun _ _ _ h => h
    case hy8x606 => exact Or.inl ⟨by rfl, by (intro w hSw; (try dsimp only at hSw); go_simp)⟩
    case hS8x606 => assumption
    (try simp only [Act.put, List.setIfInBounds_toArray, List.set_cons_zero, List.set_cons_succ])
    have hne1 : ¬ (w.heap.size + 1 + 1 = w.heap.size) := by omega
    have hne2 : ¬ (w.heap.size = w.heap.size + 1 + 1) := by omega
    refine wpAnyH_ready (rs := [9]) (by kernel_rfl) (by simp) ?_
    refine' AllReadyH.cons (i := 9) ?ho9x607 (fun K hK => ?st9x607) AllReadyH.nil
    case ho9x607 => (simp only [List.getElem?_toArray, List.getElem?_cons_succ, List.getElem?_cons_zero]; try rfl)
    go_simp
    refine hK.out _ _ ?_ (fun hHeld => ?_)
    · (first | exact ⟨a0_, a1_, a2_, a3_, b0_, b1_, b2_, b3_⟩ | go_keep)
    clear hK K
    (try simp only [Act.put, List.setIfInBounds_toArray, List.set_cons_zero, List.set_cons_succ])
    refine' wpAnyH_take (i := 10) (v := .int .i64 x) ?hi10x608 ?hs10x608 ?hf10x608 ?hr10x608 ?hQ10x608 ?hy10x608 ?hS10x608 ?rest10x608
    case hi10x608 => (simp only [List.getElem?_toArray, List.getElem?_cons_succ, List.getElem?_cons_zero]; try rfl)
    case hs10x608 => kernel_rfl
    case hf10x608 => kernel_rfl
    case hr10x608 => kernel_rfl
    case hQ10x608 => exact fun _ _ _ h => h
    case hy10x608 => exact Or.inl ⟨by rfl, by (intro w hSw; (try dsimp only at hSw); go_simp)⟩
    case hS10x608 => assumption
    (try simp only [Act.put, List.setIfInBounds_toArray, List.set_cons_zero, List.set_cons_succ])
    refine wpAnyH_done (by kernel_rfl) ?_ _
    refine NoPanic.normal ?_
    clear hne1 hne2
    go_wp2
    refine bodyPost_ret (v := .tuple #[.agg #[.int .u8 k', .bool b', .int .i64 n', .string s'], .int .i64 x]) (by simp [results, Tryd.results34, go_sem, r0_, r1_, r2_, r3_, hz]) rfl ⟨rfl, ?_⟩
    have hbw := hwWH.out.trans (hb.mono hwWH.out.size)
    clear hb
    go_grown
  case st5x602 =>
    go_simp
    refine hK.out _ _ ?_ (fun hHeld => ?_)
    · (first | exact ⟨a0_, a1_, a2_, a3_, b0_, b1_, b2_, b3_⟩ | go_keep)
    clear hK K
    (try simp only [Act.put, List.setIfInBounds_toArray, List.set_cons_zero, List.set_cons_succ])
    refine wpAnyH_ready (rs := [2]) (by kernel_rfl) (by simp) ?_
    refine' AllReadyH.cons (i := 2) ?ho2x609 (fun K hK => ?st2x609) AllReadyH.nil
    case ho2x609 => (simp only [List.getElem?_toArray, List.getElem?_cons_succ, List.getElem?_cons_zero]; try rfl)
    go_simp
    refine (refOver_any _ _).mono ?_
    rintro e w' ⟨rfl, rfl⟩
    go_wp2_with fail
    refine hK.out _ _ ?_ (fun hHeld => ?_)
    · (first | exact ⟨a0_, a1_, a2_, a3_, b0_, b1_, b2_, b3_⟩ | go_keep)
    clear hK K
    (try simp only [Act.put, List.setIfInBounds_toArray, List.set_cons_zero, List.set_cons_succ])
    refine wpAnyH_ready (rs := [6]) (by kernel_rfl) (by simp) ?_
    refine' AllReadyH.cons (i := 6) ?ho6x610 (fun K hK => ?st6x610) AllReadyH.nil
    case ho6x610 => (simp only [List.getElem?_toArray, List.getElem?_cons_succ, List.getElem?_cons_zero]; try rfl)
    go_simp
    refine (refNum2_any _ _ k0 b0 n0 s0 k1 b1 n1 s1 _ _ _ (by exact heap_at _ _ _ (by first | rfl | simp)) hs0H.out hs1H.out).mono ?_
    rw [hrH.out, refVm]
    rintro e w' ⟨rfl, hb'⟩
    replace hb := chainB (B := W0.heap.size) (a := W0) (by go_grown) hb' (by have := hb.size; first | omega | (simp; done) | (simp; omega))
    clear hb' a0_ a1_ a2_ a3_ b0_ b1_ b2_ b3_ r0_ r1_ r2_ r3_ f0_ f1_ f2_ f3_ hz hs
    obtain ⟨a0_, a1_, a2_, a3_⟩ := (hAH.out.below hb).cells; obtain ⟨b0_, b1_, b2_, b3_⟩ := (hBH.out.below hb).cells; obtain ⟨r0_, r1_, r2_, r3_⟩ := (hRH.out.below hb).cells; obtain ⟨f0_, f1_, f2_, f3_⟩ := (hRH.out.below hb).free; have hz := Nat.lt_of_lt_of_le hz0.out hb.size; have hs := hb.size
    go_wp2_with fail
    refine hK.out _ _ ?_ (fun hHeld => ?_)
    · (first | exact ⟨a0_, a1_, a2_, a3_, b0_, b1_, b2_, b3_⟩ | go_keep)
    clear hK K
    (try simp only [Act.put, List.setIfInBounds_toArray, List.set_cons_zero, List.set_cons_succ])
    refine' wpAnyH_take (i := 7) (v := .agg #[.int .u8 k', .bool b', .int .i64 n', .string s']) ?hi7x611 ?hs7x611 ?hf7x611 ?hr7x611 ?hQ7x611 ?hy7x611 ?hS7x611 ?rest7x611
    case hi7x611 => (simp only [List.getElem?_toArray, List.getElem?_cons_succ, List.getElem?_cons_zero]; try rfl)
    case hs7x611 => kernel_rfl
    case hf7x611 => kernel_rfl
    case hr7x611 => kernel_rfl
    case hQ7x611 => exact fun _ _ _ h => h
    case hy7x611 => exact Or.inl ⟨by rfl, by (intro w hSw; (try dsimp only at hSw); go_simp)⟩
    case hS7x611 => assumption
    (try simp only [Act.put, List.setIfInBounds_toArray, List.set_cons_zero, List.set_cons_succ])
    refine' wpAnyH_take (i := 8) (v := .int .i64 x) ?hi8x612 ?hs8x612 ?hf8x612 ?hr8x612 ?hQ8x612 ?hy8x612 ?hS8x612 ?rest8x612
    case hi8x612 => (simp only [List.getElem?_toArray, List.getElem?_cons_succ, List.getElem?_cons_zero]; try rfl)
    case hs8x612 => kernel_rfl
    case hf8x612 => kernel_rfl
    case hr8x612 => kernel_rfl
    case hQ8x612 => exact fun _ _ _ h => h
    case hy8x612 => exact Or.inl ⟨by rfl, by (intro w hSw; (try dsimp only at hSw); go_simp)⟩
    case hS8x612 => assumption
    (try simp only [Act.put, List.setIfInBounds_toArray, List.set_cons_zero, List.set_cons_succ])
    have hne1 : ¬ (w.heap.size + 1 + 1 = w.heap.size) := by omega
    have hne2 : ¬ (w.heap.size = w.heap.size + 1 + 1) := by omega
    refine wpAnyH_ready (rs := [9]) (by kernel_rfl) (by simp) ?_
    refine' AllReadyH.cons (i := 9) ?ho9x613 (fun K hK => ?st9x613) AllReadyH.nil
    case ho9x613 => (simp only [List.getElem?_toArray, List.getElem?_cons_succ, List.getElem?_cons_zero]; try rfl)
    go_simp
    refine hK.out _ _ ?_ (fun hHeld => ?_)
    · (first | exact ⟨a0_, a1_, a2_, a3_, b0_, b1_, b2_, b3_⟩ | go_keep)
    clear hK K
    (try simp only [Act.put, List.setIfInBounds_toArray, List.set_cons_zero, List.set_cons_succ])
    refine' wpAnyH_take (i := 10) (v := .int .i64 x) ?hi10x614 ?hs10x614 ?hf10x614 ?hr10x614 ?hQ10x614 ?hy10x614 ?hS10x614 ?rest10x614
    case hi10x614 => (simp only [List.getElem?_toArray, List.getElem?_cons_succ, List.getElem?_cons_zero]; try rfl)
    case hs10x614 => kernel_rfl
    case hf10x614 => kernel_rfl
    case hr10x614 => kernel_rfl
    case hQ10x614 => exact fun _ _ _ h => h
    case hy10x614 => exact Or.inl ⟨by rfl, by (intro w hSw; (try dsimp only at hSw); go_simp)⟩
    case hS10x614 => assumption
    (try simp only [Act.put, List.setIfInBounds_toArray, List.set_cons_zero, List.set_cons_succ])
    refine wpAnyH_done (by kernel_rfl) ?_ _
    refine NoPanic.normal ?_
    clear hne1 hne2
    go_wp2
    refine bodyPost_ret (v := .tuple #[.agg #[.int .u8 k', .bool b', .int .i64 n', .string s'], .int .i64 x]) (by simp [results, Tryd.results34, go_sem, r0_, r1_, r2_, r3_, hz]) rfl ⟨rfl, ?_⟩
    have hbw := hwWH.out.trans (hb.mono hwWH.out.size)
    clear hb
    go_grown

set_option maxRecDepth 100000 in
set_option maxHeartbeats 8000000 in
theorem refMul_b (k0 : Int) (b0 : Bool) (n0 : Int) (s0 : ByteArray) (k1 : Int) (b1 : Bool) (n1 : Int) (s1 : ByteArray) (w : World) (hs0 : s0.size ≤ 140737488355328) (hs1 : s1.size ≤ 140737488355328) (hc : n0 = -1 ∧ n1 = -1) :
    Calls Tryd.prog 34 #[.agg #[.int .u8 k0, .bool b0, .int .i64 n0, .string s0], .agg #[.int .u8 k1, .bool b1, .int .i64 n1, .string s1]] w fun e w' => e = .returned (refV (numS ⟨k0, b0, n0, s0⟩ ⟨k1, b1, n1, s1⟩ (wrap64 (n0 * n1), 0))) ∧ Below w.heap.size w w' := by
  obtain ⟨r, hr⟩ : ∃ r, numS ⟨k0, b0, n0, s0⟩ ⟨k1, b1, n1, s1⟩ (wrap64 (n0 * n1), 0) = r := ⟨_, rfl⟩
  rw [hr]
  obtain ⟨⟨k', b', n', s'⟩, x⟩ := r
  rw [refVm]
  have hrH := Lib.hid hr
  clear hr
  have hs0H := Lib.hid hs0; have hs1H := Lib.hid hs1
  have dA : (n0 == -1) = true := by simp; omega
  have dAn : (n0 != -1) = false := by simp; omega
  have dAd : decide (n0 = -1) = true := by simp; omega
  have dB : (n1 == -9223372036854775808) = false := by simp; omega
  have dBn : (n1 != -9223372036854775808) = true := by simp; omega
  have dBd : decide (n1 = -9223372036854775808) = false := by simp; omega
  have dC : (n1 == -1) = true := by simp; omega
  have dCn : (n1 != -1) = false := by simp; omega
  have dCd : decide (n1 = -1) = true := by simp; omega
  have dD : (n0 == -9223372036854775808) = false := by simp; omega
  have dDn : (n0 != -9223372036854775808) = true := by simp; omega
  have dDd : decide (n0 = -9223372036854775808) = false := by simp; omega
  have dZ : (n0 == 0) = false := by simp; omega
  have dZn : (n0 != 0) = true := by simp; omega
  have dZd : decide (n0 = 0) = false := by simp; omega
  clear hc
  obtain ⟨m, hm⟩ : ∃ m, wrap64 (n0 * n1) = m := ⟨_, rfl⟩
  have hm' : IntKind.i64.wrap (n0 * n1) = m := by rw [wrap_is, hm]
  rw [hm] at hrH
  obtain ⟨W0, hW0, hwW, hA, hB, hR, hzz⟩ := boxes2 w k0 b0 n0 s0 k1 b1 n1 s1
  have hAH := Lib.hid hA; have hBH := Lib.hid hB; have hRH := Lib.hid hR; have hz0 := Lib.hid hzz; have hwWH := Lib.hid hwW
  clear hA hB hR hzz hwW hs0 hs1
  have hb := Below.refl W0.heap.size W0
  obtain ⟨a0_, a1_, a2_, a3_⟩ := (hAH.out.below hb).cells; obtain ⟨b0_, b1_, b2_, b3_⟩ := (hBH.out.below hb).cells; obtain ⟨r0_, r1_, r2_, r3_⟩ := (hRH.out.below hb).cells; obtain ⟨f0_, f1_, f2_, f3_⟩ := (hRH.out.below hb).free; have hz := Nat.lt_of_lt_of_le hz0.out hb.size; have hs := hb.size
  go_enter Tryd.func34, Tryd.ntmps34
  go_wp2_with fail
  refine wp_region_noPanic ?_
  refine wp_region_held_drew (S := (fun w' => w'.cell? ⟨w.heap.size, 0, none⟩ = some (.int .u8 k0) ∧ w'.cell? ⟨w.heap.size, 1, none⟩ = some (.bool b0) ∧ w'.cell? ⟨w.heap.size, 2, none⟩ = some (.int .i64 n0) ∧ w'.cell? ⟨w.heap.size, 3, none⟩ = some (.string s0) ∧ w'.cell? ⟨w.heap.size + 1, 0, none⟩ = some (.int .u8 k1) ∧ w'.cell? ⟨w.heap.size + 1, 1, none⟩ = some (.bool b1) ∧ w'.cell? ⟨w.heap.size + 1, 2, none⟩ = some (.int .i64 n1) ∧ w'.cell? ⟨w.heap.size + 1, 3, none⟩ = some (.string s1))) (by kernel_rfl) (by first | exact ⟨a0_, a1_, a2_, a3_, b0_, b1_, b2_, b3_⟩ | go_keep) (fun hHeld => ?_)
  refine' wpAnyH_take (i := 0) (v := .pointer (some ⟨w.heap.size, 2, none⟩)) ?hi0x615 ?hs0x615 ?hf0x615 ?hr0x615 ?hQ0x615 ?hy0x615 ?hS0x615 ?rest0x615
  case hi0x615 => (simp only [List.getElem?_toArray, List.getElem?_cons_succ, List.getElem?_cons_zero]; try rfl)
  case hs0x615 => kernel_rfl
  case hf0x615 => kernel_rfl
  case hr0x615 => kernel_rfl
  case hQ0x615 => exact fun _ _ _ h => h
  case hy0x615 => exact Or.inl ⟨by rfl, by (intro w hSw; (try dsimp only at hSw); go_simp)⟩
  case hS0x615 => assumption
  (try simp only [Act.put, List.setIfInBounds_toArray, List.set_cons_zero, List.set_cons_succ])
  refine' wpAnyH_take (i := 1) (v := .int .i64 n0) ?hi1x616 ?hs1x616 ?hf1x616 ?hr1x616 ?hQ1x616 ?hy1x616 ?hS1x616 ?rest1x616
  case hi1x616 => (simp only [List.getElem?_toArray, List.getElem?_cons_succ, List.getElem?_cons_zero]; try rfl)
  case hs1x616 => kernel_rfl
  case hf1x616 => kernel_rfl
  case hr1x616 => kernel_rfl
  case hQ1x616 => exact fun _ _ _ h => h
  case hy1x616 => exact Or.inl ⟨by rfl, by (intro w hSw; (try dsimp only at hSw); go_simp)⟩
  case hS1x616 => assumption
  (try simp only [Act.put, List.setIfInBounds_toArray, List.set_cons_zero, List.set_cons_succ])
  refine' wpAnyH_take (i := 2) (v := .bool true) ?hi2x617 ?hs2x617 ?hf2x617 ?hr2x617 ?hQ2x617 ?hy2x617 ?hS2x617 ?rest2x617
  case hi2x617 => (simp only [List.getElem?_toArray, List.getElem?_cons_succ, List.getElem?_cons_zero]; try rfl)
  case hs2x617 => kernel_rfl
  case hf2x617 => kernel_rfl
  case hr2x617 => kernel_rfl
  case hQ2x617 => exact fun _ _ _ h => h
  case hy2x617 => exact Or.inl ⟨by rfl, by (intro w hSw; (try dsimp only at hSw); go_simp)⟩
  case hS2x617 => assumption
  (try simp only [Act.put, List.setIfInBounds_toArray, List.set_cons_zero, List.set_cons_succ])
  refine' wpAnyH_take (i := 3) (v := .bool true) ?hi3x618 ?hs3x618 ?hf3x618 ?hr3x618 ?hQ3x618 ?hy3x618 ?hS3x618 ?rest3x618
  case hi3x618 => (simp only [List.getElem?_toArray, List.getElem?_cons_succ, List.getElem?_cons_zero]; try rfl)
  case hs3x618 => kernel_rfl
  case hf3x618 => kernel_rfl
  case hr3x618 => kernel_rfl
  case hQ3x618 => exact fun _ _ _ h => h
  case hy3x618 => exact Or.inl ⟨by rfl, by (intro w hSw; (try dsimp only at hSw); go_simp)⟩
  case hS3x618 => assumption
  (try simp only [Act.put, List.setIfInBounds_toArray, List.set_cons_zero, List.set_cons_succ])
  refine' wpAnyH_take (i := 4) (v := .pointer (some ⟨w.heap.size + 1, 2, none⟩)) ?hi4x619 ?hs4x619 ?hf4x619 ?hr4x619 ?hQ4x619 ?hy4x619 ?hS4x619 ?rest4x619
  case hi4x619 => (simp only [List.getElem?_toArray, List.getElem?_cons_succ, List.getElem?_cons_zero]; try rfl)
  case hs4x619 => kernel_rfl
  case hf4x619 => kernel_rfl
  case hr4x619 => kernel_rfl
  case hQ4x619 => exact fun _ _ _ h => h
  case hy4x619 => exact Or.inl ⟨by rfl, by (intro w hSw; (try dsimp only at hSw); go_simp)⟩
  case hS4x619 => assumption
  (try simp only [Act.put, List.setIfInBounds_toArray, List.set_cons_zero, List.set_cons_succ])
  refine' wpAnyH_take (i := 5) (v := .int .i64 n1) ?hi5x620 ?hs5x620 ?hf5x620 ?hr5x620 ?hQ5x620 ?hy5x620 ?hS5x620 ?rest5x620
  case hi5x620 => (simp only [List.getElem?_toArray, List.getElem?_cons_succ, List.getElem?_cons_zero]; try rfl)
  case hs5x620 => kernel_rfl
  case hf5x620 => kernel_rfl
  case hr5x620 => kernel_rfl
  case hQ5x620 => exact fun _ _ _ h => h
  case hy5x620 => exact Or.inl ⟨by rfl, by (intro w hSw; (try dsimp only at hSw); go_simp)⟩
  case hS5x620 => assumption
  (try simp only [Act.put, List.setIfInBounds_toArray, List.set_cons_zero, List.set_cons_succ])
  refine' wpAnyH_take (i := 6) (v := .bool false) ?hi6x621 ?hs6x621 ?hf6x621 ?hr6x621 ?hQ6x621 ?hy6x621 ?hS6x621 ?rest6x621
  case hi6x621 => (simp only [List.getElem?_toArray, List.getElem?_cons_succ, List.getElem?_cons_zero]; try rfl)
  case hs6x621 => kernel_rfl
  case hf6x621 => kernel_rfl
  case hr6x621 => kernel_rfl
  case hQ6x621 => exact fun _ _ _ h => h
  case hy6x621 => exact Or.inl ⟨by rfl, by (intro w hSw; (try dsimp only at hSw); go_simp)⟩
  case hS6x621 => assumption
  (try simp only [Act.put, List.setIfInBounds_toArray, List.set_cons_zero, List.set_cons_succ])
  refine' wpAnyH_take (i := 7) (v := .bool false) ?hi7x622 ?hs7x622 ?hf7x622 ?hr7x622 ?hQ7x622 ?hy7x622 ?hS7x622 ?rest7x622
  case hi7x622 => (simp only [List.getElem?_toArray, List.getElem?_cons_succ, List.getElem?_cons_zero]; try rfl)
  case hs7x622 => kernel_rfl
  case hf7x622 => kernel_rfl
  case hr7x622 => kernel_rfl
  case hQ7x622 => exact fun _ _ _ h => h
  case hy7x622 => exact Or.inl ⟨by rfl, by (intro w hSw; (try dsimp only at hSw); go_simp)⟩
  case hS7x622 => assumption
  (try simp only [Act.put, List.setIfInBounds_toArray, List.set_cons_zero, List.set_cons_succ])
  refine' wpAnyH_take (i := 8) (v := .bool false) ?hi8x623 ?hs8x623 ?hf8x623 ?hr8x623 ?hQ8x623 ?hy8x623 ?hS8x623 ?rest8x623
  case hi8x623 => (simp only [List.getElem?_toArray, List.getElem?_cons_succ, List.getElem?_cons_zero]; try rfl)
  case hs8x623 => kernel_rfl
  case hf8x623 => kernel_rfl
  case hr8x623 => kernel_rfl
  case hQ8x623 => exact fun _ _ _ h => h
  case hy8x623 => exact Or.inl ⟨by rfl, by (intro w hSw; (try dsimp only at hSw); go_simp)⟩
  case hS8x623 => assumption
  (try simp only [Act.put, List.setIfInBounds_toArray, List.set_cons_zero, List.set_cons_succ])
  refine' wpAnyH_take (i := 9) (v := .pointer (some ⟨w.heap.size + 1, 2, none⟩)) ?hi9x624 ?hs9x624 ?hf9x624 ?hr9x624 ?hQ9x624 ?hy9x624 ?hS9x624 ?rest9x624
  case hi9x624 => (simp only [List.getElem?_toArray, List.getElem?_cons_succ, List.getElem?_cons_zero]; try rfl)
  case hs9x624 => kernel_rfl
  case hf9x624 => kernel_rfl
  case hr9x624 => kernel_rfl
  case hQ9x624 => exact fun _ _ _ h => h
  case hy9x624 => exact Or.inl ⟨by rfl, by (intro w hSw; (try dsimp only at hSw); go_simp)⟩
  case hS9x624 => assumption
  (try simp only [Act.put, List.setIfInBounds_toArray, List.set_cons_zero, List.set_cons_succ])
  refine' wpAnyH_take (i := 10) (v := .int .i64 n1) ?hi10x625 ?hs10x625 ?hf10x625 ?hr10x625 ?hQ10x625 ?hy10x625 ?hS10x625 ?rest10x625
  case hi10x625 => (simp only [List.getElem?_toArray, List.getElem?_cons_succ, List.getElem?_cons_zero]; try rfl)
  case hs10x625 => kernel_rfl
  case hf10x625 => kernel_rfl
  case hr10x625 => kernel_rfl
  case hQ10x625 => exact fun _ _ _ h => h
  case hy10x625 => exact Or.inl ⟨by rfl, by (intro w hSw; (try dsimp only at hSw); go_simp)⟩
  case hS10x625 => assumption
  (try simp only [Act.put, List.setIfInBounds_toArray, List.set_cons_zero, List.set_cons_succ])
  refine' wpAnyH_take (i := 11) (v := .bool true) ?hi11x626 ?hs11x626 ?hf11x626 ?hr11x626 ?hQ11x626 ?hy11x626 ?hS11x626 ?rest11x626
  case hi11x626 => (simp only [List.getElem?_toArray, List.getElem?_cons_succ, List.getElem?_cons_zero]; try rfl)
  case hs11x626 => kernel_rfl
  case hf11x626 => kernel_rfl
  case hr11x626 => kernel_rfl
  case hQ11x626 => exact fun _ _ _ h => h
  case hy11x626 => exact Or.inl ⟨by rfl, by (intro w hSw; (try dsimp only at hSw); go_simp)⟩
  case hS11x626 => assumption
  (try simp only [Act.put, List.setIfInBounds_toArray, List.set_cons_zero, List.set_cons_succ])
  refine' wpAnyH_take (i := 12) (v := .bool true) ?hi12x627 ?hs12x627 ?hf12x627 ?hr12x627 ?hQ12x627 ?hy12x627 ?hS12x627 ?rest12x627
  case hi12x627 => (simp only [List.getElem?_toArray, List.getElem?_cons_succ, List.getElem?_cons_zero]; try rfl)
  case hs12x627 => kernel_rfl
  case hf12x627 => kernel_rfl
  case hr12x627 => kernel_rfl
  case hQ12x627 => exact fun _ _ _ h => h
  case hy12x627 => exact Or.inl ⟨by rfl, by (intro w hSw; (try dsimp only at hSw); go_simp)⟩
  case hS12x627 => assumption
  (try simp only [Act.put, List.setIfInBounds_toArray, List.set_cons_zero, List.set_cons_succ])
  refine' wpAnyH_take (i := 13) (v := .pointer (some ⟨w.heap.size, 2, none⟩)) ?hi13x628 ?hs13x628 ?hf13x628 ?hr13x628 ?hQ13x628 ?hy13x628 ?hS13x628 ?rest13x628
  case hi13x628 => (simp only [List.getElem?_toArray, List.getElem?_cons_succ, List.getElem?_cons_zero]; try rfl)
  case hs13x628 => kernel_rfl
  case hf13x628 => kernel_rfl
  case hr13x628 => kernel_rfl
  case hQ13x628 => exact fun _ _ _ h => h
  case hy13x628 => exact Or.inl ⟨by rfl, by (intro w hSw; (try dsimp only at hSw); go_simp)⟩
  case hS13x628 => assumption
  (try simp only [Act.put, List.setIfInBounds_toArray, List.set_cons_zero, List.set_cons_succ])
  refine' wpAnyH_take (i := 14) (v := .int .i64 n0) ?hi14x629 ?hs14x629 ?hf14x629 ?hr14x629 ?hQ14x629 ?hy14x629 ?hS14x629 ?rest14x629
  case hi14x629 => (simp only [List.getElem?_toArray, List.getElem?_cons_succ, List.getElem?_cons_zero]; try rfl)
  case hs14x629 => kernel_rfl
  case hf14x629 => kernel_rfl
  case hr14x629 => kernel_rfl
  case hQ14x629 => exact fun _ _ _ h => h
  case hy14x629 => exact Or.inl ⟨by rfl, by (intro w hSw; (try dsimp only at hSw); go_simp)⟩
  case hS14x629 => assumption
  (try simp only [Act.put, List.setIfInBounds_toArray, List.set_cons_zero, List.set_cons_succ])
  refine' wpAnyH_take (i := 15) (v := .bool false) ?hi15x630 ?hs15x630 ?hf15x630 ?hr15x630 ?hQ15x630 ?hy15x630 ?hS15x630 ?rest15x630
  case hi15x630 => (simp only [List.getElem?_toArray, List.getElem?_cons_succ, List.getElem?_cons_zero]; try rfl)
  case hs15x630 => kernel_rfl
  case hf15x630 => kernel_rfl
  case hr15x630 => kernel_rfl
  case hQ15x630 => exact fun _ _ _ h => h
  case hy15x630 => exact Or.inl ⟨by rfl, by (intro w hSw; (try dsimp only at hSw); go_simp)⟩
  case hS15x630 => assumption
  (try simp only [Act.put, List.setIfInBounds_toArray, List.set_cons_zero, List.set_cons_succ])
  refine' wpAnyH_take (i := 16) (v := .bool false) ?hi16x631 ?hs16x631 ?hf16x631 ?hr16x631 ?hQ16x631 ?hy16x631 ?hS16x631 ?rest16x631
  case hi16x631 => (simp only [List.getElem?_toArray, List.getElem?_cons_succ, List.getElem?_cons_zero]; try rfl)
  case hs16x631 => kernel_rfl
  case hf16x631 => kernel_rfl
  case hr16x631 => kernel_rfl
  case hQ16x631 => exact fun _ _ _ h => h
  case hy16x631 => exact Or.inl ⟨by rfl, by (intro w hSw; (try dsimp only at hSw); go_simp)⟩
  case hS16x631 => assumption
  (try simp only [Act.put, List.setIfInBounds_toArray, List.set_cons_zero, List.set_cons_succ])
  refine' wpAnyH_take (i := 17) (v := .bool false) ?hi17x632 ?hs17x632 ?hf17x632 ?hr17x632 ?hQ17x632 ?hy17x632 ?hS17x632 ?rest17x632
  case hi17x632 => (simp only [List.getElem?_toArray, List.getElem?_cons_succ, List.getElem?_cons_zero]; try rfl)
  case hs17x632 => kernel_rfl
  case hf17x632 => kernel_rfl
  case hr17x632 => kernel_rfl
  case hQ17x632 => exact fun _ _ _ h => h
  case hy17x632 => exact Or.inl ⟨by rfl, by (intro w hSw; (try dsimp only at hSw); go_simp)⟩
  case hS17x632 => assumption
  (try simp only [Act.put, List.setIfInBounds_toArray, List.set_cons_zero, List.set_cons_succ])
  refine' wpAnyH_take (i := 18) (v := .bool false) ?hi18x633 ?hs18x633 ?hf18x633 ?hr18x633 ?hQ18x633 ?hy18x633 ?hS18x633 ?rest18x633
  case hi18x633 => (simp only [List.getElem?_toArray, List.getElem?_cons_succ, List.getElem?_cons_zero]; try rfl)
  case hs18x633 => kernel_rfl
  case hf18x633 => kernel_rfl
  case hr18x633 => kernel_rfl
  case hQ18x633 => exact fun _ _ _ h => h
  case hy18x633 => exact Or.inl ⟨by rfl, by (intro w hSw; (try dsimp only at hSw); go_simp)⟩
  case hS18x633 => assumption
  (try simp only [Act.put, List.setIfInBounds_toArray, List.set_cons_zero, List.set_cons_succ])
  refine' wpAnyH_take (i := 19) (v := .pointer (some ⟨w.heap.size, 2, none⟩)) ?hi19x634 ?hs19x634 ?hf19x634 ?hr19x634 ?hQ19x634 ?hy19x634 ?hS19x634 ?rest19x634
  case hi19x634 => (simp only [List.getElem?_toArray, List.getElem?_cons_succ, List.getElem?_cons_zero]; try rfl)
  case hs19x634 => kernel_rfl
  case hf19x634 => kernel_rfl
  case hr19x634 => kernel_rfl
  case hQ19x634 => exact fun _ _ _ h => h
  case hy19x634 => exact Or.inl ⟨by rfl, by (intro w hSw; (try dsimp only at hSw); go_simp)⟩
  case hS19x634 => assumption
  (try simp only [Act.put, List.setIfInBounds_toArray, List.set_cons_zero, List.set_cons_succ])
  refine' wpAnyH_take (i := 20) (v := .int .i64 n0) ?hi20x635 ?hs20x635 ?hf20x635 ?hr20x635 ?hQ20x635 ?hy20x635 ?hS20x635 ?rest20x635
  case hi20x635 => (simp only [List.getElem?_toArray, List.getElem?_cons_succ, List.getElem?_cons_zero]; try rfl)
  case hs20x635 => kernel_rfl
  case hf20x635 => kernel_rfl
  case hr20x635 => kernel_rfl
  case hQ20x635 => exact fun _ _ _ h => h
  case hy20x635 => exact Or.inl ⟨by rfl, by (intro w hSw; (try dsimp only at hSw); go_simp)⟩
  case hS20x635 => assumption
  (try simp only [Act.put, List.setIfInBounds_toArray, List.set_cons_zero, List.set_cons_succ])
  refine' wpAnyH_take (i := 21) (v := .bool true) ?hi21x636 ?hs21x636 ?hf21x636 ?hr21x636 ?hQ21x636 ?hy21x636 ?hS21x636 ?rest21x636
  case hi21x636 => (simp only [List.getElem?_toArray, List.getElem?_cons_succ, List.getElem?_cons_zero]; try rfl)
  case hs21x636 => kernel_rfl
  case hf21x636 => kernel_rfl
  case hr21x636 => kernel_rfl
  case hQ21x636 => exact fun _ _ _ h => h
  case hy21x636 => exact Or.inl ⟨by rfl, by (intro w hSw; (try dsimp only at hSw); go_simp)⟩
  case hS21x636 => assumption
  (try simp only [Act.put, List.setIfInBounds_toArray, List.set_cons_zero, List.set_cons_succ])
  refine' wpAnyH_take (i := 22) (v := .bool true) ?hi22x637 ?hs22x637 ?hf22x637 ?hr22x637 ?hQ22x637 ?hy22x637 ?hS22x637 ?rest22x637
  case hi22x637 => (simp only [List.getElem?_toArray, List.getElem?_cons_succ, List.getElem?_cons_zero]; try rfl)
  case hs22x637 => kernel_rfl
  case hf22x637 => kernel_rfl
  case hr22x637 => kernel_rfl
  case hQ22x637 => exact fun _ _ _ h => h
  case hy22x637 => exact Or.inl ⟨by rfl, by (intro w hSw; (try dsimp only at hSw); go_simp)⟩
  case hS22x637 => assumption
  (try simp only [Act.put, List.setIfInBounds_toArray, List.set_cons_zero, List.set_cons_succ])
  refine' wpAnyH_take (i := 23) (v := .pointer (some ⟨w.heap.size, 2, none⟩)) ?hi23x638 ?hs23x638 ?hf23x638 ?hr23x638 ?hQ23x638 ?hy23x638 ?hS23x638 ?rest23x638
  case hi23x638 => (simp only [List.getElem?_toArray, List.getElem?_cons_succ, List.getElem?_cons_zero]; try rfl)
  case hs23x638 => kernel_rfl
  case hf23x638 => kernel_rfl
  case hr23x638 => kernel_rfl
  case hQ23x638 => exact fun _ _ _ h => h
  case hy23x638 => exact Or.inl ⟨by rfl, by (intro w hSw; (try dsimp only at hSw); go_simp)⟩
  case hS23x638 => assumption
  (try simp only [Act.put, List.setIfInBounds_toArray, List.set_cons_zero, List.set_cons_succ])
  refine' wpAnyH_take (i := 24) (v := .int .i64 n0) ?hi24x639 ?hs24x639 ?hf24x639 ?hr24x639 ?hQ24x639 ?hy24x639 ?hS24x639 ?rest24x639
  case hi24x639 => (simp only [List.getElem?_toArray, List.getElem?_cons_succ, List.getElem?_cons_zero]; try rfl)
  case hs24x639 => kernel_rfl
  case hf24x639 => kernel_rfl
  case hr24x639 => kernel_rfl
  case hQ24x639 => exact fun _ _ _ h => h
  case hy24x639 => exact Or.inl ⟨by rfl, by (intro w hSw; (try dsimp only at hSw); go_simp)⟩
  case hS24x639 => assumption
  (try simp only [Act.put, List.setIfInBounds_toArray, List.set_cons_zero, List.set_cons_succ])
  refine' wpAnyH_take (i := 25) (v := .bool false) ?hi25x640 ?hs25x640 ?hf25x640 ?hr25x640 ?hQ25x640 ?hy25x640 ?hS25x640 ?rest25x640
  case hi25x640 => (simp only [List.getElem?_toArray, List.getElem?_cons_succ, List.getElem?_cons_zero]; try rfl)
  case hs25x640 => kernel_rfl
  case hf25x640 => kernel_rfl
  case hr25x640 => kernel_rfl
  case hQ25x640 => exact fun _ _ _ h => h
  case hy25x640 => exact Or.inl ⟨by rfl, by (intro w hSw; (try dsimp only at hSw); go_simp)⟩
  case hS25x640 => assumption
  (try simp only [Act.put, List.setIfInBounds_toArray, List.set_cons_zero, List.set_cons_succ])
  refine' wpAnyH_take (i := 26) (v := .bool false) ?hi26x641 ?hs26x641 ?hf26x641 ?hr26x641 ?hQ26x641 ?hy26x641 ?hS26x641 ?rest26x641
  case hi26x641 => (simp only [List.getElem?_toArray, List.getElem?_cons_succ, List.getElem?_cons_zero]; try rfl)
  case hs26x641 => kernel_rfl
  case hf26x641 => kernel_rfl
  case hr26x641 => kernel_rfl
  case hQ26x641 => exact fun _ _ _ h => h
  case hy26x641 => exact Or.inl ⟨by rfl, by (intro w hSw; (try dsimp only at hSw); go_simp)⟩
  case hS26x641 => assumption
  (try simp only [Act.put, List.setIfInBounds_toArray, List.set_cons_zero, List.set_cons_succ])
  refine' wpAnyH_take (i := 27) (v := .bool false) ?hi27x642 ?hs27x642 ?hf27x642 ?hr27x642 ?hQ27x642 ?hy27x642 ?hS27x642 ?rest27x642
  case hi27x642 => (simp only [List.getElem?_toArray, List.getElem?_cons_succ, List.getElem?_cons_zero]; try rfl)
  case hs27x642 => kernel_rfl
  case hf27x642 => kernel_rfl
  case hr27x642 => kernel_rfl
  case hQ27x642 => exact fun _ _ _ h => h
  case hy27x642 => exact Or.inl ⟨by rfl, by (intro w hSw; (try dsimp only at hSw); go_simp)⟩
  case hS27x642 => assumption
  (try simp only [Act.put, List.setIfInBounds_toArray, List.set_cons_zero, List.set_cons_succ])
  refine' wpAnyH_take (i := 28) (v := undef) ?hi28x643 ?hs28x643 ?hf28x643 ?hr28x643 ?hQ28x643 ?hy28x643 ?hS28x643 ?rest28x643
  case hi28x643 => (simp only [List.getElem?_toArray, List.getElem?_cons_succ, List.getElem?_cons_zero]; try rfl)
  case hs28x643 => kernel_rfl
  case hf28x643 => kernel_rfl
  case hr28x643 => kernel_rfl
  case hQ28x643 => exact fun _ _ _ h => h
  case hy28x643 => exact Or.inr ⟨by rfl, rfl⟩
  case hS28x643 => assumption
  (try simp only [Act.put, List.setIfInBounds_toArray, List.set_cons_zero, List.set_cons_succ])
  refine' wpAnyH_take (i := 29) (v := undef) ?hi29x644 ?hs29x644 ?hf29x644 ?hr29x644 ?hQ29x644 ?hy29x644 ?hS29x644 ?rest29x644
  case hi29x644 => (simp only [List.getElem?_toArray, List.getElem?_cons_succ, List.getElem?_cons_zero]; try rfl)
  case hs29x644 => kernel_rfl
  case hf29x644 => kernel_rfl
  case hr29x644 => kernel_rfl
  case hQ29x644 => exact fun _ _ _ h => h
  case hy29x644 => exact Or.inr ⟨by rfl, rfl⟩
  case hS29x644 => assumption
  (try simp only [Act.put, List.setIfInBounds_toArray, List.set_cons_zero, List.set_cons_succ])
  refine' wpAnyH_take (i := 30) (v := undef) ?hi30x645 ?hs30x645 ?hf30x645 ?hr30x645 ?hQ30x645 ?hy30x645 ?hS30x645 ?rest30x645
  case hi30x645 => (simp only [List.getElem?_toArray, List.getElem?_cons_succ, List.getElem?_cons_zero]; try rfl)
  case hs30x645 => kernel_rfl
  case hf30x645 => kernel_rfl
  case hr30x645 => kernel_rfl
  case hQ30x645 => exact fun _ _ _ h => h
  case hy30x645 => exact Or.inr ⟨by rfl, rfl⟩
  case hS30x645 => assumption
  (try simp only [Act.put, List.setIfInBounds_toArray, List.set_cons_zero, List.set_cons_succ])
  refine' wpAnyH_take (i := 31) (v := undef) ?hi31x646 ?hs31x646 ?hf31x646 ?hr31x646 ?hQ31x646 ?hy31x646 ?hS31x646 ?rest31x646
  case hi31x646 => (simp only [List.getElem?_toArray, List.getElem?_cons_succ, List.getElem?_cons_zero]; try rfl)
  case hs31x646 => kernel_rfl
  case hf31x646 => kernel_rfl
  case hr31x646 => kernel_rfl
  case hQ31x646 => exact fun _ _ _ h => h
  case hy31x646 => exact Or.inr ⟨by rfl, rfl⟩
  case hS31x646 => assumption
  (try simp only [Act.put, List.setIfInBounds_toArray, List.set_cons_zero, List.set_cons_succ])
  refine' wpAnyH_take (i := 32) (v := undef) ?hi32x647 ?hs32x647 ?hf32x647 ?hr32x647 ?hQ32x647 ?hy32x647 ?hS32x647 ?rest32x647
  case hi32x647 => (simp only [List.getElem?_toArray, List.getElem?_cons_succ, List.getElem?_cons_zero]; try rfl)
  case hs32x647 => kernel_rfl
  case hf32x647 => kernel_rfl
  case hr32x647 => kernel_rfl
  case hQ32x647 => exact fun _ _ _ h => h
  case hy32x647 => exact Or.inr ⟨by rfl, rfl⟩
  case hS32x647 => assumption
  (try simp only [Act.put, List.setIfInBounds_toArray, List.set_cons_zero, List.set_cons_succ])
  refine' wpAnyH_take (i := 33) (v := undef) ?hi33x648 ?hs33x648 ?hf33x648 ?hr33x648 ?hQ33x648 ?hy33x648 ?hS33x648 ?rest33x648
  case hi33x648 => (simp only [List.getElem?_toArray, List.getElem?_cons_succ, List.getElem?_cons_zero]; try rfl)
  case hs33x648 => kernel_rfl
  case hf33x648 => kernel_rfl
  case hr33x648 => kernel_rfl
  case hQ33x648 => exact fun _ _ _ h => h
  case hy33x648 => exact Or.inr ⟨by rfl, rfl⟩
  case hS33x648 => assumption
  (try simp only [Act.put, List.setIfInBounds_toArray, List.set_cons_zero, List.set_cons_succ])
  refine' wpAnyH_take (i := 34) (v := undef) ?hi34x649 ?hs34x649 ?hf34x649 ?hr34x649 ?hQ34x649 ?hy34x649 ?hS34x649 ?rest34x649
  case hi34x649 => (simp only [List.getElem?_toArray, List.getElem?_cons_succ, List.getElem?_cons_zero]; try rfl)
  case hs34x649 => kernel_rfl
  case hf34x649 => kernel_rfl
  case hr34x649 => kernel_rfl
  case hQ34x649 => exact fun _ _ _ h => h
  case hy34x649 => exact Or.inr ⟨by rfl, rfl⟩
  case hS34x649 => assumption
  (try simp only [Act.put, List.setIfInBounds_toArray, List.set_cons_zero, List.set_cons_succ])
  refine' wpAnyH_take (i := 35) (v := .bool false) ?hi35x650 ?hs35x650 ?hf35x650 ?hr35x650 ?hQ35x650 ?hy35x650 ?hS35x650 ?rest35x650
  case hi35x650 => (simp only [List.getElem?_toArray, List.getElem?_cons_succ, List.getElem?_cons_zero]; try rfl)
  case hs35x650 => kernel_rfl
  case hf35x650 => kernel_rfl
  case hr35x650 => kernel_rfl
  case hQ35x650 => exact fun _ _ _ h => h
  case hy35x650 => exact Or.inl ⟨by rfl, by (intro w hSw; (try dsimp only at hSw); go_simp)⟩
  case hS35x650 => assumption
  (try simp only [Act.put, List.setIfInBounds_toArray, List.set_cons_zero, List.set_cons_succ])
  refine' wpAnyH_take (i := 36) (v := .bool false) ?hi36x651 ?hs36x651 ?hf36x651 ?hr36x651 ?hQ36x651 ?hy36x651 ?hS36x651 ?rest36x651
  case hi36x651 => (simp only [List.getElem?_toArray, List.getElem?_cons_succ, List.getElem?_cons_zero]; try rfl)
  case hs36x651 => kernel_rfl
  case hf36x651 => kernel_rfl
  case hr36x651 => kernel_rfl
  case hQ36x651 => exact fun _ _ _ h => h
  case hy36x651 => exact Or.inl ⟨by rfl, by (intro w hSw; (try dsimp only at hSw); go_simp)⟩
  case hS36x651 => assumption
  (try simp only [Act.put, List.setIfInBounds_toArray, List.set_cons_zero, List.set_cons_succ])
  refine' wpAnyH_take (i := 37) (v := .bool false) ?hi37x652 ?hs37x652 ?hf37x652 ?hr37x652 ?hQ37x652 ?hy37x652 ?hS37x652 ?rest37x652
  case hi37x652 => (simp only [List.getElem?_toArray, List.getElem?_cons_succ, List.getElem?_cons_zero]; try rfl)
  case hs37x652 => kernel_rfl
  case hf37x652 => kernel_rfl
  case hr37x652 => kernel_rfl
  case hQ37x652 => exact fun _ _ _ h => h
  case hy37x652 => exact Or.inl ⟨by rfl, by (intro w hSw; (try dsimp only at hSw); go_simp)⟩
  case hS37x652 => assumption
  (try simp only [Act.put, List.setIfInBounds_toArray, List.set_cons_zero, List.set_cons_succ])
  refine wpAnyH_done (by kernel_rfl) ?_ _
  refine NoPanic.normal ?_
  clear hHeld
  go_wp2_with fail
  refine wp_region_noPanic ?_
  refine wp_region_held_drew (S := (fun w' => w'.cell? ⟨w.heap.size, 0, none⟩ = some (.int .u8 k0) ∧ w'.cell? ⟨w.heap.size, 1, none⟩ = some (.bool b0) ∧ w'.cell? ⟨w.heap.size, 2, none⟩ = some (.int .i64 n0) ∧ w'.cell? ⟨w.heap.size, 3, none⟩ = some (.string s0) ∧ w'.cell? ⟨w.heap.size + 1, 0, none⟩ = some (.int .u8 k1) ∧ w'.cell? ⟨w.heap.size + 1, 1, none⟩ = some (.bool b1) ∧ w'.cell? ⟨w.heap.size + 1, 2, none⟩ = some (.int .i64 n1) ∧ w'.cell? ⟨w.heap.size + 1, 3, none⟩ = some (.string s1))) (by kernel_rfl) (by first | exact ⟨a0_, a1_, a2_, a3_, b0_, b1_, b2_, b3_⟩ | go_keep) (fun hHeld => ?_)
  refine' wpAnyH_take (i := 0) (v := .int .i64 m) ?hi0x653 ?hs0x653 ?hf0x653 ?hr0x653 ?hQ0x653 ?hy0x653 ?hS0x653 ?rest0x653
  case hi0x653 => (simp only [List.getElem?_toArray, List.getElem?_cons_succ, List.getElem?_cons_zero]; try rfl)
  case hs0x653 => kernel_rfl
  case hf0x653 => kernel_rfl
  case hr0x653 => kernel_rfl
  case hQ0x653 => exact fun _ _ _ h => h
  case hy0x653 => exact Or.inl ⟨by rfl, by (intro w hSw; (try dsimp only at hSw); go_simp)⟩
  case hS0x653 => assumption
  (try simp only [Act.put, List.setIfInBounds_toArray, List.set_cons_zero, List.set_cons_succ])
  refine' wpAnyH_take (i := 1) (v := .bool false) ?hi1x654 ?hs1x654 ?hf1x654 ?hr1x654 ?hQ1x654 ?hy1x654 ?hS1x654 ?rest1x654
  case hi1x654 => (simp only [List.getElem?_toArray, List.getElem?_cons_succ, List.getElem?_cons_zero]; try rfl)
  case hs1x654 => kernel_rfl
  case hf1x654 => kernel_rfl
  case hr1x654 => kernel_rfl
  case hQ1x654 => exact fun _ _ _ h => h
  case hy1x654 => exact Or.inl ⟨by rfl, by (intro w hSw; (try dsimp only at hSw); go_simp)⟩
  case hS1x654 => assumption
  (try simp only [Act.put, List.setIfInBounds_toArray, List.set_cons_zero, List.set_cons_succ])
  refine' wpAnyH_take (i := 3) (v := .agg #[.int .u8 k0, .bool b0, .int .i64 n0, .string s0]) ?hi3x655 ?hs3x655 ?hf3x655 ?hr3x655 ?hQ3x655 ?hy3x655 ?hS3x655 ?rest3x655
  case hi3x655 => (simp only [List.getElem?_toArray, List.getElem?_cons_succ, List.getElem?_cons_zero]; try rfl)
  case hs3x655 => kernel_rfl
  case hf3x655 => kernel_rfl
  case hr3x655 => kernel_rfl
  case hQ3x655 => exact fun _ _ _ h => h
  case hy3x655 => exact Or.inl ⟨by rfl, by (intro w hSw; (try dsimp only at hSw); go_simp)⟩
  case hS3x655 => assumption
  (try simp only [Act.put, List.setIfInBounds_toArray, List.set_cons_zero, List.set_cons_succ])
  refine' wpAnyH_take (i := 4) (v := .agg #[.int .u8 k1, .bool b1, .int .i64 n1, .string s1]) ?hi4x656 ?hs4x656 ?hf4x656 ?hr4x656 ?hQ4x656 ?hy4x656 ?hS4x656 ?rest4x656
  case hi4x656 => (simp only [List.getElem?_toArray, List.getElem?_cons_succ, List.getElem?_cons_zero]; try rfl)
  case hs4x656 => kernel_rfl
  case hf4x656 => kernel_rfl
  case hr4x656 => kernel_rfl
  case hQ4x656 => exact fun _ _ _ h => h
  case hy4x656 => exact Or.inl ⟨by rfl, by (intro w hSw; (try dsimp only at hSw); go_simp)⟩
  case hS4x656 => assumption
  (try simp only [Act.put, List.setIfInBounds_toArray, List.set_cons_zero, List.set_cons_succ])
  refine wpAnyH_ready (rs := [2, 5]) (by kernel_rfl) (by simp) ?_
  refine' AllReadyH.cons (i := 2) ?ho2x657 (fun K hK => ?st2x657) (AllReadyH.cons (i := 5) ?ho5x658 (fun K hK => ?st5x658) AllReadyH.nil)
  case ho2x657 => (simp only [List.getElem?_toArray, List.getElem?_cons_succ, List.getElem?_cons_zero]; try rfl)
  case ho5x658 => (simp only [List.getElem?_toArray, List.getElem?_cons_succ, List.getElem?_cons_zero]; try rfl)
  case st2x657 =>
    go_simp
    refine (refOver_any _ _).mono ?_
    rintro e w' ⟨rfl, rfl⟩
    go_wp2_with fail
    refine hK.out _ _ ?_ (fun hHeld => ?_)
    · (first | exact ⟨a0_, a1_, a2_, a3_, b0_, b1_, b2_, b3_⟩ | go_keep)
    clear hK K
    (try simp only [Act.put, List.setIfInBounds_toArray, List.set_cons_zero, List.set_cons_succ])
    refine wpAnyH_ready (rs := [5]) (by kernel_rfl) (by simp) ?_
    refine' AllReadyH.cons (i := 5) ?ho5x659 (fun K hK => ?st5x659) AllReadyH.nil
    case ho5x659 => (simp only [List.getElem?_toArray, List.getElem?_cons_succ, List.getElem?_cons_zero]; try rfl)
    go_simp
    refine hK.out _ _ ?_ (fun hHeld => ?_)
    · (first | exact ⟨a0_, a1_, a2_, a3_, b0_, b1_, b2_, b3_⟩ | go_keep)
    clear hK K
    (try simp only [Act.put, List.setIfInBounds_toArray, List.set_cons_zero, List.set_cons_succ])
    refine wpAnyH_ready (rs := [6]) (by kernel_rfl) (by simp) ?_
    refine' AllReadyH.cons (i := 6) ?ho6x660 (fun K hK => ?st6x660) AllReadyH.nil
    case ho6x660 => (simp only [List.getElem?_toArray, List.getElem?_cons_succ, List.getElem?_cons_zero]; try rfl)
    go_simp
    refine (refNum2_any _ _ k0 b0 n0 s0 k1 b1 n1 s1 _ _ _ (by exact heap_at _ _ _ (by first | rfl | simp)) hs0H.out hs1H.out).mono ?_
    rw [hrH.out, refVm]
    rintro e w' ⟨rfl, hb'⟩
    replace hb := chainB (B := W0.heap.size) (a := W0) (by go_grown) hb' (by have := hb.size; first | omega | (simp; done) | (simp; omega))
    clear hb' a0_ a1_ a2_ a3_ b0_ b1_ b2_ b3_ r0_ r1_ r2_ r3_ f0_ f1_ f2_ f3_ hz hs
    obtain ⟨a0_, a1_, a2_, a3_⟩ := (hAH.out.below hb).cells; obtain ⟨b0_, b1_, b2_, b3_⟩ := (hBH.out.below hb).cells; obtain ⟨r0_, r1_, r2_, r3_⟩ := (hRH.out.below hb).cells; obtain ⟨f0_, f1_, f2_, f3_⟩ := (hRH.out.below hb).free; have hz := Nat.lt_of_lt_of_le hz0.out hb.size; have hs := hb.size
    go_wp2_with fail
    refine hK.out _ _ ?_ (fun hHeld => ?_)
    · (first | exact ⟨a0_, a1_, a2_, a3_, b0_, b1_, b2_, b3_⟩ | go_keep)
    clear hK K
    (try simp only [Act.put, List.setIfInBounds_toArray, List.set_cons_zero, List.set_cons_succ])
    refine' wpAnyH_take (i := 7) (v := .agg #[.int .u8 k', .bool b', .int .i64 n', .string s']) ?hi7x661 ?hs7x661 ?hf7x661 ?hr7x661 ?hQ7x661 ?hy7x661 ?hS7x661 ?rest7x661
    case hi7x661 => (simp only [List.getElem?_toArray, List.getElem?_cons_succ, List.getElem?_cons_zero]; try rfl)
    case hs7x661 => kernel_rfl
    case hf7x661 => kernel_rfl
    case hr7x661 => kernel_rfl
    case hQ7x661 => exact fun _ _ _ h => h
    case hy7x661 => exact Or.inl ⟨by rfl, by (intro w hSw; (try dsimp only at hSw); go_simp)⟩
    case hS7x661 => assumption
    (try simp only [Act.put, List.setIfInBounds_toArray, List.set_cons_zero, List.set_cons_succ])
    refine' wpAnyH_take (i := 8) (v := .int .i64 x) ?hi8x662 ?hs8x662 ?hf8x662 ?hr8x662 ?hQ8x662 ?hy8x662 ?hS8x662 ?rest8x662
    case hi8x662 => (simp only [List.getElem?_toArray, List.getElem?_cons_succ, List.getElem?_cons_zero]; try rfl)
    case hs8x662 => kernel_rfl
    case hf8x662 => kernel_rfl
    case hr8x662 => kernel_rfl
    case hQ8x662 => exact fun _ _ _ h => h
    case hy8x662 => exact Or.inl ⟨by rfl, by (intro w hSw; (try dsimp only at hSw); go_simp)⟩
    case hS8x662 => assumption
    (try simp only [Act.put, List.setIfInBounds_toArray, List.set_cons_zero, List.set_cons_succ])
    have hne1 : ¬ (w.heap.size + 1 + 1 = w.heap.size) := by omega
    have hne2 : ¬ (w.heap.size = w.heap.size + 1 + 1) := by omega
    refine wpAnyH_ready (rs := [9]) (by kernel_rfl) (by simp) ?_
    refine' AllReadyH.cons (i := 9) ?ho9x663 (fun K hK => ?st9x663) AllReadyH.nil
    case ho9x663 => (simp only [List.getElem?_toArray, List.getElem?_cons_succ, List.getElem?_cons_zero]; try rfl)
    go_simp
    refine hK.out _ _ ?_ (fun hHeld => ?_)
    · (first | exact ⟨a0_, a1_, a2_, a3_, b0_, b1_, b2_, b3_⟩ | go_keep)
    clear hK K
    (try simp only [Act.put, List.setIfInBounds_toArray, List.set_cons_zero, List.set_cons_succ])
    refine' wpAnyH_take (i := 10) (v := .int .i64 x) ?hi10x664 ?hs10x664 ?hf10x664 ?hr10x664 ?hQ10x664 ?hy10x664 ?hS10x664 ?rest10x664
    case hi10x664 => (simp only [List.getElem?_toArray, List.getElem?_cons_succ, List.getElem?_cons_zero]; try rfl)
    case hs10x664 => kernel_rfl
    case hf10x664 => kernel_rfl
    case hr10x664 => kernel_rfl
    case hQ10x664 => exact fun _ _ _ h => h
    case hy10x664 => exact Or.inl ⟨by rfl, by (intro w hSw; (try dsimp only at hSw); go_simp)⟩
    case hS10x664 => assumption
    (try simp only [Act.put, List.setIfInBounds_toArray, List.set_cons_zero, List.set_cons_succ])
    refine wpAnyH_done (by kernel_rfl) ?_ _
    refine NoPanic.normal ?_
    clear hne1 hne2
    go_wp2
    refine bodyPost_ret (v := .tuple #[.agg #[.int .u8 k', .bool b', .int .i64 n', .string s'], .int .i64 x]) (by simp [results, Tryd.results34, go_sem, r0_, r1_, r2_, r3_, hz]) rfl ⟨rfl, ?_⟩
    have hbw := hwWH.out.trans (hb.mono hwWH.out.size)
    clear hb
    go_grown
  case st5x658 =>
    go_simp
    refine hK.out _ _ ?_ (fun hHeld => ?_)
    · (first | exact ⟨a0_, a1_, a2_, a3_, b0_, b1_, b2_, b3_⟩ | go_keep)
    clear hK K
    (try simp only [Act.put, List.setIfInBounds_toArray, List.set_cons_zero, List.set_cons_succ])
    refine wpAnyH_ready (rs := [2]) (by kernel_rfl) (by simp) ?_
    refine' AllReadyH.cons (i := 2) ?ho2x665 (fun K hK => ?st2x665) AllReadyH.nil
    case ho2x665 => (simp only [List.getElem?_toArray, List.getElem?_cons_succ, List.getElem?_cons_zero]; try rfl)
    go_simp
    refine (refOver_any _ _).mono ?_
    rintro e w' ⟨rfl, rfl⟩
    go_wp2_with fail
    refine hK.out _ _ ?_ (fun hHeld => ?_)
    · (first | exact ⟨a0_, a1_, a2_, a3_, b0_, b1_, b2_, b3_⟩ | go_keep)
    clear hK K
    (try simp only [Act.put, List.setIfInBounds_toArray, List.set_cons_zero, List.set_cons_succ])
    refine wpAnyH_ready (rs := [6]) (by kernel_rfl) (by simp) ?_
    refine' AllReadyH.cons (i := 6) ?ho6x666 (fun K hK => ?st6x666) AllReadyH.nil
    case ho6x666 => (simp only [List.getElem?_toArray, List.getElem?_cons_succ, List.getElem?_cons_zero]; try rfl)
    go_simp
    refine (refNum2_any _ _ k0 b0 n0 s0 k1 b1 n1 s1 _ _ _ (by exact heap_at _ _ _ (by first | rfl | simp)) hs0H.out hs1H.out).mono ?_
    rw [hrH.out, refVm]
    rintro e w' ⟨rfl, hb'⟩
    replace hb := chainB (B := W0.heap.size) (a := W0) (by go_grown) hb' (by have := hb.size; first | omega | (simp; done) | (simp; omega))
    clear hb' a0_ a1_ a2_ a3_ b0_ b1_ b2_ b3_ r0_ r1_ r2_ r3_ f0_ f1_ f2_ f3_ hz hs
    obtain ⟨a0_, a1_, a2_, a3_⟩ := (hAH.out.below hb).cells; obtain ⟨b0_, b1_, b2_, b3_⟩ := (hBH.out.below hb).cells; obtain ⟨r0_, r1_, r2_, r3_⟩ := (hRH.out.below hb).cells; obtain ⟨f0_, f1_, f2_, f3_⟩ := (hRH.out.below hb).free; have hz := Nat.lt_of_lt_of_le hz0.out hb.size; have hs := hb.size
    go_wp2_with fail
    refine hK.out _ _ ?_ (fun hHeld => ?_)
    · (first | exact ⟨a0_, a1_, a2_, a3_, b0_, b1_, b2_, b3_⟩ | go_keep)
    clear hK K
    (try simp only [Act.put, List.setIfInBounds_toArray, List.set_cons_zero, List.set_cons_succ])
    refine' wpAnyH_take (i := 7) (v := .agg #[.int .u8 k', .bool b', .int .i64 n', .string s']) ?hi7x667 ?hs7x667 ?hf7x667 ?hr7x667 ?hQ7x667 ?hy7x667 ?hS7x667 ?rest7x667
    case hi7x667 => (simp only [List.getElem?_toArray, List.getElem?_cons_succ, List.getElem?_cons_zero]; try rfl)
    case hs7x667 => kernel_rfl
    case hf7x667 => kernel_rfl
    case hr7x667 => kernel_rfl
    case hQ7x667 => exact fun _ _ _ h => h
    case hy7x667 => exact Or.inl ⟨by rfl, by (intro w hSw; (try dsimp only at hSw); go_simp)⟩
    case hS7x667 => assumption
    (try simp only [Act.put, List.setIfInBounds_toArray, List.set_cons_zero, List.set_cons_succ])
    refine' wpAnyH_take (i := 8) (v := .int .i64 x) ?hi8x668 ?hs8x668 ?hf8x668 ?hr8x668 ?hQ8x668 ?hy8x668 ?hS8x668 ?rest8x668
    case hi8x668 => (simp only [List.getElem?_toArray, List.getElem?_cons_succ, List.getElem?_cons_zero]; try rfl)
    case hs8x668 => kernel_rfl
    case hf8x668 => kernel_rfl
    case hr8x668 => kernel_rfl
    case hQ8x668 => exact fun _ _ _ h => h
    case hy8x668 => exact Or.inl ⟨by rfl, by (intro w hSw; (try dsimp only at hSw); go_simp)⟩
    case hS8x668 => assumption
    (try simp only [Act.put, List.setIfInBounds_toArray, List.set_cons_zero, List.set_cons_succ])
    have hne1 : ¬ (w.heap.size + 1 + 1 = w.heap.size) := by omega
    have hne2 : ¬ (w.heap.size = w.heap.size + 1 + 1) := by omega
    refine wpAnyH_ready (rs := [9]) (by kernel_rfl) (by simp) ?_
    refine' AllReadyH.cons (i := 9) ?ho9x669 (fun K hK => ?st9x669) AllReadyH.nil
    case ho9x669 => (simp only [List.getElem?_toArray, List.getElem?_cons_succ, List.getElem?_cons_zero]; try rfl)
    go_simp
    refine hK.out _ _ ?_ (fun hHeld => ?_)
    · (first | exact ⟨a0_, a1_, a2_, a3_, b0_, b1_, b2_, b3_⟩ | go_keep)
    clear hK K
    (try simp only [Act.put, List.setIfInBounds_toArray, List.set_cons_zero, List.set_cons_succ])
    refine' wpAnyH_take (i := 10) (v := .int .i64 x) ?hi10x670 ?hs10x670 ?hf10x670 ?hr10x670 ?hQ10x670 ?hy10x670 ?hS10x670 ?rest10x670
    case hi10x670 => (simp only [List.getElem?_toArray, List.getElem?_cons_succ, List.getElem?_cons_zero]; try rfl)
    case hs10x670 => kernel_rfl
    case hf10x670 => kernel_rfl
    case hr10x670 => kernel_rfl
    case hQ10x670 => exact fun _ _ _ h => h
    case hy10x670 => exact Or.inl ⟨by rfl, by (intro w hSw; (try dsimp only at hSw); go_simp)⟩
    case hS10x670 => assumption
    (try simp only [Act.put, List.setIfInBounds_toArray, List.set_cons_zero, List.set_cons_succ])
    refine wpAnyH_done (by kernel_rfl) ?_ _
    refine NoPanic.normal ?_
    clear hne1 hne2
    go_wp2
    refine bodyPost_ret (v := .tuple #[.agg #[.int .u8 k', .bool b', .int .i64 n', .string s'], .int .i64 x]) (by simp [results, Tryd.results34, go_sem, r0_, r1_, r2_, r3_, hz]) rfl ⟨rfl, ?_⟩
    have hbw := hwWH.out.trans (hb.mono hwWH.out.size)
    clear hb
    go_grown

end Go.Proofs.YtoolojfbjpnllaaDoor
