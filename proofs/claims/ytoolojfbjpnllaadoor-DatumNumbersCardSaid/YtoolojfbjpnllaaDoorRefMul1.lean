/-
  What the document's own Mul answers, at this program, part 1. Condition: the texts have at most 2^47 bytes, the numbers are 64-bit numbers.
-/
import Derived.Test.YtoolojfbjpnllaaDoorRefNeg
import Derived.Test.YtoolojfbjpnllaaDoorOps
import Derived.Deep.RegionHeld3
set_option linter.unusedVariables false
set_option linter.unusedSimpArgs false
namespace Go.Proofs.YtoolojfbjpnllaaDoor
open Go.RowKit Go.Lib

set_option maxRecDepth 100000 in
set_option maxHeartbeats 8000000 in
theorem refMul_c (k0 : Int) (b0 : Bool) (n0 : Int) (s0 : ByteArray) (k1 : Int) (b1 : Bool) (n1 : Int) (s1 : ByteArray) (w : World) (hs0 : s0.size ≤ 140737488355328) (hs1 : s1.size ≤ 140737488355328) (hc : n0 = -1 ∧ n1 ≠ -9223372036854775808 ∧ n1 ≠ -1) :
    Calls Tryd.prog 34 #[.agg #[.int .u8 k0, .bool b0, .int .i64 n0, .string s0], .agg #[.int .u8 k1, .bool b1, .int .i64 n1, .string s1]] w fun e w' => e = .returned (refV (numS ⟨k0, b0, n0, s0⟩ ⟨k1, b1, n1, s1⟩ (wrap64 (n0 * n1), 0))) ∧ Below w.heap.size w w' := by
  obtain ⟨r, hr⟩ : ∃ r, numS ⟨k0, b0, n0, s0⟩ ⟨k1, b1, n1, s1⟩ (wrap64 (n0 * n1), 0) = r := ⟨_, rfl⟩
  rw [hr]
  obtain ⟨⟨k', b', n', s'⟩, x⟩ := r
  rw [refVm]
  have hrH := Lib.hid hr
  clear hr
  have hs0H := Lib.hid hs0; have hs1H := Lib.hid hs1
  have dA : (n0 == -1) = true := by simp; omega
  have dAn : (n0 != -1) = false := by simp; omega
  have dAd : decide (n0 = -1) = true := by simp; omega
  have dB : (n1 == -9223372036854775808) = false := by simp; omega
  have dBn : (n1 != -9223372036854775808) = true := by simp; omega
  have dBd : decide (n1 = -9223372036854775808) = false := by simp; omega
  have dC : (n1 == -1) = false := by simp; omega
  have dCn : (n1 != -1) = true := by simp; omega
  have dCd : decide (n1 = -1) = false := by simp; omega
  have dD : (n0 == -9223372036854775808) = false := by simp; omega
  have dDn : (n0 != -9223372036854775808) = true := by simp; omega
  have dDd : decide (n0 = -9223372036854775808) = false := by simp; omega
  have dZ : (n0 == 0) = false := by simp; omega
  have dZn : (n0 != 0) = true := by simp; omega
  have dZd : decide (n0 = 0) = false := by simp; omega
  clear hc
  obtain ⟨m, hm⟩ : ∃ m, wrap64 (n0 * n1) = m := ⟨_, rfl⟩
  have hm' : IntKind.i64.wrap (n0 * n1) = m := by rw [wrap_is, hm]
  rw [hm] at hrH
  obtain ⟨W0, hW0, hwW, hA, hB, hR, hzz⟩ := boxes2 w k0 b0 n0 s0 k1 b1 n1 s1
  have hAH := Lib.hid hA; have hBH := Lib.hid hB; have hRH := Lib.hid hR; have hz0 := Lib.hid hzz; have hwWH := Lib.hid hwW
  clear hA hB hR hzz hwW hs0 hs1
  have hb := Below.refl W0.heap.size W0
  obtain ⟨a0_, a1_, a2_, a3_⟩ := (hAH.out.below hb).cells; obtain ⟨b0_, b1_, b2_, b3_⟩ := (hBH.out.below hb).cells; obtain ⟨r0_, r1_, r2_, r3_⟩ := (hRH.out.below hb).cells; obtain ⟨f0_, f1_, f2_, f3_⟩ := (hRH.out.below hb).free; have hz := Nat.lt_of_lt_of_le hz0.out hb.size; have hs := hb.size
  go_enter Tryd.func34, Tryd.ntmps34
  go_wp2_with fail
  refine wp_region_noPanic ?_
  refine wp_region_held_drew (S := (fun w' => w'.cell? ⟨w.heap.size, 0, none⟩ = some (.int .u8 k0) ∧ w'.cell? ⟨w.heap.size, 1, none⟩ = some (.bool b0) ∧ w'.cell? ⟨w.heap.size, 2, none⟩ = some (.int .i64 n0) ∧ w'.cell? ⟨w.heap.size, 3, none⟩ = some (.string s0) ∧ w'.cell? ⟨w.heap.size + 1, 0, none⟩ = some (.int .u8 k1) ∧ w'.cell? ⟨w.heap.size + 1, 1, none⟩ = some (.bool b1) ∧ w'.cell? ⟨w.heap.size + 1, 2, none⟩ = some (.int .i64 n1) ∧ w'.cell? ⟨w.heap.size + 1, 3, none⟩ = some (.string s1))) (by kernel_rfl) (by first | exact ⟨a0_, a1_, a2_, a3_, b0_, b1_, b2_, b3_⟩ | go_keep) (fun hHeld => ?_)
  refine' wpAnyH_take (i := 0) (v := .pointer (some ⟨w.heap.size, 2, none⟩)) ?hi0x671 ?hs0x671 ?hf0x671 ?hr0x671 ?hQ0x671 ?hy0x671 ?hS0x671 ?rest0x671
  case hi0x671 => (simp only [List.getElem?_toArray, List.getElem?_cons_succ, List.getElem?_cons_zero]; try rfl)
  case hs0x671 => kernel_rfl
  case hf0x671 => kernel_rfl
  case hr0x671 => kernel_rfl
  case hQ0x671 => exact fun _ _ _ h => h
  case hy0x671 => exact Or.inl ⟨by rfl, by (intro w hSw; (try dsimp only at hSw); go_simp)⟩
  case hS0x671 => assumption
  (try simp only [Act.put, List.setIfInBounds_toArray, List.set_cons_zero, List.set_cons_succ])
  refine' wpAnyH_take (i := 1) (v := .int .i64 n0) ?hi1x672 ?hs1x672 ?hf1x672 ?hr1x672 ?hQ1x672 ?hy1x672 ?hS1x672 ?rest1x672
  case hi1x672 => (simp only [List.getElem?_toArray, List.getElem?_cons_succ, List.getElem?_cons_zero]; try rfl)
  case hs1x672 => kernel_rfl
  case hf1x672 => kernel_rfl
  case hr1x672 => kernel_rfl
  case hQ1x672 => exact fun _ _ _ h => h
  case hy1x672 => exact Or.inl ⟨by rfl, by (intro w hSw; (try dsimp only at hSw); go_simp)⟩
  case hS1x672 => assumption
  (try simp only [Act.put, List.setIfInBounds_toArray, List.set_cons_zero, List.set_cons_succ])
  refine' wpAnyH_take (i := 2) (v := .bool true) ?hi2x673 ?hs2x673 ?hf2x673 ?hr2x673 ?hQ2x673 ?hy2x673 ?hS2x673 ?rest2x673
  case hi2x673 => (simp only [List.getElem?_toArray, List.getElem?_cons_succ, List.getElem?_cons_zero]; try rfl)
  case hs2x673 => kernel_rfl
  case hf2x673 => kernel_rfl
  case hr2x673 => kernel_rfl
  case hQ2x673 => exact fun _ _ _ h => h
  case hy2x673 => exact Or.inl ⟨by rfl, by (intro w hSw; (try dsimp only at hSw); go_simp)⟩
  case hS2x673 => assumption
  (try simp only [Act.put, List.setIfInBounds_toArray, List.set_cons_zero, List.set_cons_succ])
  refine' wpAnyH_take (i := 3) (v := .bool true) ?hi3x674 ?hs3x674 ?hf3x674 ?hr3x674 ?hQ3x674 ?hy3x674 ?hS3x674 ?rest3x674
  case hi3x674 => (simp only [List.getElem?_toArray, List.getElem?_cons_succ, List.getElem?_cons_zero]; try rfl)
  case hs3x674 => kernel_rfl
  case hf3x674 => kernel_rfl
  case hr3x674 => kernel_rfl
  case hQ3x674 => exact fun _ _ _ h => h
  case hy3x674 => exact Or.inl ⟨by rfl, by (intro w hSw; (try dsimp only at hSw); go_simp)⟩
  case hS3x674 => assumption
  (try simp only [Act.put, List.setIfInBounds_toArray, List.set_cons_zero, List.set_cons_succ])
  refine' wpAnyH_take (i := 4) (v := .pointer (some ⟨w.heap.size + 1, 2, none⟩)) ?hi4x675 ?hs4x675 ?hf4x675 ?hr4x675 ?hQ4x675 ?hy4x675 ?hS4x675 ?rest4x675
  case hi4x675 => (simp only [List.getElem?_toArray, List.getElem?_cons_succ, List.getElem?_cons_zero]; try rfl)
  case hs4x675 => kernel_rfl
  case hf4x675 => kernel_rfl
  case hr4x675 => kernel_rfl
  case hQ4x675 => exact fun _ _ _ h => h
  case hy4x675 => exact Or.inl ⟨by rfl, by (intro w hSw; (try dsimp only at hSw); go_simp)⟩
  case hS4x675 => assumption
  (try simp only [Act.put, List.setIfInBounds_toArray, List.set_cons_zero, List.set_cons_succ])
  refine' wpAnyH_take (i := 5) (v := .int .i64 n1) ?hi5x676 ?hs5x676 ?hf5x676 ?hr5x676 ?hQ5x676 ?hy5x676 ?hS5x676 ?rest5x676
  case hi5x676 => (simp only [List.getElem?_toArray, List.getElem?_cons_succ, List.getElem?_cons_zero]; try rfl)
  case hs5x676 => kernel_rfl
  case hf5x676 => kernel_rfl
  case hr5x676 => kernel_rfl
  case hQ5x676 => exact fun _ _ _ h => h
  case hy5x676 => exact Or.inl ⟨by rfl, by (intro w hSw; (try dsimp only at hSw); go_simp)⟩
  case hS5x676 => assumption
  (try simp only [Act.put, List.setIfInBounds_toArray, List.set_cons_zero, List.set_cons_succ])
  refine' wpAnyH_take (i := 6) (v := .bool false) ?hi6x677 ?hs6x677 ?hf6x677 ?hr6x677 ?hQ6x677 ?hy6x677 ?hS6x677 ?rest6x677
  case hi6x677 => (simp only [List.getElem?_toArray, List.getElem?_cons_succ, List.getElem?_cons_zero]; try rfl)
  case hs6x677 => kernel_rfl
  case hf6x677 => kernel_rfl
  case hr6x677 => kernel_rfl
  case hQ6x677 => exact fun _ _ _ h => h
  case hy6x677 => exact Or.inl ⟨by rfl, by (intro w hSw; (try dsimp only at hSw); go_simp)⟩
  case hS6x677 => assumption
  (try simp only [Act.put, List.setIfInBounds_toArray, List.set_cons_zero, List.set_cons_succ])
  refine' wpAnyH_take (i := 7) (v := .bool false) ?hi7x678 ?hs7x678 ?hf7x678 ?hr7x678 ?hQ7x678 ?hy7x678 ?hS7x678 ?rest7x678
  case hi7x678 => (simp only [List.getElem?_toArray, List.getElem?_cons_succ, List.getElem?_cons_zero]; try rfl)
  case hs7x678 => kernel_rfl
  case hf7x678 => kernel_rfl
  case hr7x678 => kernel_rfl
  case hQ7x678 => exact fun _ _ _ h => h
  case hy7x678 => exact Or.inl ⟨by rfl, by (intro w hSw; (try dsimp only at hSw); go_simp)⟩
  case hS7x678 => assumption
  (try simp only [Act.put, List.setIfInBounds_toArray, List.set_cons_zero, List.set_cons_succ])
  refine' wpAnyH_take (i := 8) (v := .bool false) ?hi8x679 ?hs8x679 ?hf8x679 ?hr8x679 ?hQ8x679 ?hy8x679 ?hS8x679 ?rest8x679
  case hi8x679 => (simp only [List.getElem?_toArray, List.getElem?_cons_succ, List.getElem?_cons_zero]; try rfl)
  case hs8x679 => kernel_rfl
  case hf8x679 => kernel_rfl
  case hr8x679 => kernel_rfl
  case hQ8x679 => exact fun _ _ _ h => h
  case hy8x679 => exact Or.inl ⟨by rfl, by (intro w hSw; (try dsimp only at hSw); go_simp)⟩
  case hS8x679 => assumption
  (try simp only [Act.put, List.setIfInBounds_toArray, List.set_cons_zero, List.set_cons_succ])
  refine' wpAnyH_take (i := 9) (v := .pointer (some ⟨w.heap.size + 1, 2, none⟩)) ?hi9x680 ?hs9x680 ?hf9x680 ?hr9x680 ?hQ9x680 ?hy9x680 ?hS9x680 ?rest9x680
  case hi9x680 => (simp only [List.getElem?_toArray, List.getElem?_cons_succ, List.getElem?_cons_zero]; try rfl)
  case hs9x680 => kernel_rfl
  case hf9x680 => kernel_rfl
  case hr9x680 => kernel_rfl
  case hQ9x680 => exact fun _ _ _ h => h
  case hy9x680 => exact Or.inl ⟨by rfl, by (intro w hSw; (try dsimp only at hSw); go_simp)⟩
  case hS9x680 => assumption
  (try simp only [Act.put, List.setIfInBounds_toArray, List.set_cons_zero, List.set_cons_succ])
  refine' wpAnyH_take (i := 10) (v := .int .i64 n1) ?hi10x681 ?hs10x681 ?hf10x681 ?hr10x681 ?hQ10x681 ?hy10x681 ?hS10x681 ?rest10x681
  case hi10x681 => (simp only [List.getElem?_toArray, List.getElem?_cons_succ, List.getElem?_cons_zero]; try rfl)
  case hs10x681 => kernel_rfl
  case hf10x681 => kernel_rfl
  case hr10x681 => kernel_rfl
  case hQ10x681 => exact fun _ _ _ h => h
  case hy10x681 => exact Or.inl ⟨by rfl, by (intro w hSw; (try dsimp only at hSw); go_simp)⟩
  case hS10x681 => assumption
  (try simp only [Act.put, List.setIfInBounds_toArray, List.set_cons_zero, List.set_cons_succ])
  refine' wpAnyH_take (i := 11) (v := .bool false) ?hi11x682 ?hs11x682 ?hf11x682 ?hr11x682 ?hQ11x682 ?hy11x682 ?hS11x682 ?rest11x682
  case hi11x682 => (simp only [List.getElem?_toArray, List.getElem?_cons_succ, List.getElem?_cons_zero]; try rfl)
  case hs11x682 => kernel_rfl
  case hf11x682 => kernel_rfl
  case hr11x682 => kernel_rfl
  case hQ11x682 => exact fun _ _ _ h => h
  case hy11x682 => exact Or.inl ⟨by rfl, by (intro w hSw; (try dsimp only at hSw); go_simp)⟩
  case hS11x682 => assumption
  (try simp only [Act.put, List.setIfInBounds_toArray, List.set_cons_zero, List.set_cons_succ])
  refine' wpAnyH_take (i := 12) (v := .bool false) ?hi12x683 ?hs12x683 ?hf12x683 ?hr12x683 ?hQ12x683 ?hy12x683 ?hS12x683 ?rest12x683
  case hi12x683 => (simp only [List.getElem?_toArray, List.getElem?_cons_succ, List.getElem?_cons_zero]; try rfl)
  case hs12x683 => kernel_rfl
  case hf12x683 => kernel_rfl
  case hr12x683 => kernel_rfl
  case hQ12x683 => exact fun _ _ _ h => h
  case hy12x683 => exact Or.inl ⟨by rfl, by (intro w hSw; (try dsimp only at hSw); go_simp)⟩
  case hS12x683 => assumption
  (try simp only [Act.put, List.setIfInBounds_toArray, List.set_cons_zero, List.set_cons_succ])
  refine' wpAnyH_take (i := 13) (v := undef) ?hi13x684 ?hs13x684 ?hf13x684 ?hr13x684 ?hQ13x684 ?hy13x684 ?hS13x684 ?rest13x684
  case hi13x684 => (simp only [List.getElem?_toArray, List.getElem?_cons_succ, List.getElem?_cons_zero]; try rfl)
  case hs13x684 => kernel_rfl
  case hf13x684 => kernel_rfl
  case hr13x684 => kernel_rfl
  case hQ13x684 => exact fun _ _ _ h => h
  case hy13x684 => exact Or.inr ⟨by rfl, rfl⟩
  case hS13x684 => assumption
  (try simp only [Act.put, List.setIfInBounds_toArray, List.set_cons_zero, List.set_cons_succ])
  refine' wpAnyH_take (i := 14) (v := undef) ?hi14x685 ?hs14x685 ?hf14x685 ?hr14x685 ?hQ14x685 ?hy14x685 ?hS14x685 ?rest14x685
  case hi14x685 => (simp only [List.getElem?_toArray, List.getElem?_cons_succ, List.getElem?_cons_zero]; try rfl)
  case hs14x685 => kernel_rfl
  case hf14x685 => kernel_rfl
  case hr14x685 => kernel_rfl
  case hQ14x685 => exact fun _ _ _ h => h
  case hy14x685 => exact Or.inr ⟨by rfl, rfl⟩
  case hS14x685 => assumption
  (try simp only [Act.put, List.setIfInBounds_toArray, List.set_cons_zero, List.set_cons_succ])
  refine' wpAnyH_take (i := 15) (v := undef) ?hi15x686 ?hs15x686 ?hf15x686 ?hr15x686 ?hQ15x686 ?hy15x686 ?hS15x686 ?rest15x686
  case hi15x686 => (simp only [List.getElem?_toArray, List.getElem?_cons_succ, List.getElem?_cons_zero]; try rfl)
  case hs15x686 => kernel_rfl
  case hf15x686 => kernel_rfl
  case hr15x686 => kernel_rfl
  case hQ15x686 => exact fun _ _ _ h => h
  case hy15x686 => exact Or.inr ⟨by rfl, rfl⟩
  case hS15x686 => assumption
  (try simp only [Act.put, List.setIfInBounds_toArray, List.set_cons_zero, List.set_cons_succ])
  refine' wpAnyH_take (i := 16) (v := .bool false) ?hi16x687 ?hs16x687 ?hf16x687 ?hr16x687 ?hQ16x687 ?hy16x687 ?hS16x687 ?rest16x687
  case hi16x687 => (simp only [List.getElem?_toArray, List.getElem?_cons_succ, List.getElem?_cons_zero]; try rfl)
  case hs16x687 => kernel_rfl
  case hf16x687 => kernel_rfl
  case hr16x687 => kernel_rfl
  case hQ16x687 => exact fun _ _ _ h => h
  case hy16x687 => exact Or.inl ⟨by rfl, by (intro w hSw; (try dsimp only at hSw); go_simp)⟩
  case hS16x687 => assumption
  (try simp only [Act.put, List.setIfInBounds_toArray, List.set_cons_zero, List.set_cons_succ])
  refine' wpAnyH_take (i := 17) (v := .bool false) ?hi17x688 ?hs17x688 ?hf17x688 ?hr17x688 ?hQ17x688 ?hy17x688 ?hS17x688 ?rest17x688
  case hi17x688 => (simp only [List.getElem?_toArray, List.getElem?_cons_succ, List.getElem?_cons_zero]; try rfl)
  case hs17x688 => kernel_rfl
  case hf17x688 => kernel_rfl
  case hr17x688 => kernel_rfl
  case hQ17x688 => exact fun _ _ _ h => h
  case hy17x688 => exact Or.inl ⟨by rfl, by (intro w hSw; (try dsimp only at hSw); go_simp)⟩
  case hS17x688 => assumption
  (try simp only [Act.put, List.setIfInBounds_toArray, List.set_cons_zero, List.set_cons_succ])
  refine' wpAnyH_take (i := 18) (v := .bool false) ?hi18x689 ?hs18x689 ?hf18x689 ?hr18x689 ?hQ18x689 ?hy18x689 ?hS18x689 ?rest18x689
  case hi18x689 => (simp only [List.getElem?_toArray, List.getElem?_cons_succ, List.getElem?_cons_zero]; try rfl)
  case hs18x689 => kernel_rfl
  case hf18x689 => kernel_rfl
  case hr18x689 => kernel_rfl
  case hQ18x689 => exact fun _ _ _ h => h
  case hy18x689 => exact Or.inl ⟨by rfl, by (intro w hSw; (try dsimp only at hSw); go_simp)⟩
  case hS18x689 => assumption
  (try simp only [Act.put, List.setIfInBounds_toArray, List.set_cons_zero, List.set_cons_succ])
  refine' wpAnyH_take (i := 19) (v := .pointer (some ⟨w.heap.size, 2, none⟩)) ?hi19x690 ?hs19x690 ?hf19x690 ?hr19x690 ?hQ19x690 ?hy19x690 ?hS19x690 ?rest19x690
  case hi19x690 => (simp only [List.getElem?_toArray, List.getElem?_cons_succ, List.getElem?_cons_zero]; try rfl)
  case hs19x690 => kernel_rfl
  case hf19x690 => kernel_rfl
  case hr19x690 => kernel_rfl
  case hQ19x690 => exact fun _ _ _ h => h
  case hy19x690 => exact Or.inl ⟨by rfl, by (intro w hSw; (try dsimp only at hSw); go_simp)⟩
  case hS19x690 => assumption
  (try simp only [Act.put, List.setIfInBounds_toArray, List.set_cons_zero, List.set_cons_succ])
  refine' wpAnyH_take (i := 20) (v := .int .i64 n0) ?hi20x691 ?hs20x691 ?hf20x691 ?hr20x691 ?hQ20x691 ?hy20x691 ?hS20x691 ?rest20x691
  case hi20x691 => (simp only [List.getElem?_toArray, List.getElem?_cons_succ, List.getElem?_cons_zero]; try rfl)
  case hs20x691 => kernel_rfl
  case hf20x691 => kernel_rfl
  case hr20x691 => kernel_rfl
  case hQ20x691 => exact fun _ _ _ h => h
  case hy20x691 => exact Or.inl ⟨by rfl, by (intro w hSw; (try dsimp only at hSw); go_simp)⟩
  case hS20x691 => assumption
  (try simp only [Act.put, List.setIfInBounds_toArray, List.set_cons_zero, List.set_cons_succ])
  refine' wpAnyH_take (i := 21) (v := .bool true) ?hi21x692 ?hs21x692 ?hf21x692 ?hr21x692 ?hQ21x692 ?hy21x692 ?hS21x692 ?rest21x692
  case hi21x692 => (simp only [List.getElem?_toArray, List.getElem?_cons_succ, List.getElem?_cons_zero]; try rfl)
  case hs21x692 => kernel_rfl
  case hf21x692 => kernel_rfl
  case hr21x692 => kernel_rfl
  case hQ21x692 => exact fun _ _ _ h => h
  case hy21x692 => exact Or.inl ⟨by rfl, by (intro w hSw; (try dsimp only at hSw); go_simp)⟩
  case hS21x692 => assumption
  (try simp only [Act.put, List.setIfInBounds_toArray, List.set_cons_zero, List.set_cons_succ])
  refine' wpAnyH_take (i := 22) (v := .bool true) ?hi22x693 ?hs22x693 ?hf22x693 ?hr22x693 ?hQ22x693 ?hy22x693 ?hS22x693 ?rest22x693
  case hi22x693 => (simp only [List.getElem?_toArray, List.getElem?_cons_succ, List.getElem?_cons_zero]; try rfl)
  case hs22x693 => kernel_rfl
  case hf22x693 => kernel_rfl
  case hr22x693 => kernel_rfl
  case hQ22x693 => exact fun _ _ _ h => h
  case hy22x693 => exact Or.inl ⟨by rfl, by (intro w hSw; (try dsimp only at hSw); go_simp)⟩
  case hS22x693 => assumption
  (try simp only [Act.put, List.setIfInBounds_toArray, List.set_cons_zero, List.set_cons_succ])
  refine' wpAnyH_take (i := 23) (v := .pointer (some ⟨w.heap.size, 2, none⟩)) ?hi23x694 ?hs23x694 ?hf23x694 ?hr23x694 ?hQ23x694 ?hy23x694 ?hS23x694 ?rest23x694
  case hi23x694 => (simp only [List.getElem?_toArray, List.getElem?_cons_succ, List.getElem?_cons_zero]; try rfl)
  case hs23x694 => kernel_rfl
  case hf23x694 => kernel_rfl
  case hr23x694 => kernel_rfl
  case hQ23x694 => exact fun _ _ _ h => h
  case hy23x694 => exact Or.inl ⟨by rfl, by (intro w hSw; (try dsimp only at hSw); go_simp)⟩
  case hS23x694 => assumption
  (try simp only [Act.put, List.setIfInBounds_toArray, List.set_cons_zero, List.set_cons_succ])
  refine' wpAnyH_take (i := 24) (v := .int .i64 n0) ?hi24x695 ?hs24x695 ?hf24x695 ?hr24x695 ?hQ24x695 ?hy24x695 ?hS24x695 ?rest24x695
  case hi24x695 => (simp only [List.getElem?_toArray, List.getElem?_cons_succ, List.getElem?_cons_zero]; try rfl)
  case hs24x695 => kernel_rfl
  case hf24x695 => kernel_rfl
  case hr24x695 => kernel_rfl
  case hQ24x695 => exact fun _ _ _ h => h
  case hy24x695 => exact Or.inl ⟨by rfl, by (intro w hSw; (try dsimp only at hSw); go_simp)⟩
  case hS24x695 => assumption
  (try simp only [Act.put, List.setIfInBounds_toArray, List.set_cons_zero, List.set_cons_succ])
  refine' wpAnyH_take (i := 25) (v := .bool false) ?hi25x696 ?hs25x696 ?hf25x696 ?hr25x696 ?hQ25x696 ?hy25x696 ?hS25x696 ?rest25x696
  case hi25x696 => (simp only [List.getElem?_toArray, List.getElem?_cons_succ, List.getElem?_cons_zero]; try rfl)
  case hs25x696 => kernel_rfl
  case hf25x696 => kernel_rfl
  case hr25x696 => kernel_rfl
  case hQ25x696 => exact fun _ _ _ h => h
  case hy25x696 => exact Or.inl ⟨by rfl, by (intro w hSw; (try dsimp only at hSw); go_simp)⟩
  case hS25x696 => assumption
  (try simp only [Act.put, List.setIfInBounds_toArray, List.set_cons_zero, List.set_cons_succ])
  refine' wpAnyH_take (i := 26) (v := .bool false) ?hi26x697 ?hs26x697 ?hf26x697 ?hr26x697 ?hQ26x697 ?hy26x697 ?hS26x697 ?rest26x697
  case hi26x697 => (simp only [List.getElem?_toArray, List.getElem?_cons_succ, List.getElem?_cons_zero]; try rfl)
  case hs26x697 => kernel_rfl
  case hf26x697 => kernel_rfl
  case hr26x697 => kernel_rfl
  case hQ26x697 => exact fun _ _ _ h => h
  case hy26x697 => exact Or.inl ⟨by rfl, by (intro w hSw; (try dsimp only at hSw); go_simp)⟩
  case hS26x697 => assumption
  (try simp only [Act.put, List.setIfInBounds_toArray, List.set_cons_zero, List.set_cons_succ])
  refine' wpAnyH_take (i := 27) (v := .bool false) ?hi27x698 ?hs27x698 ?hf27x698 ?hr27x698 ?hQ27x698 ?hy27x698 ?hS27x698 ?rest27x698
  case hi27x698 => (simp only [List.getElem?_toArray, List.getElem?_cons_succ, List.getElem?_cons_zero]; try rfl)
  case hs27x698 => kernel_rfl
  case hf27x698 => kernel_rfl
  case hr27x698 => kernel_rfl
  case hQ27x698 => exact fun _ _ _ h => h
  case hy27x698 => exact Or.inl ⟨by rfl, by (intro w hSw; (try dsimp only at hSw); go_simp)⟩
  case hS27x698 => assumption
  (try simp only [Act.put, List.setIfInBounds_toArray, List.set_cons_zero, List.set_cons_succ])
  refine' wpAnyH_take (i := 28) (v := undef) ?hi28x699 ?hs28x699 ?hf28x699 ?hr28x699 ?hQ28x699 ?hy28x699 ?hS28x699 ?rest28x699
  case hi28x699 => (simp only [List.getElem?_toArray, List.getElem?_cons_succ, List.getElem?_cons_zero]; try rfl)
  case hs28x699 => kernel_rfl
  case hf28x699 => kernel_rfl
  case hr28x699 => kernel_rfl
  case hQ28x699 => exact fun _ _ _ h => h
  case hy28x699 => exact Or.inr ⟨by rfl, rfl⟩
  case hS28x699 => assumption
  (try simp only [Act.put, List.setIfInBounds_toArray, List.set_cons_zero, List.set_cons_succ])
  refine' wpAnyH_take (i := 29) (v := undef) ?hi29x700 ?hs29x700 ?hf29x700 ?hr29x700 ?hQ29x700 ?hy29x700 ?hS29x700 ?rest29x700
  case hi29x700 => (simp only [List.getElem?_toArray, List.getElem?_cons_succ, List.getElem?_cons_zero]; try rfl)
  case hs29x700 => kernel_rfl
  case hf29x700 => kernel_rfl
  case hr29x700 => kernel_rfl
  case hQ29x700 => exact fun _ _ _ h => h
  case hy29x700 => exact Or.inr ⟨by rfl, rfl⟩
  case hS29x700 => assumption
  (try simp only [Act.put, List.setIfInBounds_toArray, List.set_cons_zero, List.set_cons_succ])
  refine' wpAnyH_take (i := 30) (v := undef) ?hi30x701 ?hs30x701 ?hf30x701 ?hr30x701 ?hQ30x701 ?hy30x701 ?hS30x701 ?rest30x701
  case hi30x701 => (simp only [List.getElem?_toArray, List.getElem?_cons_succ, List.getElem?_cons_zero]; try rfl)
  case hs30x701 => kernel_rfl
  case hf30x701 => kernel_rfl
  case hr30x701 => kernel_rfl
  case hQ30x701 => exact fun _ _ _ h => h
  case hy30x701 => exact Or.inr ⟨by rfl, rfl⟩
  case hS30x701 => assumption
  (try simp only [Act.put, List.setIfInBounds_toArray, List.set_cons_zero, List.set_cons_succ])
  refine' wpAnyH_take (i := 31) (v := undef) ?hi31x702 ?hs31x702 ?hf31x702 ?hr31x702 ?hQ31x702 ?hy31x702 ?hS31x702 ?rest31x702
  case hi31x702 => (simp only [List.getElem?_toArray, List.getElem?_cons_succ, List.getElem?_cons_zero]; try rfl)
  case hs31x702 => kernel_rfl
  case hf31x702 => kernel_rfl
  case hr31x702 => kernel_rfl
  case hQ31x702 => exact fun _ _ _ h => h
  case hy31x702 => exact Or.inr ⟨by rfl, rfl⟩
  case hS31x702 => assumption
  (try simp only [Act.put, List.setIfInBounds_toArray, List.set_cons_zero, List.set_cons_succ])
  refine' wpAnyH_take (i := 32) (v := undef) ?hi32x703 ?hs32x703 ?hf32x703 ?hr32x703 ?hQ32x703 ?hy32x703 ?hS32x703 ?rest32x703
  case hi32x703 => (simp only [List.getElem?_toArray, List.getElem?_cons_succ, List.getElem?_cons_zero]; try rfl)
  case hs32x703 => kernel_rfl
  case hf32x703 => kernel_rfl
  case hr32x703 => kernel_rfl
  case hQ32x703 => exact fun _ _ _ h => h
  case hy32x703 => exact Or.inr ⟨by rfl, rfl⟩
  case hS32x703 => assumption
  (try simp only [Act.put, List.setIfInBounds_toArray, List.set_cons_zero, List.set_cons_succ])
  refine' wpAnyH_take (i := 33) (v := undef) ?hi33x704 ?hs33x704 ?hf33x704 ?hr33x704 ?hQ33x704 ?hy33x704 ?hS33x704 ?rest33x704
  case hi33x704 => (simp only [List.getElem?_toArray, List.getElem?_cons_succ, List.getElem?_cons_zero]; try rfl)
  case hs33x704 => kernel_rfl
  case hf33x704 => kernel_rfl
  case hr33x704 => kernel_rfl
  case hQ33x704 => exact fun _ _ _ h => h
  case hy33x704 => exact Or.inr ⟨by rfl, rfl⟩
  case hS33x704 => assumption
  (try simp only [Act.put, List.setIfInBounds_toArray, List.set_cons_zero, List.set_cons_succ])
  refine' wpAnyH_take (i := 34) (v := undef) ?hi34x705 ?hs34x705 ?hf34x705 ?hr34x705 ?hQ34x705 ?hy34x705 ?hS34x705 ?rest34x705
  case hi34x705 => (simp only [List.getElem?_toArray, List.getElem?_cons_succ, List.getElem?_cons_zero]; try rfl)
  case hs34x705 => kernel_rfl
  case hf34x705 => kernel_rfl
  case hr34x705 => kernel_rfl
  case hQ34x705 => exact fun _ _ _ h => h
  case hy34x705 => exact Or.inr ⟨by rfl, rfl⟩
  case hS34x705 => assumption
  (try simp only [Act.put, List.setIfInBounds_toArray, List.set_cons_zero, List.set_cons_succ])
  refine' wpAnyH_take (i := 35) (v := .bool false) ?hi35x706 ?hs35x706 ?hf35x706 ?hr35x706 ?hQ35x706 ?hy35x706 ?hS35x706 ?rest35x706
  case hi35x706 => (simp only [List.getElem?_toArray, List.getElem?_cons_succ, List.getElem?_cons_zero]; try rfl)
  case hs35x706 => kernel_rfl
  case hf35x706 => kernel_rfl
  case hr35x706 => kernel_rfl
  case hQ35x706 => exact fun _ _ _ h => h
  case hy35x706 => exact Or.inl ⟨by rfl, by (intro w hSw; (try dsimp only at hSw); go_simp)⟩
  case hS35x706 => assumption
  (try simp only [Act.put, List.setIfInBounds_toArray, List.set_cons_zero, List.set_cons_succ])
  refine' wpAnyH_take (i := 36) (v := .bool false) ?hi36x707 ?hs36x707 ?hf36x707 ?hr36x707 ?hQ36x707 ?hy36x707 ?hS36x707 ?rest36x707
  case hi36x707 => (simp only [List.getElem?_toArray, List.getElem?_cons_succ, List.getElem?_cons_zero]; try rfl)
  case hs36x707 => kernel_rfl
  case hf36x707 => kernel_rfl
  case hr36x707 => kernel_rfl
  case hQ36x707 => exact fun _ _ _ h => h
  case hy36x707 => exact Or.inl ⟨by rfl, by (intro w hSw; (try dsimp only at hSw); go_simp)⟩
  case hS36x707 => assumption
  (try simp only [Act.put, List.setIfInBounds_toArray, List.set_cons_zero, List.set_cons_succ])
  refine' wpAnyH_take (i := 37) (v := .bool false) ?hi37x708 ?hs37x708 ?hf37x708 ?hr37x708 ?hQ37x708 ?hy37x708 ?hS37x708 ?rest37x708
  case hi37x708 => (simp only [List.getElem?_toArray, List.getElem?_cons_succ, List.getElem?_cons_zero]; try rfl)
  case hs37x708 => kernel_rfl
  case hf37x708 => kernel_rfl
  case hr37x708 => kernel_rfl
  case hQ37x708 => exact fun _ _ _ h => h
  case hy37x708 => exact Or.inl ⟨by rfl, by (intro w hSw; (try dsimp only at hSw); go_simp)⟩
  case hS37x708 => assumption
  (try simp only [Act.put, List.setIfInBounds_toArray, List.set_cons_zero, List.set_cons_succ])
  refine wpAnyH_done (by kernel_rfl) ?_ _
  refine NoPanic.normal ?_
  clear hHeld
  go_wp2_with fail
  refine wp_region_noPanic ?_
  refine wp_region_held_drew (S := (fun w' => w'.cell? ⟨w.heap.size, 0, none⟩ = some (.int .u8 k0) ∧ w'.cell? ⟨w.heap.size, 1, none⟩ = some (.bool b0) ∧ w'.cell? ⟨w.heap.size, 2, none⟩ = some (.int .i64 n0) ∧ w'.cell? ⟨w.heap.size, 3, none⟩ = some (.string s0) ∧ w'.cell? ⟨w.heap.size + 1, 0, none⟩ = some (.int .u8 k1) ∧ w'.cell? ⟨w.heap.size + 1, 1, none⟩ = some (.bool b1) ∧ w'.cell? ⟨w.heap.size + 1, 2, none⟩ = some (.int .i64 n1) ∧ w'.cell? ⟨w.heap.size + 1, 3, none⟩ = some (.string s1))) (by kernel_rfl) (by first | exact ⟨a0_, a1_, a2_, a3_, b0_, b1_, b2_, b3_⟩ | go_keep) (fun hHeld => ?_)
  refine' wpAnyH_take (i := 0) (v := .int .i64 m) ?hi0x709 ?hs0x709 ?hf0x709 ?hr0x709 ?hQ0x709 ?hy0x709 ?hS0x709 ?rest0x709
  case hi0x709 => (simp only [List.getElem?_toArray, List.getElem?_cons_succ, List.getElem?_cons_zero]; try rfl)
  case hs0x709 => kernel_rfl
  case hf0x709 => kernel_rfl
  case hr0x709 => kernel_rfl
  case hQ0x709 => exact fun _ _ _ h => h
  case hy0x709 => exact Or.inl ⟨by rfl, by (intro w hSw; (try dsimp only at hSw); go_simp)⟩
  case hS0x709 => assumption
  (try simp only [Act.put, List.setIfInBounds_toArray, List.set_cons_zero, List.set_cons_succ])
  refine' wpAnyH_take (i := 1) (v := .bool false) ?hi1x710 ?hs1x710 ?hf1x710 ?hr1x710 ?hQ1x710 ?hy1x710 ?hS1x710 ?rest1x710
  case hi1x710 => (simp only [List.getElem?_toArray, List.getElem?_cons_succ, List.getElem?_cons_zero]; try rfl)
  case hs1x710 => kernel_rfl
  case hf1x710 => kernel_rfl
  case hr1x710 => kernel_rfl
  case hQ1x710 => exact fun _ _ _ h => h
  case hy1x710 => exact Or.inl ⟨by rfl, by (intro w hSw; (try dsimp only at hSw); go_simp)⟩
  case hS1x710 => assumption
  (try simp only [Act.put, List.setIfInBounds_toArray, List.set_cons_zero, List.set_cons_succ])
  refine' wpAnyH_take (i := 3) (v := .agg #[.int .u8 k0, .bool b0, .int .i64 n0, .string s0]) ?hi3x711 ?hs3x711 ?hf3x711 ?hr3x711 ?hQ3x711 ?hy3x711 ?hS3x711 ?rest3x711
  case hi3x711 => (simp only [List.getElem?_toArray, List.getElem?_cons_succ, List.getElem?_cons_zero]; try rfl)
  case hs3x711 => kernel_rfl
  case hf3x711 => kernel_rfl
  case hr3x711 => kernel_rfl
  case hQ3x711 => exact fun _ _ _ h => h
  case hy3x711 => exact Or.inl ⟨by rfl, by (intro w hSw; (try dsimp only at hSw); go_simp)⟩
  case hS3x711 => assumption
  (try simp only [Act.put, List.setIfInBounds_toArray, List.set_cons_zero, List.set_cons_succ])
  refine' wpAnyH_take (i := 4) (v := .agg #[.int .u8 k1, .bool b1, .int .i64 n1, .string s1]) ?hi4x712 ?hs4x712 ?hf4x712 ?hr4x712 ?hQ4x712 ?hy4x712 ?hS4x712 ?rest4x712
  case hi4x712 => (simp only [List.getElem?_toArray, List.getElem?_cons_succ, List.getElem?_cons_zero]; try rfl)
  case hs4x712 => kernel_rfl
  case hf4x712 => kernel_rfl
  case hr4x712 => kernel_rfl
  case hQ4x712 => exact fun _ _ _ h => h
  case hy4x712 => exact Or.inl ⟨by rfl, by (intro w hSw; (try dsimp only at hSw); go_simp)⟩
  case hS4x712 => assumption
  (try simp only [Act.put, List.setIfInBounds_toArray, List.set_cons_zero, List.set_cons_succ])
  refine wpAnyH_ready (rs := [2, 5]) (by kernel_rfl) (by simp) ?_
  refine' AllReadyH.cons (i := 2) ?ho2x713 (fun K hK => ?st2x713) (AllReadyH.cons (i := 5) ?ho5x714 (fun K hK => ?st5x714) AllReadyH.nil)
  case ho2x713 => (simp only [List.getElem?_toArray, List.getElem?_cons_succ, List.getElem?_cons_zero]; try rfl)
  case ho5x714 => (simp only [List.getElem?_toArray, List.getElem?_cons_succ, List.getElem?_cons_zero]; try rfl)
  case st2x713 =>
    go_simp
    refine (refOver_any _ _).mono ?_
    rintro e w' ⟨rfl, rfl⟩
    go_wp2_with fail
    refine hK.out _ _ ?_ (fun hHeld => ?_)
    · (first | exact ⟨a0_, a1_, a2_, a3_, b0_, b1_, b2_, b3_⟩ | go_keep)
    clear hK K
    (try simp only [Act.put, List.setIfInBounds_toArray, List.set_cons_zero, List.set_cons_succ])
    refine wpAnyH_ready (rs := [5]) (by kernel_rfl) (by simp) ?_
    refine' AllReadyH.cons (i := 5) ?ho5x715 (fun K hK => ?st5x715) AllReadyH.nil
    case ho5x715 => (simp only [List.getElem?_toArray, List.getElem?_cons_succ, List.getElem?_cons_zero]; try rfl)
    go_simp
    refine hK.out _ _ ?_ (fun hHeld => ?_)
    · (first | exact ⟨a0_, a1_, a2_, a3_, b0_, b1_, b2_, b3_⟩ | go_keep)
    clear hK K
    (try simp only [Act.put, List.setIfInBounds_toArray, List.set_cons_zero, List.set_cons_succ])
    refine wpAnyH_ready (rs := [6]) (by kernel_rfl) (by simp) ?_
    refine' AllReadyH.cons (i := 6) ?ho6x716 (fun K hK => ?st6x716) AllReadyH.nil
    case ho6x716 => (simp only [List.getElem?_toArray, List.getElem?_cons_succ, List.getElem?_cons_zero]; try rfl)
    go_simp
    refine (refNum2_any _ _ k0 b0 n0 s0 k1 b1 n1 s1 _ _ _ (by exact heap_at _ _ _ (by first | rfl | simp)) hs0H.out hs1H.out).mono ?_
    rw [hrH.out, refVm]
    rintro e w' ⟨rfl, hb'⟩
    replace hb := chainB (B := W0.heap.size) (a := W0) (by go_grown) hb' (by have := hb.size; first | omega | (simp; done) | (simp; omega))
    clear hb' a0_ a1_ a2_ a3_ b0_ b1_ b2_ b3_ r0_ r1_ r2_ r3_ f0_ f1_ f2_ f3_ hz hs
    obtain ⟨a0_, a1_, a2_, a3_⟩ := (hAH.out.below hb).cells; obtain ⟨b0_, b1_, b2_, b3_⟩ := (hBH.out.below hb).cells; obtain ⟨r0_, r1_, r2_, r3_⟩ := (hRH.out.below hb).cells; obtain ⟨f0_, f1_, f2_, f3_⟩ := (hRH.out.below hb).free; have hz := Nat.lt_of_lt_of_le hz0.out hb.size; have hs := hb.size
    go_wp2_with fail
    refine hK.out _ _ ?_ (fun hHeld => ?_)
    · (first | exact ⟨a0_, a1_, a2_, a3_, b0_, b1_, b2_, b3_⟩ | go_keep)
    clear hK K
    (try simp only [Act.put, List.setIfInBounds_toArray, List.set_cons_zero, List.set_cons_succ])
    refine' wpAnyH_take (i := 7) (v := .agg #[.int .u8 k', .bool b', .int .i64 n', .string s']) ?hi7x717 ?hs7x717 ?hf7x717 ?hr7x717 ?hQ7x717 ?hy7x717 ?hS7x717 ?rest7x717
    case hi7x717 => (simp only [List.getElem?_toArray, List.getElem?_cons_succ, List.getElem?_cons_zero]; try rfl)
    case hs7x717 => kernel_rfl
    case hf7x717 => kernel_rfl
    case hr7x717 => kernel_rfl
    case hQ7x717 => exact fun _ _ _ h => h
    case hy7x717 => exact Or.inl ⟨by rfl, by (intro w hSw; (try dsimp only at hSw); go_simp)⟩
    case hS7x717 => assumption
    (try simp only [Act.put, List.setIfInBounds_toArray, List.set_cons_zero, List.set_cons_succ])
    refine' wpAnyH_take (i := 8) (v := .int .i64 x) ?hi8x718 ?hs8x718 ?hf8x718 ?hr8x718 ?hQ8x718 ?hy8x718 ?hS8x718 ?rest8x718
    case hi8x718 => (simp only [List.getElem?_toArray, List.getElem?_cons_succ, List.getElem?_cons_zero]; try rfl)
    case hs8x718 => kernel_rfl
    case hf8x718 => kernel_rfl
    case hr8x718 => kernel_rfl
    case hQ8x718 => exact fun _ _ _ h => h
    case hy8x718 => exact Or.inl ⟨by rfl, by (intro w hSw; (try dsimp only at hSw); go_simp)⟩
    case hS8x718 => assumption
    (try simp only [Act.put, List.setIfInBounds_toArray, List.set_cons_zero, List.set_cons_succ])
    have hne1 : ¬ (w.heap.size + 1 + 1 = w.heap.size) := by omega
    have hne2 : ¬ (w.heap.size = w.heap.size + 1 + 1) := by omega
    refine wpAnyH_ready (rs := [9]) (by kernel_rfl) (by simp) ?_
    refine' AllReadyH.cons (i := 9) ?ho9x719 (fun K hK => ?st9x719) AllReadyH.nil
    case ho9x719 => (simp only [List.getElem?_toArray, List.getElem?_cons_succ, List.getElem?_cons_zero]; try rfl)
    go_simp
    refine hK.out _ _ ?_ (fun hHeld => ?_)
    · (first | exact ⟨a0_, a1_, a2_, a3_, b0_, b1_, b2_, b3_⟩ | go_keep)
    clear hK K
    (try simp only [Act.put, List.setIfInBounds_toArray, List.set_cons_zero, List.set_cons_succ])
    refine' wpAnyH_take (i := 10) (v := .int .i64 x) ?hi10x720 ?hs10x720 ?hf10x720 ?hr10x720 ?hQ10x720 ?hy10x720 ?hS10x720 ?rest10x720
    case hi10x720 => (simp only [List.getElem?_toArray, List.getElem?_cons_succ, List.getElem?_cons_zero]; try rfl)
    case hs10x720 => kernel_rfl
    case hf10x720 => kernel_rfl
    case hr10x720 => kernel_rfl
    case hQ10x720 => exact fun _ _ _ h => h
    case hy10x720 => exact Or.inl ⟨by rfl, by (intro w hSw; (try dsimp only at hSw); go_simp)⟩
    case hS10x720 => assumption
    (try simp only [Act.put, List.setIfInBounds_toArray, List.set_cons_zero, List.set_cons_succ])
    refine wpAnyH_done (by kernel_rfl) ?_ _
    refine NoPanic.normal ?_
    clear hne1 hne2
    go_wp2
    refine bodyPost_ret (v := .tuple #[.agg #[.int .u8 k', .bool b', .int .i64 n', .string s'], .int .i64 x]) (by simp [results, Tryd.results34, go_sem, r0_, r1_, r2_, r3_, hz]) rfl ⟨rfl, ?_⟩
    have hbw := hwWH.out.trans (hb.mono hwWH.out.size)
    clear hb
    go_grown
  case st5x714 =>
    go_simp
    refine hK.out _ _ ?_ (fun hHeld => ?_)
    · (first | exact ⟨a0_, a1_, a2_, a3_, b0_, b1_, b2_, b3_⟩ | go_keep)
    clear hK K
    (try simp only [Act.put, List.setIfInBounds_toArray, List.set_cons_zero, List.set_cons_succ])
    refine wpAnyH_ready (rs := [2]) (by kernel_rfl) (by simp) ?_
    refine' AllReadyH.cons (i := 2) ?ho2x721 (fun K hK => ?st2x721) AllReadyH.nil
    case ho2x721 => (simp only [List.getElem?_toArray, List.getElem?_cons_succ, List.getElem?_cons_zero]; try rfl)
    go_simp
    refine (refOver_any _ _).mono ?_
    rintro e w' ⟨rfl, rfl⟩
    go_wp2_with fail
    refine hK.out _ _ ?_ (fun hHeld => ?_)
    · (first | exact ⟨a0_, a1_, a2_, a3_, b0_, b1_, b2_, b3_⟩ | go_keep)
    clear hK K
    (try simp only [Act.put, List.setIfInBounds_toArray, List.set_cons_zero, List.set_cons_succ])
    refine wpAnyH_ready (rs := [6]) (by kernel_rfl) (by simp) ?_
    refine' AllReadyH.cons (i := 6) ?ho6x722 (fun K hK => ?st6x722) AllReadyH.nil
    case ho6x722 => (simp only [List.getElem?_toArray, List.getElem?_cons_succ, List.getElem?_cons_zero]; try rfl)
    go_simp
    refine (refNum2_any _ _ k0 b0 n0 s0 k1 b1 n1 s1 _ _ _ (by exact heap_at _ _ _ (by first | rfl | simp)) hs0H.out hs1H.out).mono ?_
    rw [hrH.out, refVm]
    rintro e w' ⟨rfl, hb'⟩
    replace hb := chainB (B := W0.heap.size) (a := W0) (by go_grown) hb' (by have := hb.size; first | omega | (simp; done) | (simp; omega))
    clear hb' a0_ a1_ a2_ a3_ b0_ b1_ b2_ b3_ r0_ r1_ r2_ r3_ f0_ f1_ f2_ f3_ hz hs
    obtain ⟨a0_, a1_, a2_, a3_⟩ := (hAH.out.below hb).cells; obtain ⟨b0_, b1_, b2_, b3_⟩ := (hBH.out.below hb).cells; obtain ⟨r0_, r1_, r2_, r3_⟩ := (hRH.out.below hb).cells; obtain ⟨f0_, f1_, f2_, f3_⟩ := (hRH.out.below hb).free; have hz := Nat.lt_of_lt_of_le hz0.out hb.size; have hs := hb.size
    go_wp2_with fail
    refine hK.out _ _ ?_ (fun hHeld => ?_)
    · (first | exact ⟨a0_, a1_, a2_, a3_, b0_, b1_, b2_, b3_⟩ | go_keep)
    clear hK K
    (try simp only [Act.put, List.setIfInBounds_toArray, List.set_cons_zero, List.set_cons_succ])
    refine' wpAnyH_take (i := 7) (v := .agg #[.int .u8 k', .bool b', .int .i64 n', .string s']) ?hi7x723 ?hs7x723 ?hf7x723 ?hr7x723 ?hQ7x723 ?hy7x723 ?hS7x723 ?rest7x723
    case hi7x723 => (simp only [List.getElem?_toArray, List.getElem?_cons_succ, List.getElem?_cons_zero]; try rfl)
    case hs7x723 => kernel_rfl
    case hf7x723 => kernel_rfl
    case hr7x723 => kernel_rfl
    case hQ7x723 => exact fun _ _ _ h => h
    case hy7x723 => exact Or.inl ⟨by rfl, by (intro w hSw; (try dsimp only at hSw); go_simp)⟩
    case hS7x723 => assumption
    (try simp only [Act.put, List.setIfInBounds_toArray, List.set_cons_zero, List.set_cons_succ])
    refine' wpAnyH_take (i := 8) (v := .int .i64 x) ?hi8x724 ?hs8x724 ?hf8x724 ?hr8x724 ?hQ8x724 ?hy8x724 ?hS8x724 ?rest8x724
    case hi8x724 => (simp only [List.getElem?_toArray, List.getElem?_cons_succ, List.getElem?_cons_zero]; try rfl)
    case hs8x724 => kernel_rfl
    case hf8x724 => kernel_rfl
    case hr8x724 => kernel_rfl
    case hQ8x724 => exact fun _ _ _ h => h
    case hy8x724 => exact Or.inl ⟨by rfl, by (intro w hSw; (try dsimp only at hSw); go_simp)⟩
    case hS8x724 => assumption
    (try simp only [Act.put, List.setIfInBounds_toArray, List.set_cons_zero, List.set_cons_succ])
    have hne1 : ¬ (w.heap.size + 1 + 1 = w.heap.size) := by omega
    have hne2 : ¬ (w.heap.size = w.heap.size + 1 + 1) := by omega
    refine wpAnyH_ready (rs := [9]) (by kernel_rfl) (by simp) ?_
    refine' AllReadyH.cons (i := 9) ?ho9x725 (fun K hK => ?st9x725) AllReadyH.nil
    case ho9x725 => (simp only [List.getElem?_toArray, List.getElem?_cons_succ, List.getElem?_cons_zero]; try rfl)
    go_simp
    refine hK.out _ _ ?_ (fun hHeld => ?_)
    · (first | exact ⟨a0_, a1_, a2_, a3_, b0_, b1_, b2_, b3_⟩ | go_keep)
    clear hK K
    (try simp only [Act.put, List.setIfInBounds_toArray, List.set_cons_zero, List.set_cons_succ])
    refine' wpAnyH_take (i := 10) (v := .int .i64 x) ?hi10x726 ?hs10x726 ?hf10x726 ?hr10x726 ?hQ10x726 ?hy10x726 ?hS10x726 ?rest10x726
    case hi10x726 => (simp only [List.getElem?_toArray, List.getElem?_cons_succ, List.getElem?_cons_zero]; try rfl)
    case hs10x726 => kernel_rfl
    case hf10x726 => kernel_rfl
    case hr10x726 => kernel_rfl
    case hQ10x726 => exact fun _ _ _ h => h
    case hy10x726 => exact Or.inl ⟨by rfl, by (intro w hSw; (try dsimp only at hSw); go_simp)⟩
    case hS10x726 => assumption
    (try simp only [Act.put, List.setIfInBounds_toArray, List.set_cons_zero, List.set_cons_succ])
    refine wpAnyH_done (by kernel_rfl) ?_ _
    refine NoPanic.normal ?_
    clear hne1 hne2
    go_wp2
    refine bodyPost_ret (v := .tuple #[.agg #[.int .u8 k', .bool b', .int .i64 n', .string s'], .int .i64 x]) (by simp [results, Tryd.results34, go_sem, r0_, r1_, r2_, r3_, hz]) rfl ⟨rfl, ?_⟩
    have hbw := hwWH.out.trans (hb.mono hwWH.out.size)
    clear hb
    go_grown

set_option maxRecDepth 100000 in
set_option maxHeartbeats 8000000 in
theorem refMul_d (k0 : Int) (b0 : Bool) (n0 : Int) (s0 : ByteArray) (k1 : Int) (b1 : Bool) (n1 : Int) (s1 : ByteArray) (w : World) (hs0 : s0.size ≤ 140737488355328) (hs1 : s1.size ≤ 140737488355328) (hc : n0 = -9223372036854775808 ∧ n1 = -1) :
    Calls Tryd.prog 34 #[.agg #[.int .u8 k0, .bool b0, .int .i64 n0, .string s0], .agg #[.int .u8 k1, .bool b1, .int .i64 n1, .string s1]] w fun e w' => e = .returned (refV (numS ⟨k0, b0, n0, s0⟩ ⟨k1, b1, n1, s1⟩ (wrap64 (n0 * n1), 10))) ∧ Below w.heap.size w w' := by
  obtain ⟨r, hr⟩ : ∃ r, numS ⟨k0, b0, n0, s0⟩ ⟨k1, b1, n1, s1⟩ (wrap64 (n0 * n1), 10) = r := ⟨_, rfl⟩
  rw [hr]
  obtain ⟨⟨k', b', n', s'⟩, x⟩ := r
  rw [refVm]
  have hrH := Lib.hid hr
  clear hr
  have hs0H := Lib.hid hs0; have hs1H := Lib.hid hs1
  have dA : (n0 == -1) = false := by simp; omega
  have dAn : (n0 != -1) = true := by simp; omega
  have dAd : decide (n0 = -1) = false := by simp; omega
  have dB : (n1 == -9223372036854775808) = false := by simp; omega
  have dBn : (n1 != -9223372036854775808) = true := by simp; omega
  have dBd : decide (n1 = -9223372036854775808) = false := by simp; omega
  have dC : (n1 == -1) = true := by simp; omega
  have dCn : (n1 != -1) = false := by simp; omega
  have dCd : decide (n1 = -1) = true := by simp; omega
  have dD : (n0 == -9223372036854775808) = true := by simp; omega
  have dDn : (n0 != -9223372036854775808) = false := by simp; omega
  have dDd : decide (n0 = -9223372036854775808) = true := by simp; omega
  have dZ : (n0 == 0) = false := by simp; omega
  have dZn : (n0 != 0) = true := by simp; omega
  have dZd : decide (n0 = 0) = false := by simp; omega
  clear hc
  obtain ⟨m, hm⟩ : ∃ m, wrap64 (n0 * n1) = m := ⟨_, rfl⟩
  have hm' : IntKind.i64.wrap (n0 * n1) = m := by rw [wrap_is, hm]
  rw [hm] at hrH
  obtain ⟨W0, hW0, hwW, hA, hB, hR, hzz⟩ := boxes2 w k0 b0 n0 s0 k1 b1 n1 s1
  have hAH := Lib.hid hA; have hBH := Lib.hid hB; have hRH := Lib.hid hR; have hz0 := Lib.hid hzz; have hwWH := Lib.hid hwW
  clear hA hB hR hzz hwW hs0 hs1
  have hb := Below.refl W0.heap.size W0
  obtain ⟨a0_, a1_, a2_, a3_⟩ := (hAH.out.below hb).cells; obtain ⟨b0_, b1_, b2_, b3_⟩ := (hBH.out.below hb).cells; obtain ⟨r0_, r1_, r2_, r3_⟩ := (hRH.out.below hb).cells; obtain ⟨f0_, f1_, f2_, f3_⟩ := (hRH.out.below hb).free; have hz := Nat.lt_of_lt_of_le hz0.out hb.size; have hs := hb.size
  go_enter Tryd.func34, Tryd.ntmps34
  go_wp2_with fail
  refine wp_region_noPanic ?_
  refine wp_region_held_drew (S := (fun w' => w'.cell? ⟨w.heap.size, 0, none⟩ = some (.int .u8 k0) ∧ w'.cell? ⟨w.heap.size, 1, none⟩ = some (.bool b0) ∧ w'.cell? ⟨w.heap.size, 2, none⟩ = some (.int .i64 n0) ∧ w'.cell? ⟨w.heap.size, 3, none⟩ = some (.string s0) ∧ w'.cell? ⟨w.heap.size + 1, 0, none⟩ = some (.int .u8 k1) ∧ w'.cell? ⟨w.heap.size + 1, 1, none⟩ = some (.bool b1) ∧ w'.cell? ⟨w.heap.size + 1, 2, none⟩ = some (.int .i64 n1) ∧ w'.cell? ⟨w.heap.size + 1, 3, none⟩ = some (.string s1))) (by kernel_rfl) (by first | exact ⟨a0_, a1_, a2_, a3_, b0_, b1_, b2_, b3_⟩ | go_keep) (fun hHeld => ?_)
  refine' wpAnyH_take (i := 0) (v := .pointer (some ⟨w.heap.size, 2, none⟩)) ?hi0x727 ?hs0x727 ?hf0x727 ?hr0x727 ?hQ0x727 ?hy0x727 ?hS0x727 ?rest0x727
  case hi0x727 => (simp only [List.getElem?_toArray, List.getElem?_cons_succ, List.getElem?_cons_zero]; try rfl)
  case hs0x727 => kernel_rfl
  case hf0x727 => kernel_rfl
  case hr0x727 => kernel_rfl
  case hQ0x727 => exact fun _ _ _ h => h
  case hy0x727 => exact Or.inl ⟨by rfl, by (intro w hSw; (try dsimp only at hSw); go_simp)⟩
  case hS0x727 => assumption
  (try simp only [Act.put, List.setIfInBounds_toArray, List.set_cons_zero, List.set_cons_succ])
  refine' wpAnyH_take (i := 1) (v := .int .i64 n0) ?hi1x728 ?hs1x728 ?hf1x728 ?hr1x728 ?hQ1x728 ?hy1x728 ?hS1x728 ?rest1x728
  case hi1x728 => (simp only [List.getElem?_toArray, List.getElem?_cons_succ, List.getElem?_cons_zero]; try rfl)
  case hs1x728 => kernel_rfl
  case hf1x728 => kernel_rfl
  case hr1x728 => kernel_rfl
  case hQ1x728 => exact fun _ _ _ h => h
  case hy1x728 => exact Or.inl ⟨by rfl, by (intro w hSw; (try dsimp only at hSw); go_simp)⟩
  case hS1x728 => assumption
  (try simp only [Act.put, List.setIfInBounds_toArray, List.set_cons_zero, List.set_cons_succ])
  refine' wpAnyH_take (i := 2) (v := .bool false) ?hi2x729 ?hs2x729 ?hf2x729 ?hr2x729 ?hQ2x729 ?hy2x729 ?hS2x729 ?rest2x729
  case hi2x729 => (simp only [List.getElem?_toArray, List.getElem?_cons_succ, List.getElem?_cons_zero]; try rfl)
  case hs2x729 => kernel_rfl
  case hf2x729 => kernel_rfl
  case hr2x729 => kernel_rfl
  case hQ2x729 => exact fun _ _ _ h => h
  case hy2x729 => exact Or.inl ⟨by rfl, by (intro w hSw; (try dsimp only at hSw); go_simp)⟩
  case hS2x729 => assumption
  (try simp only [Act.put, List.setIfInBounds_toArray, List.set_cons_zero, List.set_cons_succ])
  refine' wpAnyH_take (i := 3) (v := .bool false) ?hi3x730 ?hs3x730 ?hf3x730 ?hr3x730 ?hQ3x730 ?hy3x730 ?hS3x730 ?rest3x730
  case hi3x730 => (simp only [List.getElem?_toArray, List.getElem?_cons_succ, List.getElem?_cons_zero]; try rfl)
  case hs3x730 => kernel_rfl
  case hf3x730 => kernel_rfl
  case hr3x730 => kernel_rfl
  case hQ3x730 => exact fun _ _ _ h => h
  case hy3x730 => exact Or.inl ⟨by rfl, by (intro w hSw; (try dsimp only at hSw); go_simp)⟩
  case hS3x730 => assumption
  (try simp only [Act.put, List.setIfInBounds_toArray, List.set_cons_zero, List.set_cons_succ])
  refine' wpAnyH_take (i := 4) (v := undef) ?hi4x731 ?hs4x731 ?hf4x731 ?hr4x731 ?hQ4x731 ?hy4x731 ?hS4x731 ?rest4x731
  case hi4x731 => (simp only [List.getElem?_toArray, List.getElem?_cons_succ, List.getElem?_cons_zero]; try rfl)
  case hs4x731 => kernel_rfl
  case hf4x731 => kernel_rfl
  case hr4x731 => kernel_rfl
  case hQ4x731 => exact fun _ _ _ h => h
  case hy4x731 => exact Or.inr ⟨by rfl, rfl⟩
  case hS4x731 => assumption
  (try simp only [Act.put, List.setIfInBounds_toArray, List.set_cons_zero, List.set_cons_succ])
  refine' wpAnyH_take (i := 5) (v := undef) ?hi5x732 ?hs5x732 ?hf5x732 ?hr5x732 ?hQ5x732 ?hy5x732 ?hS5x732 ?rest5x732
  case hi5x732 => (simp only [List.getElem?_toArray, List.getElem?_cons_succ, List.getElem?_cons_zero]; try rfl)
  case hs5x732 => kernel_rfl
  case hf5x732 => kernel_rfl
  case hr5x732 => kernel_rfl
  case hQ5x732 => exact fun _ _ _ h => h
  case hy5x732 => exact Or.inr ⟨by rfl, rfl⟩
  case hS5x732 => assumption
  (try simp only [Act.put, List.setIfInBounds_toArray, List.set_cons_zero, List.set_cons_succ])
  refine' wpAnyH_take (i := 6) (v := undef) ?hi6x733 ?hs6x733 ?hf6x733 ?hr6x733 ?hQ6x733 ?hy6x733 ?hS6x733 ?rest6x733
  case hi6x733 => (simp only [List.getElem?_toArray, List.getElem?_cons_succ, List.getElem?_cons_zero]; try rfl)
  case hs6x733 => kernel_rfl
  case hf6x733 => kernel_rfl
  case hr6x733 => kernel_rfl
  case hQ6x733 => exact fun _ _ _ h => h
  case hy6x733 => exact Or.inr ⟨by rfl, rfl⟩
  case hS6x733 => assumption
  (try simp only [Act.put, List.setIfInBounds_toArray, List.set_cons_zero, List.set_cons_succ])
  refine' wpAnyH_take (i := 7) (v := .bool false) ?hi7x734 ?hs7x734 ?hf7x734 ?hr7x734 ?hQ7x734 ?hy7x734 ?hS7x734 ?rest7x734
  case hi7x734 => (simp only [List.getElem?_toArray, List.getElem?_cons_succ, List.getElem?_cons_zero]; try rfl)
  case hs7x734 => kernel_rfl
  case hf7x734 => kernel_rfl
  case hr7x734 => kernel_rfl
  case hQ7x734 => exact fun _ _ _ h => h
  case hy7x734 => exact Or.inl ⟨by rfl, by (intro w hSw; (try dsimp only at hSw); go_simp)⟩
  case hS7x734 => assumption
  (try simp only [Act.put, List.setIfInBounds_toArray, List.set_cons_zero, List.set_cons_succ])
  refine' wpAnyH_take (i := 8) (v := .bool false) ?hi8x735 ?hs8x735 ?hf8x735 ?hr8x735 ?hQ8x735 ?hy8x735 ?hS8x735 ?rest8x735
  case hi8x735 => (simp only [List.getElem?_toArray, List.getElem?_cons_succ, List.getElem?_cons_zero]; try rfl)
  case hs8x735 => kernel_rfl
  case hf8x735 => kernel_rfl
  case hr8x735 => kernel_rfl
  case hQ8x735 => exact fun _ _ _ h => h
  case hy8x735 => exact Or.inl ⟨by rfl, by (intro w hSw; (try dsimp only at hSw); go_simp)⟩
  case hS8x735 => assumption
  (try simp only [Act.put, List.setIfInBounds_toArray, List.set_cons_zero, List.set_cons_succ])
  refine' wpAnyH_take (i := 9) (v := .pointer (some ⟨w.heap.size + 1, 2, none⟩)) ?hi9x736 ?hs9x736 ?hf9x736 ?hr9x736 ?hQ9x736 ?hy9x736 ?hS9x736 ?rest9x736
  case hi9x736 => (simp only [List.getElem?_toArray, List.getElem?_cons_succ, List.getElem?_cons_zero]; try rfl)
  case hs9x736 => kernel_rfl
  case hf9x736 => kernel_rfl
  case hr9x736 => kernel_rfl
  case hQ9x736 => exact fun _ _ _ h => h
  case hy9x736 => exact Or.inl ⟨by rfl, by (intro w hSw; (try dsimp only at hSw); go_simp)⟩
  case hS9x736 => assumption
  (try simp only [Act.put, List.setIfInBounds_toArray, List.set_cons_zero, List.set_cons_succ])
  refine' wpAnyH_take (i := 10) (v := .int .i64 n1) ?hi10x737 ?hs10x737 ?hf10x737 ?hr10x737 ?hQ10x737 ?hy10x737 ?hS10x737 ?rest10x737
  case hi10x737 => (simp only [List.getElem?_toArray, List.getElem?_cons_succ, List.getElem?_cons_zero]; try rfl)
  case hs10x737 => kernel_rfl
  case hf10x737 => kernel_rfl
  case hr10x737 => kernel_rfl
  case hQ10x737 => exact fun _ _ _ h => h
  case hy10x737 => exact Or.inl ⟨by rfl, by (intro w hSw; (try dsimp only at hSw); go_simp)⟩
  case hS10x737 => assumption
  (try simp only [Act.put, List.setIfInBounds_toArray, List.set_cons_zero, List.set_cons_succ])
  refine' wpAnyH_take (i := 11) (v := .bool true) ?hi11x738 ?hs11x738 ?hf11x738 ?hr11x738 ?hQ11x738 ?hy11x738 ?hS11x738 ?rest11x738
  case hi11x738 => (simp only [List.getElem?_toArray, List.getElem?_cons_succ, List.getElem?_cons_zero]; try rfl)
  case hs11x738 => kernel_rfl
  case hf11x738 => kernel_rfl
  case hr11x738 => kernel_rfl
  case hQ11x738 => exact fun _ _ _ h => h
  case hy11x738 => exact Or.inl ⟨by rfl, by (intro w hSw; (try dsimp only at hSw); go_simp)⟩
  case hS11x738 => assumption
  (try simp only [Act.put, List.setIfInBounds_toArray, List.set_cons_zero, List.set_cons_succ])
  refine' wpAnyH_take (i := 12) (v := .bool true) ?hi12x739 ?hs12x739 ?hf12x739 ?hr12x739 ?hQ12x739 ?hy12x739 ?hS12x739 ?rest12x739
  case hi12x739 => (simp only [List.getElem?_toArray, List.getElem?_cons_succ, List.getElem?_cons_zero]; try rfl)
  case hs12x739 => kernel_rfl
  case hf12x739 => kernel_rfl
  case hr12x739 => kernel_rfl
  case hQ12x739 => exact fun _ _ _ h => h
  case hy12x739 => exact Or.inl ⟨by rfl, by (intro w hSw; (try dsimp only at hSw); go_simp)⟩
  case hS12x739 => assumption
  (try simp only [Act.put, List.setIfInBounds_toArray, List.set_cons_zero, List.set_cons_succ])
  refine' wpAnyH_take (i := 13) (v := .pointer (some ⟨w.heap.size, 2, none⟩)) ?hi13x740 ?hs13x740 ?hf13x740 ?hr13x740 ?hQ13x740 ?hy13x740 ?hS13x740 ?rest13x740
  case hi13x740 => (simp only [List.getElem?_toArray, List.getElem?_cons_succ, List.getElem?_cons_zero]; try rfl)
  case hs13x740 => kernel_rfl
  case hf13x740 => kernel_rfl
  case hr13x740 => kernel_rfl
  case hQ13x740 => exact fun _ _ _ h => h
  case hy13x740 => exact Or.inl ⟨by rfl, by (intro w hSw; (try dsimp only at hSw); go_simp)⟩
  case hS13x740 => assumption
  (try simp only [Act.put, List.setIfInBounds_toArray, List.set_cons_zero, List.set_cons_succ])
  refine' wpAnyH_take (i := 14) (v := .int .i64 n0) ?hi14x741 ?hs14x741 ?hf14x741 ?hr14x741 ?hQ14x741 ?hy14x741 ?hS14x741 ?rest14x741
  case hi14x741 => (simp only [List.getElem?_toArray, List.getElem?_cons_succ, List.getElem?_cons_zero]; try rfl)
  case hs14x741 => kernel_rfl
  case hf14x741 => kernel_rfl
  case hr14x741 => kernel_rfl
  case hQ14x741 => exact fun _ _ _ h => h
  case hy14x741 => exact Or.inl ⟨by rfl, by (intro w hSw; (try dsimp only at hSw); go_simp)⟩
  case hS14x741 => assumption
  (try simp only [Act.put, List.setIfInBounds_toArray, List.set_cons_zero, List.set_cons_succ])
  refine' wpAnyH_take (i := 15) (v := .bool true) ?hi15x742 ?hs15x742 ?hf15x742 ?hr15x742 ?hQ15x742 ?hy15x742 ?hS15x742 ?rest15x742
  case hi15x742 => (simp only [List.getElem?_toArray, List.getElem?_cons_succ, List.getElem?_cons_zero]; try rfl)
  case hs15x742 => kernel_rfl
  case hf15x742 => kernel_rfl
  case hr15x742 => kernel_rfl
  case hQ15x742 => exact fun _ _ _ h => h
  case hy15x742 => exact Or.inl ⟨by rfl, by (intro w hSw; (try dsimp only at hSw); go_simp)⟩
  case hS15x742 => assumption
  (try simp only [Act.put, List.setIfInBounds_toArray, List.set_cons_zero, List.set_cons_succ])
  refine' wpAnyH_take (i := 16) (v := .bool true) ?hi16x743 ?hs16x743 ?hf16x743 ?hr16x743 ?hQ16x743 ?hy16x743 ?hS16x743 ?rest16x743
  case hi16x743 => (simp only [List.getElem?_toArray, List.getElem?_cons_succ, List.getElem?_cons_zero]; try rfl)
  case hs16x743 => kernel_rfl
  case hf16x743 => kernel_rfl
  case hr16x743 => kernel_rfl
  case hQ16x743 => exact fun _ _ _ h => h
  case hy16x743 => exact Or.inl ⟨by rfl, by (intro w hSw; (try dsimp only at hSw); go_simp)⟩
  case hS16x743 => assumption
  (try simp only [Act.put, List.setIfInBounds_toArray, List.set_cons_zero, List.set_cons_succ])
  refine' wpAnyH_take (i := 17) (v := .bool true) ?hi17x744 ?hs17x744 ?hf17x744 ?hr17x744 ?hQ17x744 ?hy17x744 ?hS17x744 ?rest17x744
  case hi17x744 => (simp only [List.getElem?_toArray, List.getElem?_cons_succ, List.getElem?_cons_zero]; try rfl)
  case hs17x744 => kernel_rfl
  case hf17x744 => kernel_rfl
  case hr17x744 => kernel_rfl
  case hQ17x744 => exact fun _ _ _ h => h
  case hy17x744 => exact Or.inl ⟨by rfl, by (intro w hSw; (try dsimp only at hSw); go_simp)⟩
  case hS17x744 => assumption
  (try simp only [Act.put, List.setIfInBounds_toArray, List.set_cons_zero, List.set_cons_succ])
  refine' wpAnyH_take (i := 18) (v := .bool true) ?hi18x745 ?hs18x745 ?hf18x745 ?hr18x745 ?hQ18x745 ?hy18x745 ?hS18x745 ?rest18x745
  case hi18x745 => (simp only [List.getElem?_toArray, List.getElem?_cons_succ, List.getElem?_cons_zero]; try rfl)
  case hs18x745 => kernel_rfl
  case hf18x745 => kernel_rfl
  case hr18x745 => kernel_rfl
  case hQ18x745 => exact fun _ _ _ h => h
  case hy18x745 => exact Or.inl ⟨by rfl, by (intro w hSw; (try dsimp only at hSw); go_simp)⟩
  case hS18x745 => assumption
  (try simp only [Act.put, List.setIfInBounds_toArray, List.set_cons_zero, List.set_cons_succ])
  refine' wpAnyH_take (i := 19) (v := undef) ?hi19x746 ?hs19x746 ?hf19x746 ?hr19x746 ?hQ19x746 ?hy19x746 ?hS19x746 ?rest19x746
  case hi19x746 => (simp only [List.getElem?_toArray, List.getElem?_cons_succ, List.getElem?_cons_zero]; try rfl)
  case hs19x746 => kernel_rfl
  case hf19x746 => kernel_rfl
  case hr19x746 => kernel_rfl
  case hQ19x746 => exact fun _ _ _ h => h
  case hy19x746 => exact Or.inr ⟨by rfl, rfl⟩
  case hS19x746 => assumption
  (try simp only [Act.put, List.setIfInBounds_toArray, List.set_cons_zero, List.set_cons_succ])
  refine' wpAnyH_take (i := 20) (v := undef) ?hi20x747 ?hs20x747 ?hf20x747 ?hr20x747 ?hQ20x747 ?hy20x747 ?hS20x747 ?rest20x747
  case hi20x747 => (simp only [List.getElem?_toArray, List.getElem?_cons_succ, List.getElem?_cons_zero]; try rfl)
  case hs20x747 => kernel_rfl
  case hf20x747 => kernel_rfl
  case hr20x747 => kernel_rfl
  case hQ20x747 => exact fun _ _ _ h => h
  case hy20x747 => exact Or.inr ⟨by rfl, rfl⟩
  case hS20x747 => assumption
  (try simp only [Act.put, List.setIfInBounds_toArray, List.set_cons_zero, List.set_cons_succ])
  refine' wpAnyH_take (i := 21) (v := undef) ?hi21x748 ?hs21x748 ?hf21x748 ?hr21x748 ?hQ21x748 ?hy21x748 ?hS21x748 ?rest21x748
  case hi21x748 => (simp only [List.getElem?_toArray, List.getElem?_cons_succ, List.getElem?_cons_zero]; try rfl)
  case hs21x748 => kernel_rfl
  case hf21x748 => kernel_rfl
  case hr21x748 => kernel_rfl
  case hQ21x748 => exact fun _ _ _ h => h
  case hy21x748 => exact Or.inr ⟨by rfl, rfl⟩
  case hS21x748 => assumption
  (try simp only [Act.put, List.setIfInBounds_toArray, List.set_cons_zero, List.set_cons_succ])
  refine' wpAnyH_take (i := 22) (v := undef) ?hi22x749 ?hs22x749 ?hf22x749 ?hr22x749 ?hQ22x749 ?hy22x749 ?hS22x749 ?rest22x749
  case hi22x749 => (simp only [List.getElem?_toArray, List.getElem?_cons_succ, List.getElem?_cons_zero]; try rfl)
  case hs22x749 => kernel_rfl
  case hf22x749 => kernel_rfl
  case hr22x749 => kernel_rfl
  case hQ22x749 => exact fun _ _ _ h => h
  case hy22x749 => exact Or.inr ⟨by rfl, rfl⟩
  case hS22x749 => assumption
  (try simp only [Act.put, List.setIfInBounds_toArray, List.set_cons_zero, List.set_cons_succ])
  refine' wpAnyH_take (i := 23) (v := undef) ?hi23x750 ?hs23x750 ?hf23x750 ?hr23x750 ?hQ23x750 ?hy23x750 ?hS23x750 ?rest23x750
  case hi23x750 => (simp only [List.getElem?_toArray, List.getElem?_cons_succ, List.getElem?_cons_zero]; try rfl)
  case hs23x750 => kernel_rfl
  case hf23x750 => kernel_rfl
  case hr23x750 => kernel_rfl
  case hQ23x750 => exact fun _ _ _ h => h
  case hy23x750 => exact Or.inr ⟨by rfl, rfl⟩
  case hS23x750 => assumption
  (try simp only [Act.put, List.setIfInBounds_toArray, List.set_cons_zero, List.set_cons_succ])
  refine' wpAnyH_take (i := 24) (v := undef) ?hi24x751 ?hs24x751 ?hf24x751 ?hr24x751 ?hQ24x751 ?hy24x751 ?hS24x751 ?rest24x751
  case hi24x751 => (simp only [List.getElem?_toArray, List.getElem?_cons_succ, List.getElem?_cons_zero]; try rfl)
  case hs24x751 => kernel_rfl
  case hf24x751 => kernel_rfl
  case hr24x751 => kernel_rfl
  case hQ24x751 => exact fun _ _ _ h => h
  case hy24x751 => exact Or.inr ⟨by rfl, rfl⟩
  case hS24x751 => assumption
  (try simp only [Act.put, List.setIfInBounds_toArray, List.set_cons_zero, List.set_cons_succ])
  refine' wpAnyH_take (i := 25) (v := undef) ?hi25x752 ?hs25x752 ?hf25x752 ?hr25x752 ?hQ25x752 ?hy25x752 ?hS25x752 ?rest25x752
  case hi25x752 => (simp only [List.getElem?_toArray, List.getElem?_cons_succ, List.getElem?_cons_zero]; try rfl)
  case hs25x752 => kernel_rfl
  case hf25x752 => kernel_rfl
  case hr25x752 => kernel_rfl
  case hQ25x752 => exact fun _ _ _ h => h
  case hy25x752 => exact Or.inr ⟨by rfl, rfl⟩
  case hS25x752 => assumption
  (try simp only [Act.put, List.setIfInBounds_toArray, List.set_cons_zero, List.set_cons_succ])
  refine' wpAnyH_take (i := 26) (v := undef) ?hi26x753 ?hs26x753 ?hf26x753 ?hr26x753 ?hQ26x753 ?hy26x753 ?hS26x753 ?rest26x753
  case hi26x753 => (simp only [List.getElem?_toArray, List.getElem?_cons_succ, List.getElem?_cons_zero]; try rfl)
  case hs26x753 => kernel_rfl
  case hf26x753 => kernel_rfl
  case hr26x753 => kernel_rfl
  case hQ26x753 => exact fun _ _ _ h => h
  case hy26x753 => exact Or.inr ⟨by rfl, rfl⟩
  case hS26x753 => assumption
  (try simp only [Act.put, List.setIfInBounds_toArray, List.set_cons_zero, List.set_cons_succ])
  refine' wpAnyH_take (i := 27) (v := undef) ?hi27x754 ?hs27x754 ?hf27x754 ?hr27x754 ?hQ27x754 ?hy27x754 ?hS27x754 ?rest27x754
  case hi27x754 => (simp only [List.getElem?_toArray, List.getElem?_cons_succ, List.getElem?_cons_zero]; try rfl)
  case hs27x754 => kernel_rfl
  case hf27x754 => kernel_rfl
  case hr27x754 => kernel_rfl
  case hQ27x754 => exact fun _ _ _ h => h
  case hy27x754 => exact Or.inr ⟨by rfl, rfl⟩
  case hS27x754 => assumption
  (try simp only [Act.put, List.setIfInBounds_toArray, List.set_cons_zero, List.set_cons_succ])
  refine' wpAnyH_take (i := 28) (v := undef) ?hi28x755 ?hs28x755 ?hf28x755 ?hr28x755 ?hQ28x755 ?hy28x755 ?hS28x755 ?rest28x755
  case hi28x755 => (simp only [List.getElem?_toArray, List.getElem?_cons_succ, List.getElem?_cons_zero]; try rfl)
  case hs28x755 => kernel_rfl
  case hf28x755 => kernel_rfl
  case hr28x755 => kernel_rfl
  case hQ28x755 => exact fun _ _ _ h => h
  case hy28x755 => exact Or.inr ⟨by rfl, rfl⟩
  case hS28x755 => assumption
  (try simp only [Act.put, List.setIfInBounds_toArray, List.set_cons_zero, List.set_cons_succ])
  refine' wpAnyH_take (i := 29) (v := undef) ?hi29x756 ?hs29x756 ?hf29x756 ?hr29x756 ?hQ29x756 ?hy29x756 ?hS29x756 ?rest29x756
  case hi29x756 => (simp only [List.getElem?_toArray, List.getElem?_cons_succ, List.getElem?_cons_zero]; try rfl)
  case hs29x756 => kernel_rfl
  case hf29x756 => kernel_rfl
  case hr29x756 => kernel_rfl
  case hQ29x756 => exact fun _ _ _ h => h
  case hy29x756 => exact Or.inr ⟨by rfl, rfl⟩
  case hS29x756 => assumption
  (try simp only [Act.put, List.setIfInBounds_toArray, List.set_cons_zero, List.set_cons_succ])
  refine' wpAnyH_take (i := 30) (v := undef) ?hi30x757 ?hs30x757 ?hf30x757 ?hr30x757 ?hQ30x757 ?hy30x757 ?hS30x757 ?rest30x757
  case hi30x757 => (simp only [List.getElem?_toArray, List.getElem?_cons_succ, List.getElem?_cons_zero]; try rfl)
  case hs30x757 => kernel_rfl
  case hf30x757 => kernel_rfl
  case hr30x757 => kernel_rfl
  case hQ30x757 => exact fun _ _ _ h => h
  case hy30x757 => exact Or.inr ⟨by rfl, rfl⟩
  case hS30x757 => assumption
  (try simp only [Act.put, List.setIfInBounds_toArray, List.set_cons_zero, List.set_cons_succ])
  refine' wpAnyH_take (i := 31) (v := undef) ?hi31x758 ?hs31x758 ?hf31x758 ?hr31x758 ?hQ31x758 ?hy31x758 ?hS31x758 ?rest31x758
  case hi31x758 => (simp only [List.getElem?_toArray, List.getElem?_cons_succ, List.getElem?_cons_zero]; try rfl)
  case hs31x758 => kernel_rfl
  case hf31x758 => kernel_rfl
  case hr31x758 => kernel_rfl
  case hQ31x758 => exact fun _ _ _ h => h
  case hy31x758 => exact Or.inr ⟨by rfl, rfl⟩
  case hS31x758 => assumption
  (try simp only [Act.put, List.setIfInBounds_toArray, List.set_cons_zero, List.set_cons_succ])
  refine' wpAnyH_take (i := 32) (v := undef) ?hi32x759 ?hs32x759 ?hf32x759 ?hr32x759 ?hQ32x759 ?hy32x759 ?hS32x759 ?rest32x759
  case hi32x759 => (simp only [List.getElem?_toArray, List.getElem?_cons_succ, List.getElem?_cons_zero]; try rfl)
  case hs32x759 => kernel_rfl
  case hf32x759 => kernel_rfl
  case hr32x759 => kernel_rfl
  case hQ32x759 => exact fun _ _ _ h => h
  case hy32x759 => exact Or.inr ⟨by rfl, rfl⟩
  case hS32x759 => assumption
  (try simp only [Act.put, List.setIfInBounds_toArray, List.set_cons_zero, List.set_cons_succ])
  refine' wpAnyH_take (i := 33) (v := undef) ?hi33x760 ?hs33x760 ?hf33x760 ?hr33x760 ?hQ33x760 ?hy33x760 ?hS33x760 ?rest33x760
  case hi33x760 => (simp only [List.getElem?_toArray, List.getElem?_cons_succ, List.getElem?_cons_zero]; try rfl)
  case hs33x760 => kernel_rfl
  case hf33x760 => kernel_rfl
  case hr33x760 => kernel_rfl
  case hQ33x760 => exact fun _ _ _ h => h
  case hy33x760 => exact Or.inr ⟨by rfl, rfl⟩
  case hS33x760 => assumption
  (try simp only [Act.put, List.setIfInBounds_toArray, List.set_cons_zero, List.set_cons_succ])
  refine' wpAnyH_take (i := 34) (v := undef) ?hi34x761 ?hs34x761 ?hf34x761 ?hr34x761 ?hQ34x761 ?hy34x761 ?hS34x761 ?rest34x761
  case hi34x761 => (simp only [List.getElem?_toArray, List.getElem?_cons_succ, List.getElem?_cons_zero]; try rfl)
  case hs34x761 => kernel_rfl
  case hf34x761 => kernel_rfl
  case hr34x761 => kernel_rfl
  case hQ34x761 => exact fun _ _ _ h => h
  case hy34x761 => exact Or.inr ⟨by rfl, rfl⟩
  case hS34x761 => assumption
  (try simp only [Act.put, List.setIfInBounds_toArray, List.set_cons_zero, List.set_cons_succ])
  refine' wpAnyH_take (i := 35) (v := undef) ?hi35x762 ?hs35x762 ?hf35x762 ?hr35x762 ?hQ35x762 ?hy35x762 ?hS35x762 ?rest35x762
  case hi35x762 => (simp only [List.getElem?_toArray, List.getElem?_cons_succ, List.getElem?_cons_zero]; try rfl)
  case hs35x762 => kernel_rfl
  case hf35x762 => kernel_rfl
  case hr35x762 => kernel_rfl
  case hQ35x762 => exact fun _ _ _ h => h
  case hy35x762 => exact Or.inr ⟨by rfl, rfl⟩
  case hS35x762 => assumption
  (try simp only [Act.put, List.setIfInBounds_toArray, List.set_cons_zero, List.set_cons_succ])
  refine' wpAnyH_take (i := 36) (v := .bool true) ?hi36x763 ?hs36x763 ?hf36x763 ?hr36x763 ?hQ36x763 ?hy36x763 ?hS36x763 ?rest36x763
  case hi36x763 => (simp only [List.getElem?_toArray, List.getElem?_cons_succ, List.getElem?_cons_zero]; try rfl)
  case hs36x763 => kernel_rfl
  case hf36x763 => kernel_rfl
  case hr36x763 => kernel_rfl
  case hQ36x763 => exact fun _ _ _ h => h
  case hy36x763 => exact Or.inl ⟨by rfl, by (intro w hSw; (try dsimp only at hSw); go_simp)⟩
  case hS36x763 => assumption
  (try simp only [Act.put, List.setIfInBounds_toArray, List.set_cons_zero, List.set_cons_succ])
  refine' wpAnyH_take (i := 37) (v := .bool true) ?hi37x764 ?hs37x764 ?hf37x764 ?hr37x764 ?hQ37x764 ?hy37x764 ?hS37x764 ?rest37x764
  case hi37x764 => (simp only [List.getElem?_toArray, List.getElem?_cons_succ, List.getElem?_cons_zero]; try rfl)
  case hs37x764 => kernel_rfl
  case hf37x764 => kernel_rfl
  case hr37x764 => kernel_rfl
  case hQ37x764 => exact fun _ _ _ h => h
  case hy37x764 => exact Or.inl ⟨by rfl, by (intro w hSw; (try dsimp only at hSw); go_simp)⟩
  case hS37x764 => assumption
  (try simp only [Act.put, List.setIfInBounds_toArray, List.set_cons_zero, List.set_cons_succ])
  refine wpAnyH_done (by kernel_rfl) ?_ _
  refine NoPanic.normal ?_
  clear hHeld
  go_wp2_with fail
  refine wp_region_noPanic ?_
  refine wp_region_held_drew (S := (fun w' => w'.cell? ⟨w.heap.size, 0, none⟩ = some (.int .u8 k0) ∧ w'.cell? ⟨w.heap.size, 1, none⟩ = some (.bool b0) ∧ w'.cell? ⟨w.heap.size, 2, none⟩ = some (.int .i64 n0) ∧ w'.cell? ⟨w.heap.size, 3, none⟩ = some (.string s0) ∧ w'.cell? ⟨w.heap.size + 1, 0, none⟩ = some (.int .u8 k1) ∧ w'.cell? ⟨w.heap.size + 1, 1, none⟩ = some (.bool b1) ∧ w'.cell? ⟨w.heap.size + 1, 2, none⟩ = some (.int .i64 n1) ∧ w'.cell? ⟨w.heap.size + 1, 3, none⟩ = some (.string s1))) (by kernel_rfl) (by first | exact ⟨a0_, a1_, a2_, a3_, b0_, b1_, b2_, b3_⟩ | go_keep) (fun hHeld => ?_)
  refine' wpAnyH_take (i := 0) (v := .int .i64 m) ?hi0x765 ?hs0x765 ?hf0x765 ?hr0x765 ?hQ0x765 ?hy0x765 ?hS0x765 ?rest0x765
  case hi0x765 => (simp only [List.getElem?_toArray, List.getElem?_cons_succ, List.getElem?_cons_zero]; try rfl)
  case hs0x765 => kernel_rfl
  case hf0x765 => kernel_rfl
  case hr0x765 => kernel_rfl
  case hQ0x765 => exact fun _ _ _ h => h
  case hy0x765 => exact Or.inl ⟨by rfl, by (intro w hSw; (try dsimp only at hSw); go_simp)⟩
  case hS0x765 => assumption
  (try simp only [Act.put, List.setIfInBounds_toArray, List.set_cons_zero, List.set_cons_succ])
  refine' wpAnyH_take (i := 1) (v := .bool true) ?hi1x766 ?hs1x766 ?hf1x766 ?hr1x766 ?hQ1x766 ?hy1x766 ?hS1x766 ?rest1x766
  case hi1x766 => (simp only [List.getElem?_toArray, List.getElem?_cons_succ, List.getElem?_cons_zero]; try rfl)
  case hs1x766 => kernel_rfl
  case hf1x766 => kernel_rfl
  case hr1x766 => kernel_rfl
  case hQ1x766 => exact fun _ _ _ h => h
  case hy1x766 => exact Or.inl ⟨by rfl, by (intro w hSw; (try dsimp only at hSw); go_simp)⟩
  case hS1x766 => assumption
  (try simp only [Act.put, List.setIfInBounds_toArray, List.set_cons_zero, List.set_cons_succ])
  refine' wpAnyH_take (i := 3) (v := .agg #[.int .u8 k0, .bool b0, .int .i64 n0, .string s0]) ?hi3x767 ?hs3x767 ?hf3x767 ?hr3x767 ?hQ3x767 ?hy3x767 ?hS3x767 ?rest3x767
  case hi3x767 => (simp only [List.getElem?_toArray, List.getElem?_cons_succ, List.getElem?_cons_zero]; try rfl)
  case hs3x767 => kernel_rfl
  case hf3x767 => kernel_rfl
  case hr3x767 => kernel_rfl
  case hQ3x767 => exact fun _ _ _ h => h
  case hy3x767 => exact Or.inl ⟨by rfl, by (intro w hSw; (try dsimp only at hSw); go_simp)⟩
  case hS3x767 => assumption
  (try simp only [Act.put, List.setIfInBounds_toArray, List.set_cons_zero, List.set_cons_succ])
  refine' wpAnyH_take (i := 4) (v := .agg #[.int .u8 k1, .bool b1, .int .i64 n1, .string s1]) ?hi4x768 ?hs4x768 ?hf4x768 ?hr4x768 ?hQ4x768 ?hy4x768 ?hS4x768 ?rest4x768
  case hi4x768 => (simp only [List.getElem?_toArray, List.getElem?_cons_succ, List.getElem?_cons_zero]; try rfl)
  case hs4x768 => kernel_rfl
  case hf4x768 => kernel_rfl
  case hr4x768 => kernel_rfl
  case hQ4x768 => exact fun _ _ _ h => h
  case hy4x768 => exact Or.inl ⟨by rfl, by (intro w hSw; (try dsimp only at hSw); go_simp)⟩
  case hS4x768 => assumption
  (try simp only [Act.put, List.setIfInBounds_toArray, List.set_cons_zero, List.set_cons_succ])
  refine wpAnyH_ready (rs := [2, 5]) (by kernel_rfl) (by simp) ?_
  refine' AllReadyH.cons (i := 2) ?ho2x769 (fun K hK => ?st2x769) (AllReadyH.cons (i := 5) ?ho5x770 (fun K hK => ?st5x770) AllReadyH.nil)
  case ho2x769 => (simp only [List.getElem?_toArray, List.getElem?_cons_succ, List.getElem?_cons_zero]; try rfl)
  case ho5x770 => (simp only [List.getElem?_toArray, List.getElem?_cons_succ, List.getElem?_cons_zero]; try rfl)
  case st2x769 =>
    go_simp
    refine (refOver_any _ _).mono ?_
    rintro e w' ⟨rfl, rfl⟩
    go_wp2_with fail
    refine hK.out _ _ ?_ (fun hHeld => ?_)
    · (first | exact ⟨a0_, a1_, a2_, a3_, b0_, b1_, b2_, b3_⟩ | go_keep)
    clear hK K
    (try simp only [Act.put, List.setIfInBounds_toArray, List.set_cons_zero, List.set_cons_succ])
    refine wpAnyH_ready (rs := [5]) (by kernel_rfl) (by simp) ?_
    refine' AllReadyH.cons (i := 5) ?ho5x771 (fun K hK => ?st5x771) AllReadyH.nil
    case ho5x771 => (simp only [List.getElem?_toArray, List.getElem?_cons_succ, List.getElem?_cons_zero]; try rfl)
    go_simp
    refine hK.out _ _ ?_ (fun hHeld => ?_)
    · (first | exact ⟨a0_, a1_, a2_, a3_, b0_, b1_, b2_, b3_⟩ | go_keep)
    clear hK K
    (try simp only [Act.put, List.setIfInBounds_toArray, List.set_cons_zero, List.set_cons_succ])
    refine wpAnyH_ready (rs := [6]) (by kernel_rfl) (by simp) ?_
    refine' AllReadyH.cons (i := 6) ?ho6x772 (fun K hK => ?st6x772) AllReadyH.nil
    case ho6x772 => (simp only [List.getElem?_toArray, List.getElem?_cons_succ, List.getElem?_cons_zero]; try rfl)
    go_simp
    refine (refNum2_any _ _ k0 b0 n0 s0 k1 b1 n1 s1 _ _ _ (by exact heap_at _ _ _ (by first | rfl | simp)) hs0H.out hs1H.out).mono ?_
    rw [hrH.out, refVm]
    rintro e w' ⟨rfl, hb'⟩
    replace hb := chainB (B := W0.heap.size) (a := W0) (by go_grown) hb' (by have := hb.size; first | omega | (simp; done) | (simp; omega))
    clear hb' a0_ a1_ a2_ a3_ b0_ b1_ b2_ b3_ r0_ r1_ r2_ r3_ f0_ f1_ f2_ f3_ hz hs
    obtain ⟨a0_, a1_, a2_, a3_⟩ := (hAH.out.below hb).cells; obtain ⟨b0_, b1_, b2_, b3_⟩ := (hBH.out.below hb).cells; obtain ⟨r0_, r1_, r2_, r3_⟩ := (hRH.out.below hb).cells; obtain ⟨f0_, f1_, f2_, f3_⟩ := (hRH.out.below hb).free; have hz := Nat.lt_of_lt_of_le hz0.out hb.size; have hs := hb.size
    go_wp2_with fail
    refine hK.out _ _ ?_ (fun hHeld => ?_)
    · (first | exact ⟨a0_, a1_, a2_, a3_, b0_, b1_, b2_, b3_⟩ | go_keep)
    clear hK K
    (try simp only [Act.put, List.setIfInBounds_toArray, List.set_cons_zero, List.set_cons_succ])
    refine' wpAnyH_take (i := 7) (v := .agg #[.int .u8 k', .bool b', .int .i64 n', .string s']) ?hi7x773 ?hs7x773 ?hf7x773 ?hr7x773 ?hQ7x773 ?hy7x773 ?hS7x773 ?rest7x773
    case hi7x773 => (simp only [List.getElem?_toArray, List.getElem?_cons_succ, List.getElem?_cons_zero]; try rfl)
    case hs7x773 => kernel_rfl
    case hf7x773 => kernel_rfl
    case hr7x773 => kernel_rfl
    case hQ7x773 => exact fun _ _ _ h => h
    case hy7x773 => exact Or.inl ⟨by rfl, by (intro w hSw; (try dsimp only at hSw); go_simp)⟩
    case hS7x773 => assumption
    (try simp only [Act.put, List.setIfInBounds_toArray, List.set_cons_zero, List.set_cons_succ])
    refine' wpAnyH_take (i := 8) (v := .int .i64 x) ?hi8x774 ?hs8x774 ?hf8x774 ?hr8x774 ?hQ8x774 ?hy8x774 ?hS8x774 ?rest8x774
    case hi8x774 => (simp only [List.getElem?_toArray, List.getElem?_cons_succ, List.getElem?_cons_zero]; try rfl)
    case hs8x774 => kernel_rfl
    case hf8x774 => kernel_rfl
    case hr8x774 => kernel_rfl
    case hQ8x774 => exact fun _ _ _ h => h
    case hy8x774 => exact Or.inl ⟨by rfl, by (intro w hSw; (try dsimp only at hSw); go_simp)⟩
    case hS8x774 => assumption
    (try simp only [Act.put, List.setIfInBounds_toArray, List.set_cons_zero, List.set_cons_succ])
    have hne1 : ¬ (w.heap.size + 1 + 1 = w.heap.size) := by omega
    have hne2 : ¬ (w.heap.size = w.heap.size + 1 + 1) := by omega
    refine wpAnyH_ready (rs := [9]) (by kernel_rfl) (by simp) ?_
    refine' AllReadyH.cons (i := 9) ?ho9x775 (fun K hK => ?st9x775) AllReadyH.nil
    case ho9x775 => (simp only [List.getElem?_toArray, List.getElem?_cons_succ, List.getElem?_cons_zero]; try rfl)
    go_simp
    refine hK.out _ _ ?_ (fun hHeld => ?_)
    · (first | exact ⟨a0_, a1_, a2_, a3_, b0_, b1_, b2_, b3_⟩ | go_keep)
    clear hK K
    (try simp only [Act.put, List.setIfInBounds_toArray, List.set_cons_zero, List.set_cons_succ])
    refine' wpAnyH_take (i := 10) (v := .int .i64 x) ?hi10x776 ?hs10x776 ?hf10x776 ?hr10x776 ?hQ10x776 ?hy10x776 ?hS10x776 ?rest10x776
    case hi10x776 => (simp only [List.getElem?_toArray, List.getElem?_cons_succ, List.getElem?_cons_zero]; try rfl)
    case hs10x776 => kernel_rfl
    case hf10x776 => kernel_rfl
    case hr10x776 => kernel_rfl
    case hQ10x776 => exact fun _ _ _ h => h
    case hy10x776 => exact Or.inl ⟨by rfl, by (intro w hSw; (try dsimp only at hSw); go_simp)⟩
    case hS10x776 => assumption
    (try simp only [Act.put, List.setIfInBounds_toArray, List.set_cons_zero, List.set_cons_succ])
    refine wpAnyH_done (by kernel_rfl) ?_ _
    refine NoPanic.normal ?_
    clear hne1 hne2
    go_wp2
    refine bodyPost_ret (v := .tuple #[.agg #[.int .u8 k', .bool b', .int .i64 n', .string s'], .int .i64 x]) (by simp [results, Tryd.results34, go_sem, r0_, r1_, r2_, r3_, hz]) rfl ⟨rfl, ?_⟩
    have hbw := hwWH.out.trans (hb.mono hwWH.out.size)
    clear hb
    go_grown
  case st5x770 =>
    go_simp
    refine hK.out _ _ ?_ (fun hHeld => ?_)
    · (first | exact ⟨a0_, a1_, a2_, a3_, b0_, b1_, b2_, b3_⟩ | go_keep)
    clear hK K
    (try simp only [Act.put, List.setIfInBounds_toArray, List.set_cons_zero, List.set_cons_succ])
    refine wpAnyH_ready (rs := [2]) (by kernel_rfl) (by simp) ?_
    refine' AllReadyH.cons (i := 2) ?ho2x777 (fun K hK => ?st2x777) AllReadyH.nil
    case ho2x777 => (simp only [List.getElem?_toArray, List.getElem?_cons_succ, List.getElem?_cons_zero]; try rfl)
    go_simp
    refine (refOver_any _ _).mono ?_
    rintro e w' ⟨rfl, rfl⟩
    go_wp2_with fail
    refine hK.out _ _ ?_ (fun hHeld => ?_)
    · (first | exact ⟨a0_, a1_, a2_, a3_, b0_, b1_, b2_, b3_⟩ | go_keep)
    clear hK K
    (try simp only [Act.put, List.setIfInBounds_toArray, List.set_cons_zero, List.set_cons_succ])
    refine wpAnyH_ready (rs := [6]) (by kernel_rfl) (by simp) ?_
    refine' AllReadyH.cons (i := 6) ?ho6x778 (fun K hK => ?st6x778) AllReadyH.nil
    case ho6x778 => (simp only [List.getElem?_toArray, List.getElem?_cons_succ, List.getElem?_cons_zero]; try rfl)
    go_simp
    refine (refNum2_any _ _ k0 b0 n0 s0 k1 b1 n1 s1 _ _ _ (by exact heap_at _ _ _ (by first | rfl | simp)) hs0H.out hs1H.out).mono ?_
    rw [hrH.out, refVm]
    rintro e w' ⟨rfl, hb'⟩
    replace hb := chainB (B := W0.heap.size) (a := W0) (by go_grown) hb' (by have := hb.size; first | omega | (simp; done) | (simp; omega))
    clear hb' a0_ a1_ a2_ a3_ b0_ b1_ b2_ b3_ r0_ r1_ r2_ r3_ f0_ f1_ f2_ f3_ hz hs
    obtain ⟨a0_, a1_, a2_, a3_⟩ := (hAH.out.below hb).cells; obtain ⟨b0_, b1_, b2_, b3_⟩ := (hBH.out.below hb).cells; obtain ⟨r0_, r1_, r2_, r3_⟩ := (hRH.out.below hb).cells; obtain ⟨f0_, f1_, f2_, f3_⟩ := (hRH.out.below hb).free; have hz := Nat.lt_of_lt_of_le hz0.out hb.size; have hs := hb.size
    go_wp2_with fail
    refine hK.out _ _ ?_ (fun hHeld => ?_)
    · (first | exact ⟨a0_, a1_, a2_, a3_, b0_, b1_, b2_, b3_⟩ | go_keep)
    clear hK K
    (try simp only [Act.put, List.setIfInBounds_toArray, List.set_cons_zero, List.set_cons_succ])
    refine' wpAnyH_take (i := 7) (v := .agg #[.int .u8 k', .bool b', .int .i64 n', .string s']) ?hi7x779 ?hs7x779 ?hf7x779 ?hr7x779 ?hQ7x779 ?hy7x779 ?hS7x779 ?rest7x779
    case hi7x779 => (simp only [List.getElem?_toArray, List.getElem?_cons_succ, List.getElem?_cons_zero]; try rfl)
    case hs7x779 => kernel_rfl
    case hf7x779 => kernel_rfl
    case hr7x779 => kernel_rfl
    case hQ7x779 => exact fun _ _ _ h => h
    case hy7x779 => exact Or.inl ⟨by rfl, by (intro w hSw; (try dsimp only at hSw); go_simp)⟩
    case hS7x779 => assumption
    (try simp only [Act.put, List.setIfInBounds_toArray, List.set_cons_zero, List.set_cons_succ])
    refine' wpAnyH_take (i := 8) (v := .int .i64 x) ?hi8x780 ?hs8x780 ?hf8x780 ?hr8x780 ?hQ8x780 ?hy8x780 ?hS8x780 ?rest8x780
    case hi8x780 => (simp only [List.getElem?_toArray, List.getElem?_cons_succ, List.getElem?_cons_zero]; try rfl)
    case hs8x780 => kernel_rfl
    case hf8x780 => kernel_rfl
    case hr8x780 => kernel_rfl
    case hQ8x780 => exact fun _ _ _ h => h
    case hy8x780 => exact Or.inl ⟨by rfl, by (intro w hSw; (try dsimp only at hSw); go_simp)⟩
    case hS8x780 => assumption
    (try simp only [Act.put, List.setIfInBounds_toArray, List.set_cons_zero, List.set_cons_succ])
    have hne1 : ¬ (w.heap.size + 1 + 1 = w.heap.size) := by omega
    have hne2 : ¬ (w.heap.size = w.heap.size + 1 + 1) := by omega
    refine wpAnyH_ready (rs := [9]) (by kernel_rfl) (by simp) ?_
    refine' AllReadyH.cons (i := 9) ?ho9x781 (fun K hK => ?st9x781) AllReadyH.nil
    case ho9x781 => (simp only [List.getElem?_toArray, List.getElem?_cons_succ, List.getElem?_cons_zero]; try rfl)
    go_simp
    refine hK.out _ _ ?_ (fun hHeld => ?_)
    · (first | exact ⟨a0_, a1_, a2_, a3_, b0_, b1_, b2_, b3_⟩ | go_keep)
    clear hK K
    (try simp only [Act.put, List.setIfInBounds_toArray, List.set_cons_zero, List.set_cons_succ])
    refine' wpAnyH_take (i := 10) (v := .int .i64 x) ?hi10x782 ?hs10x782 ?hf10x782 ?hr10x782 ?hQ10x782 ?hy10x782 ?hS10x782 ?rest10x782
    case hi10x782 => (simp only [List.getElem?_toArray, List.getElem?_cons_succ, List.getElem?_cons_zero]; try rfl)
    case hs10x782 => kernel_rfl
    case hf10x782 => kernel_rfl
    case hr10x782 => kernel_rfl
    case hQ10x782 => exact fun _ _ _ h => h
    case hy10x782 => exact Or.inl ⟨by rfl, by (intro w hSw; (try dsimp only at hSw); go_simp)⟩
    case hS10x782 => assumption
    (try simp only [Act.put, List.setIfInBounds_toArray, List.set_cons_zero, List.set_cons_succ])
    refine wpAnyH_done (by kernel_rfl) ?_ _
    refine NoPanic.normal ?_
    clear hne1 hne2
    go_wp2
    refine bodyPost_ret (v := .tuple #[.agg #[.int .u8 k', .bool b', .int .i64 n', .string s'], .int .i64 x]) (by simp [results, Tryd.results34, go_sem, r0_, r1_, r2_, r3_, hz]) rfl ⟨rfl, ?_⟩
    have hbw := hwWH.out.trans (hb.mono hwWH.out.size)
    clear hb
    go_grown

end Go.Proofs.YtoolojfbjpnllaaDoor
