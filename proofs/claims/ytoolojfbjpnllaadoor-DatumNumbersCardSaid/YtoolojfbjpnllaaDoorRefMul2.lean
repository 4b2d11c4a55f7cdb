/-
  What the document's own Mul answers, at this program, part 2. Condition: the texts have at most 2^47 bytes, the numbers are 64-bit numbers.
-/
import Derived.Test.YtoolojfbjpnllaaDoorRefNeg
import Derived.Test.YtoolojfbjpnllaaDoorOps
import Derived.Deep.RegionHeld3
set_option linter.unusedVariables false
set_option linter.unusedSimpArgs false
namespace Go.Proofs.YtoolojfbjpnllaaDoor
open Go.RowKit Go.Lib

set_option maxRecDepth 100000 in
set_option maxHeartbeats 8000000 in
theorem refMul_e (k0 : Int) (b0 : Bool) (n0 : Int) (s0 : ByteArray) (k1 : Int) (b1 : Bool) (n1 : Int) (s1 : ByteArray) (w : World) (hs0 : s0.size ≤ 140737488355328) (hs1 : s1.size ≤ 140737488355328) (hc : n0 = 0 ∧ n1 = -1) :
    Calls Tryd.prog 34 #[.agg #[.int .u8 k0, .bool b0, .int .i64 n0, .string s0], .agg #[.int .u8 k1, .bool b1, .int .i64 n1, .string s1]] w fun e w' => e = .returned (refV (numS ⟨k0, b0, n0, s0⟩ ⟨k1, b1, n1, s1⟩ (wrap64 (n0 * n1), 0))) ∧ Below w.heap.size w w' := by
  obtain ⟨r, hr⟩ : ∃ r, numS ⟨k0, b0, n0, s0⟩ ⟨k1, b1, n1, s1⟩ (wrap64 (n0 * n1), 0) = r := ⟨_, rfl⟩
  rw [hr]
  obtain ⟨⟨k', b', n', s'⟩, x⟩ := r
  rw [refVm]
  have hrH := Lib.hid hr
  clear hr
  have hs0H := Lib.hid hs0; have hs1H := Lib.hid hs1
  have dA : (n0 == -1) = false := by simp; omega
  have dAn : (n0 != -1) = true := by simp; omega
  have dAd : decide (n0 = -1) = false := by simp; omega
  have dB : (n1 == -9223372036854775808) = false := by simp; omega
  have dBn : (n1 != -9223372036854775808) = true := by simp; omega
  have dBd : decide (n1 = -9223372036854775808) = false := by simp; omega
  have dC : (n1 == -1) = true := by simp; omega
  have dCn : (n1 != -1) = false := by simp; omega
  have dCd : decide (n1 = -1) = true := by simp; omega
  have dD : (n0 == -9223372036854775808) = false := by simp; omega
  have dDn : (n0 != -9223372036854775808) = true := by simp; omega
  have dDd : decide (n0 = -9223372036854775808) = false := by simp; omega
  have dZ : (n0 == 0) = true := by simp; omega
  have dZn : (n0 != 0) = false := by simp; omega
  have dZd : decide (n0 = 0) = true := by simp; omega
  clear hc
  obtain ⟨m, hm⟩ : ∃ m, wrap64 (n0 * n1) = m := ⟨_, rfl⟩
  have hm' : IntKind.i64.wrap (n0 * n1) = m := by rw [wrap_is, hm]
  rw [hm] at hrH
  obtain ⟨W0, hW0, hwW, hA, hB, hR, hzz⟩ := boxes2 w k0 b0 n0 s0 k1 b1 n1 s1
  have hAH := Lib.hid hA; have hBH := Lib.hid hB; have hRH := Lib.hid hR; have hz0 := Lib.hid hzz; have hwWH := Lib.hid hwW
  clear hA hB hR hzz hwW hs0 hs1
  have hb := Below.refl W0.heap.size W0
  obtain ⟨a0_, a1_, a2_, a3_⟩ := (hAH.out.below hb).cells; obtain ⟨b0_, b1_, b2_, b3_⟩ := (hBH.out.below hb).cells; obtain ⟨r0_, r1_, r2_, r3_⟩ := (hRH.out.below hb).cells; obtain ⟨f0_, f1_, f2_, f3_⟩ := (hRH.out.below hb).free; have hz := Nat.lt_of_lt_of_le hz0.out hb.size; have hs := hb.size
  go_enter Tryd.func34, Tryd.ntmps34
  go_wp2_with fail
  refine wp_region_noPanic ?_
  refine wp_region_held_drew (S := (fun w' => w'.cell? ⟨w.heap.size, 0, none⟩ = some (.int .u8 k0) ∧ w'.cell? ⟨w.heap.size, 1, none⟩ = some (.bool b0) ∧ w'.cell? ⟨w.heap.size, 2, none⟩ = some (.int .i64 n0) ∧ w'.cell? ⟨w.heap.size, 3, none⟩ = some (.string s0) ∧ w'.cell? ⟨w.heap.size + 1, 0, none⟩ = some (.int .u8 k1) ∧ w'.cell? ⟨w.heap.size + 1, 1, none⟩ = some (.bool b1) ∧ w'.cell? ⟨w.heap.size + 1, 2, none⟩ = some (.int .i64 n1) ∧ w'.cell? ⟨w.heap.size + 1, 3, none⟩ = some (.string s1))) (by kernel_rfl) (by first | exact ⟨a0_, a1_, a2_, a3_, b0_, b1_, b2_, b3_⟩ | go_keep) (fun hHeld => ?_)
  refine' wpAnyH_take (i := 0) (v := .pointer (some ⟨w.heap.size, 2, none⟩)) ?hi0x783 ?hs0x783 ?hf0x783 ?hr0x783 ?hQ0x783 ?hy0x783 ?hS0x783 ?rest0x783
  case hi0x783 => (simp only [List.getElem?_toArray, List.getElem?_cons_succ, List.getElem?_cons_zero]; try rfl)
  case hs0x783 => kernel_rfl
  case hf0x783 => kernel_rfl
  case hr0x783 => kernel_rfl
  case hQ0x783 => exact fun _ _ _ h => h
  case hy0x783 => exact Or.inl ⟨by rfl, by (intro w hSw; (try dsimp only at hSw); go_simp)⟩
  case hS0x783 => assumption
  (try simp only [Act.put, List.setIfInBounds_toArray, List.set_cons_zero, List.set_cons_succ])
  refine' wpAnyH_take (i := 1) (v := .int .i64 n0) ?hi1x784 ?hs1x784 ?hf1x784 ?hr1x784 ?hQ1x784 ?hy1x784 ?hS1x784 ?rest1x784
  case hi1x784 => (simp only [List.getElem?_toArray, List.getElem?_cons_succ, List.getElem?_cons_zero]; try rfl)
  case hs1x784 => kernel_rfl
  case hf1x784 => kernel_rfl
  case hr1x784 => kernel_rfl
  case hQ1x784 => exact fun _ _ _ h => h
  case hy1x784 => exact Or.inl ⟨by rfl, by (intro w hSw; (try dsimp only at hSw); go_simp)⟩
  case hS1x784 => assumption
  (try simp only [Act.put, List.setIfInBounds_toArray, List.set_cons_zero, List.set_cons_succ])
  refine' wpAnyH_take (i := 2) (v := .bool false) ?hi2x785 ?hs2x785 ?hf2x785 ?hr2x785 ?hQ2x785 ?hy2x785 ?hS2x785 ?rest2x785
  case hi2x785 => (simp only [List.getElem?_toArray, List.getElem?_cons_succ, List.getElem?_cons_zero]; try rfl)
  case hs2x785 => kernel_rfl
  case hf2x785 => kernel_rfl
  case hr2x785 => kernel_rfl
  case hQ2x785 => exact fun _ _ _ h => h
  case hy2x785 => exact Or.inl ⟨by rfl, by (intro w hSw; (try dsimp only at hSw); go_simp)⟩
  case hS2x785 => assumption
  (try simp only [Act.put, List.setIfInBounds_toArray, List.set_cons_zero, List.set_cons_succ])
  refine' wpAnyH_take (i := 3) (v := .bool false) ?hi3x786 ?hs3x786 ?hf3x786 ?hr3x786 ?hQ3x786 ?hy3x786 ?hS3x786 ?rest3x786
  case hi3x786 => (simp only [List.getElem?_toArray, List.getElem?_cons_succ, List.getElem?_cons_zero]; try rfl)
  case hs3x786 => kernel_rfl
  case hf3x786 => kernel_rfl
  case hr3x786 => kernel_rfl
  case hQ3x786 => exact fun _ _ _ h => h
  case hy3x786 => exact Or.inl ⟨by rfl, by (intro w hSw; (try dsimp only at hSw); go_simp)⟩
  case hS3x786 => assumption
  (try simp only [Act.put, List.setIfInBounds_toArray, List.set_cons_zero, List.set_cons_succ])
  refine' wpAnyH_take (i := 4) (v := undef) ?hi4x787 ?hs4x787 ?hf4x787 ?hr4x787 ?hQ4x787 ?hy4x787 ?hS4x787 ?rest4x787
  case hi4x787 => (simp only [List.getElem?_toArray, List.getElem?_cons_succ, List.getElem?_cons_zero]; try rfl)
  case hs4x787 => kernel_rfl
  case hf4x787 => kernel_rfl
  case hr4x787 => kernel_rfl
  case hQ4x787 => exact fun _ _ _ h => h
  case hy4x787 => exact Or.inr ⟨by rfl, rfl⟩
  case hS4x787 => assumption
  (try simp only [Act.put, List.setIfInBounds_toArray, List.set_cons_zero, List.set_cons_succ])
  refine' wpAnyH_take (i := 5) (v := undef) ?hi5x788 ?hs5x788 ?hf5x788 ?hr5x788 ?hQ5x788 ?hy5x788 ?hS5x788 ?rest5x788
  case hi5x788 => (simp only [List.getElem?_toArray, List.getElem?_cons_succ, List.getElem?_cons_zero]; try rfl)
  case hs5x788 => kernel_rfl
  case hf5x788 => kernel_rfl
  case hr5x788 => kernel_rfl
  case hQ5x788 => exact fun _ _ _ h => h
  case hy5x788 => exact Or.inr ⟨by rfl, rfl⟩
  case hS5x788 => assumption
  (try simp only [Act.put, List.setIfInBounds_toArray, List.set_cons_zero, List.set_cons_succ])
  refine' wpAnyH_take (i := 6) (v := undef) ?hi6x789 ?hs6x789 ?hf6x789 ?hr6x789 ?hQ6x789 ?hy6x789 ?hS6x789 ?rest6x789
  case hi6x789 => (simp only [List.getElem?_toArray, List.getElem?_cons_succ, List.getElem?_cons_zero]; try rfl)
  case hs6x789 => kernel_rfl
  case hf6x789 => kernel_rfl
  case hr6x789 => kernel_rfl
  case hQ6x789 => exact fun _ _ _ h => h
  case hy6x789 => exact Or.inr ⟨by rfl, rfl⟩
  case hS6x789 => assumption
  (try simp only [Act.put, List.setIfInBounds_toArray, List.set_cons_zero, List.set_cons_succ])
  refine' wpAnyH_take (i := 7) (v := .bool false) ?hi7x790 ?hs7x790 ?hf7x790 ?hr7x790 ?hQ7x790 ?hy7x790 ?hS7x790 ?rest7x790
  case hi7x790 => (simp only [List.getElem?_toArray, List.getElem?_cons_succ, List.getElem?_cons_zero]; try rfl)
  case hs7x790 => kernel_rfl
  case hf7x790 => kernel_rfl
  case hr7x790 => kernel_rfl
  case hQ7x790 => exact fun _ _ _ h => h
  case hy7x790 => exact Or.inl ⟨by rfl, by (intro w hSw; (try dsimp only at hSw); go_simp)⟩
  case hS7x790 => assumption
  (try simp only [Act.put, List.setIfInBounds_toArray, List.set_cons_zero, List.set_cons_succ])
  refine' wpAnyH_take (i := 8) (v := .bool false) ?hi8x791 ?hs8x791 ?hf8x791 ?hr8x791 ?hQ8x791 ?hy8x791 ?hS8x791 ?rest8x791
  case hi8x791 => (simp only [List.getElem?_toArray, List.getElem?_cons_succ, List.getElem?_cons_zero]; try rfl)
  case hs8x791 => kernel_rfl
  case hf8x791 => kernel_rfl
  case hr8x791 => kernel_rfl
  case hQ8x791 => exact fun _ _ _ h => h
  case hy8x791 => exact Or.inl ⟨by rfl, by (intro w hSw; (try dsimp only at hSw); go_simp)⟩
  case hS8x791 => assumption
  (try simp only [Act.put, List.setIfInBounds_toArray, List.set_cons_zero, List.set_cons_succ])
  refine' wpAnyH_take (i := 9) (v := .pointer (some ⟨w.heap.size + 1, 2, none⟩)) ?hi9x792 ?hs9x792 ?hf9x792 ?hr9x792 ?hQ9x792 ?hy9x792 ?hS9x792 ?rest9x792
  case hi9x792 => (simp only [List.getElem?_toArray, List.getElem?_cons_succ, List.getElem?_cons_zero]; try rfl)
  case hs9x792 => kernel_rfl
  case hf9x792 => kernel_rfl
  case hr9x792 => kernel_rfl
  case hQ9x792 => exact fun _ _ _ h => h
  case hy9x792 => exact Or.inl ⟨by rfl, by (intro w hSw; (try dsimp only at hSw); go_simp)⟩
  case hS9x792 => assumption
  (try simp only [Act.put, List.setIfInBounds_toArray, List.set_cons_zero, List.set_cons_succ])
  refine' wpAnyH_take (i := 10) (v := .int .i64 n1) ?hi10x793 ?hs10x793 ?hf10x793 ?hr10x793 ?hQ10x793 ?hy10x793 ?hS10x793 ?rest10x793
  case hi10x793 => (simp only [List.getElem?_toArray, List.getElem?_cons_succ, List.getElem?_cons_zero]; try rfl)
  case hs10x793 => kernel_rfl
  case hf10x793 => kernel_rfl
  case hr10x793 => kernel_rfl
  case hQ10x793 => exact fun _ _ _ h => h
  case hy10x793 => exact Or.inl ⟨by rfl, by (intro w hSw; (try dsimp only at hSw); go_simp)⟩
  case hS10x793 => assumption
  (try simp only [Act.put, List.setIfInBounds_toArray, List.set_cons_zero, List.set_cons_succ])
  refine' wpAnyH_take (i := 11) (v := .bool true) ?hi11x794 ?hs11x794 ?hf11x794 ?hr11x794 ?hQ11x794 ?hy11x794 ?hS11x794 ?rest11x794
  case hi11x794 => (simp only [List.getElem?_toArray, List.getElem?_cons_succ, List.getElem?_cons_zero]; try rfl)
  case hs11x794 => kernel_rfl
  case hf11x794 => kernel_rfl
  case hr11x794 => kernel_rfl
  case hQ11x794 => exact fun _ _ _ h => h
  case hy11x794 => exact Or.inl ⟨by rfl, by (intro w hSw; (try dsimp only at hSw); go_simp)⟩
  case hS11x794 => assumption
  (try simp only [Act.put, List.setIfInBounds_toArray, List.set_cons_zero, List.set_cons_succ])
  refine' wpAnyH_take (i := 12) (v := .bool true) ?hi12x795 ?hs12x795 ?hf12x795 ?hr12x795 ?hQ12x795 ?hy12x795 ?hS12x795 ?rest12x795
  case hi12x795 => (simp only [List.getElem?_toArray, List.getElem?_cons_succ, List.getElem?_cons_zero]; try rfl)
  case hs12x795 => kernel_rfl
  case hf12x795 => kernel_rfl
  case hr12x795 => kernel_rfl
  case hQ12x795 => exact fun _ _ _ h => h
  case hy12x795 => exact Or.inl ⟨by rfl, by (intro w hSw; (try dsimp only at hSw); go_simp)⟩
  case hS12x795 => assumption
  (try simp only [Act.put, List.setIfInBounds_toArray, List.set_cons_zero, List.set_cons_succ])
  refine' wpAnyH_take (i := 13) (v := .pointer (some ⟨w.heap.size, 2, none⟩)) ?hi13x796 ?hs13x796 ?hf13x796 ?hr13x796 ?hQ13x796 ?hy13x796 ?hS13x796 ?rest13x796
  case hi13x796 => (simp only [List.getElem?_toArray, List.getElem?_cons_succ, List.getElem?_cons_zero]; try rfl)
  case hs13x796 => kernel_rfl
  case hf13x796 => kernel_rfl
  case hr13x796 => kernel_rfl
  case hQ13x796 => exact fun _ _ _ h => h
  case hy13x796 => exact Or.inl ⟨by rfl, by (intro w hSw; (try dsimp only at hSw); go_simp)⟩
  case hS13x796 => assumption
  (try simp only [Act.put, List.setIfInBounds_toArray, List.set_cons_zero, List.set_cons_succ])
  refine' wpAnyH_take (i := 14) (v := .int .i64 n0) ?hi14x797 ?hs14x797 ?hf14x797 ?hr14x797 ?hQ14x797 ?hy14x797 ?hS14x797 ?rest14x797
  case hi14x797 => (simp only [List.getElem?_toArray, List.getElem?_cons_succ, List.getElem?_cons_zero]; try rfl)
  case hs14x797 => kernel_rfl
  case hf14x797 => kernel_rfl
  case hr14x797 => kernel_rfl
  case hQ14x797 => exact fun _ _ _ h => h
  case hy14x797 => exact Or.inl ⟨by rfl, by (intro w hSw; (try dsimp only at hSw); go_simp)⟩
  case hS14x797 => assumption
  (try simp only [Act.put, List.setIfInBounds_toArray, List.set_cons_zero, List.set_cons_succ])
  refine' wpAnyH_take (i := 15) (v := .bool false) ?hi15x798 ?hs15x798 ?hf15x798 ?hr15x798 ?hQ15x798 ?hy15x798 ?hS15x798 ?rest15x798
  case hi15x798 => (simp only [List.getElem?_toArray, List.getElem?_cons_succ, List.getElem?_cons_zero]; try rfl)
  case hs15x798 => kernel_rfl
  case hf15x798 => kernel_rfl
  case hr15x798 => kernel_rfl
  case hQ15x798 => exact fun _ _ _ h => h
  case hy15x798 => exact Or.inl ⟨by rfl, by (intro w hSw; (try dsimp only at hSw); go_simp)⟩
  case hS15x798 => assumption
  (try simp only [Act.put, List.setIfInBounds_toArray, List.set_cons_zero, List.set_cons_succ])
  refine' wpAnyH_take (i := 16) (v := .bool false) ?hi16x799 ?hs16x799 ?hf16x799 ?hr16x799 ?hQ16x799 ?hy16x799 ?hS16x799 ?rest16x799
  case hi16x799 => (simp only [List.getElem?_toArray, List.getElem?_cons_succ, List.getElem?_cons_zero]; try rfl)
  case hs16x799 => kernel_rfl
  case hf16x799 => kernel_rfl
  case hr16x799 => kernel_rfl
  case hQ16x799 => exact fun _ _ _ h => h
  case hy16x799 => exact Or.inl ⟨by rfl, by (intro w hSw; (try dsimp only at hSw); go_simp)⟩
  case hS16x799 => assumption
  (try simp only [Act.put, List.setIfInBounds_toArray, List.set_cons_zero, List.set_cons_succ])
  refine' wpAnyH_take (i := 17) (v := .bool false) ?hi17x800 ?hs17x800 ?hf17x800 ?hr17x800 ?hQ17x800 ?hy17x800 ?hS17x800 ?rest17x800
  case hi17x800 => (simp only [List.getElem?_toArray, List.getElem?_cons_succ, List.getElem?_cons_zero]; try rfl)
  case hs17x800 => kernel_rfl
  case hf17x800 => kernel_rfl
  case hr17x800 => kernel_rfl
  case hQ17x800 => exact fun _ _ _ h => h
  case hy17x800 => exact Or.inl ⟨by rfl, by (intro w hSw; (try dsimp only at hSw); go_simp)⟩
  case hS17x800 => assumption
  (try simp only [Act.put, List.setIfInBounds_toArray, List.set_cons_zero, List.set_cons_succ])
  refine' wpAnyH_take (i := 18) (v := .bool false) ?hi18x801 ?hs18x801 ?hf18x801 ?hr18x801 ?hQ18x801 ?hy18x801 ?hS18x801 ?rest18x801
  case hi18x801 => (simp only [List.getElem?_toArray, List.getElem?_cons_succ, List.getElem?_cons_zero]; try rfl)
  case hs18x801 => kernel_rfl
  case hf18x801 => kernel_rfl
  case hr18x801 => kernel_rfl
  case hQ18x801 => exact fun _ _ _ h => h
  case hy18x801 => exact Or.inl ⟨by rfl, by (intro w hSw; (try dsimp only at hSw); go_simp)⟩
  case hS18x801 => assumption
  (try simp only [Act.put, List.setIfInBounds_toArray, List.set_cons_zero, List.set_cons_succ])
  refine' wpAnyH_take (i := 19) (v := .pointer (some ⟨w.heap.size, 2, none⟩)) ?hi19x802 ?hs19x802 ?hf19x802 ?hr19x802 ?hQ19x802 ?hy19x802 ?hS19x802 ?rest19x802
  case hi19x802 => (simp only [List.getElem?_toArray, List.getElem?_cons_succ, List.getElem?_cons_zero]; try rfl)
  case hs19x802 => kernel_rfl
  case hf19x802 => kernel_rfl
  case hr19x802 => kernel_rfl
  case hQ19x802 => exact fun _ _ _ h => h
  case hy19x802 => exact Or.inl ⟨by rfl, by (intro w hSw; (try dsimp only at hSw); go_simp)⟩
  case hS19x802 => assumption
  (try simp only [Act.put, List.setIfInBounds_toArray, List.set_cons_zero, List.set_cons_succ])
  refine' wpAnyH_take (i := 20) (v := .int .i64 n0) ?hi20x803 ?hs20x803 ?hf20x803 ?hr20x803 ?hQ20x803 ?hy20x803 ?hS20x803 ?rest20x803
  case hi20x803 => (simp only [List.getElem?_toArray, List.getElem?_cons_succ, List.getElem?_cons_zero]; try rfl)
  case hs20x803 => kernel_rfl
  case hf20x803 => kernel_rfl
  case hr20x803 => kernel_rfl
  case hQ20x803 => exact fun _ _ _ h => h
  case hy20x803 => exact Or.inl ⟨by rfl, by (intro w hSw; (try dsimp only at hSw); go_simp)⟩
  case hS20x803 => assumption
  (try simp only [Act.put, List.setIfInBounds_toArray, List.set_cons_zero, List.set_cons_succ])
  refine' wpAnyH_take (i := 21) (v := .bool false) ?hi21x804 ?hs21x804 ?hf21x804 ?hr21x804 ?hQ21x804 ?hy21x804 ?hS21x804 ?rest21x804
  case hi21x804 => (simp only [List.getElem?_toArray, List.getElem?_cons_succ, List.getElem?_cons_zero]; try rfl)
  case hs21x804 => kernel_rfl
  case hf21x804 => kernel_rfl
  case hr21x804 => kernel_rfl
  case hQ21x804 => exact fun _ _ _ h => h
  case hy21x804 => exact Or.inl ⟨by rfl, by (intro w hSw; (try dsimp only at hSw); go_simp)⟩
  case hS21x804 => assumption
  (try simp only [Act.put, List.setIfInBounds_toArray, List.set_cons_zero, List.set_cons_succ])
  refine' wpAnyH_take (i := 22) (v := .bool false) ?hi22x805 ?hs22x805 ?hf22x805 ?hr22x805 ?hQ22x805 ?hy22x805 ?hS22x805 ?rest22x805
  case hi22x805 => (simp only [List.getElem?_toArray, List.getElem?_cons_succ, List.getElem?_cons_zero]; try rfl)
  case hs22x805 => kernel_rfl
  case hf22x805 => kernel_rfl
  case hr22x805 => kernel_rfl
  case hQ22x805 => exact fun _ _ _ h => h
  case hy22x805 => exact Or.inl ⟨by rfl, by (intro w hSw; (try dsimp only at hSw); go_simp)⟩
  case hS22x805 => assumption
  (try simp only [Act.put, List.setIfInBounds_toArray, List.set_cons_zero, List.set_cons_succ])
  refine' wpAnyH_take (i := 23) (v := undef) ?hi23x806 ?hs23x806 ?hf23x806 ?hr23x806 ?hQ23x806 ?hy23x806 ?hS23x806 ?rest23x806
  case hi23x806 => (simp only [List.getElem?_toArray, List.getElem?_cons_succ, List.getElem?_cons_zero]; try rfl)
  case hs23x806 => kernel_rfl
  case hf23x806 => kernel_rfl
  case hr23x806 => kernel_rfl
  case hQ23x806 => exact fun _ _ _ h => h
  case hy23x806 => exact Or.inr ⟨by rfl, rfl⟩
  case hS23x806 => assumption
  (try simp only [Act.put, List.setIfInBounds_toArray, List.set_cons_zero, List.set_cons_succ])
  refine' wpAnyH_take (i := 24) (v := undef) ?hi24x807 ?hs24x807 ?hf24x807 ?hr24x807 ?hQ24x807 ?hy24x807 ?hS24x807 ?rest24x807
  case hi24x807 => (simp only [List.getElem?_toArray, List.getElem?_cons_succ, List.getElem?_cons_zero]; try rfl)
  case hs24x807 => kernel_rfl
  case hf24x807 => kernel_rfl
  case hr24x807 => kernel_rfl
  case hQ24x807 => exact fun _ _ _ h => h
  case hy24x807 => exact Or.inr ⟨by rfl, rfl⟩
  case hS24x807 => assumption
  (try simp only [Act.put, List.setIfInBounds_toArray, List.set_cons_zero, List.set_cons_succ])
  refine' wpAnyH_take (i := 25) (v := undef) ?hi25x808 ?hs25x808 ?hf25x808 ?hr25x808 ?hQ25x808 ?hy25x808 ?hS25x808 ?rest25x808
  case hi25x808 => (simp only [List.getElem?_toArray, List.getElem?_cons_succ, List.getElem?_cons_zero]; try rfl)
  case hs25x808 => kernel_rfl
  case hf25x808 => kernel_rfl
  case hr25x808 => kernel_rfl
  case hQ25x808 => exact fun _ _ _ h => h
  case hy25x808 => exact Or.inr ⟨by rfl, rfl⟩
  case hS25x808 => assumption
  (try simp only [Act.put, List.setIfInBounds_toArray, List.set_cons_zero, List.set_cons_succ])
  refine' wpAnyH_take (i := 26) (v := .bool false) ?hi26x809 ?hs26x809 ?hf26x809 ?hr26x809 ?hQ26x809 ?hy26x809 ?hS26x809 ?rest26x809
  case hi26x809 => (simp only [List.getElem?_toArray, List.getElem?_cons_succ, List.getElem?_cons_zero]; try rfl)
  case hs26x809 => kernel_rfl
  case hf26x809 => kernel_rfl
  case hr26x809 => kernel_rfl
  case hQ26x809 => exact fun _ _ _ h => h
  case hy26x809 => exact Or.inl ⟨by rfl, by (intro w hSw; (try dsimp only at hSw); go_simp)⟩
  case hS26x809 => assumption
  (try simp only [Act.put, List.setIfInBounds_toArray, List.set_cons_zero, List.set_cons_succ])
  refine' wpAnyH_take (i := 27) (v := .bool false) ?hi27x810 ?hs27x810 ?hf27x810 ?hr27x810 ?hQ27x810 ?hy27x810 ?hS27x810 ?rest27x810
  case hi27x810 => (simp only [List.getElem?_toArray, List.getElem?_cons_succ, List.getElem?_cons_zero]; try rfl)
  case hs27x810 => kernel_rfl
  case hf27x810 => kernel_rfl
  case hr27x810 => kernel_rfl
  case hQ27x810 => exact fun _ _ _ h => h
  case hy27x810 => exact Or.inl ⟨by rfl, by (intro w hSw; (try dsimp only at hSw); go_simp)⟩
  case hS27x810 => assumption
  (try simp only [Act.put, List.setIfInBounds_toArray, List.set_cons_zero, List.set_cons_succ])
  refine' wpAnyH_take (i := 28) (v := undef) ?hi28x811 ?hs28x811 ?hf28x811 ?hr28x811 ?hQ28x811 ?hy28x811 ?hS28x811 ?rest28x811
  case hi28x811 => (simp only [List.getElem?_toArray, List.getElem?_cons_succ, List.getElem?_cons_zero]; try rfl)
  case hs28x811 => kernel_rfl
  case hf28x811 => kernel_rfl
  case hr28x811 => kernel_rfl
  case hQ28x811 => exact fun _ _ _ h => h
  case hy28x811 => exact Or.inr ⟨by rfl, rfl⟩
  case hS28x811 => assumption
  (try simp only [Act.put, List.setIfInBounds_toArray, List.set_cons_zero, List.set_cons_succ])
  refine' wpAnyH_take (i := 29) (v := undef) ?hi29x812 ?hs29x812 ?hf29x812 ?hr29x812 ?hQ29x812 ?hy29x812 ?hS29x812 ?rest29x812
  case hi29x812 => (simp only [List.getElem?_toArray, List.getElem?_cons_succ, List.getElem?_cons_zero]; try rfl)
  case hs29x812 => kernel_rfl
  case hf29x812 => kernel_rfl
  case hr29x812 => kernel_rfl
  case hQ29x812 => exact fun _ _ _ h => h
  case hy29x812 => exact Or.inr ⟨by rfl, rfl⟩
  case hS29x812 => assumption
  (try simp only [Act.put, List.setIfInBounds_toArray, List.set_cons_zero, List.set_cons_succ])
  refine' wpAnyH_take (i := 30) (v := undef) ?hi30x813 ?hs30x813 ?hf30x813 ?hr30x813 ?hQ30x813 ?hy30x813 ?hS30x813 ?rest30x813
  case hi30x813 => (simp only [List.getElem?_toArray, List.getElem?_cons_succ, List.getElem?_cons_zero]; try rfl)
  case hs30x813 => kernel_rfl
  case hf30x813 => kernel_rfl
  case hr30x813 => kernel_rfl
  case hQ30x813 => exact fun _ _ _ h => h
  case hy30x813 => exact Or.inr ⟨by rfl, rfl⟩
  case hS30x813 => assumption
  (try simp only [Act.put, List.setIfInBounds_toArray, List.set_cons_zero, List.set_cons_succ])
  refine' wpAnyH_take (i := 31) (v := undef) ?hi31x814 ?hs31x814 ?hf31x814 ?hr31x814 ?hQ31x814 ?hy31x814 ?hS31x814 ?rest31x814
  case hi31x814 => (simp only [List.getElem?_toArray, List.getElem?_cons_succ, List.getElem?_cons_zero]; try rfl)
  case hs31x814 => kernel_rfl
  case hf31x814 => kernel_rfl
  case hr31x814 => kernel_rfl
  case hQ31x814 => exact fun _ _ _ h => h
  case hy31x814 => exact Or.inr ⟨by rfl, rfl⟩
  case hS31x814 => assumption
  (try simp only [Act.put, List.setIfInBounds_toArray, List.set_cons_zero, List.set_cons_succ])
  refine' wpAnyH_take (i := 32) (v := undef) ?hi32x815 ?hs32x815 ?hf32x815 ?hr32x815 ?hQ32x815 ?hy32x815 ?hS32x815 ?rest32x815
  case hi32x815 => (simp only [List.getElem?_toArray, List.getElem?_cons_succ, List.getElem?_cons_zero]; try rfl)
  case hs32x815 => kernel_rfl
  case hf32x815 => kernel_rfl
  case hr32x815 => kernel_rfl
  case hQ32x815 => exact fun _ _ _ h => h
  case hy32x815 => exact Or.inr ⟨by rfl, rfl⟩
  case hS32x815 => assumption
  (try simp only [Act.put, List.setIfInBounds_toArray, List.set_cons_zero, List.set_cons_succ])
  refine' wpAnyH_take (i := 33) (v := undef) ?hi33x816 ?hs33x816 ?hf33x816 ?hr33x816 ?hQ33x816 ?hy33x816 ?hS33x816 ?rest33x816
  case hi33x816 => (simp only [List.getElem?_toArray, List.getElem?_cons_succ, List.getElem?_cons_zero]; try rfl)
  case hs33x816 => kernel_rfl
  case hf33x816 => kernel_rfl
  case hr33x816 => kernel_rfl
  case hQ33x816 => exact fun _ _ _ h => h
  case hy33x816 => exact Or.inr ⟨by rfl, rfl⟩
  case hS33x816 => assumption
  (try simp only [Act.put, List.setIfInBounds_toArray, List.set_cons_zero, List.set_cons_succ])
  refine' wpAnyH_take (i := 34) (v := undef) ?hi34x817 ?hs34x817 ?hf34x817 ?hr34x817 ?hQ34x817 ?hy34x817 ?hS34x817 ?rest34x817
  case hi34x817 => (simp only [List.getElem?_toArray, List.getElem?_cons_succ, List.getElem?_cons_zero]; try rfl)
  case hs34x817 => kernel_rfl
  case hf34x817 => kernel_rfl
  case hr34x817 => kernel_rfl
  case hQ34x817 => exact fun _ _ _ h => h
  case hy34x817 => exact Or.inr ⟨by rfl, rfl⟩
  case hS34x817 => assumption
  (try simp only [Act.put, List.setIfInBounds_toArray, List.set_cons_zero, List.set_cons_succ])
  refine' wpAnyH_take (i := 35) (v := .bool false) ?hi35x818 ?hs35x818 ?hf35x818 ?hr35x818 ?hQ35x818 ?hy35x818 ?hS35x818 ?rest35x818
  case hi35x818 => (simp only [List.getElem?_toArray, List.getElem?_cons_succ, List.getElem?_cons_zero]; try rfl)
  case hs35x818 => kernel_rfl
  case hf35x818 => kernel_rfl
  case hr35x818 => kernel_rfl
  case hQ35x818 => exact fun _ _ _ h => h
  case hy35x818 => exact Or.inl ⟨by rfl, by (intro w hSw; (try dsimp only at hSw); go_simp)⟩
  case hS35x818 => assumption
  (try simp only [Act.put, List.setIfInBounds_toArray, List.set_cons_zero, List.set_cons_succ])
  refine' wpAnyH_take (i := 36) (v := .bool false) ?hi36x819 ?hs36x819 ?hf36x819 ?hr36x819 ?hQ36x819 ?hy36x819 ?hS36x819 ?rest36x819
  case hi36x819 => (simp only [List.getElem?_toArray, List.getElem?_cons_succ, List.getElem?_cons_zero]; try rfl)
  case hs36x819 => kernel_rfl
  case hf36x819 => kernel_rfl
  case hr36x819 => kernel_rfl
  case hQ36x819 => exact fun _ _ _ h => h
  case hy36x819 => exact Or.inl ⟨by rfl, by (intro w hSw; (try dsimp only at hSw); go_simp)⟩
  case hS36x819 => assumption
  (try simp only [Act.put, List.setIfInBounds_toArray, List.set_cons_zero, List.set_cons_succ])
  refine' wpAnyH_take (i := 37) (v := .bool false) ?hi37x820 ?hs37x820 ?hf37x820 ?hr37x820 ?hQ37x820 ?hy37x820 ?hS37x820 ?rest37x820
  case hi37x820 => (simp only [List.getElem?_toArray, List.getElem?_cons_succ, List.getElem?_cons_zero]; try rfl)
  case hs37x820 => kernel_rfl
  case hf37x820 => kernel_rfl
  case hr37x820 => kernel_rfl
  case hQ37x820 => exact fun _ _ _ h => h
  case hy37x820 => exact Or.inl ⟨by rfl, by (intro w hSw; (try dsimp only at hSw); go_simp)⟩
  case hS37x820 => assumption
  (try simp only [Act.put, List.setIfInBounds_toArray, List.set_cons_zero, List.set_cons_succ])
  refine wpAnyH_done (by kernel_rfl) ?_ _
  refine NoPanic.normal ?_
  clear hHeld
  go_wp2_with fail
  refine wp_region_noPanic ?_
  refine wp_region_held_drew (S := (fun w' => w'.cell? ⟨w.heap.size, 0, none⟩ = some (.int .u8 k0) ∧ w'.cell? ⟨w.heap.size, 1, none⟩ = some (.bool b0) ∧ w'.cell? ⟨w.heap.size, 2, none⟩ = some (.int .i64 n0) ∧ w'.cell? ⟨w.heap.size, 3, none⟩ = some (.string s0) ∧ w'.cell? ⟨w.heap.size + 1, 0, none⟩ = some (.int .u8 k1) ∧ w'.cell? ⟨w.heap.size + 1, 1, none⟩ = some (.bool b1) ∧ w'.cell? ⟨w.heap.size + 1, 2, none⟩ = some (.int .i64 n1) ∧ w'.cell? ⟨w.heap.size + 1, 3, none⟩ = some (.string s1))) (by kernel_rfl) (by first | exact ⟨a0_, a1_, a2_, a3_, b0_, b1_, b2_, b3_⟩ | go_keep) (fun hHeld => ?_)
  refine' wpAnyH_take (i := 0) (v := .int .i64 m) ?hi0x821 ?hs0x821 ?hf0x821 ?hr0x821 ?hQ0x821 ?hy0x821 ?hS0x821 ?rest0x821
  case hi0x821 => (simp only [List.getElem?_toArray, List.getElem?_cons_succ, List.getElem?_cons_zero]; try rfl)
  case hs0x821 => kernel_rfl
  case hf0x821 => kernel_rfl
  case hr0x821 => kernel_rfl
  case hQ0x821 => exact fun _ _ _ h => h
  case hy0x821 => exact Or.inl ⟨by rfl, by (intro w hSw; (try dsimp only at hSw); go_simp)⟩
  case hS0x821 => assumption
  (try simp only [Act.put, List.setIfInBounds_toArray, List.set_cons_zero, List.set_cons_succ])
  refine' wpAnyH_take (i := 1) (v := .bool false) ?hi1x822 ?hs1x822 ?hf1x822 ?hr1x822 ?hQ1x822 ?hy1x822 ?hS1x822 ?rest1x822
  case hi1x822 => (simp only [List.getElem?_toArray, List.getElem?_cons_succ, List.getElem?_cons_zero]; try rfl)
  case hs1x822 => kernel_rfl
  case hf1x822 => kernel_rfl
  case hr1x822 => kernel_rfl
  case hQ1x822 => exact fun _ _ _ h => h
  case hy1x822 => exact Or.inl ⟨by rfl, by (intro w hSw; (try dsimp only at hSw); go_simp)⟩
  case hS1x822 => assumption
  (try simp only [Act.put, List.setIfInBounds_toArray, List.set_cons_zero, List.set_cons_succ])
  refine' wpAnyH_take (i := 3) (v := .agg #[.int .u8 k0, .bool b0, .int .i64 n0, .string s0]) ?hi3x823 ?hs3x823 ?hf3x823 ?hr3x823 ?hQ3x823 ?hy3x823 ?hS3x823 ?rest3x823
  case hi3x823 => (simp only [List.getElem?_toArray, List.getElem?_cons_succ, List.getElem?_cons_zero]; try rfl)
  case hs3x823 => kernel_rfl
  case hf3x823 => kernel_rfl
  case hr3x823 => kernel_rfl
  case hQ3x823 => exact fun _ _ _ h => h
  case hy3x823 => exact Or.inl ⟨by rfl, by (intro w hSw; (try dsimp only at hSw); go_simp)⟩
  case hS3x823 => assumption
  (try simp only [Act.put, List.setIfInBounds_toArray, List.set_cons_zero, List.set_cons_succ])
  refine' wpAnyH_take (i := 4) (v := .agg #[.int .u8 k1, .bool b1, .int .i64 n1, .string s1]) ?hi4x824 ?hs4x824 ?hf4x824 ?hr4x824 ?hQ4x824 ?hy4x824 ?hS4x824 ?rest4x824
  case hi4x824 => (simp only [List.getElem?_toArray, List.getElem?_cons_succ, List.getElem?_cons_zero]; try rfl)
  case hs4x824 => kernel_rfl
  case hf4x824 => kernel_rfl
  case hr4x824 => kernel_rfl
  case hQ4x824 => exact fun _ _ _ h => h
  case hy4x824 => exact Or.inl ⟨by rfl, by (intro w hSw; (try dsimp only at hSw); go_simp)⟩
  case hS4x824 => assumption
  (try simp only [Act.put, List.setIfInBounds_toArray, List.set_cons_zero, List.set_cons_succ])
  refine wpAnyH_ready (rs := [2, 5]) (by kernel_rfl) (by simp) ?_
  refine' AllReadyH.cons (i := 2) ?ho2x825 (fun K hK => ?st2x825) (AllReadyH.cons (i := 5) ?ho5x826 (fun K hK => ?st5x826) AllReadyH.nil)
  case ho2x825 => (simp only [List.getElem?_toArray, List.getElem?_cons_succ, List.getElem?_cons_zero]; try rfl)
  case ho5x826 => (simp only [List.getElem?_toArray, List.getElem?_cons_succ, List.getElem?_cons_zero]; try rfl)
  case st2x825 =>
    go_simp
    refine (refOver_any _ _).mono ?_
    rintro e w' ⟨rfl, rfl⟩
    go_wp2_with fail
    refine hK.out _ _ ?_ (fun hHeld => ?_)
    · (first | exact ⟨a0_, a1_, a2_, a3_, b0_, b1_, b2_, b3_⟩ | go_keep)
    clear hK K
    (try simp only [Act.put, List.setIfInBounds_toArray, List.set_cons_zero, List.set_cons_succ])
    refine wpAnyH_ready (rs := [5]) (by kernel_rfl) (by simp) ?_
    refine' AllReadyH.cons (i := 5) ?ho5x827 (fun K hK => ?st5x827) AllReadyH.nil
    case ho5x827 => (simp only [List.getElem?_toArray, List.getElem?_cons_succ, List.getElem?_cons_zero]; try rfl)
    go_simp
    refine hK.out _ _ ?_ (fun hHeld => ?_)
    · (first | exact ⟨a0_, a1_, a2_, a3_, b0_, b1_, b2_, b3_⟩ | go_keep)
    clear hK K
    (try simp only [Act.put, List.setIfInBounds_toArray, List.set_cons_zero, List.set_cons_succ])
    refine wpAnyH_ready (rs := [6]) (by kernel_rfl) (by simp) ?_
    refine' AllReadyH.cons (i := 6) ?ho6x828 (fun K hK => ?st6x828) AllReadyH.nil
    case ho6x828 => (simp only [List.getElem?_toArray, List.getElem?_cons_succ, List.getElem?_cons_zero]; try rfl)
    go_simp
    refine (refNum2_any _ _ k0 b0 n0 s0 k1 b1 n1 s1 _ _ _ (by exact heap_at _ _ _ (by first | rfl | simp)) hs0H.out hs1H.out).mono ?_
    rw [hrH.out, refVm]
    rintro e w' ⟨rfl, hb'⟩
    replace hb := chainB (B := W0.heap.size) (a := W0) (by go_grown) hb' (by have := hb.size; first | omega | (simp; done) | (simp; omega))
    clear hb' a0_ a1_ a2_ a3_ b0_ b1_ b2_ b3_ r0_ r1_ r2_ r3_ f0_ f1_ f2_ f3_ hz hs
    obtain ⟨a0_, a1_, a2_, a3_⟩ := (hAH.out.below hb).cells; obtain ⟨b0_, b1_, b2_, b3_⟩ := (hBH.out.below hb).cells; obtain ⟨r0_, r1_, r2_, r3_⟩ := (hRH.out.below hb).cells; obtain ⟨f0_, f1_, f2_, f3_⟩ := (hRH.out.below hb).free; have hz := Nat.lt_of_lt_of_le hz0.out hb.size; have hs := hb.size
    go_wp2_with fail
    refine hK.out _ _ ?_ (fun hHeld => ?_)
    · (first | exact ⟨a0_, a1_, a2_, a3_, b0_, b1_, b2_, b3_⟩ | go_keep)
    clear hK K
    (try simp only [Act.put, List.setIfInBounds_toArray, List.set_cons_zero, List.set_cons_succ])
    refine' wpAnyH_take (i := 7) (v := .agg #[.int .u8 k', .bool b', .int .i64 n', .string s']) ?hi7x829 ?hs7x829 ?hf7x829 ?hr7x829 ?hQ7x829 ?hy7x829 ?hS7x829 ?rest7x829
    case hi7x829 => (simp only [List.getElem?_toArray, List.getElem?_cons_succ, List.getElem?_cons_zero]; try rfl)
    case hs7x829 => kernel_rfl
    case hf7x829 => kernel_rfl
    case hr7x829 => kernel_rfl
    case hQ7x829 => exact fun _ _ _ h => h
    case hy7x829 => exact Or.inl ⟨by rfl, by (intro w hSw; (try dsimp only at hSw); go_simp)⟩
    case hS7x829 => assumption
    (try simp only [Act.put, List.setIfInBounds_toArray, List.set_cons_zero, List.set_cons_succ])
    refine' wpAnyH_take (i := 8) (v := .int .i64 x) ?hi8x830 ?hs8x830 ?hf8x830 ?hr8x830 ?hQ8x830 ?hy8x830 ?hS8x830 ?rest8x830
    case hi8x830 => (simp only [List.getElem?_toArray, List.getElem?_cons_succ, List.getElem?_cons_zero]; try rfl)
    case hs8x830 => kernel_rfl
    case hf8x830 => kernel_rfl
    case hr8x830 => kernel_rfl
    case hQ8x830 => exact fun _ _ _ h => h
    case hy8x830 => exact Or.inl ⟨by rfl, by (intro w hSw; (try dsimp only at hSw); go_simp)⟩
    case hS8x830 => assumption
    (try simp only [Act.put, List.setIfInBounds_toArray, List.set_cons_zero, List.set_cons_succ])
    have hne1 : ¬ (w.heap.size + 1 + 1 = w.heap.size) := by omega
    have hne2 : ¬ (w.heap.size = w.heap.size + 1 + 1) := by omega
    refine wpAnyH_ready (rs := [9]) (by kernel_rfl) (by simp) ?_
    refine' AllReadyH.cons (i := 9) ?ho9x831 (fun K hK => ?st9x831) AllReadyH.nil
    case ho9x831 => (simp only [List.getElem?_toArray, List.getElem?_cons_succ, List.getElem?_cons_zero]; try rfl)
    go_simp
    refine hK.out _ _ ?_ (fun hHeld => ?_)
    · (first | exact ⟨a0_, a1_, a2_, a3_, b0_, b1_, b2_, b3_⟩ | go_keep)
    clear hK K
    (try simp only [Act.put, List.setIfInBounds_toArray, List.set_cons_zero, List.set_cons_succ])
    refine' wpAnyH_take (i := 10) (v := .int .i64 x) ?hi10x832 ?hs10x832 ?hf10x832 ?hr10x832 ?hQ10x832 ?hy10x832 ?hS10x832 ?rest10x832
    case hi10x832 => (simp only [List.getElem?_toArray, List.getElem?_cons_succ, List.getElem?_cons_zero]; try rfl)
    case hs10x832 => kernel_rfl
    case hf10x832 => kernel_rfl
    case hr10x832 => kernel_rfl
    case hQ10x832 => exact fun _ _ _ h => h
    case hy10x832 => exact Or.inl ⟨by rfl, by (intro w hSw; (try dsimp only at hSw); go_simp)⟩
    case hS10x832 => assumption
    (try simp only [Act.put, List.setIfInBounds_toArray, List.set_cons_zero, List.set_cons_succ])
    refine wpAnyH_done (by kernel_rfl) ?_ _
    refine NoPanic.normal ?_
    clear hne1 hne2
    go_wp2
    refine bodyPost_ret (v := .tuple #[.agg #[.int .u8 k', .bool b', .int .i64 n', .string s'], .int .i64 x]) (by simp [results, Tryd.results34, go_sem, r0_, r1_, r2_, r3_, hz]) rfl ⟨rfl, ?_⟩
    have hbw := hwWH.out.trans (hb.mono hwWH.out.size)
    clear hb
    go_grown
  case st5x826 =>
    go_simp
    refine hK.out _ _ ?_ (fun hHeld => ?_)
    · (first | exact ⟨a0_, a1_, a2_, a3_, b0_, b1_, b2_, b3_⟩ | go_keep)
    clear hK K
    (try simp only [Act.put, List.setIfInBounds_toArray, List.set_cons_zero, List.set_cons_succ])
    refine wpAnyH_ready (rs := [2]) (by kernel_rfl) (by simp) ?_
    refine' AllReadyH.cons (i := 2) ?ho2x833 (fun K hK => ?st2x833) AllReadyH.nil
    case ho2x833 => (simp only [List.getElem?_toArray, List.getElem?_cons_succ, List.getElem?_cons_zero]; try rfl)
    go_simp
    refine (refOver_any _ _).mono ?_
    rintro e w' ⟨rfl, rfl⟩
    go_wp2_with fail
    refine hK.out _ _ ?_ (fun hHeld => ?_)
    · (first | exact ⟨a0_, a1_, a2_, a3_, b0_, b1_, b2_, b3_⟩ | go_keep)
    clear hK K
    (try simp only [Act.put, List.setIfInBounds_toArray, List.set_cons_zero, List.set_cons_succ])
    refine wpAnyH_ready (rs := [6]) (by kernel_rfl) (by simp) ?_
    refine' AllReadyH.cons (i := 6) ?ho6x834 (fun K hK => ?st6x834) AllReadyH.nil
    case ho6x834 => (simp only [List.getElem?_toArray, List.getElem?_cons_succ, List.getElem?_cons_zero]; try rfl)
    go_simp
    refine (refNum2_any _ _ k0 b0 n0 s0 k1 b1 n1 s1 _ _ _ (by exact heap_at _ _ _ (by first | rfl | simp)) hs0H.out hs1H.out).mono ?_
    rw [hrH.out, refVm]
    rintro e w' ⟨rfl, hb'⟩
    replace hb := chainB (B := W0.heap.size) (a := W0) (by go_grown) hb' (by have := hb.size; first | omega | (simp; done) | (simp; omega))
    clear hb' a0_ a1_ a2_ a3_ b0_ b1_ b2_ b3_ r0_ r1_ r2_ r3_ f0_ f1_ f2_ f3_ hz hs
    obtain ⟨a0_, a1_, a2_, a3_⟩ := (hAH.out.below hb).cells; obtain ⟨b0_, b1_, b2_, b3_⟩ := (hBH.out.below hb).cells; obtain ⟨r0_, r1_, r2_, r3_⟩ := (hRH.out.below hb).cells; obtain ⟨f0_, f1_, f2_, f3_⟩ := (hRH.out.below hb).free; have hz := Nat.lt_of_lt_of_le hz0.out hb.size; have hs := hb.size
    go_wp2_with fail
    refine hK.out _ _ ?_ (fun hHeld => ?_)
    · (first | exact ⟨a0_, a1_, a2_, a3_, b0_, b1_, b2_, b3_⟩ | go_keep)
    clear hK K
    (try simp only [Act.put, List.setIfInBounds_toArray, List.set_cons_zero, List.set_cons_succ])
    refine' wpAnyH_take (i := 7) (v := .agg #[.int .u8 k', .bool b', .int .i64 n', .string s']) ?hi7x835 ?hs7x835 ?hf7x835 ?hr7x835 ?hQ7x835 ?hy7x835 ?hS7x835 ?rest7x835
    case hi7x835 => (simp only [List.getElem?_toArray, List.getElem?_cons_succ, List.getElem?_cons_zero]; try rfl)
    case hs7x835 => kernel_rfl
    case hf7x835 => kernel_rfl
    case hr7x835 => kernel_rfl
    case hQ7x835 => exact fun _ _ _ h => h
    case hy7x835 => exact Or.inl ⟨by rfl, by (intro w hSw; (try dsimp only at hSw); go_simp)⟩
    case hS7x835 => assumption
    (try simp only [Act.put, List.setIfInBounds_toArray, List.set_cons_zero, List.set_cons_succ])
    refine' wpAnyH_take (i := 8) (v := .int .i64 x) ?hi8x836 ?hs8x836 ?hf8x836 ?hr8x836 ?hQ8x836 ?hy8x836 ?hS8x836 ?rest8x836
    case hi8x836 => (simp only [List.getElem?_toArray, List.getElem?_cons_succ, List.getElem?_cons_zero]; try rfl)
    case hs8x836 => kernel_rfl
    case hf8x836 => kernel_rfl
    case hr8x836 => kernel_rfl
    case hQ8x836 => exact fun _ _ _ h => h
    case hy8x836 => exact Or.inl ⟨by rfl, by (intro w hSw; (try dsimp only at hSw); go_simp)⟩
    case hS8x836 => assumption
    (try simp only [Act.put, List.setIfInBounds_toArray, List.set_cons_zero, List.set_cons_succ])
    have hne1 : ¬ (w.heap.size + 1 + 1 = w.heap.size) := by omega
    have hne2 : ¬ (w.heap.size = w.heap.size + 1 + 1) := by omega
    refine wpAnyH_ready (rs := [9]) (by kernel_rfl) (by simp) ?_
    refine' AllReadyH.cons (i := 9) ?ho9x837 (fun K hK => ?st9x837) AllReadyH.nil
    case ho9x837 => (simp only [List.getElem?_toArray, List.getElem?_cons_succ, List.getElem?_cons_zero]; try rfl)
    go_simp
    refine hK.out _ _ ?_ (fun hHeld => ?_)
    · (first | exact ⟨a0_, a1_, a2_, a3_, b0_, b1_, b2_, b3_⟩ | go_keep)
    clear hK K
    (try simp only [Act.put, List.setIfInBounds_toArray, List.set_cons_zero, List.set_cons_succ])
    refine' wpAnyH_take (i := 10) (v := .int .i64 x) ?hi10x838 ?hs10x838 ?hf10x838 ?hr10x838 ?hQ10x838 ?hy10x838 ?hS10x838 ?rest10x838
    case hi10x838 => (simp only [List.getElem?_toArray, List.getElem?_cons_succ, List.getElem?_cons_zero]; try rfl)
    case hs10x838 => kernel_rfl
    case hf10x838 => kernel_rfl
    case hr10x838 => kernel_rfl
    case hQ10x838 => exact fun _ _ _ h => h
    case hy10x838 => exact Or.inl ⟨by rfl, by (intro w hSw; (try dsimp only at hSw); go_simp)⟩
    case hS10x838 => assumption
    (try simp only [Act.put, List.setIfInBounds_toArray, List.set_cons_zero, List.set_cons_succ])
    refine wpAnyH_done (by kernel_rfl) ?_ _
    refine NoPanic.normal ?_
    clear hne1 hne2
    go_wp2
    refine bodyPost_ret (v := .tuple #[.agg #[.int .u8 k', .bool b', .int .i64 n', .string s'], .int .i64 x]) (by simp [results, Tryd.results34, go_sem, r0_, r1_, r2_, r3_, hz]) rfl ⟨rfl, ?_⟩
    have hbw := hwWH.out.trans (hb.mono hwWH.out.size)
    clear hb
    go_grown

set_option maxRecDepth 100000 in
set_option maxHeartbeats 8000000 in
theorem refMul_f (k0 : Int) (b0 : Bool) (n0 : Int) (s0 : ByteArray) (k1 : Int) (b1 : Bool) (n1 : Int) (s1 : ByteArray) (w : World) (hs0 : s0.size ≤ 140737488355328) (hs1 : s1.size ≤ 140737488355328) (hc : n0 ≠ -9223372036854775808 ∧ n0 ≠ 0 ∧ n0 ≠ -1 ∧ n1 = -1) (hd : wrap64 ((wrap64 (n0 * n1)).tdiv n0) ≠ n1) :
    Calls Tryd.prog 34 #[.agg #[.int .u8 k0, .bool b0, .int .i64 n0, .string s0], .agg #[.int .u8 k1, .bool b1, .int .i64 n1, .string s1]] w fun e w' => e = .returned (refV (numS ⟨k0, b0, n0, s0⟩ ⟨k1, b1, n1, s1⟩ (wrap64 (n0 * n1), 10))) ∧ Below w.heap.size w w' := by
  obtain ⟨r, hr⟩ : ∃ r, numS ⟨k0, b0, n0, s0⟩ ⟨k1, b1, n1, s1⟩ (wrap64 (n0 * n1), 10) = r := ⟨_, rfl⟩
  rw [hr]
  obtain ⟨⟨k', b', n', s'⟩, x⟩ := r
  rw [refVm]
  have hrH := Lib.hid hr
  clear hr
  have hs0H := Lib.hid hs0; have hs1H := Lib.hid hs1
  have dA : (n0 == -1) = false := by simp; omega
  have dAn : (n0 != -1) = true := by simp; omega
  have dAd : decide (n0 = -1) = false := by simp; omega
  have dB : (n1 == -9223372036854775808) = false := by simp; omega
  have dBn : (n1 != -9223372036854775808) = true := by simp; omega
  have dBd : decide (n1 = -9223372036854775808) = false := by simp; omega
  have dC : (n1 == -1) = true := by simp; omega
  have dCn : (n1 != -1) = false := by simp; omega
  have dCd : decide (n1 = -1) = true := by simp; omega
  have dD : (n0 == -9223372036854775808) = false := by simp; omega
  have dDn : (n0 != -9223372036854775808) = true := by simp; omega
  have dDd : decide (n0 = -9223372036854775808) = false := by simp; omega
  have dZ : (n0 == 0) = false := by simp; omega
  have dZn : (n0 != 0) = true := by simp; omega
  have dZd : decide (n0 = 0) = false := by simp; omega
  have hz0' : ¬ n0 = 0 := by omega
  obtain ⟨q, hq⟩ : ∃ q, wrap64 ((wrap64 (n0 * n1)).tdiv n0) = q := ⟨_, rfl⟩
  rw [hq] at hd
  have dq : (q != n1) = true := by simpa using hd
  have dqd : decide (q = n1) = false := by simpa using hd
  clear hd
  clear hc
  obtain ⟨m, hm⟩ : ∃ m, wrap64 (n0 * n1) = m := ⟨_, rfl⟩
  rw [hm] at hq
  have hq' : IntKind.i64.wrap (m.tdiv n0) = q := by rw [wrap_is, hq]
  have hm' : IntKind.i64.wrap (n0 * n1) = m := by rw [wrap_is, hm]
  rw [hm] at hrH
  obtain ⟨W0, hW0, hwW, hA, hB, hR, hzz⟩ := boxes2 w k0 b0 n0 s0 k1 b1 n1 s1
  have hAH := Lib.hid hA; have hBH := Lib.hid hB; have hRH := Lib.hid hR; have hz0 := Lib.hid hzz; have hwWH := Lib.hid hwW
  clear hA hB hR hzz hwW hs0 hs1
  have hb := Below.refl W0.heap.size W0
  obtain ⟨a0_, a1_, a2_, a3_⟩ := (hAH.out.below hb).cells; obtain ⟨b0_, b1_, b2_, b3_⟩ := (hBH.out.below hb).cells; obtain ⟨r0_, r1_, r2_, r3_⟩ := (hRH.out.below hb).cells; obtain ⟨f0_, f1_, f2_, f3_⟩ := (hRH.out.below hb).free; have hz := Nat.lt_of_lt_of_le hz0.out hb.size; have hs := hb.size
  go_enter Tryd.func34, Tryd.ntmps34
  go_wp2_with fail
  refine wp_region_noPanic ?_
  refine wp_region_held_drew (S := (fun w' => w'.cell? ⟨w.heap.size, 0, none⟩ = some (.int .u8 k0) ∧ w'.cell? ⟨w.heap.size, 1, none⟩ = some (.bool b0) ∧ w'.cell? ⟨w.heap.size, 2, none⟩ = some (.int .i64 n0) ∧ w'.cell? ⟨w.heap.size, 3, none⟩ = some (.string s0) ∧ w'.cell? ⟨w.heap.size + 1, 0, none⟩ = some (.int .u8 k1) ∧ w'.cell? ⟨w.heap.size + 1, 1, none⟩ = some (.bool b1) ∧ w'.cell? ⟨w.heap.size + 1, 2, none⟩ = some (.int .i64 n1) ∧ w'.cell? ⟨w.heap.size + 1, 3, none⟩ = some (.string s1))) (by kernel_rfl) (by first | exact ⟨a0_, a1_, a2_, a3_, b0_, b1_, b2_, b3_⟩ | go_keep) (fun hHeld => ?_)
  refine' wpAnyH_take (i := 0) (v := .pointer (some ⟨w.heap.size, 2, none⟩)) ?hi0x839 ?hs0x839 ?hf0x839 ?hr0x839 ?hQ0x839 ?hy0x839 ?hS0x839 ?rest0x839
  case hi0x839 => (simp only [List.getElem?_toArray, List.getElem?_cons_succ, List.getElem?_cons_zero]; try rfl)
  case hs0x839 => kernel_rfl
  case hf0x839 => kernel_rfl
  case hr0x839 => kernel_rfl
  case hQ0x839 => exact fun _ _ _ h => h
  case hy0x839 => exact Or.inl ⟨by rfl, by (intro w hSw; (try dsimp only at hSw); go_simp)⟩
  case hS0x839 => assumption
  (try simp only [Act.put, List.setIfInBounds_toArray, List.set_cons_zero, List.set_cons_succ])
  refine' wpAnyH_take (i := 1) (v := .int .i64 n0) ?hi1x840 ?hs1x840 ?hf1x840 ?hr1x840 ?hQ1x840 ?hy1x840 ?hS1x840 ?rest1x840
  case hi1x840 => (simp only [List.getElem?_toArray, List.getElem?_cons_succ, List.getElem?_cons_zero]; try rfl)
  case hs1x840 => kernel_rfl
  case hf1x840 => kernel_rfl
  case hr1x840 => kernel_rfl
  case hQ1x840 => exact fun _ _ _ h => h
  case hy1x840 => exact Or.inl ⟨by rfl, by (intro w hSw; (try dsimp only at hSw); go_simp)⟩
  case hS1x840 => assumption
  (try simp only [Act.put, List.setIfInBounds_toArray, List.set_cons_zero, List.set_cons_succ])
  refine' wpAnyH_take (i := 2) (v := .bool false) ?hi2x841 ?hs2x841 ?hf2x841 ?hr2x841 ?hQ2x841 ?hy2x841 ?hS2x841 ?rest2x841
  case hi2x841 => (simp only [List.getElem?_toArray, List.getElem?_cons_succ, List.getElem?_cons_zero]; try rfl)
  case hs2x841 => kernel_rfl
  case hf2x841 => kernel_rfl
  case hr2x841 => kernel_rfl
  case hQ2x841 => exact fun _ _ _ h => h
  case hy2x841 => exact Or.inl ⟨by rfl, by (intro w hSw; (try dsimp only at hSw); go_simp)⟩
  case hS2x841 => assumption
  (try simp only [Act.put, List.setIfInBounds_toArray, List.set_cons_zero, List.set_cons_succ])
  refine' wpAnyH_take (i := 3) (v := .bool false) ?hi3x842 ?hs3x842 ?hf3x842 ?hr3x842 ?hQ3x842 ?hy3x842 ?hS3x842 ?rest3x842
  case hi3x842 => (simp only [List.getElem?_toArray, List.getElem?_cons_succ, List.getElem?_cons_zero]; try rfl)
  case hs3x842 => kernel_rfl
  case hf3x842 => kernel_rfl
  case hr3x842 => kernel_rfl
  case hQ3x842 => exact fun _ _ _ h => h
  case hy3x842 => exact Or.inl ⟨by rfl, by (intro w hSw; (try dsimp only at hSw); go_simp)⟩
  case hS3x842 => assumption
  (try simp only [Act.put, List.setIfInBounds_toArray, List.set_cons_zero, List.set_cons_succ])
  refine' wpAnyH_take (i := 4) (v := undef) ?hi4x843 ?hs4x843 ?hf4x843 ?hr4x843 ?hQ4x843 ?hy4x843 ?hS4x843 ?rest4x843
  case hi4x843 => (simp only [List.getElem?_toArray, List.getElem?_cons_succ, List.getElem?_cons_zero]; try rfl)
  case hs4x843 => kernel_rfl
  case hf4x843 => kernel_rfl
  case hr4x843 => kernel_rfl
  case hQ4x843 => exact fun _ _ _ h => h
  case hy4x843 => exact Or.inr ⟨by rfl, rfl⟩
  case hS4x843 => assumption
  (try simp only [Act.put, List.setIfInBounds_toArray, List.set_cons_zero, List.set_cons_succ])
  refine' wpAnyH_take (i := 5) (v := undef) ?hi5x844 ?hs5x844 ?hf5x844 ?hr5x844 ?hQ5x844 ?hy5x844 ?hS5x844 ?rest5x844
  case hi5x844 => (simp only [List.getElem?_toArray, List.getElem?_cons_succ, List.getElem?_cons_zero]; try rfl)
  case hs5x844 => kernel_rfl
  case hf5x844 => kernel_rfl
  case hr5x844 => kernel_rfl
  case hQ5x844 => exact fun _ _ _ h => h
  case hy5x844 => exact Or.inr ⟨by rfl, rfl⟩
  case hS5x844 => assumption
  (try simp only [Act.put, List.setIfInBounds_toArray, List.set_cons_zero, List.set_cons_succ])
  refine' wpAnyH_take (i := 6) (v := undef) ?hi6x845 ?hs6x845 ?hf6x845 ?hr6x845 ?hQ6x845 ?hy6x845 ?hS6x845 ?rest6x845
  case hi6x845 => (simp only [List.getElem?_toArray, List.getElem?_cons_succ, List.getElem?_cons_zero]; try rfl)
  case hs6x845 => kernel_rfl
  case hf6x845 => kernel_rfl
  case hr6x845 => kernel_rfl
  case hQ6x845 => exact fun _ _ _ h => h
  case hy6x845 => exact Or.inr ⟨by rfl, rfl⟩
  case hS6x845 => assumption
  (try simp only [Act.put, List.setIfInBounds_toArray, List.set_cons_zero, List.set_cons_succ])
  refine' wpAnyH_take (i := 7) (v := .bool false) ?hi7x846 ?hs7x846 ?hf7x846 ?hr7x846 ?hQ7x846 ?hy7x846 ?hS7x846 ?rest7x846
  case hi7x846 => (simp only [List.getElem?_toArray, List.getElem?_cons_succ, List.getElem?_cons_zero]; try rfl)
  case hs7x846 => kernel_rfl
  case hf7x846 => kernel_rfl
  case hr7x846 => kernel_rfl
  case hQ7x846 => exact fun _ _ _ h => h
  case hy7x846 => exact Or.inl ⟨by rfl, by (intro w hSw; (try dsimp only at hSw); go_simp)⟩
  case hS7x846 => assumption
  (try simp only [Act.put, List.setIfInBounds_toArray, List.set_cons_zero, List.set_cons_succ])
  refine' wpAnyH_take (i := 8) (v := .bool false) ?hi8x847 ?hs8x847 ?hf8x847 ?hr8x847 ?hQ8x847 ?hy8x847 ?hS8x847 ?rest8x847
  case hi8x847 => (simp only [List.getElem?_toArray, List.getElem?_cons_succ, List.getElem?_cons_zero]; try rfl)
  case hs8x847 => kernel_rfl
  case hf8x847 => kernel_rfl
  case hr8x847 => kernel_rfl
  case hQ8x847 => exact fun _ _ _ h => h
  case hy8x847 => exact Or.inl ⟨by rfl, by (intro w hSw; (try dsimp only at hSw); go_simp)⟩
  case hS8x847 => assumption
  (try simp only [Act.put, List.setIfInBounds_toArray, List.set_cons_zero, List.set_cons_succ])
  refine' wpAnyH_take (i := 9) (v := .pointer (some ⟨w.heap.size + 1, 2, none⟩)) ?hi9x848 ?hs9x848 ?hf9x848 ?hr9x848 ?hQ9x848 ?hy9x848 ?hS9x848 ?rest9x848
  case hi9x848 => (simp only [List.getElem?_toArray, List.getElem?_cons_succ, List.getElem?_cons_zero]; try rfl)
  case hs9x848 => kernel_rfl
  case hf9x848 => kernel_rfl
  case hr9x848 => kernel_rfl
  case hQ9x848 => exact fun _ _ _ h => h
  case hy9x848 => exact Or.inl ⟨by rfl, by (intro w hSw; (try dsimp only at hSw); go_simp)⟩
  case hS9x848 => assumption
  (try simp only [Act.put, List.setIfInBounds_toArray, List.set_cons_zero, List.set_cons_succ])
  refine' wpAnyH_take (i := 10) (v := .int .i64 n1) ?hi10x849 ?hs10x849 ?hf10x849 ?hr10x849 ?hQ10x849 ?hy10x849 ?hS10x849 ?rest10x849
  case hi10x849 => (simp only [List.getElem?_toArray, List.getElem?_cons_succ, List.getElem?_cons_zero]; try rfl)
  case hs10x849 => kernel_rfl
  case hf10x849 => kernel_rfl
  case hr10x849 => kernel_rfl
  case hQ10x849 => exact fun _ _ _ h => h
  case hy10x849 => exact Or.inl ⟨by rfl, by (intro w hSw; (try dsimp only at hSw); go_simp)⟩
  case hS10x849 => assumption
  (try simp only [Act.put, List.setIfInBounds_toArray, List.set_cons_zero, List.set_cons_succ])
  refine' wpAnyH_take (i := 11) (v := .bool true) ?hi11x850 ?hs11x850 ?hf11x850 ?hr11x850 ?hQ11x850 ?hy11x850 ?hS11x850 ?rest11x850
  case hi11x850 => (simp only [List.getElem?_toArray, List.getElem?_cons_succ, List.getElem?_cons_zero]; try rfl)
  case hs11x850 => kernel_rfl
  case hf11x850 => kernel_rfl
  case hr11x850 => kernel_rfl
  case hQ11x850 => exact fun _ _ _ h => h
  case hy11x850 => exact Or.inl ⟨by rfl, by (intro w hSw; (try dsimp only at hSw); go_simp)⟩
  case hS11x850 => assumption
  (try simp only [Act.put, List.setIfInBounds_toArray, List.set_cons_zero, List.set_cons_succ])
  refine' wpAnyH_take (i := 12) (v := .bool true) ?hi12x851 ?hs12x851 ?hf12x851 ?hr12x851 ?hQ12x851 ?hy12x851 ?hS12x851 ?rest12x851
  case hi12x851 => (simp only [List.getElem?_toArray, List.getElem?_cons_succ, List.getElem?_cons_zero]; try rfl)
  case hs12x851 => kernel_rfl
  case hf12x851 => kernel_rfl
  case hr12x851 => kernel_rfl
  case hQ12x851 => exact fun _ _ _ h => h
  case hy12x851 => exact Or.inl ⟨by rfl, by (intro w hSw; (try dsimp only at hSw); go_simp)⟩
  case hS12x851 => assumption
  (try simp only [Act.put, List.setIfInBounds_toArray, List.set_cons_zero, List.set_cons_succ])
  refine' wpAnyH_take (i := 13) (v := .pointer (some ⟨w.heap.size, 2, none⟩)) ?hi13x852 ?hs13x852 ?hf13x852 ?hr13x852 ?hQ13x852 ?hy13x852 ?hS13x852 ?rest13x852
  case hi13x852 => (simp only [List.getElem?_toArray, List.getElem?_cons_succ, List.getElem?_cons_zero]; try rfl)
  case hs13x852 => kernel_rfl
  case hf13x852 => kernel_rfl
  case hr13x852 => kernel_rfl
  case hQ13x852 => exact fun _ _ _ h => h
  case hy13x852 => exact Or.inl ⟨by rfl, by (intro w hSw; (try dsimp only at hSw); go_simp)⟩
  case hS13x852 => assumption
  (try simp only [Act.put, List.setIfInBounds_toArray, List.set_cons_zero, List.set_cons_succ])
  refine' wpAnyH_take (i := 14) (v := .int .i64 n0) ?hi14x853 ?hs14x853 ?hf14x853 ?hr14x853 ?hQ14x853 ?hy14x853 ?hS14x853 ?rest14x853
  case hi14x853 => (simp only [List.getElem?_toArray, List.getElem?_cons_succ, List.getElem?_cons_zero]; try rfl)
  case hs14x853 => kernel_rfl
  case hf14x853 => kernel_rfl
  case hr14x853 => kernel_rfl
  case hQ14x853 => exact fun _ _ _ h => h
  case hy14x853 => exact Or.inl ⟨by rfl, by (intro w hSw; (try dsimp only at hSw); go_simp)⟩
  case hS14x853 => assumption
  (try simp only [Act.put, List.setIfInBounds_toArray, List.set_cons_zero, List.set_cons_succ])
  refine' wpAnyH_take (i := 15) (v := .bool false) ?hi15x854 ?hs15x854 ?hf15x854 ?hr15x854 ?hQ15x854 ?hy15x854 ?hS15x854 ?rest15x854
  case hi15x854 => (simp only [List.getElem?_toArray, List.getElem?_cons_succ, List.getElem?_cons_zero]; try rfl)
  case hs15x854 => kernel_rfl
  case hf15x854 => kernel_rfl
  case hr15x854 => kernel_rfl
  case hQ15x854 => exact fun _ _ _ h => h
  case hy15x854 => exact Or.inl ⟨by rfl, by (intro w hSw; (try dsimp only at hSw); go_simp)⟩
  case hS15x854 => assumption
  (try simp only [Act.put, List.setIfInBounds_toArray, List.set_cons_zero, List.set_cons_succ])
  refine' wpAnyH_take (i := 16) (v := .bool false) ?hi16x855 ?hs16x855 ?hf16x855 ?hr16x855 ?hQ16x855 ?hy16x855 ?hS16x855 ?rest16x855
  case hi16x855 => (simp only [List.getElem?_toArray, List.getElem?_cons_succ, List.getElem?_cons_zero]; try rfl)
  case hs16x855 => kernel_rfl
  case hf16x855 => kernel_rfl
  case hr16x855 => kernel_rfl
  case hQ16x855 => exact fun _ _ _ h => h
  case hy16x855 => exact Or.inl ⟨by rfl, by (intro w hSw; (try dsimp only at hSw); go_simp)⟩
  case hS16x855 => assumption
  (try simp only [Act.put, List.setIfInBounds_toArray, List.set_cons_zero, List.set_cons_succ])
  refine' wpAnyH_take (i := 17) (v := .bool false) ?hi17x856 ?hs17x856 ?hf17x856 ?hr17x856 ?hQ17x856 ?hy17x856 ?hS17x856 ?rest17x856
  case hi17x856 => (simp only [List.getElem?_toArray, List.getElem?_cons_succ, List.getElem?_cons_zero]; try rfl)
  case hs17x856 => kernel_rfl
  case hf17x856 => kernel_rfl
  case hr17x856 => kernel_rfl
  case hQ17x856 => exact fun _ _ _ h => h
  case hy17x856 => exact Or.inl ⟨by rfl, by (intro w hSw; (try dsimp only at hSw); go_simp)⟩
  case hS17x856 => assumption
  (try simp only [Act.put, List.setIfInBounds_toArray, List.set_cons_zero, List.set_cons_succ])
  refine' wpAnyH_take (i := 18) (v := .bool false) ?hi18x857 ?hs18x857 ?hf18x857 ?hr18x857 ?hQ18x857 ?hy18x857 ?hS18x857 ?rest18x857
  case hi18x857 => (simp only [List.getElem?_toArray, List.getElem?_cons_succ, List.getElem?_cons_zero]; try rfl)
  case hs18x857 => kernel_rfl
  case hf18x857 => kernel_rfl
  case hr18x857 => kernel_rfl
  case hQ18x857 => exact fun _ _ _ h => h
  case hy18x857 => exact Or.inl ⟨by rfl, by (intro w hSw; (try dsimp only at hSw); go_simp)⟩
  case hS18x857 => assumption
  (try simp only [Act.put, List.setIfInBounds_toArray, List.set_cons_zero, List.set_cons_succ])
  refine' wpAnyH_take (i := 19) (v := .pointer (some ⟨w.heap.size, 2, none⟩)) ?hi19x858 ?hs19x858 ?hf19x858 ?hr19x858 ?hQ19x858 ?hy19x858 ?hS19x858 ?rest19x858
  case hi19x858 => (simp only [List.getElem?_toArray, List.getElem?_cons_succ, List.getElem?_cons_zero]; try rfl)
  case hs19x858 => kernel_rfl
  case hf19x858 => kernel_rfl
  case hr19x858 => kernel_rfl
  case hQ19x858 => exact fun _ _ _ h => h
  case hy19x858 => exact Or.inl ⟨by rfl, by (intro w hSw; (try dsimp only at hSw); go_simp)⟩
  case hS19x858 => assumption
  (try simp only [Act.put, List.setIfInBounds_toArray, List.set_cons_zero, List.set_cons_succ])
  refine' wpAnyH_take (i := 20) (v := .int .i64 n0) ?hi20x859 ?hs20x859 ?hf20x859 ?hr20x859 ?hQ20x859 ?hy20x859 ?hS20x859 ?rest20x859
  case hi20x859 => (simp only [List.getElem?_toArray, List.getElem?_cons_succ, List.getElem?_cons_zero]; try rfl)
  case hs20x859 => kernel_rfl
  case hf20x859 => kernel_rfl
  case hr20x859 => kernel_rfl
  case hQ20x859 => exact fun _ _ _ h => h
  case hy20x859 => exact Or.inl ⟨by rfl, by (intro w hSw; (try dsimp only at hSw); go_simp)⟩
  case hS20x859 => assumption
  (try simp only [Act.put, List.setIfInBounds_toArray, List.set_cons_zero, List.set_cons_succ])
  refine' wpAnyH_take (i := 21) (v := .bool true) ?hi21x860 ?hs21x860 ?hf21x860 ?hr21x860 ?hQ21x860 ?hy21x860 ?hS21x860 ?rest21x860
  case hi21x860 => (simp only [List.getElem?_toArray, List.getElem?_cons_succ, List.getElem?_cons_zero]; try rfl)
  case hs21x860 => kernel_rfl
  case hf21x860 => kernel_rfl
  case hr21x860 => kernel_rfl
  case hQ21x860 => exact fun _ _ _ h => h
  case hy21x860 => exact Or.inl ⟨by rfl, by (intro w hSw; (try dsimp only at hSw); go_simp)⟩
  case hS21x860 => assumption
  (try simp only [Act.put, List.setIfInBounds_toArray, List.set_cons_zero, List.set_cons_succ])
  refine' wpAnyH_take (i := 22) (v := .bool true) ?hi22x861 ?hs22x861 ?hf22x861 ?hr22x861 ?hQ22x861 ?hy22x861 ?hS22x861 ?rest22x861
  case hi22x861 => (simp only [List.getElem?_toArray, List.getElem?_cons_succ, List.getElem?_cons_zero]; try rfl)
  case hs22x861 => kernel_rfl
  case hf22x861 => kernel_rfl
  case hr22x861 => kernel_rfl
  case hQ22x861 => exact fun _ _ _ h => h
  case hy22x861 => exact Or.inl ⟨by rfl, by (intro w hSw; (try dsimp only at hSw); go_simp)⟩
  case hS22x861 => assumption
  (try simp only [Act.put, List.setIfInBounds_toArray, List.set_cons_zero, List.set_cons_succ])
  refine' wpAnyH_take (i := 23) (v := .pointer (some ⟨w.heap.size, 2, none⟩)) ?hi23x862 ?hs23x862 ?hf23x862 ?hr23x862 ?hQ23x862 ?hy23x862 ?hS23x862 ?rest23x862
  case hi23x862 => (simp only [List.getElem?_toArray, List.getElem?_cons_succ, List.getElem?_cons_zero]; try rfl)
  case hs23x862 => kernel_rfl
  case hf23x862 => kernel_rfl
  case hr23x862 => kernel_rfl
  case hQ23x862 => exact fun _ _ _ h => h
  case hy23x862 => exact Or.inl ⟨by rfl, by (intro w hSw; (try dsimp only at hSw); go_simp)⟩
  case hS23x862 => assumption
  (try simp only [Act.put, List.setIfInBounds_toArray, List.set_cons_zero, List.set_cons_succ])
  refine' wpAnyH_take (i := 24) (v := .int .i64 n0) ?hi24x863 ?hs24x863 ?hf24x863 ?hr24x863 ?hQ24x863 ?hy24x863 ?hS24x863 ?rest24x863
  case hi24x863 => (simp only [List.getElem?_toArray, List.getElem?_cons_succ, List.getElem?_cons_zero]; try rfl)
  case hs24x863 => kernel_rfl
  case hf24x863 => kernel_rfl
  case hr24x863 => kernel_rfl
  case hQ24x863 => exact fun _ _ _ h => h
  case hy24x863 => exact Or.inl ⟨by rfl, by (intro w hSw; (try dsimp only at hSw); go_simp)⟩
  case hS24x863 => assumption
  (try simp only [Act.put, List.setIfInBounds_toArray, List.set_cons_zero, List.set_cons_succ])
  refine' wpAnyH_take (i := 25) (v := .bool true) ?hi25x864 ?hs25x864 ?hf25x864 ?hr25x864 ?hQ25x864 ?hy25x864 ?hS25x864 ?rest25x864
  case hi25x864 => (simp only [List.getElem?_toArray, List.getElem?_cons_succ, List.getElem?_cons_zero]; try rfl)
  case hs25x864 => kernel_rfl
  case hf25x864 => kernel_rfl
  case hr25x864 => kernel_rfl
  case hQ25x864 => exact fun _ _ _ h => h
  case hy25x864 => exact Or.inl ⟨by rfl, by (intro w hSw; (try dsimp only at hSw); go_simp)⟩
  case hS25x864 => assumption
  (try simp only [Act.put, List.setIfInBounds_toArray, List.set_cons_zero, List.set_cons_succ])
  refine' wpAnyH_take (i := 26) (v := .bool true) ?hi26x865 ?hs26x865 ?hf26x865 ?hr26x865 ?hQ26x865 ?hy26x865 ?hS26x865 ?rest26x865
  case hi26x865 => (simp only [List.getElem?_toArray, List.getElem?_cons_succ, List.getElem?_cons_zero]; try rfl)
  case hs26x865 => kernel_rfl
  case hf26x865 => kernel_rfl
  case hr26x865 => kernel_rfl
  case hQ26x865 => exact fun _ _ _ h => h
  case hy26x865 => exact Or.inl ⟨by rfl, by (intro w hSw; (try dsimp only at hSw); go_simp)⟩
  case hS26x865 => assumption
  (try simp only [Act.put, List.setIfInBounds_toArray, List.set_cons_zero, List.set_cons_succ])
  refine' wpAnyH_take (i := 27) (v := .bool true) ?hi27x866 ?hs27x866 ?hf27x866 ?hr27x866 ?hQ27x866 ?hy27x866 ?hS27x866 ?rest27x866
  case hi27x866 => (simp only [List.getElem?_toArray, List.getElem?_cons_succ, List.getElem?_cons_zero]; try rfl)
  case hs27x866 => kernel_rfl
  case hf27x866 => kernel_rfl
  case hr27x866 => kernel_rfl
  case hQ27x866 => exact fun _ _ _ h => h
  case hy27x866 => exact Or.inl ⟨by rfl, by (intro w hSw; (try dsimp only at hSw); go_simp)⟩
  case hS27x866 => assumption
  (try simp only [Act.put, List.setIfInBounds_toArray, List.set_cons_zero, List.set_cons_succ])
  refine' wpAnyH_take (i := 28) (v := .int .i64 m) ?hi28x867 ?hs28x867 ?hf28x867 ?hr28x867 ?hQ28x867 ?hy28x867 ?hS28x867 ?rest28x867
  case hi28x867 => (simp only [List.getElem?_toArray, List.getElem?_cons_succ, List.getElem?_cons_zero]; try rfl)
  case hs28x867 => kernel_rfl
  case hf28x867 => kernel_rfl
  case hr28x867 => kernel_rfl
  case hQ28x867 => exact fun _ _ _ h => h
  case hy28x867 => exact Or.inl ⟨by rfl, by (intro w hSw; (try dsimp only at hSw); go_simp)⟩
  case hS28x867 => assumption
  (try simp only [Act.put, List.setIfInBounds_toArray, List.set_cons_zero, List.set_cons_succ])
  refine' wpAnyH_take (i := 29) (v := .pointer (some ⟨w.heap.size, 2, none⟩)) ?hi29x868 ?hs29x868 ?hf29x868 ?hr29x868 ?hQ29x868 ?hy29x868 ?hS29x868 ?rest29x868
  case hi29x868 => (simp only [List.getElem?_toArray, List.getElem?_cons_succ, List.getElem?_cons_zero]; try rfl)
  case hs29x868 => kernel_rfl
  case hf29x868 => kernel_rfl
  case hr29x868 => kernel_rfl
  case hQ29x868 => exact fun _ _ _ h => h
  case hy29x868 => exact Or.inl ⟨by rfl, by (intro w hSw; (try dsimp only at hSw); go_simp)⟩
  case hS29x868 => assumption
  (try simp only [Act.put, List.setIfInBounds_toArray, List.set_cons_zero, List.set_cons_succ])
  refine' wpAnyH_take (i := 30) (v := .int .i64 n0) ?hi30x869 ?hs30x869 ?hf30x869 ?hr30x869 ?hQ30x869 ?hy30x869 ?hS30x869 ?rest30x869
  case hi30x869 => (simp only [List.getElem?_toArray, List.getElem?_cons_succ, List.getElem?_cons_zero]; try rfl)
  case hs30x869 => kernel_rfl
  case hf30x869 => kernel_rfl
  case hr30x869 => kernel_rfl
  case hQ30x869 => exact fun _ _ _ h => h
  case hy30x869 => exact Or.inl ⟨by rfl, by (intro w hSw; (try dsimp only at hSw); go_simp)⟩
  case hS30x869 => assumption
  (try simp only [Act.put, List.setIfInBounds_toArray, List.set_cons_zero, List.set_cons_succ])
  refine' wpAnyH_take (i := 31) (v := .int .i64 q) ?hi31x870 ?hs31x870 ?hf31x870 ?hr31x870 ?hQ31x870 ?hy31x870 ?hS31x870 ?rest31x870
  case hi31x870 => (simp only [List.getElem?_toArray, List.getElem?_cons_succ, List.getElem?_cons_zero]; try rfl)
  case hs31x870 => kernel_rfl
  case hf31x870 => kernel_rfl
  case hr31x870 => kernel_rfl
  case hQ31x870 => exact fun _ _ _ h => h
  case hy31x870 => exact Or.inl ⟨by rfl, by (intro w hSw; (try dsimp only at hSw); go_simp)⟩
  case hS31x870 => assumption
  (try simp only [Act.put, List.setIfInBounds_toArray, List.set_cons_zero, List.set_cons_succ])
  refine' wpAnyH_take (i := 32) (v := .pointer (some ⟨w.heap.size + 1, 2, none⟩)) ?hi32x871 ?hs32x871 ?hf32x871 ?hr32x871 ?hQ32x871 ?hy32x871 ?hS32x871 ?rest32x871
  case hi32x871 => (simp only [List.getElem?_toArray, List.getElem?_cons_succ, List.getElem?_cons_zero]; try rfl)
  case hs32x871 => kernel_rfl
  case hf32x871 => kernel_rfl
  case hr32x871 => kernel_rfl
  case hQ32x871 => exact fun _ _ _ h => h
  case hy32x871 => exact Or.inl ⟨by rfl, by (intro w hSw; (try dsimp only at hSw); go_simp)⟩
  case hS32x871 => assumption
  (try simp only [Act.put, List.setIfInBounds_toArray, List.set_cons_zero, List.set_cons_succ])
  refine' wpAnyH_take (i := 33) (v := .int .i64 n1) ?hi33x872 ?hs33x872 ?hf33x872 ?hr33x872 ?hQ33x872 ?hy33x872 ?hS33x872 ?rest33x872
  case hi33x872 => (simp only [List.getElem?_toArray, List.getElem?_cons_succ, List.getElem?_cons_zero]; try rfl)
  case hs33x872 => kernel_rfl
  case hf33x872 => kernel_rfl
  case hr33x872 => kernel_rfl
  case hQ33x872 => exact fun _ _ _ h => h
  case hy33x872 => exact Or.inl ⟨by rfl, by (intro w hSw; (try dsimp only at hSw); go_simp)⟩
  case hS33x872 => assumption
  (try simp only [Act.put, List.setIfInBounds_toArray, List.set_cons_zero, List.set_cons_succ])
  refine' wpAnyH_take (i := 34) (v := .bool true) ?hi34x873 ?hs34x873 ?hf34x873 ?hr34x873 ?hQ34x873 ?hy34x873 ?hS34x873 ?rest34x873
  case hi34x873 => (simp only [List.getElem?_toArray, List.getElem?_cons_succ, List.getElem?_cons_zero]; try rfl)
  case hs34x873 => kernel_rfl
  case hf34x873 => kernel_rfl
  case hr34x873 => kernel_rfl
  case hQ34x873 => exact fun _ _ _ h => h
  case hy34x873 => exact Or.inl ⟨by rfl, by (intro w hSw; (try dsimp only at hSw); go_simp)⟩
  case hS34x873 => assumption
  (try simp only [Act.put, List.setIfInBounds_toArray, List.set_cons_zero, List.set_cons_succ])
  refine' wpAnyH_take (i := 35) (v := .bool true) ?hi35x874 ?hs35x874 ?hf35x874 ?hr35x874 ?hQ35x874 ?hy35x874 ?hS35x874 ?rest35x874
  case hi35x874 => (simp only [List.getElem?_toArray, List.getElem?_cons_succ, List.getElem?_cons_zero]; try rfl)
  case hs35x874 => kernel_rfl
  case hf35x874 => kernel_rfl
  case hr35x874 => kernel_rfl
  case hQ35x874 => exact fun _ _ _ h => h
  case hy35x874 => exact Or.inl ⟨by rfl, by (intro w hSw; (try dsimp only at hSw); go_simp)⟩
  case hS35x874 => assumption
  (try simp only [Act.put, List.setIfInBounds_toArray, List.set_cons_zero, List.set_cons_succ])
  refine' wpAnyH_take (i := 36) (v := .bool true) ?hi36x875 ?hs36x875 ?hf36x875 ?hr36x875 ?hQ36x875 ?hy36x875 ?hS36x875 ?rest36x875
  case hi36x875 => (simp only [List.getElem?_toArray, List.getElem?_cons_succ, List.getElem?_cons_zero]; try rfl)
  case hs36x875 => kernel_rfl
  case hf36x875 => kernel_rfl
  case hr36x875 => kernel_rfl
  case hQ36x875 => exact fun _ _ _ h => h
  case hy36x875 => exact Or.inl ⟨by rfl, by (intro w hSw; (try dsimp only at hSw); go_simp)⟩
  case hS36x875 => assumption
  (try simp only [Act.put, List.setIfInBounds_toArray, List.set_cons_zero, List.set_cons_succ])
  refine' wpAnyH_take (i := 37) (v := .bool true) ?hi37x876 ?hs37x876 ?hf37x876 ?hr37x876 ?hQ37x876 ?hy37x876 ?hS37x876 ?rest37x876
  case hi37x876 => (simp only [List.getElem?_toArray, List.getElem?_cons_succ, List.getElem?_cons_zero]; try rfl)
  case hs37x876 => kernel_rfl
  case hf37x876 => kernel_rfl
  case hr37x876 => kernel_rfl
  case hQ37x876 => exact fun _ _ _ h => h
  case hy37x876 => exact Or.inl ⟨by rfl, by (intro w hSw; (try dsimp only at hSw); go_simp)⟩
  case hS37x876 => assumption
  (try simp only [Act.put, List.setIfInBounds_toArray, List.set_cons_zero, List.set_cons_succ])
  refine wpAnyH_done (by kernel_rfl) ?_ _
  refine NoPanic.normal ?_
  clear hHeld
  go_wp2_with fail
  refine wp_region_noPanic ?_
  refine wp_region_held_drew (S := (fun w' => w'.cell? ⟨w.heap.size, 0, none⟩ = some (.int .u8 k0) ∧ w'.cell? ⟨w.heap.size, 1, none⟩ = some (.bool b0) ∧ w'.cell? ⟨w.heap.size, 2, none⟩ = some (.int .i64 n0) ∧ w'.cell? ⟨w.heap.size, 3, none⟩ = some (.string s0) ∧ w'.cell? ⟨w.heap.size + 1, 0, none⟩ = some (.int .u8 k1) ∧ w'.cell? ⟨w.heap.size + 1, 1, none⟩ = some (.bool b1) ∧ w'.cell? ⟨w.heap.size + 1, 2, none⟩ = some (.int .i64 n1) ∧ w'.cell? ⟨w.heap.size + 1, 3, none⟩ = some (.string s1))) (by kernel_rfl) (by first | exact ⟨a0_, a1_, a2_, a3_, b0_, b1_, b2_, b3_⟩ | go_keep) (fun hHeld => ?_)
  refine' wpAnyH_take (i := 0) (v := .int .i64 m) ?hi0x877 ?hs0x877 ?hf0x877 ?hr0x877 ?hQ0x877 ?hy0x877 ?hS0x877 ?rest0x877
  case hi0x877 => (simp only [List.getElem?_toArray, List.getElem?_cons_succ, List.getElem?_cons_zero]; try rfl)
  case hs0x877 => kernel_rfl
  case hf0x877 => kernel_rfl
  case hr0x877 => kernel_rfl
  case hQ0x877 => exact fun _ _ _ h => h
  case hy0x877 => exact Or.inl ⟨by rfl, by (intro w hSw; (try dsimp only at hSw); go_simp)⟩
  case hS0x877 => assumption
  (try simp only [Act.put, List.setIfInBounds_toArray, List.set_cons_zero, List.set_cons_succ])
  refine' wpAnyH_take (i := 1) (v := .bool true) ?hi1x878 ?hs1x878 ?hf1x878 ?hr1x878 ?hQ1x878 ?hy1x878 ?hS1x878 ?rest1x878
  case hi1x878 => (simp only [List.getElem?_toArray, List.getElem?_cons_succ, List.getElem?_cons_zero]; try rfl)
  case hs1x878 => kernel_rfl
  case hf1x878 => kernel_rfl
  case hr1x878 => kernel_rfl
  case hQ1x878 => exact fun _ _ _ h => h
  case hy1x878 => exact Or.inl ⟨by rfl, by (intro w hSw; (try dsimp only at hSw); go_simp)⟩
  case hS1x878 => assumption
  (try simp only [Act.put, List.setIfInBounds_toArray, List.set_cons_zero, List.set_cons_succ])
  refine' wpAnyH_take (i := 3) (v := .agg #[.int .u8 k0, .bool b0, .int .i64 n0, .string s0]) ?hi3x879 ?hs3x879 ?hf3x879 ?hr3x879 ?hQ3x879 ?hy3x879 ?hS3x879 ?rest3x879
  case hi3x879 => (simp only [List.getElem?_toArray, List.getElem?_cons_succ, List.getElem?_cons_zero]; try rfl)
  case hs3x879 => kernel_rfl
  case hf3x879 => kernel_rfl
  case hr3x879 => kernel_rfl
  case hQ3x879 => exact fun _ _ _ h => h
  case hy3x879 => exact Or.inl ⟨by rfl, by (intro w hSw; (try dsimp only at hSw); go_simp)⟩
  case hS3x879 => assumption
  (try simp only [Act.put, List.setIfInBounds_toArray, List.set_cons_zero, List.set_cons_succ])
  refine' wpAnyH_take (i := 4) (v := .agg #[.int .u8 k1, .bool b1, .int .i64 n1, .string s1]) ?hi4x880 ?hs4x880 ?hf4x880 ?hr4x880 ?hQ4x880 ?hy4x880 ?hS4x880 ?rest4x880
  case hi4x880 => (simp only [List.getElem?_toArray, List.getElem?_cons_succ, List.getElem?_cons_zero]; try rfl)
  case hs4x880 => kernel_rfl
  case hf4x880 => kernel_rfl
  case hr4x880 => kernel_rfl
  case hQ4x880 => exact fun _ _ _ h => h
  case hy4x880 => exact Or.inl ⟨by rfl, by (intro w hSw; (try dsimp only at hSw); go_simp)⟩
  case hS4x880 => assumption
  (try simp only [Act.put, List.setIfInBounds_toArray, List.set_cons_zero, List.set_cons_succ])
  refine wpAnyH_ready (rs := [2, 5]) (by kernel_rfl) (by simp) ?_
  refine' AllReadyH.cons (i := 2) ?ho2x881 (fun K hK => ?st2x881) (AllReadyH.cons (i := 5) ?ho5x882 (fun K hK => ?st5x882) AllReadyH.nil)
  case ho2x881 => (simp only [List.getElem?_toArray, List.getElem?_cons_succ, List.getElem?_cons_zero]; try rfl)
  case ho5x882 => (simp only [List.getElem?_toArray, List.getElem?_cons_succ, List.getElem?_cons_zero]; try rfl)
  case st2x881 =>
    go_simp
    refine (refOver_any _ _).mono ?_
    rintro e w' ⟨rfl, rfl⟩
    go_wp2_with fail
    refine hK.out _ _ ?_ (fun hHeld => ?_)
    · (first | exact ⟨a0_, a1_, a2_, a3_, b0_, b1_, b2_, b3_⟩ | go_keep)
    clear hK K
    (try simp only [Act.put, List.setIfInBounds_toArray, List.set_cons_zero, List.set_cons_succ])
    refine wpAnyH_ready (rs := [5]) (by kernel_rfl) (by simp) ?_
    refine' AllReadyH.cons (i := 5) ?ho5x883 (fun K hK => ?st5x883) AllReadyH.nil
    case ho5x883 => (simp only [List.getElem?_toArray, List.getElem?_cons_succ, List.getElem?_cons_zero]; try rfl)
    go_simp
    refine hK.out _ _ ?_ (fun hHeld => ?_)
    · (first | exact ⟨a0_, a1_, a2_, a3_, b0_, b1_, b2_, b3_⟩ | go_keep)
    clear hK K
    (try simp only [Act.put, List.setIfInBounds_toArray, List.set_cons_zero, List.set_cons_succ])
    refine wpAnyH_ready (rs := [6]) (by kernel_rfl) (by simp) ?_
    refine' AllReadyH.cons (i := 6) ?ho6x884 (fun K hK => ?st6x884) AllReadyH.nil
    case ho6x884 => (simp only [List.getElem?_toArray, List.getElem?_cons_succ, List.getElem?_cons_zero]; try rfl)
    go_simp
    refine (refNum2_any _ _ k0 b0 n0 s0 k1 b1 n1 s1 _ _ _ (by exact heap_at _ _ _ (by first | rfl | simp)) hs0H.out hs1H.out).mono ?_
    rw [hrH.out, refVm]
    rintro e w' ⟨rfl, hb'⟩
    replace hb := chainB (B := W0.heap.size) (a := W0) (by go_grown) hb' (by have := hb.size; first | omega | (simp; done) | (simp; omega))
    clear hb' a0_ a1_ a2_ a3_ b0_ b1_ b2_ b3_ r0_ r1_ r2_ r3_ f0_ f1_ f2_ f3_ hz hs
    obtain ⟨a0_, a1_, a2_, a3_⟩ := (hAH.out.below hb).cells; obtain ⟨b0_, b1_, b2_, b3_⟩ := (hBH.out.below hb).cells; obtain ⟨r0_, r1_, r2_, r3_⟩ := (hRH.out.below hb).cells; obtain ⟨f0_, f1_, f2_, f3_⟩ := (hRH.out.below hb).free; have hz := Nat.lt_of_lt_of_le hz0.out hb.size; have hs := hb.size
    go_wp2_with fail
    refine hK.out _ _ ?_ (fun hHeld => ?_)
    · (first | exact ⟨a0_, a1_, a2_, a3_, b0_, b1_, b2_, b3_⟩ | go_keep)
    clear hK K
    (try simp only [Act.put, List.setIfInBounds_toArray, List.set_cons_zero, List.set_cons_succ])
    refine' wpAnyH_take (i := 7) (v := .agg #[.int .u8 k', .bool b', .int .i64 n', .string s']) ?hi7x885 ?hs7x885 ?hf7x885 ?hr7x885 ?hQ7x885 ?hy7x885 ?hS7x885 ?rest7x885
    case hi7x885 => (simp only [List.getElem?_toArray, List.getElem?_cons_succ, List.getElem?_cons_zero]; try rfl)
    case hs7x885 => kernel_rfl
    case hf7x885 => kernel_rfl
    case hr7x885 => kernel_rfl
    case hQ7x885 => exact fun _ _ _ h => h
    case hy7x885 => exact Or.inl ⟨by rfl, by (intro w hSw; (try dsimp only at hSw); go_simp)⟩
    case hS7x885 => assumption
    (try simp only [Act.put, List.setIfInBounds_toArray, List.set_cons_zero, List.set_cons_succ])
    refine' wpAnyH_take (i := 8) (v := .int .i64 x) ?hi8x886 ?hs8x886 ?hf8x886 ?hr8x886 ?hQ8x886 ?hy8x886 ?hS8x886 ?rest8x886
    case hi8x886 => (simp only [List.getElem?_toArray, List.getElem?_cons_succ, List.getElem?_cons_zero]; try rfl)
    case hs8x886 => kernel_rfl
    case hf8x886 => kernel_rfl
    case hr8x886 => kernel_rfl
    case hQ8x886 => exact fun _ _ _ h => h
    case hy8x886 => exact Or.inl ⟨by rfl, by (intro w hSw; (try dsimp only at hSw); go_simp)⟩
    case hS8x886 => assumption
    (try simp only [Act.put, List.setIfInBounds_toArray, List.set_cons_zero, List.set_cons_succ])
    have hne1 : ¬ (w.heap.size + 1 + 1 = w.heap.size) := by omega
    have hne2 : ¬ (w.heap.size = w.heap.size + 1 + 1) := by omega
    refine wpAnyH_ready (rs := [9]) (by kernel_rfl) (by simp) ?_
    refine' AllReadyH.cons (i := 9) ?ho9x887 (fun K hK => ?st9x887) AllReadyH.nil
    case ho9x887 => (simp only [List.getElem?_toArray, List.getElem?_cons_succ, List.getElem?_cons_zero]; try rfl)
    go_simp
    refine hK.out _ _ ?_ (fun hHeld => ?_)
    · (first | exact ⟨a0_, a1_, a2_, a3_, b0_, b1_, b2_, b3_⟩ | go_keep)
    clear hK K
    (try simp only [Act.put, List.setIfInBounds_toArray, List.set_cons_zero, List.set_cons_succ])
    refine' wpAnyH_take (i := 10) (v := .int .i64 x) ?hi10x888 ?hs10x888 ?hf10x888 ?hr10x888 ?hQ10x888 ?hy10x888 ?hS10x888 ?rest10x888
    case hi10x888 => (simp only [List.getElem?_toArray, List.getElem?_cons_succ, List.getElem?_cons_zero]; try rfl)
    case hs10x888 => kernel_rfl
    case hf10x888 => kernel_rfl
    case hr10x888 => kernel_rfl
    case hQ10x888 => exact fun _ _ _ h => h
    case hy10x888 => exact Or.inl ⟨by rfl, by (intro w hSw; (try dsimp only at hSw); go_simp)⟩
    case hS10x888 => assumption
    (try simp only [Act.put, List.setIfInBounds_toArray, List.set_cons_zero, List.set_cons_succ])
    refine wpAnyH_done (by kernel_rfl) ?_ _
    refine NoPanic.normal ?_
    clear hne1 hne2
    go_wp2
    refine bodyPost_ret (v := .tuple #[.agg #[.int .u8 k', .bool b', .int .i64 n', .string s'], .int .i64 x]) (by simp [results, Tryd.results34, go_sem, r0_, r1_, r2_, r3_, hz]) rfl ⟨rfl, ?_⟩
    have hbw := hwWH.out.trans (hb.mono hwWH.out.size)
    clear hb
    go_grown
  case st5x882 =>
    go_simp
    refine hK.out _ _ ?_ (fun hHeld => ?_)
    · (first | exact ⟨a0_, a1_, a2_, a3_, b0_, b1_, b2_, b3_⟩ | go_keep)
    clear hK K
    (try simp only [Act.put, List.setIfInBounds_toArray, List.set_cons_zero, List.set_cons_succ])
    refine wpAnyH_ready (rs := [2]) (by kernel_rfl) (by simp) ?_
    refine' AllReadyH.cons (i := 2) ?ho2x889 (fun K hK => ?st2x889) AllReadyH.nil
    case ho2x889 => (simp only [List.getElem?_toArray, List.getElem?_cons_succ, List.getElem?_cons_zero]; try rfl)
    go_simp
    refine (refOver_any _ _).mono ?_
    rintro e w' ⟨rfl, rfl⟩
    go_wp2_with fail
    refine hK.out _ _ ?_ (fun hHeld => ?_)
    · (first | exact ⟨a0_, a1_, a2_, a3_, b0_, b1_, b2_, b3_⟩ | go_keep)
    clear hK K
    (try simp only [Act.put, List.setIfInBounds_toArray, List.set_cons_zero, List.set_cons_succ])
    refine wpAnyH_ready (rs := [6]) (by kernel_rfl) (by simp) ?_
    refine' AllReadyH.cons (i := 6) ?ho6x890 (fun K hK => ?st6x890) AllReadyH.nil
    case ho6x890 => (simp only [List.getElem?_toArray, List.getElem?_cons_succ, List.getElem?_cons_zero]; try rfl)
    go_simp
    refine (refNum2_any _ _ k0 b0 n0 s0 k1 b1 n1 s1 _ _ _ (by exact heap_at _ _ _ (by first | rfl | simp)) hs0H.out hs1H.out).mono ?_
    rw [hrH.out, refVm]
    rintro e w' ⟨rfl, hb'⟩
    replace hb := chainB (B := W0.heap.size) (a := W0) (by go_grown) hb' (by have := hb.size; first | omega | (simp; done) | (simp; omega))
    clear hb' a0_ a1_ a2_ a3_ b0_ b1_ b2_ b3_ r0_ r1_ r2_ r3_ f0_ f1_ f2_ f3_ hz hs
    obtain ⟨a0_, a1_, a2_, a3_⟩ := (hAH.out.below hb).cells; obtain ⟨b0_, b1_, b2_, b3_⟩ := (hBH.out.below hb).cells; obtain ⟨r0_, r1_, r2_, r3_⟩ := (hRH.out.below hb).cells; obtain ⟨f0_, f1_, f2_, f3_⟩ := (hRH.out.below hb).free; have hz := Nat.lt_of_lt_of_le hz0.out hb.size; have hs := hb.size
    go_wp2_with fail
    refine hK.out _ _ ?_ (fun hHeld => ?_)
    · (first | exact ⟨a0_, a1_, a2_, a3_, b0_, b1_, b2_, b3_⟩ | go_keep)
    clear hK K
    (try simp only [Act.put, List.setIfInBounds_toArray, List.set_cons_zero, List.set_cons_succ])
    refine' wpAnyH_take (i := 7) (v := .agg #[.int .u8 k', .bool b', .int .i64 n', .string s']) ?hi7x891 ?hs7x891 ?hf7x891 ?hr7x891 ?hQ7x891 ?hy7x891 ?hS7x891 ?rest7x891
    case hi7x891 => (simp only [List.getElem?_toArray, List.getElem?_cons_succ, List.getElem?_cons_zero]; try rfl)
    case hs7x891 => kernel_rfl
    case hf7x891 => kernel_rfl
    case hr7x891 => kernel_rfl
    case hQ7x891 => exact fun _ _ _ h => h
    case hy7x891 => exact Or.inl ⟨by rfl, by (intro w hSw; (try dsimp only at hSw); go_simp)⟩
    case hS7x891 => assumption
    (try simp only [Act.put, List.setIfInBounds_toArray, List.set_cons_zero, List.set_cons_succ])
    refine' wpAnyH_take (i := 8) (v := .int .i64 x) ?hi8x892 ?hs8x892 ?hf8x892 ?hr8x892 ?hQ8x892 ?hy8x892 ?hS8x892 ?rest8x892
    case hi8x892 => (simp only [List.getElem?_toArray, List.getElem?_cons_succ, List.getElem?_cons_zero]; try rfl)
    case hs8x892 => kernel_rfl
    case hf8x892 => kernel_rfl
    case hr8x892 => kernel_rfl
    case hQ8x892 => exact fun _ _ _ h => h
    case hy8x892 => exact Or.inl ⟨by rfl, by (intro w hSw; (try dsimp only at hSw); go_simp)⟩
    case hS8x892 => assumption
    (try simp only [Act.put, List.setIfInBounds_toArray, List.set_cons_zero, List.set_cons_succ])
    have hne1 : ¬ (w.heap.size + 1 + 1 = w.heap.size) := by omega
    have hne2 : ¬ (w.heap.size = w.heap.size + 1 + 1) := by omega
    refine wpAnyH_ready (rs := [9]) (by kernel_rfl) (by simp) ?_
    refine' AllReadyH.cons (i := 9) ?ho9x893 (fun K hK => ?st9x893) AllReadyH.nil
    case ho9x893 => (simp only [List.getElem?_toArray, List.getElem?_cons_succ, List.getElem?_cons_zero]; try rfl)
    go_simp
    refine hK.out _ _ ?_ (fun hHeld => ?_)
    · (first | exact ⟨a0_, a1_, a2_, a3_, b0_, b1_, b2_, b3_⟩ | go_keep)
    clear hK K
    (try simp only [Act.put, List.setIfInBounds_toArray, List.set_cons_zero, List.set_cons_succ])
    refine' wpAnyH_take (i := 10) (v := .int .i64 x) ?hi10x894 ?hs10x894 ?hf10x894 ?hr10x894 ?hQ10x894 ?hy10x894 ?hS10x894 ?rest10x894
    case hi10x894 => (simp only [List.getElem?_toArray, List.getElem?_cons_succ, List.getElem?_cons_zero]; try rfl)
    case hs10x894 => kernel_rfl
    case hf10x894 => kernel_rfl
    case hr10x894 => kernel_rfl
    case hQ10x894 => exact fun _ _ _ h => h
    case hy10x894 => exact Or.inl ⟨by rfl, by (intro w hSw; (try dsimp only at hSw); go_simp)⟩
    case hS10x894 => assumption
    (try simp only [Act.put, List.setIfInBounds_toArray, List.set_cons_zero, List.set_cons_succ])
    refine wpAnyH_done (by kernel_rfl) ?_ _
    refine NoPanic.normal ?_
    clear hne1 hne2
    go_wp2
    refine bodyPost_ret (v := .tuple #[.agg #[.int .u8 k', .bool b', .int .i64 n', .string s'], .int .i64 x]) (by simp [results, Tryd.results34, go_sem, r0_, r1_, r2_, r3_, hz]) rfl ⟨rfl, ?_⟩
    have hbw := hwWH.out.trans (hb.mono hwWH.out.size)
    clear hb
    go_grown

end Go.Proofs.YtoolojfbjpnllaaDoor
