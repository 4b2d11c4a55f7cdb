/-
  What the document's own Mul answers, at this program, part 4. Condition: the texts have at most 2^47 bytes, the numbers are 64-bit numbers.
-/
import Derived.Test.YtoolojfbjpnllaaDoorRefNeg
import Derived.Test.YtoolojfbjpnllaaDoorOps
import Derived.Deep.RegionHeld3
set_option linter.unusedVariables false
set_option linter.unusedSimpArgs false
namespace Go.Proofs.YtoolojfbjpnllaaDoor
open Go.RowKit Go.Lib

set_option maxRecDepth 100000 in
set_option maxHeartbeats 8000000 in
theorem refMul_i (k0 : Int) (b0 : Bool) (n0 : Int) (s0 : ByteArray) (k1 : Int) (b1 : Bool) (n1 : Int) (s1 : ByteArray) (w : World) (hs0 : s0.size ≤ 140737488355328) (hs1 : s1.size ≤ 140737488355328) (hc : n0 ≠ 0 ∧ n0 ≠ -1 ∧ n1 ≠ -1) (hd : wrap64 ((wrap64 (n0 * n1)).tdiv n0) ≠ n1) :
    Calls Tryd.prog 34 #[.agg #[.int .u8 k0, .bool b0, .int .i64 n0, .string s0], .agg #[.int .u8 k1, .bool b1, .int .i64 n1, .string s1]] w fun e w' => e = .returned (refV (numS ⟨k0, b0, n0, s0⟩ ⟨k1, b1, n1, s1⟩ (wrap64 (n0 * n1), 10))) ∧ Below w.heap.size w w' := by
  obtain ⟨r, hr⟩ : ∃ r, numS ⟨k0, b0, n0, s0⟩ ⟨k1, b1, n1, s1⟩ (wrap64 (n0 * n1), 10) = r := ⟨_, rfl⟩
  rw [hr]
  obtain ⟨⟨k', b', n', s'⟩, x⟩ := r
  rw [refVm]
  have hrH := Lib.hid hr
  clear hr
  have hs0H := Lib.hid hs0; have hs1H := Lib.hid hs1
  have dA : (n0 == -1) = false := by simp; omega
  have dAn : (n0 != -1) = true := by simp; omega
  have dAd : decide (n0 = -1) = false := by simp; omega
  have dC : (n1 == -1) = false := by simp; omega
  have dCn : (n1 != -1) = true := by simp; omega
  have dCd : decide (n1 = -1) = false := by simp; omega
  have dZ : (n0 == 0) = false := by simp; omega
  have dZn : (n0 != 0) = true := by simp; omega
  have dZd : decide (n0 = 0) = false := by simp; omega
  have hz0' : ¬ n0 = 0 := by omega
  obtain ⟨q, hq⟩ : ∃ q, wrap64 ((wrap64 (n0 * n1)).tdiv n0) = q := ⟨_, rfl⟩
  rw [hq] at hd
  have dq : (q != n1) = true := by simpa using hd
  have dqd : decide (q = n1) = false := by simpa using hd
  clear hd
  clear hc
  obtain ⟨m, hm⟩ : ∃ m, wrap64 (n0 * n1) = m := ⟨_, rfl⟩
  rw [hm] at hq
  have hq' : IntKind.i64.wrap (m.tdiv n0) = q := by rw [wrap_is, hq]
  have hm' : IntKind.i64.wrap (n0 * n1) = m := by rw [wrap_is, hm]
  rw [hm] at hrH
  obtain ⟨W0, hW0, hwW, hA, hB, hR, hzz⟩ := boxes2 w k0 b0 n0 s0 k1 b1 n1 s1
  have hAH := Lib.hid hA; have hBH := Lib.hid hB; have hRH := Lib.hid hR; have hz0 := Lib.hid hzz; have hwWH := Lib.hid hwW
  clear hA hB hR hzz hwW hs0 hs1
  have hb := Below.refl W0.heap.size W0
  obtain ⟨a0_, a1_, a2_, a3_⟩ := (hAH.out.below hb).cells; obtain ⟨b0_, b1_, b2_, b3_⟩ := (hBH.out.below hb).cells; obtain ⟨r0_, r1_, r2_, r3_⟩ := (hRH.out.below hb).cells; obtain ⟨f0_, f1_, f2_, f3_⟩ := (hRH.out.below hb).free; have hz := Nat.lt_of_lt_of_le hz0.out hb.size; have hs := hb.size
  go_enter Tryd.func34, Tryd.ntmps34
  go_wp2_with fail
  refine wp_region_noPanic ?_
  refine wp_region_held_drew (S := (fun w' => w'.cell? ⟨w.heap.size, 0, none⟩ = some (.int .u8 k0) ∧ w'.cell? ⟨w.heap.size, 1, none⟩ = some (.bool b0) ∧ w'.cell? ⟨w.heap.size, 2, none⟩ = some (.int .i64 n0) ∧ w'.cell? ⟨w.heap.size, 3, none⟩ = some (.string s0) ∧ w'.cell? ⟨w.heap.size + 1, 0, none⟩ = some (.int .u8 k1) ∧ w'.cell? ⟨w.heap.size + 1, 1, none⟩ = some (.bool b1) ∧ w'.cell? ⟨w.heap.size + 1, 2, none⟩ = some (.int .i64 n1) ∧ w'.cell? ⟨w.heap.size + 1, 3, none⟩ = some (.string s1))) (by kernel_rfl) (by first | exact ⟨a0_, a1_, a2_, a3_, b0_, b1_, b2_, b3_⟩ | go_keep) (fun hHeld => ?_)
  refine' wpAnyH_take (i := 0) (v := .pointer (some ⟨w.heap.size, 2, none⟩)) ?hi0x1007 ?hs0x1007 ?hf0x1007 ?hr0x1007 ?hQ0x1007 ?hy0x1007 ?hS0x1007 ?rest0x1007
  case hi0x1007 => (simp only [List.getElem?_toArray, List.getElem?_cons_succ, List.getElem?_cons_zero]; try rfl)
  case hs0x1007 => kernel_rfl
  case hf0x1007 => kernel_rfl
  case hr0x1007 => kernel_rfl
  case hQ0x1007 => exact fun _ _ _ h => h
  case hy0x1007 => exact Or.inl ⟨by rfl, by (intro w hSw; (try dsimp only at hSw); go_simp)⟩
  case hS0x1007 => assumption
  (try simp only [Act.put, List.setIfInBounds_toArray, List.set_cons_zero, List.set_cons_succ])
  refine' wpAnyH_take (i := 1) (v := .int .i64 n0) ?hi1x1008 ?hs1x1008 ?hf1x1008 ?hr1x1008 ?hQ1x1008 ?hy1x1008 ?hS1x1008 ?rest1x1008
  case hi1x1008 => (simp only [List.getElem?_toArray, List.getElem?_cons_succ, List.getElem?_cons_zero]; try rfl)
  case hs1x1008 => kernel_rfl
  case hf1x1008 => kernel_rfl
  case hr1x1008 => kernel_rfl
  case hQ1x1008 => exact fun _ _ _ h => h
  case hy1x1008 => exact Or.inl ⟨by rfl, by (intro w hSw; (try dsimp only at hSw); go_simp)⟩
  case hS1x1008 => assumption
  (try simp only [Act.put, List.setIfInBounds_toArray, List.set_cons_zero, List.set_cons_succ])
  refine' wpAnyH_take (i := 2) (v := .bool false) ?hi2x1009 ?hs2x1009 ?hf2x1009 ?hr2x1009 ?hQ2x1009 ?hy2x1009 ?hS2x1009 ?rest2x1009
  case hi2x1009 => (simp only [List.getElem?_toArray, List.getElem?_cons_succ, List.getElem?_cons_zero]; try rfl)
  case hs2x1009 => kernel_rfl
  case hf2x1009 => kernel_rfl
  case hr2x1009 => kernel_rfl
  case hQ2x1009 => exact fun _ _ _ h => h
  case hy2x1009 => exact Or.inl ⟨by rfl, by (intro w hSw; (try dsimp only at hSw); go_simp)⟩
  case hS2x1009 => assumption
  (try simp only [Act.put, List.setIfInBounds_toArray, List.set_cons_zero, List.set_cons_succ])
  refine' wpAnyH_take (i := 3) (v := .bool false) ?hi3x1010 ?hs3x1010 ?hf3x1010 ?hr3x1010 ?hQ3x1010 ?hy3x1010 ?hS3x1010 ?rest3x1010
  case hi3x1010 => (simp only [List.getElem?_toArray, List.getElem?_cons_succ, List.getElem?_cons_zero]; try rfl)
  case hs3x1010 => kernel_rfl
  case hf3x1010 => kernel_rfl
  case hr3x1010 => kernel_rfl
  case hQ3x1010 => exact fun _ _ _ h => h
  case hy3x1010 => exact Or.inl ⟨by rfl, by (intro w hSw; (try dsimp only at hSw); go_simp)⟩
  case hS3x1010 => assumption
  (try simp only [Act.put, List.setIfInBounds_toArray, List.set_cons_zero, List.set_cons_succ])
  refine' wpAnyH_take (i := 4) (v := undef) ?hi4x1011 ?hs4x1011 ?hf4x1011 ?hr4x1011 ?hQ4x1011 ?hy4x1011 ?hS4x1011 ?rest4x1011
  case hi4x1011 => (simp only [List.getElem?_toArray, List.getElem?_cons_succ, List.getElem?_cons_zero]; try rfl)
  case hs4x1011 => kernel_rfl
  case hf4x1011 => kernel_rfl
  case hr4x1011 => kernel_rfl
  case hQ4x1011 => exact fun _ _ _ h => h
  case hy4x1011 => exact Or.inr ⟨by rfl, rfl⟩
  case hS4x1011 => assumption
  (try simp only [Act.put, List.setIfInBounds_toArray, List.set_cons_zero, List.set_cons_succ])
  refine' wpAnyH_take (i := 5) (v := undef) ?hi5x1012 ?hs5x1012 ?hf5x1012 ?hr5x1012 ?hQ5x1012 ?hy5x1012 ?hS5x1012 ?rest5x1012
  case hi5x1012 => (simp only [List.getElem?_toArray, List.getElem?_cons_succ, List.getElem?_cons_zero]; try rfl)
  case hs5x1012 => kernel_rfl
  case hf5x1012 => kernel_rfl
  case hr5x1012 => kernel_rfl
  case hQ5x1012 => exact fun _ _ _ h => h
  case hy5x1012 => exact Or.inr ⟨by rfl, rfl⟩
  case hS5x1012 => assumption
  (try simp only [Act.put, List.setIfInBounds_toArray, List.set_cons_zero, List.set_cons_succ])
  refine' wpAnyH_take (i := 6) (v := undef) ?hi6x1013 ?hs6x1013 ?hf6x1013 ?hr6x1013 ?hQ6x1013 ?hy6x1013 ?hS6x1013 ?rest6x1013
  case hi6x1013 => (simp only [List.getElem?_toArray, List.getElem?_cons_succ, List.getElem?_cons_zero]; try rfl)
  case hs6x1013 => kernel_rfl
  case hf6x1013 => kernel_rfl
  case hr6x1013 => kernel_rfl
  case hQ6x1013 => exact fun _ _ _ h => h
  case hy6x1013 => exact Or.inr ⟨by rfl, rfl⟩
  case hS6x1013 => assumption
  (try simp only [Act.put, List.setIfInBounds_toArray, List.set_cons_zero, List.set_cons_succ])
  refine' wpAnyH_take (i := 7) (v := .bool false) ?hi7x1014 ?hs7x1014 ?hf7x1014 ?hr7x1014 ?hQ7x1014 ?hy7x1014 ?hS7x1014 ?rest7x1014
  case hi7x1014 => (simp only [List.getElem?_toArray, List.getElem?_cons_succ, List.getElem?_cons_zero]; try rfl)
  case hs7x1014 => kernel_rfl
  case hf7x1014 => kernel_rfl
  case hr7x1014 => kernel_rfl
  case hQ7x1014 => exact fun _ _ _ h => h
  case hy7x1014 => exact Or.inl ⟨by rfl, by (intro w hSw; (try dsimp only at hSw); go_simp)⟩
  case hS7x1014 => assumption
  (try simp only [Act.put, List.setIfInBounds_toArray, List.set_cons_zero, List.set_cons_succ])
  refine' wpAnyH_take (i := 8) (v := .bool false) ?hi8x1015 ?hs8x1015 ?hf8x1015 ?hr8x1015 ?hQ8x1015 ?hy8x1015 ?hS8x1015 ?rest8x1015
  case hi8x1015 => (simp only [List.getElem?_toArray, List.getElem?_cons_succ, List.getElem?_cons_zero]; try rfl)
  case hs8x1015 => kernel_rfl
  case hf8x1015 => kernel_rfl
  case hr8x1015 => kernel_rfl
  case hQ8x1015 => exact fun _ _ _ h => h
  case hy8x1015 => exact Or.inl ⟨by rfl, by (intro w hSw; (try dsimp only at hSw); go_simp)⟩
  case hS8x1015 => assumption
  (try simp only [Act.put, List.setIfInBounds_toArray, List.set_cons_zero, List.set_cons_succ])
  refine' wpAnyH_take (i := 9) (v := .pointer (some ⟨w.heap.size + 1, 2, none⟩)) ?hi9x1016 ?hs9x1016 ?hf9x1016 ?hr9x1016 ?hQ9x1016 ?hy9x1016 ?hS9x1016 ?rest9x1016
  case hi9x1016 => (simp only [List.getElem?_toArray, List.getElem?_cons_succ, List.getElem?_cons_zero]; try rfl)
  case hs9x1016 => kernel_rfl
  case hf9x1016 => kernel_rfl
  case hr9x1016 => kernel_rfl
  case hQ9x1016 => exact fun _ _ _ h => h
  case hy9x1016 => exact Or.inl ⟨by rfl, by (intro w hSw; (try dsimp only at hSw); go_simp)⟩
  case hS9x1016 => assumption
  (try simp only [Act.put, List.setIfInBounds_toArray, List.set_cons_zero, List.set_cons_succ])
  refine' wpAnyH_take (i := 10) (v := .int .i64 n1) ?hi10x1017 ?hs10x1017 ?hf10x1017 ?hr10x1017 ?hQ10x1017 ?hy10x1017 ?hS10x1017 ?rest10x1017
  case hi10x1017 => (simp only [List.getElem?_toArray, List.getElem?_cons_succ, List.getElem?_cons_zero]; try rfl)
  case hs10x1017 => kernel_rfl
  case hf10x1017 => kernel_rfl
  case hr10x1017 => kernel_rfl
  case hQ10x1017 => exact fun _ _ _ h => h
  case hy10x1017 => exact Or.inl ⟨by rfl, by (intro w hSw; (try dsimp only at hSw); go_simp)⟩
  case hS10x1017 => assumption
  (try simp only [Act.put, List.setIfInBounds_toArray, List.set_cons_zero, List.set_cons_succ])
  refine' wpAnyH_take (i := 11) (v := .bool false) ?hi11x1018 ?hs11x1018 ?hf11x1018 ?hr11x1018 ?hQ11x1018 ?hy11x1018 ?hS11x1018 ?rest11x1018
  case hi11x1018 => (simp only [List.getElem?_toArray, List.getElem?_cons_succ, List.getElem?_cons_zero]; try rfl)
  case hs11x1018 => kernel_rfl
  case hf11x1018 => kernel_rfl
  case hr11x1018 => kernel_rfl
  case hQ11x1018 => exact fun _ _ _ h => h
  case hy11x1018 => exact Or.inl ⟨by rfl, by (intro w hSw; (try dsimp only at hSw); go_simp)⟩
  case hS11x1018 => assumption
  (try simp only [Act.put, List.setIfInBounds_toArray, List.set_cons_zero, List.set_cons_succ])
  refine' wpAnyH_take (i := 12) (v := .bool false) ?hi12x1019 ?hs12x1019 ?hf12x1019 ?hr12x1019 ?hQ12x1019 ?hy12x1019 ?hS12x1019 ?rest12x1019
  case hi12x1019 => (simp only [List.getElem?_toArray, List.getElem?_cons_succ, List.getElem?_cons_zero]; try rfl)
  case hs12x1019 => kernel_rfl
  case hf12x1019 => kernel_rfl
  case hr12x1019 => kernel_rfl
  case hQ12x1019 => exact fun _ _ _ h => h
  case hy12x1019 => exact Or.inl ⟨by rfl, by (intro w hSw; (try dsimp only at hSw); go_simp)⟩
  case hS12x1019 => assumption
  (try simp only [Act.put, List.setIfInBounds_toArray, List.set_cons_zero, List.set_cons_succ])
  refine' wpAnyH_take (i := 13) (v := undef) ?hi13x1020 ?hs13x1020 ?hf13x1020 ?hr13x1020 ?hQ13x1020 ?hy13x1020 ?hS13x1020 ?rest13x1020
  case hi13x1020 => (simp only [List.getElem?_toArray, List.getElem?_cons_succ, List.getElem?_cons_zero]; try rfl)
  case hs13x1020 => kernel_rfl
  case hf13x1020 => kernel_rfl
  case hr13x1020 => kernel_rfl
  case hQ13x1020 => exact fun _ _ _ h => h
  case hy13x1020 => exact Or.inr ⟨by rfl, rfl⟩
  case hS13x1020 => assumption
  (try simp only [Act.put, List.setIfInBounds_toArray, List.set_cons_zero, List.set_cons_succ])
  refine' wpAnyH_take (i := 14) (v := undef) ?hi14x1021 ?hs14x1021 ?hf14x1021 ?hr14x1021 ?hQ14x1021 ?hy14x1021 ?hS14x1021 ?rest14x1021
  case hi14x1021 => (simp only [List.getElem?_toArray, List.getElem?_cons_succ, List.getElem?_cons_zero]; try rfl)
  case hs14x1021 => kernel_rfl
  case hf14x1021 => kernel_rfl
  case hr14x1021 => kernel_rfl
  case hQ14x1021 => exact fun _ _ _ h => h
  case hy14x1021 => exact Or.inr ⟨by rfl, rfl⟩
  case hS14x1021 => assumption
  (try simp only [Act.put, List.setIfInBounds_toArray, List.set_cons_zero, List.set_cons_succ])
  refine' wpAnyH_take (i := 15) (v := undef) ?hi15x1022 ?hs15x1022 ?hf15x1022 ?hr15x1022 ?hQ15x1022 ?hy15x1022 ?hS15x1022 ?rest15x1022
  case hi15x1022 => (simp only [List.getElem?_toArray, List.getElem?_cons_succ, List.getElem?_cons_zero]; try rfl)
  case hs15x1022 => kernel_rfl
  case hf15x1022 => kernel_rfl
  case hr15x1022 => kernel_rfl
  case hQ15x1022 => exact fun _ _ _ h => h
  case hy15x1022 => exact Or.inr ⟨by rfl, rfl⟩
  case hS15x1022 => assumption
  (try simp only [Act.put, List.setIfInBounds_toArray, List.set_cons_zero, List.set_cons_succ])
  refine' wpAnyH_take (i := 16) (v := .bool false) ?hi16x1023 ?hs16x1023 ?hf16x1023 ?hr16x1023 ?hQ16x1023 ?hy16x1023 ?hS16x1023 ?rest16x1023
  case hi16x1023 => (simp only [List.getElem?_toArray, List.getElem?_cons_succ, List.getElem?_cons_zero]; try rfl)
  case hs16x1023 => kernel_rfl
  case hf16x1023 => kernel_rfl
  case hr16x1023 => kernel_rfl
  case hQ16x1023 => exact fun _ _ _ h => h
  case hy16x1023 => exact Or.inl ⟨by rfl, by (intro w hSw; (try dsimp only at hSw); go_simp)⟩
  case hS16x1023 => assumption
  (try simp only [Act.put, List.setIfInBounds_toArray, List.set_cons_zero, List.set_cons_succ])
  refine' wpAnyH_take (i := 17) (v := .bool false) ?hi17x1024 ?hs17x1024 ?hf17x1024 ?hr17x1024 ?hQ17x1024 ?hy17x1024 ?hS17x1024 ?rest17x1024
  case hi17x1024 => (simp only [List.getElem?_toArray, List.getElem?_cons_succ, List.getElem?_cons_zero]; try rfl)
  case hs17x1024 => kernel_rfl
  case hf17x1024 => kernel_rfl
  case hr17x1024 => kernel_rfl
  case hQ17x1024 => exact fun _ _ _ h => h
  case hy17x1024 => exact Or.inl ⟨by rfl, by (intro w hSw; (try dsimp only at hSw); go_simp)⟩
  case hS17x1024 => assumption
  (try simp only [Act.put, List.setIfInBounds_toArray, List.set_cons_zero, List.set_cons_succ])
  refine' wpAnyH_take (i := 18) (v := .bool false) ?hi18x1025 ?hs18x1025 ?hf18x1025 ?hr18x1025 ?hQ18x1025 ?hy18x1025 ?hS18x1025 ?rest18x1025
  case hi18x1025 => (simp only [List.getElem?_toArray, List.getElem?_cons_succ, List.getElem?_cons_zero]; try rfl)
  case hs18x1025 => kernel_rfl
  case hf18x1025 => kernel_rfl
  case hr18x1025 => kernel_rfl
  case hQ18x1025 => exact fun _ _ _ h => h
  case hy18x1025 => exact Or.inl ⟨by rfl, by (intro w hSw; (try dsimp only at hSw); go_simp)⟩
  case hS18x1025 => assumption
  (try simp only [Act.put, List.setIfInBounds_toArray, List.set_cons_zero, List.set_cons_succ])
  refine' wpAnyH_take (i := 19) (v := .pointer (some ⟨w.heap.size, 2, none⟩)) ?hi19x1026 ?hs19x1026 ?hf19x1026 ?hr19x1026 ?hQ19x1026 ?hy19x1026 ?hS19x1026 ?rest19x1026
  case hi19x1026 => (simp only [List.getElem?_toArray, List.getElem?_cons_succ, List.getElem?_cons_zero]; try rfl)
  case hs19x1026 => kernel_rfl
  case hf19x1026 => kernel_rfl
  case hr19x1026 => kernel_rfl
  case hQ19x1026 => exact fun _ _ _ h => h
  case hy19x1026 => exact Or.inl ⟨by rfl, by (intro w hSw; (try dsimp only at hSw); go_simp)⟩
  case hS19x1026 => assumption
  (try simp only [Act.put, List.setIfInBounds_toArray, List.set_cons_zero, List.set_cons_succ])
  refine' wpAnyH_take (i := 20) (v := .int .i64 n0) ?hi20x1027 ?hs20x1027 ?hf20x1027 ?hr20x1027 ?hQ20x1027 ?hy20x1027 ?hS20x1027 ?rest20x1027
  case hi20x1027 => (simp only [List.getElem?_toArray, List.getElem?_cons_succ, List.getElem?_cons_zero]; try rfl)
  case hs20x1027 => kernel_rfl
  case hf20x1027 => kernel_rfl
  case hr20x1027 => kernel_rfl
  case hQ20x1027 => exact fun _ _ _ h => h
  case hy20x1027 => exact Or.inl ⟨by rfl, by (intro w hSw; (try dsimp only at hSw); go_simp)⟩
  case hS20x1027 => assumption
  (try simp only [Act.put, List.setIfInBounds_toArray, List.set_cons_zero, List.set_cons_succ])
  refine' wpAnyH_take (i := 21) (v := .bool true) ?hi21x1028 ?hs21x1028 ?hf21x1028 ?hr21x1028 ?hQ21x1028 ?hy21x1028 ?hS21x1028 ?rest21x1028
  case hi21x1028 => (simp only [List.getElem?_toArray, List.getElem?_cons_succ, List.getElem?_cons_zero]; try rfl)
  case hs21x1028 => kernel_rfl
  case hf21x1028 => kernel_rfl
  case hr21x1028 => kernel_rfl
  case hQ21x1028 => exact fun _ _ _ h => h
  case hy21x1028 => exact Or.inl ⟨by rfl, by (intro w hSw; (try dsimp only at hSw); go_simp)⟩
  case hS21x1028 => assumption
  (try simp only [Act.put, List.setIfInBounds_toArray, List.set_cons_zero, List.set_cons_succ])
  refine' wpAnyH_take (i := 22) (v := .bool true) ?hi22x1029 ?hs22x1029 ?hf22x1029 ?hr22x1029 ?hQ22x1029 ?hy22x1029 ?hS22x1029 ?rest22x1029
  case hi22x1029 => (simp only [List.getElem?_toArray, List.getElem?_cons_succ, List.getElem?_cons_zero]; try rfl)
  case hs22x1029 => kernel_rfl
  case hf22x1029 => kernel_rfl
  case hr22x1029 => kernel_rfl
  case hQ22x1029 => exact fun _ _ _ h => h
  case hy22x1029 => exact Or.inl ⟨by rfl, by (intro w hSw; (try dsimp only at hSw); go_simp)⟩
  case hS22x1029 => assumption
  (try simp only [Act.put, List.setIfInBounds_toArray, List.set_cons_zero, List.set_cons_succ])
  refine' wpAnyH_take (i := 23) (v := .pointer (some ⟨w.heap.size, 2, none⟩)) ?hi23x1030 ?hs23x1030 ?hf23x1030 ?hr23x1030 ?hQ23x1030 ?hy23x1030 ?hS23x1030 ?rest23x1030
  case hi23x1030 => (simp only [List.getElem?_toArray, List.getElem?_cons_succ, List.getElem?_cons_zero]; try rfl)
  case hs23x1030 => kernel_rfl
  case hf23x1030 => kernel_rfl
  case hr23x1030 => kernel_rfl
  case hQ23x1030 => exact fun _ _ _ h => h
  case hy23x1030 => exact Or.inl ⟨by rfl, by (intro w hSw; (try dsimp only at hSw); go_simp)⟩
  case hS23x1030 => assumption
  (try simp only [Act.put, List.setIfInBounds_toArray, List.set_cons_zero, List.set_cons_succ])
  refine' wpAnyH_take (i := 24) (v := .int .i64 n0) ?hi24x1031 ?hs24x1031 ?hf24x1031 ?hr24x1031 ?hQ24x1031 ?hy24x1031 ?hS24x1031 ?rest24x1031
  case hi24x1031 => (simp only [List.getElem?_toArray, List.getElem?_cons_succ, List.getElem?_cons_zero]; try rfl)
  case hs24x1031 => kernel_rfl
  case hf24x1031 => kernel_rfl
  case hr24x1031 => kernel_rfl
  case hQ24x1031 => exact fun _ _ _ h => h
  case hy24x1031 => exact Or.inl ⟨by rfl, by (intro w hSw; (try dsimp only at hSw); go_simp)⟩
  case hS24x1031 => assumption
  (try simp only [Act.put, List.setIfInBounds_toArray, List.set_cons_zero, List.set_cons_succ])
  refine' wpAnyH_take (i := 25) (v := .bool true) ?hi25x1032 ?hs25x1032 ?hf25x1032 ?hr25x1032 ?hQ25x1032 ?hy25x1032 ?hS25x1032 ?rest25x1032
  case hi25x1032 => (simp only [List.getElem?_toArray, List.getElem?_cons_succ, List.getElem?_cons_zero]; try rfl)
  case hs25x1032 => kernel_rfl
  case hf25x1032 => kernel_rfl
  case hr25x1032 => kernel_rfl
  case hQ25x1032 => exact fun _ _ _ h => h
  case hy25x1032 => exact Or.inl ⟨by rfl, by (intro w hSw; (try dsimp only at hSw); go_simp)⟩
  case hS25x1032 => assumption
  (try simp only [Act.put, List.setIfInBounds_toArray, List.set_cons_zero, List.set_cons_succ])
  refine' wpAnyH_take (i := 26) (v := .bool true) ?hi26x1033 ?hs26x1033 ?hf26x1033 ?hr26x1033 ?hQ26x1033 ?hy26x1033 ?hS26x1033 ?rest26x1033
  case hi26x1033 => (simp only [List.getElem?_toArray, List.getElem?_cons_succ, List.getElem?_cons_zero]; try rfl)
  case hs26x1033 => kernel_rfl
  case hf26x1033 => kernel_rfl
  case hr26x1033 => kernel_rfl
  case hQ26x1033 => exact fun _ _ _ h => h
  case hy26x1033 => exact Or.inl ⟨by rfl, by (intro w hSw; (try dsimp only at hSw); go_simp)⟩
  case hS26x1033 => assumption
  (try simp only [Act.put, List.setIfInBounds_toArray, List.set_cons_zero, List.set_cons_succ])
  refine' wpAnyH_take (i := 27) (v := .bool true) ?hi27x1034 ?hs27x1034 ?hf27x1034 ?hr27x1034 ?hQ27x1034 ?hy27x1034 ?hS27x1034 ?rest27x1034
  case hi27x1034 => (simp only [List.getElem?_toArray, List.getElem?_cons_succ, List.getElem?_cons_zero]; try rfl)
  case hs27x1034 => kernel_rfl
  case hf27x1034 => kernel_rfl
  case hr27x1034 => kernel_rfl
  case hQ27x1034 => exact fun _ _ _ h => h
  case hy27x1034 => exact Or.inl ⟨by rfl, by (intro w hSw; (try dsimp only at hSw); go_simp)⟩
  case hS27x1034 => assumption
  (try simp only [Act.put, List.setIfInBounds_toArray, List.set_cons_zero, List.set_cons_succ])
  refine' wpAnyH_take (i := 28) (v := .int .i64 m) ?hi28x1035 ?hs28x1035 ?hf28x1035 ?hr28x1035 ?hQ28x1035 ?hy28x1035 ?hS28x1035 ?rest28x1035
  case hi28x1035 => (simp only [List.getElem?_toArray, List.getElem?_cons_succ, List.getElem?_cons_zero]; try rfl)
  case hs28x1035 => kernel_rfl
  case hf28x1035 => kernel_rfl
  case hr28x1035 => kernel_rfl
  case hQ28x1035 => exact fun _ _ _ h => h
  case hy28x1035 => exact Or.inl ⟨by rfl, by (intro w hSw; (try dsimp only at hSw); go_simp)⟩
  case hS28x1035 => assumption
  (try simp only [Act.put, List.setIfInBounds_toArray, List.set_cons_zero, List.set_cons_succ])
  refine' wpAnyH_take (i := 29) (v := .pointer (some ⟨w.heap.size, 2, none⟩)) ?hi29x1036 ?hs29x1036 ?hf29x1036 ?hr29x1036 ?hQ29x1036 ?hy29x1036 ?hS29x1036 ?rest29x1036
  case hi29x1036 => (simp only [List.getElem?_toArray, List.getElem?_cons_succ, List.getElem?_cons_zero]; try rfl)
  case hs29x1036 => kernel_rfl
  case hf29x1036 => kernel_rfl
  case hr29x1036 => kernel_rfl
  case hQ29x1036 => exact fun _ _ _ h => h
  case hy29x1036 => exact Or.inl ⟨by rfl, by (intro w hSw; (try dsimp only at hSw); go_simp)⟩
  case hS29x1036 => assumption
  (try simp only [Act.put, List.setIfInBounds_toArray, List.set_cons_zero, List.set_cons_succ])
  refine' wpAnyH_take (i := 30) (v := .int .i64 n0) ?hi30x1037 ?hs30x1037 ?hf30x1037 ?hr30x1037 ?hQ30x1037 ?hy30x1037 ?hS30x1037 ?rest30x1037
  case hi30x1037 => (simp only [List.getElem?_toArray, List.getElem?_cons_succ, List.getElem?_cons_zero]; try rfl)
  case hs30x1037 => kernel_rfl
  case hf30x1037 => kernel_rfl
  case hr30x1037 => kernel_rfl
  case hQ30x1037 => exact fun _ _ _ h => h
  case hy30x1037 => exact Or.inl ⟨by rfl, by (intro w hSw; (try dsimp only at hSw); go_simp)⟩
  case hS30x1037 => assumption
  (try simp only [Act.put, List.setIfInBounds_toArray, List.set_cons_zero, List.set_cons_succ])
  refine' wpAnyH_take (i := 31) (v := .int .i64 q) ?hi31x1038 ?hs31x1038 ?hf31x1038 ?hr31x1038 ?hQ31x1038 ?hy31x1038 ?hS31x1038 ?rest31x1038
  case hi31x1038 => (simp only [List.getElem?_toArray, List.getElem?_cons_succ, List.getElem?_cons_zero]; try rfl)
  case hs31x1038 => kernel_rfl
  case hf31x1038 => kernel_rfl
  case hr31x1038 => kernel_rfl
  case hQ31x1038 => exact fun _ _ _ h => h
  case hy31x1038 => exact Or.inl ⟨by rfl, by (intro w hSw; (try dsimp only at hSw); go_simp)⟩
  case hS31x1038 => assumption
  (try simp only [Act.put, List.setIfInBounds_toArray, List.set_cons_zero, List.set_cons_succ])
  refine' wpAnyH_take (i := 32) (v := .pointer (some ⟨w.heap.size + 1, 2, none⟩)) ?hi32x1039 ?hs32x1039 ?hf32x1039 ?hr32x1039 ?hQ32x1039 ?hy32x1039 ?hS32x1039 ?rest32x1039
  case hi32x1039 => (simp only [List.getElem?_toArray, List.getElem?_cons_succ, List.getElem?_cons_zero]; try rfl)
  case hs32x1039 => kernel_rfl
  case hf32x1039 => kernel_rfl
  case hr32x1039 => kernel_rfl
  case hQ32x1039 => exact fun _ _ _ h => h
  case hy32x1039 => exact Or.inl ⟨by rfl, by (intro w hSw; (try dsimp only at hSw); go_simp)⟩
  case hS32x1039 => assumption
  (try simp only [Act.put, List.setIfInBounds_toArray, List.set_cons_zero, List.set_cons_succ])
  refine' wpAnyH_take (i := 33) (v := .int .i64 n1) ?hi33x1040 ?hs33x1040 ?hf33x1040 ?hr33x1040 ?hQ33x1040 ?hy33x1040 ?hS33x1040 ?rest33x1040
  case hi33x1040 => (simp only [List.getElem?_toArray, List.getElem?_cons_succ, List.getElem?_cons_zero]; try rfl)
  case hs33x1040 => kernel_rfl
  case hf33x1040 => kernel_rfl
  case hr33x1040 => kernel_rfl
  case hQ33x1040 => exact fun _ _ _ h => h
  case hy33x1040 => exact Or.inl ⟨by rfl, by (intro w hSw; (try dsimp only at hSw); go_simp)⟩
  case hS33x1040 => assumption
  (try simp only [Act.put, List.setIfInBounds_toArray, List.set_cons_zero, List.set_cons_succ])
  refine' wpAnyH_take (i := 34) (v := .bool true) ?hi34x1041 ?hs34x1041 ?hf34x1041 ?hr34x1041 ?hQ34x1041 ?hy34x1041 ?hS34x1041 ?rest34x1041
  case hi34x1041 => (simp only [List.getElem?_toArray, List.getElem?_cons_succ, List.getElem?_cons_zero]; try rfl)
  case hs34x1041 => kernel_rfl
  case hf34x1041 => kernel_rfl
  case hr34x1041 => kernel_rfl
  case hQ34x1041 => exact fun _ _ _ h => h
  case hy34x1041 => exact Or.inl ⟨by rfl, by (intro w hSw; (try dsimp only at hSw); go_simp)⟩
  case hS34x1041 => assumption
  (try simp only [Act.put, List.setIfInBounds_toArray, List.set_cons_zero, List.set_cons_succ])
  refine' wpAnyH_take (i := 35) (v := .bool true) ?hi35x1042 ?hs35x1042 ?hf35x1042 ?hr35x1042 ?hQ35x1042 ?hy35x1042 ?hS35x1042 ?rest35x1042
  case hi35x1042 => (simp only [List.getElem?_toArray, List.getElem?_cons_succ, List.getElem?_cons_zero]; try rfl)
  case hs35x1042 => kernel_rfl
  case hf35x1042 => kernel_rfl
  case hr35x1042 => kernel_rfl
  case hQ35x1042 => exact fun _ _ _ h => h
  case hy35x1042 => exact Or.inl ⟨by rfl, by (intro w hSw; (try dsimp only at hSw); go_simp)⟩
  case hS35x1042 => assumption
  (try simp only [Act.put, List.setIfInBounds_toArray, List.set_cons_zero, List.set_cons_succ])
  refine' wpAnyH_take (i := 36) (v := .bool true) ?hi36x1043 ?hs36x1043 ?hf36x1043 ?hr36x1043 ?hQ36x1043 ?hy36x1043 ?hS36x1043 ?rest36x1043
  case hi36x1043 => (simp only [List.getElem?_toArray, List.getElem?_cons_succ, List.getElem?_cons_zero]; try rfl)
  case hs36x1043 => kernel_rfl
  case hf36x1043 => kernel_rfl
  case hr36x1043 => kernel_rfl
  case hQ36x1043 => exact fun _ _ _ h => h
  case hy36x1043 => exact Or.inl ⟨by rfl, by (intro w hSw; (try dsimp only at hSw); go_simp)⟩
  case hS36x1043 => assumption
  (try simp only [Act.put, List.setIfInBounds_toArray, List.set_cons_zero, List.set_cons_succ])
  refine' wpAnyH_take (i := 37) (v := .bool true) ?hi37x1044 ?hs37x1044 ?hf37x1044 ?hr37x1044 ?hQ37x1044 ?hy37x1044 ?hS37x1044 ?rest37x1044
  case hi37x1044 => (simp only [List.getElem?_toArray, List.getElem?_cons_succ, List.getElem?_cons_zero]; try rfl)
  case hs37x1044 => kernel_rfl
  case hf37x1044 => kernel_rfl
  case hr37x1044 => kernel_rfl
  case hQ37x1044 => exact fun _ _ _ h => h
  case hy37x1044 => exact Or.inl ⟨by rfl, by (intro w hSw; (try dsimp only at hSw); go_simp)⟩
  case hS37x1044 => assumption
  (try simp only [Act.put, List.setIfInBounds_toArray, List.set_cons_zero, List.set_cons_succ])
  refine wpAnyH_done (by kernel_rfl) ?_ _
  refine NoPanic.normal ?_
  clear hHeld
  go_wp2_with fail
  refine wp_region_noPanic ?_
  refine wp_region_held_drew (S := (fun w' => w'.cell? ⟨w.heap.size, 0, none⟩ = some (.int .u8 k0) ∧ w'.cell? ⟨w.heap.size, 1, none⟩ = some (.bool b0) ∧ w'.cell? ⟨w.heap.size, 2, none⟩ = some (.int .i64 n0) ∧ w'.cell? ⟨w.heap.size, 3, none⟩ = some (.string s0) ∧ w'.cell? ⟨w.heap.size + 1, 0, none⟩ = some (.int .u8 k1) ∧ w'.cell? ⟨w.heap.size + 1, 1, none⟩ = some (.bool b1) ∧ w'.cell? ⟨w.heap.size + 1, 2, none⟩ = some (.int .i64 n1) ∧ w'.cell? ⟨w.heap.size + 1, 3, none⟩ = some (.string s1))) (by kernel_rfl) (by first | exact ⟨a0_, a1_, a2_, a3_, b0_, b1_, b2_, b3_⟩ | go_keep) (fun hHeld => ?_)
  refine' wpAnyH_take (i := 0) (v := .int .i64 m) ?hi0x1045 ?hs0x1045 ?hf0x1045 ?hr0x1045 ?hQ0x1045 ?hy0x1045 ?hS0x1045 ?rest0x1045
  case hi0x1045 => (simp only [List.getElem?_toArray, List.getElem?_cons_succ, List.getElem?_cons_zero]; try rfl)
  case hs0x1045 => kernel_rfl
  case hf0x1045 => kernel_rfl
  case hr0x1045 => kernel_rfl
  case hQ0x1045 => exact fun _ _ _ h => h
  case hy0x1045 => exact Or.inl ⟨by rfl, by (intro w hSw; (try dsimp only at hSw); go_simp)⟩
  case hS0x1045 => assumption
  (try simp only [Act.put, List.setIfInBounds_toArray, List.set_cons_zero, List.set_cons_succ])
  refine' wpAnyH_take (i := 1) (v := .bool true) ?hi1x1046 ?hs1x1046 ?hf1x1046 ?hr1x1046 ?hQ1x1046 ?hy1x1046 ?hS1x1046 ?rest1x1046
  case hi1x1046 => (simp only [List.getElem?_toArray, List.getElem?_cons_succ, List.getElem?_cons_zero]; try rfl)
  case hs1x1046 => kernel_rfl
  case hf1x1046 => kernel_rfl
  case hr1x1046 => kernel_rfl
  case hQ1x1046 => exact fun _ _ _ h => h
  case hy1x1046 => exact Or.inl ⟨by rfl, by (intro w hSw; (try dsimp only at hSw); go_simp)⟩
  case hS1x1046 => assumption
  (try simp only [Act.put, List.setIfInBounds_toArray, List.set_cons_zero, List.set_cons_succ])
  refine' wpAnyH_take (i := 3) (v := .agg #[.int .u8 k0, .bool b0, .int .i64 n0, .string s0]) ?hi3x1047 ?hs3x1047 ?hf3x1047 ?hr3x1047 ?hQ3x1047 ?hy3x1047 ?hS3x1047 ?rest3x1047
  case hi3x1047 => (simp only [List.getElem?_toArray, List.getElem?_cons_succ, List.getElem?_cons_zero]; try rfl)
  case hs3x1047 => kernel_rfl
  case hf3x1047 => kernel_rfl
  case hr3x1047 => kernel_rfl
  case hQ3x1047 => exact fun _ _ _ h => h
  case hy3x1047 => exact Or.inl ⟨by rfl, by (intro w hSw; (try dsimp only at hSw); go_simp)⟩
  case hS3x1047 => assumption
  (try simp only [Act.put, List.setIfInBounds_toArray, List.set_cons_zero, List.set_cons_succ])
  refine' wpAnyH_take (i := 4) (v := .agg #[.int .u8 k1, .bool b1, .int .i64 n1, .string s1]) ?hi4x1048 ?hs4x1048 ?hf4x1048 ?hr4x1048 ?hQ4x1048 ?hy4x1048 ?hS4x1048 ?rest4x1048
  case hi4x1048 => (simp only [List.getElem?_toArray, List.getElem?_cons_succ, List.getElem?_cons_zero]; try rfl)
  case hs4x1048 => kernel_rfl
  case hf4x1048 => kernel_rfl
  case hr4x1048 => kernel_rfl
  case hQ4x1048 => exact fun _ _ _ h => h
  case hy4x1048 => exact Or.inl ⟨by rfl, by (intro w hSw; (try dsimp only at hSw); go_simp)⟩
  case hS4x1048 => assumption
  (try simp only [Act.put, List.setIfInBounds_toArray, List.set_cons_zero, List.set_cons_succ])
  refine wpAnyH_ready (rs := [2, 5]) (by kernel_rfl) (by simp) ?_
  refine' AllReadyH.cons (i := 2) ?ho2x1049 (fun K hK => ?st2x1049) (AllReadyH.cons (i := 5) ?ho5x1050 (fun K hK => ?st5x1050) AllReadyH.nil)
  case ho2x1049 => (simp only [List.getElem?_toArray, List.getElem?_cons_succ, List.getElem?_cons_zero]; try rfl)
  case ho5x1050 => (simp only [List.getElem?_toArray, List.getElem?_cons_succ, List.getElem?_cons_zero]; try rfl)
  case st2x1049 =>
    go_simp
    refine (refOver_any _ _).mono ?_
    rintro e w' ⟨rfl, rfl⟩
    go_wp2_with fail
    refine hK.out _ _ ?_ (fun hHeld => ?_)
    · (first | exact ⟨a0_, a1_, a2_, a3_, b0_, b1_, b2_, b3_⟩ | go_keep)
    clear hK K
    (try simp only [Act.put, List.setIfInBounds_toArray, List.set_cons_zero, List.set_cons_succ])
    refine wpAnyH_ready (rs := [5]) (by kernel_rfl) (by simp) ?_
    refine' AllReadyH.cons (i := 5) ?ho5x1051 (fun K hK => ?st5x1051) AllReadyH.nil
    case ho5x1051 => (simp only [List.getElem?_toArray, List.getElem?_cons_succ, List.getElem?_cons_zero]; try rfl)
    go_simp
    refine hK.out _ _ ?_ (fun hHeld => ?_)
    · (first | exact ⟨a0_, a1_, a2_, a3_, b0_, b1_, b2_, b3_⟩ | go_keep)
    clear hK K
    (try simp only [Act.put, List.setIfInBounds_toArray, List.set_cons_zero, List.set_cons_succ])
    refine wpAnyH_ready (rs := [6]) (by kernel_rfl) (by simp) ?_
    refine' AllReadyH.cons (i := 6) ?ho6x1052 (fun K hK => ?st6x1052) AllReadyH.nil
    case ho6x1052 => (simp only [List.getElem?_toArray, List.getElem?_cons_succ, List.getElem?_cons_zero]; try rfl)
    go_simp
    refine (refNum2_any _ _ k0 b0 n0 s0 k1 b1 n1 s1 _ _ _ (by exact heap_at _ _ _ (by first | rfl | simp)) hs0H.out hs1H.out).mono ?_
    rw [hrH.out, refVm]
    rintro e w' ⟨rfl, hb'⟩
    replace hb := chainB (B := W0.heap.size) (a := W0) (by go_grown) hb' (by have := hb.size; first | omega | (simp; done) | (simp; omega))
    clear hb' a0_ a1_ a2_ a3_ b0_ b1_ b2_ b3_ r0_ r1_ r2_ r3_ f0_ f1_ f2_ f3_ hz hs
    obtain ⟨a0_, a1_, a2_, a3_⟩ := (hAH.out.below hb).cells; obtain ⟨b0_, b1_, b2_, b3_⟩ := (hBH.out.below hb).cells; obtain ⟨r0_, r1_, r2_, r3_⟩ := (hRH.out.below hb).cells; obtain ⟨f0_, f1_, f2_, f3_⟩ := (hRH.out.below hb).free; have hz := Nat.lt_of_lt_of_le hz0.out hb.size; have hs := hb.size
    go_wp2_with fail
    refine hK.out _ _ ?_ (fun hHeld => ?_)
    · (first | exact ⟨a0_, a1_, a2_, a3_, b0_, b1_, b2_, b3_⟩ | go_keep)
    clear hK K
    (try simp only [Act.put, List.setIfInBounds_toArray, List.set_cons_zero, List.set_cons_succ])
    refine' wpAnyH_take (i := 7) (v := .agg #[.int .u8 k', .bool b', .int .i64 n', .string s']) ?hi7x1053 ?hs7x1053 ?hf7x1053 ?hr7x1053 ?hQ7x1053 ?hy7x1053 ?hS7x1053 ?rest7x1053
    case hi7x1053 => (simp only [List.getElem?_toArray, List.getElem?_cons_succ, List.getElem?_cons_zero]; try rfl)
    case hs7x1053 => kernel_rfl
    case hf7x1053 => kernel_rfl
    case hr7x1053 => kernel_rfl
    case hQ7x1053 => exact fun _ _ _ h => h
    case hy7x1053 => exact Or.inl ⟨by rfl, by (intro w hSw; (try dsimp only at hSw); go_simp)⟩
    case hS7x1053 => assumption
    (try simp only [Act.put, List.setIfInBounds_toArray, List.set_cons_zero, List.set_cons_succ])
    refine' wpAnyH_take (i := 8) (v := .int .i64 x) ?hi8x1054 ?hs8x1054 ?hf8x1054 ?hr8x1054 ?hQ8x1054 ?hy8x1054 ?hS8x1054 ?rest8x1054
    case hi8x1054 => (simp only [List.getElem?_toArray, List.getElem?_cons_succ, List.getElem?_cons_zero]; try rfl)
    case hs8x1054 => kernel_rfl
    case hf8x1054 => kernel_rfl
    case hr8x1054 => kernel_rfl
    case hQ8x1054 => exact fun _ _ _ h => h
    case hy8x1054 => exact Or.inl ⟨by rfl, by (intro w hSw; (try dsimp only at hSw); go_simp)⟩
    case hS8x1054 => assumption
    (try simp only [Act.put, List.setIfInBounds_toArray, List.set_cons_zero, List.set_cons_succ])
    have hne1 : ¬ (w.heap.size + 1 + 1 = w.heap.size) := by omega
    have hne2 : ¬ (w.heap.size = w.heap.size + 1 + 1) := by omega
    refine wpAnyH_ready (rs := [9]) (by kernel_rfl) (by simp) ?_
    refine' AllReadyH.cons (i := 9) ?ho9x1055 (fun K hK => ?st9x1055) AllReadyH.nil
    case ho9x1055 => (simp only [List.getElem?_toArray, List.getElem?_cons_succ, List.getElem?_cons_zero]; try rfl)
    go_simp
    refine hK.out _ _ ?_ (fun hHeld => ?_)
    · (first | exact ⟨a0_, a1_, a2_, a3_, b0_, b1_, b2_, b3_⟩ | go_keep)
    clear hK K
    (try simp only [Act.put, List.setIfInBounds_toArray, List.set_cons_zero, List.set_cons_succ])
    refine' wpAnyH_take (i := 10) (v := .int .i64 x) ?hi10x1056 ?hs10x1056 ?hf10x1056 ?hr10x1056 ?hQ10x1056 ?hy10x1056 ?hS10x1056 ?rest10x1056
    case hi10x1056 => (simp only [List.getElem?_toArray, List.getElem?_cons_succ, List.getElem?_cons_zero]; try rfl)
    case hs10x1056 => kernel_rfl
    case hf10x1056 => kernel_rfl
    case hr10x1056 => kernel_rfl
    case hQ10x1056 => exact fun _ _ _ h => h
    case hy10x1056 => exact Or.inl ⟨by rfl, by (intro w hSw; (try dsimp only at hSw); go_simp)⟩
    case hS10x1056 => assumption
    (try simp only [Act.put, List.setIfInBounds_toArray, List.set_cons_zero, List.set_cons_succ])
    refine wpAnyH_done (by kernel_rfl) ?_ _
    refine NoPanic.normal ?_
    clear hne1 hne2
    go_wp2
    refine bodyPost_ret (v := .tuple #[.agg #[.int .u8 k', .bool b', .int .i64 n', .string s'], .int .i64 x]) (by simp [results, Tryd.results34, go_sem, r0_, r1_, r2_, r3_, hz]) rfl ⟨rfl, ?_⟩
    have hbw := hwWH.out.trans (hb.mono hwWH.out.size)
    clear hb
    go_grown
  case st5x1050 =>
    go_simp
    refine hK.out _ _ ?_ (fun hHeld => ?_)
    · (first | exact ⟨a0_, a1_, a2_, a3_, b0_, b1_, b2_, b3_⟩ | go_keep)
    clear hK K
    (try simp only [Act.put, List.setIfInBounds_toArray, List.set_cons_zero, List.set_cons_succ])
    refine wpAnyH_ready (rs := [2]) (by kernel_rfl) (by simp) ?_
    refine' AllReadyH.cons (i := 2) ?ho2x1057 (fun K hK => ?st2x1057) AllReadyH.nil
    case ho2x1057 => (simp only [List.getElem?_toArray, List.getElem?_cons_succ, List.getElem?_cons_zero]; try rfl)
    go_simp
    refine (refOver_any _ _).mono ?_
    rintro e w' ⟨rfl, rfl⟩
    go_wp2_with fail
    refine hK.out _ _ ?_ (fun hHeld => ?_)
    · (first | exact ⟨a0_, a1_, a2_, a3_, b0_, b1_, b2_, b3_⟩ | go_keep)
    clear hK K
    (try simp only [Act.put, List.setIfInBounds_toArray, List.set_cons_zero, List.set_cons_succ])
    refine wpAnyH_ready (rs := [6]) (by kernel_rfl) (by simp) ?_
    refine' AllReadyH.cons (i := 6) ?ho6x1058 (fun K hK => ?st6x1058) AllReadyH.nil
    case ho6x1058 => (simp only [List.getElem?_toArray, List.getElem?_cons_succ, List.getElem?_cons_zero]; try rfl)
    go_simp
    refine (refNum2_any _ _ k0 b0 n0 s0 k1 b1 n1 s1 _ _ _ (by exact heap_at _ _ _ (by first | rfl | simp)) hs0H.out hs1H.out).mono ?_
    rw [hrH.out, refVm]
    rintro e w' ⟨rfl, hb'⟩
    replace hb := chainB (B := W0.heap.size) (a := W0) (by go_grown) hb' (by have := hb.size; first | omega | (simp; done) | (simp; omega))
    clear hb' a0_ a1_ a2_ a3_ b0_ b1_ b2_ b3_ r0_ r1_ r2_ r3_ f0_ f1_ f2_ f3_ hz hs
    obtain ⟨a0_, a1_, a2_, a3_⟩ := (hAH.out.below hb).cells; obtain ⟨b0_, b1_, b2_, b3_⟩ := (hBH.out.below hb).cells; obtain ⟨r0_, r1_, r2_, r3_⟩ := (hRH.out.below hb).cells; obtain ⟨f0_, f1_, f2_, f3_⟩ := (hRH.out.below hb).free; have hz := Nat.lt_of_lt_of_le hz0.out hb.size; have hs := hb.size
    go_wp2_with fail
    refine hK.out _ _ ?_ (fun hHeld => ?_)
    · (first | exact ⟨a0_, a1_, a2_, a3_, b0_, b1_, b2_, b3_⟩ | go_keep)
    clear hK K
    (try simp only [Act.put, List.setIfInBounds_toArray, List.set_cons_zero, List.set_cons_succ])
    refine' wpAnyH_take (i := 7) (v := .agg #[.int .u8 k', .bool b', .int .i64 n', .string s']) ?hi7x1059 ?hs7x1059 ?hf7x1059 ?hr7x1059 ?hQ7x1059 ?hy7x1059 ?hS7x1059 ?rest7x1059
    case hi7x1059 => (simp only [List.getElem?_toArray, List.getElem?_cons_succ, List.getElem?_cons_zero]; try rfl)
    case hs7x1059 => kernel_rfl
    case hf7x1059 => kernel_rfl
    case hr7x1059 => kernel_rfl
    case hQ7x1059 => exact fun _ _ _ h => h
    case hy7x1059 => exact Or.inl ⟨by rfl, by (intro w hSw; (try dsimp only at hSw); go_simp)⟩
    case hS7x1059 => assumption
    (try simp only [Act.put, List.setIfInBounds_toArray, List.set_cons_zero, List.set_cons_succ])
    refine' wpAnyH_take (i := 8) (v := .int .i64 x) ?hi8x1060 ?hs8x1060 ?hf8x1060 ?hr8x1060 ?hQ8x1060 ?hy8x1060 ?hS8x1060 ?rest8x1060
    case hi8x1060 => (simp only [List.getElem?_toArray, List.getElem?_cons_succ, List.getElem?_cons_zero]; try rfl)
    case hs8x1060 => kernel_rfl
    case hf8x1060 => kernel_rfl
    case hr8x1060 => kernel_rfl
    case hQ8x1060 => exact fun _ _ _ h => h
    case hy8x1060 => exact Or.inl ⟨by rfl, by (intro w hSw; (try dsimp only at hSw); go_simp)⟩
    case hS8x1060 => assumption
    (try simp only [Act.put, List.setIfInBounds_toArray, List.set_cons_zero, List.set_cons_succ])
    have hne1 : ¬ (w.heap.size + 1 + 1 = w.heap.size) := by omega
    have hne2 : ¬ (w.heap.size = w.heap.size + 1 + 1) := by omega
    refine wpAnyH_ready (rs := [9]) (by kernel_rfl) (by simp) ?_
    refine' AllReadyH.cons (i := 9) ?ho9x1061 (fun K hK => ?st9x1061) AllReadyH.nil
    case ho9x1061 => (simp only [List.getElem?_toArray, List.getElem?_cons_succ, List.getElem?_cons_zero]; try rfl)
    go_simp
    refine hK.out _ _ ?_ (fun hHeld => ?_)
    · (first | exact ⟨a0_, a1_, a2_, a3_, b0_, b1_, b2_, b3_⟩ | go_keep)
    clear hK K
    (try simp only [Act.put, List.setIfInBounds_toArray, List.set_cons_zero, List.set_cons_succ])
    refine' wpAnyH_take (i := 10) (v := .int .i64 x) ?hi10x1062 ?hs10x1062 ?hf10x1062 ?hr10x1062 ?hQ10x1062 ?hy10x1062 ?hS10x1062 ?rest10x1062
    case hi10x1062 => (simp only [List.getElem?_toArray, List.getElem?_cons_succ, List.getElem?_cons_zero]; try rfl)
    case hs10x1062 => kernel_rfl
    case hf10x1062 => kernel_rfl
    case hr10x1062 => kernel_rfl
    case hQ10x1062 => exact fun _ _ _ h => h
    case hy10x1062 => exact Or.inl ⟨by rfl, by (intro w hSw; (try dsimp only at hSw); go_simp)⟩
    case hS10x1062 => assumption
    (try simp only [Act.put, List.setIfInBounds_toArray, List.set_cons_zero, List.set_cons_succ])
    refine wpAnyH_done (by kernel_rfl) ?_ _
    refine NoPanic.normal ?_
    clear hne1 hne2
    go_wp2
    refine bodyPost_ret (v := .tuple #[.agg #[.int .u8 k', .bool b', .int .i64 n', .string s'], .int .i64 x]) (by simp [results, Tryd.results34, go_sem, r0_, r1_, r2_, r3_, hz]) rfl ⟨rfl, ?_⟩
    have hbw := hwWH.out.trans (hb.mono hwWH.out.size)
    clear hb
    go_grown

set_option maxRecDepth 100000 in
set_option maxHeartbeats 8000000 in
theorem refMul_j (k0 : Int) (b0 : Bool) (n0 : Int) (s0 : ByteArray) (k1 : Int) (b1 : Bool) (n1 : Int) (s1 : ByteArray) (w : World) (hs0 : s0.size ≤ 140737488355328) (hs1 : s1.size ≤ 140737488355328) (hc : n0 ≠ 0 ∧ n0 ≠ -1 ∧ n1 ≠ -1) (hd : wrap64 ((wrap64 (n0 * n1)).tdiv n0) = n1) :
    Calls Tryd.prog 34 #[.agg #[.int .u8 k0, .bool b0, .int .i64 n0, .string s0], .agg #[.int .u8 k1, .bool b1, .int .i64 n1, .string s1]] w fun e w' => e = .returned (refV (numS ⟨k0, b0, n0, s0⟩ ⟨k1, b1, n1, s1⟩ (wrap64 (n0 * n1), 0))) ∧ Below w.heap.size w w' := by
  obtain ⟨r, hr⟩ : ∃ r, numS ⟨k0, b0, n0, s0⟩ ⟨k1, b1, n1, s1⟩ (wrap64 (n0 * n1), 0) = r := ⟨_, rfl⟩
  rw [hr]
  obtain ⟨⟨k', b', n', s'⟩, x⟩ := r
  rw [refVm]
  have hrH := Lib.hid hr
  clear hr
  have hs0H := Lib.hid hs0; have hs1H := Lib.hid hs1
  have dA : (n0 == -1) = false := by simp; omega
  have dAn : (n0 != -1) = true := by simp; omega
  have dAd : decide (n0 = -1) = false := by simp; omega
  have dC : (n1 == -1) = false := by simp; omega
  have dCn : (n1 != -1) = true := by simp; omega
  have dCd : decide (n1 = -1) = false := by simp; omega
  have dZ : (n0 == 0) = false := by simp; omega
  have dZn : (n0 != 0) = true := by simp; omega
  have dZd : decide (n0 = 0) = false := by simp; omega
  have hz0' : ¬ n0 = 0 := by omega
  obtain ⟨q, hq⟩ : ∃ q, wrap64 ((wrap64 (n0 * n1)).tdiv n0) = q := ⟨_, rfl⟩
  rw [hq] at hd
  have dq : (q != n1) = false := by simpa using hd
  have dqd : decide (q = n1) = true := by simpa using hd
  clear hd
  clear hc
  obtain ⟨m, hm⟩ : ∃ m, wrap64 (n0 * n1) = m := ⟨_, rfl⟩
  rw [hm] at hq
  have hq' : IntKind.i64.wrap (m.tdiv n0) = q := by rw [wrap_is, hq]
  have hm' : IntKind.i64.wrap (n0 * n1) = m := by rw [wrap_is, hm]
  rw [hm] at hrH
  obtain ⟨W0, hW0, hwW, hA, hB, hR, hzz⟩ := boxes2 w k0 b0 n0 s0 k1 b1 n1 s1
  have hAH := Lib.hid hA; have hBH := Lib.hid hB; have hRH := Lib.hid hR; have hz0 := Lib.hid hzz; have hwWH := Lib.hid hwW
  clear hA hB hR hzz hwW hs0 hs1
  have hb := Below.refl W0.heap.size W0
  obtain ⟨a0_, a1_, a2_, a3_⟩ := (hAH.out.below hb).cells; obtain ⟨b0_, b1_, b2_, b3_⟩ := (hBH.out.below hb).cells; obtain ⟨r0_, r1_, r2_, r3_⟩ := (hRH.out.below hb).cells; obtain ⟨f0_, f1_, f2_, f3_⟩ := (hRH.out.below hb).free; have hz := Nat.lt_of_lt_of_le hz0.out hb.size; have hs := hb.size
  go_enter Tryd.func34, Tryd.ntmps34
  go_wp2_with fail
  refine wp_region_noPanic ?_
  refine wp_region_held_drew (S := (fun w' => w'.cell? ⟨w.heap.size, 0, none⟩ = some (.int .u8 k0) ∧ w'.cell? ⟨w.heap.size, 1, none⟩ = some (.bool b0) ∧ w'.cell? ⟨w.heap.size, 2, none⟩ = some (.int .i64 n0) ∧ w'.cell? ⟨w.heap.size, 3, none⟩ = some (.string s0) ∧ w'.cell? ⟨w.heap.size + 1, 0, none⟩ = some (.int .u8 k1) ∧ w'.cell? ⟨w.heap.size + 1, 1, none⟩ = some (.bool b1) ∧ w'.cell? ⟨w.heap.size + 1, 2, none⟩ = some (.int .i64 n1) ∧ w'.cell? ⟨w.heap.size + 1, 3, none⟩ = some (.string s1))) (by kernel_rfl) (by first | exact ⟨a0_, a1_, a2_, a3_, b0_, b1_, b2_, b3_⟩ | go_keep) (fun hHeld => ?_)
  refine' wpAnyH_take (i := 0) (v := .pointer (some ⟨w.heap.size, 2, none⟩)) ?hi0x1063 ?hs0x1063 ?hf0x1063 ?hr0x1063 ?hQ0x1063 ?hy0x1063 ?hS0x1063 ?rest0x1063
  case hi0x1063 => (simp only [List.getElem?_toArray, List.getElem?_cons_succ, List.getElem?_cons_zero]; try rfl)
  case hs0x1063 => kernel_rfl
  case hf0x1063 => kernel_rfl
  case hr0x1063 => kernel_rfl
  case hQ0x1063 => exact fun _ _ _ h => h
  case hy0x1063 => exact Or.inl ⟨by rfl, by (intro w hSw; (try dsimp only at hSw); go_simp)⟩
  case hS0x1063 => assumption
  (try simp only [Act.put, List.setIfInBounds_toArray, List.set_cons_zero, List.set_cons_succ])
  refine' wpAnyH_take (i := 1) (v := .int .i64 n0) ?hi1x1064 ?hs1x1064 ?hf1x1064 ?hr1x1064 ?hQ1x1064 ?hy1x1064 ?hS1x1064 ?rest1x1064
  case hi1x1064 => (simp only [List.getElem?_toArray, List.getElem?_cons_succ, List.getElem?_cons_zero]; try rfl)
  case hs1x1064 => kernel_rfl
  case hf1x1064 => kernel_rfl
  case hr1x1064 => kernel_rfl
  case hQ1x1064 => exact fun _ _ _ h => h
  case hy1x1064 => exact Or.inl ⟨by rfl, by (intro w hSw; (try dsimp only at hSw); go_simp)⟩
  case hS1x1064 => assumption
  (try simp only [Act.put, List.setIfInBounds_toArray, List.set_cons_zero, List.set_cons_succ])
  refine' wpAnyH_take (i := 2) (v := .bool false) ?hi2x1065 ?hs2x1065 ?hf2x1065 ?hr2x1065 ?hQ2x1065 ?hy2x1065 ?hS2x1065 ?rest2x1065
  case hi2x1065 => (simp only [List.getElem?_toArray, List.getElem?_cons_succ, List.getElem?_cons_zero]; try rfl)
  case hs2x1065 => kernel_rfl
  case hf2x1065 => kernel_rfl
  case hr2x1065 => kernel_rfl
  case hQ2x1065 => exact fun _ _ _ h => h
  case hy2x1065 => exact Or.inl ⟨by rfl, by (intro w hSw; (try dsimp only at hSw); go_simp)⟩
  case hS2x1065 => assumption
  (try simp only [Act.put, List.setIfInBounds_toArray, List.set_cons_zero, List.set_cons_succ])
  refine' wpAnyH_take (i := 3) (v := .bool false) ?hi3x1066 ?hs3x1066 ?hf3x1066 ?hr3x1066 ?hQ3x1066 ?hy3x1066 ?hS3x1066 ?rest3x1066
  case hi3x1066 => (simp only [List.getElem?_toArray, List.getElem?_cons_succ, List.getElem?_cons_zero]; try rfl)
  case hs3x1066 => kernel_rfl
  case hf3x1066 => kernel_rfl
  case hr3x1066 => kernel_rfl
  case hQ3x1066 => exact fun _ _ _ h => h
  case hy3x1066 => exact Or.inl ⟨by rfl, by (intro w hSw; (try dsimp only at hSw); go_simp)⟩
  case hS3x1066 => assumption
  (try simp only [Act.put, List.setIfInBounds_toArray, List.set_cons_zero, List.set_cons_succ])
  refine' wpAnyH_take (i := 4) (v := undef) ?hi4x1067 ?hs4x1067 ?hf4x1067 ?hr4x1067 ?hQ4x1067 ?hy4x1067 ?hS4x1067 ?rest4x1067
  case hi4x1067 => (simp only [List.getElem?_toArray, List.getElem?_cons_succ, List.getElem?_cons_zero]; try rfl)
  case hs4x1067 => kernel_rfl
  case hf4x1067 => kernel_rfl
  case hr4x1067 => kernel_rfl
  case hQ4x1067 => exact fun _ _ _ h => h
  case hy4x1067 => exact Or.inr ⟨by rfl, rfl⟩
  case hS4x1067 => assumption
  (try simp only [Act.put, List.setIfInBounds_toArray, List.set_cons_zero, List.set_cons_succ])
  refine' wpAnyH_take (i := 5) (v := undef) ?hi5x1068 ?hs5x1068 ?hf5x1068 ?hr5x1068 ?hQ5x1068 ?hy5x1068 ?hS5x1068 ?rest5x1068
  case hi5x1068 => (simp only [List.getElem?_toArray, List.getElem?_cons_succ, List.getElem?_cons_zero]; try rfl)
  case hs5x1068 => kernel_rfl
  case hf5x1068 => kernel_rfl
  case hr5x1068 => kernel_rfl
  case hQ5x1068 => exact fun _ _ _ h => h
  case hy5x1068 => exact Or.inr ⟨by rfl, rfl⟩
  case hS5x1068 => assumption
  (try simp only [Act.put, List.setIfInBounds_toArray, List.set_cons_zero, List.set_cons_succ])
  refine' wpAnyH_take (i := 6) (v := undef) ?hi6x1069 ?hs6x1069 ?hf6x1069 ?hr6x1069 ?hQ6x1069 ?hy6x1069 ?hS6x1069 ?rest6x1069
  case hi6x1069 => (simp only [List.getElem?_toArray, List.getElem?_cons_succ, List.getElem?_cons_zero]; try rfl)
  case hs6x1069 => kernel_rfl
  case hf6x1069 => kernel_rfl
  case hr6x1069 => kernel_rfl
  case hQ6x1069 => exact fun _ _ _ h => h
  case hy6x1069 => exact Or.inr ⟨by rfl, rfl⟩
  case hS6x1069 => assumption
  (try simp only [Act.put, List.setIfInBounds_toArray, List.set_cons_zero, List.set_cons_succ])
  refine' wpAnyH_take (i := 7) (v := .bool false) ?hi7x1070 ?hs7x1070 ?hf7x1070 ?hr7x1070 ?hQ7x1070 ?hy7x1070 ?hS7x1070 ?rest7x1070
  case hi7x1070 => (simp only [List.getElem?_toArray, List.getElem?_cons_succ, List.getElem?_cons_zero]; try rfl)
  case hs7x1070 => kernel_rfl
  case hf7x1070 => kernel_rfl
  case hr7x1070 => kernel_rfl
  case hQ7x1070 => exact fun _ _ _ h => h
  case hy7x1070 => exact Or.inl ⟨by rfl, by (intro w hSw; (try dsimp only at hSw); go_simp)⟩
  case hS7x1070 => assumption
  (try simp only [Act.put, List.setIfInBounds_toArray, List.set_cons_zero, List.set_cons_succ])
  refine' wpAnyH_take (i := 8) (v := .bool false) ?hi8x1071 ?hs8x1071 ?hf8x1071 ?hr8x1071 ?hQ8x1071 ?hy8x1071 ?hS8x1071 ?rest8x1071
  case hi8x1071 => (simp only [List.getElem?_toArray, List.getElem?_cons_succ, List.getElem?_cons_zero]; try rfl)
  case hs8x1071 => kernel_rfl
  case hf8x1071 => kernel_rfl
  case hr8x1071 => kernel_rfl
  case hQ8x1071 => exact fun _ _ _ h => h
  case hy8x1071 => exact Or.inl ⟨by rfl, by (intro w hSw; (try dsimp only at hSw); go_simp)⟩
  case hS8x1071 => assumption
  (try simp only [Act.put, List.setIfInBounds_toArray, List.set_cons_zero, List.set_cons_succ])
  refine' wpAnyH_take (i := 9) (v := .pointer (some ⟨w.heap.size + 1, 2, none⟩)) ?hi9x1072 ?hs9x1072 ?hf9x1072 ?hr9x1072 ?hQ9x1072 ?hy9x1072 ?hS9x1072 ?rest9x1072
  case hi9x1072 => (simp only [List.getElem?_toArray, List.getElem?_cons_succ, List.getElem?_cons_zero]; try rfl)
  case hs9x1072 => kernel_rfl
  case hf9x1072 => kernel_rfl
  case hr9x1072 => kernel_rfl
  case hQ9x1072 => exact fun _ _ _ h => h
  case hy9x1072 => exact Or.inl ⟨by rfl, by (intro w hSw; (try dsimp only at hSw); go_simp)⟩
  case hS9x1072 => assumption
  (try simp only [Act.put, List.setIfInBounds_toArray, List.set_cons_zero, List.set_cons_succ])
  refine' wpAnyH_take (i := 10) (v := .int .i64 n1) ?hi10x1073 ?hs10x1073 ?hf10x1073 ?hr10x1073 ?hQ10x1073 ?hy10x1073 ?hS10x1073 ?rest10x1073
  case hi10x1073 => (simp only [List.getElem?_toArray, List.getElem?_cons_succ, List.getElem?_cons_zero]; try rfl)
  case hs10x1073 => kernel_rfl
  case hf10x1073 => kernel_rfl
  case hr10x1073 => kernel_rfl
  case hQ10x1073 => exact fun _ _ _ h => h
  case hy10x1073 => exact Or.inl ⟨by rfl, by (intro w hSw; (try dsimp only at hSw); go_simp)⟩
  case hS10x1073 => assumption
  (try simp only [Act.put, List.setIfInBounds_toArray, List.set_cons_zero, List.set_cons_succ])
  refine' wpAnyH_take (i := 11) (v := .bool false) ?hi11x1074 ?hs11x1074 ?hf11x1074 ?hr11x1074 ?hQ11x1074 ?hy11x1074 ?hS11x1074 ?rest11x1074
  case hi11x1074 => (simp only [List.getElem?_toArray, List.getElem?_cons_succ, List.getElem?_cons_zero]; try rfl)
  case hs11x1074 => kernel_rfl
  case hf11x1074 => kernel_rfl
  case hr11x1074 => kernel_rfl
  case hQ11x1074 => exact fun _ _ _ h => h
  case hy11x1074 => exact Or.inl ⟨by rfl, by (intro w hSw; (try dsimp only at hSw); go_simp)⟩
  case hS11x1074 => assumption
  (try simp only [Act.put, List.setIfInBounds_toArray, List.set_cons_zero, List.set_cons_succ])
  refine' wpAnyH_take (i := 12) (v := .bool false) ?hi12x1075 ?hs12x1075 ?hf12x1075 ?hr12x1075 ?hQ12x1075 ?hy12x1075 ?hS12x1075 ?rest12x1075
  case hi12x1075 => (simp only [List.getElem?_toArray, List.getElem?_cons_succ, List.getElem?_cons_zero]; try rfl)
  case hs12x1075 => kernel_rfl
  case hf12x1075 => kernel_rfl
  case hr12x1075 => kernel_rfl
  case hQ12x1075 => exact fun _ _ _ h => h
  case hy12x1075 => exact Or.inl ⟨by rfl, by (intro w hSw; (try dsimp only at hSw); go_simp)⟩
  case hS12x1075 => assumption
  (try simp only [Act.put, List.setIfInBounds_toArray, List.set_cons_zero, List.set_cons_succ])
  refine' wpAnyH_take (i := 13) (v := undef) ?hi13x1076 ?hs13x1076 ?hf13x1076 ?hr13x1076 ?hQ13x1076 ?hy13x1076 ?hS13x1076 ?rest13x1076
  case hi13x1076 => (simp only [List.getElem?_toArray, List.getElem?_cons_succ, List.getElem?_cons_zero]; try rfl)
  case hs13x1076 => kernel_rfl
  case hf13x1076 => kernel_rfl
  case hr13x1076 => kernel_rfl
  case hQ13x1076 => exact fun _ _ _ h => h
  case hy13x1076 => exact Or.inr ⟨by rfl, rfl⟩
  case hS13x1076 => assumption
  (try simp only [Act.put, List.setIfInBounds_toArray, List.set_cons_zero, List.set_cons_succ])
  refine' wpAnyH_take (i := 14) (v := undef) ?hi14x1077 ?hs14x1077 ?hf14x1077 ?hr14x1077 ?hQ14x1077 ?hy14x1077 ?hS14x1077 ?rest14x1077
  case hi14x1077 => (simp only [List.getElem?_toArray, List.getElem?_cons_succ, List.getElem?_cons_zero]; try rfl)
  case hs14x1077 => kernel_rfl
  case hf14x1077 => kernel_rfl
  case hr14x1077 => kernel_rfl
  case hQ14x1077 => exact fun _ _ _ h => h
  case hy14x1077 => exact Or.inr ⟨by rfl, rfl⟩
  case hS14x1077 => assumption
  (try simp only [Act.put, List.setIfInBounds_toArray, List.set_cons_zero, List.set_cons_succ])
  refine' wpAnyH_take (i := 15) (v := undef) ?hi15x1078 ?hs15x1078 ?hf15x1078 ?hr15x1078 ?hQ15x1078 ?hy15x1078 ?hS15x1078 ?rest15x1078
  case hi15x1078 => (simp only [List.getElem?_toArray, List.getElem?_cons_succ, List.getElem?_cons_zero]; try rfl)
  case hs15x1078 => kernel_rfl
  case hf15x1078 => kernel_rfl
  case hr15x1078 => kernel_rfl
  case hQ15x1078 => exact fun _ _ _ h => h
  case hy15x1078 => exact Or.inr ⟨by rfl, rfl⟩
  case hS15x1078 => assumption
  (try simp only [Act.put, List.setIfInBounds_toArray, List.set_cons_zero, List.set_cons_succ])
  refine' wpAnyH_take (i := 16) (v := .bool false) ?hi16x1079 ?hs16x1079 ?hf16x1079 ?hr16x1079 ?hQ16x1079 ?hy16x1079 ?hS16x1079 ?rest16x1079
  case hi16x1079 => (simp only [List.getElem?_toArray, List.getElem?_cons_succ, List.getElem?_cons_zero]; try rfl)
  case hs16x1079 => kernel_rfl
  case hf16x1079 => kernel_rfl
  case hr16x1079 => kernel_rfl
  case hQ16x1079 => exact fun _ _ _ h => h
  case hy16x1079 => exact Or.inl ⟨by rfl, by (intro w hSw; (try dsimp only at hSw); go_simp)⟩
  case hS16x1079 => assumption
  (try simp only [Act.put, List.setIfInBounds_toArray, List.set_cons_zero, List.set_cons_succ])
  refine' wpAnyH_take (i := 17) (v := .bool false) ?hi17x1080 ?hs17x1080 ?hf17x1080 ?hr17x1080 ?hQ17x1080 ?hy17x1080 ?hS17x1080 ?rest17x1080
  case hi17x1080 => (simp only [List.getElem?_toArray, List.getElem?_cons_succ, List.getElem?_cons_zero]; try rfl)
  case hs17x1080 => kernel_rfl
  case hf17x1080 => kernel_rfl
  case hr17x1080 => kernel_rfl
  case hQ17x1080 => exact fun _ _ _ h => h
  case hy17x1080 => exact Or.inl ⟨by rfl, by (intro w hSw; (try dsimp only at hSw); go_simp)⟩
  case hS17x1080 => assumption
  (try simp only [Act.put, List.setIfInBounds_toArray, List.set_cons_zero, List.set_cons_succ])
  refine' wpAnyH_take (i := 18) (v := .bool false) ?hi18x1081 ?hs18x1081 ?hf18x1081 ?hr18x1081 ?hQ18x1081 ?hy18x1081 ?hS18x1081 ?rest18x1081
  case hi18x1081 => (simp only [List.getElem?_toArray, List.getElem?_cons_succ, List.getElem?_cons_zero]; try rfl)
  case hs18x1081 => kernel_rfl
  case hf18x1081 => kernel_rfl
  case hr18x1081 => kernel_rfl
  case hQ18x1081 => exact fun _ _ _ h => h
  case hy18x1081 => exact Or.inl ⟨by rfl, by (intro w hSw; (try dsimp only at hSw); go_simp)⟩
  case hS18x1081 => assumption
  (try simp only [Act.put, List.setIfInBounds_toArray, List.set_cons_zero, List.set_cons_succ])
  refine' wpAnyH_take (i := 19) (v := .pointer (some ⟨w.heap.size, 2, none⟩)) ?hi19x1082 ?hs19x1082 ?hf19x1082 ?hr19x1082 ?hQ19x1082 ?hy19x1082 ?hS19x1082 ?rest19x1082
  case hi19x1082 => (simp only [List.getElem?_toArray, List.getElem?_cons_succ, List.getElem?_cons_zero]; try rfl)
  case hs19x1082 => kernel_rfl
  case hf19x1082 => kernel_rfl
  case hr19x1082 => kernel_rfl
  case hQ19x1082 => exact fun _ _ _ h => h
  case hy19x1082 => exact Or.inl ⟨by rfl, by (intro w hSw; (try dsimp only at hSw); go_simp)⟩
  case hS19x1082 => assumption
  (try simp only [Act.put, List.setIfInBounds_toArray, List.set_cons_zero, List.set_cons_succ])
  refine' wpAnyH_take (i := 20) (v := .int .i64 n0) ?hi20x1083 ?hs20x1083 ?hf20x1083 ?hr20x1083 ?hQ20x1083 ?hy20x1083 ?hS20x1083 ?rest20x1083
  case hi20x1083 => (simp only [List.getElem?_toArray, List.getElem?_cons_succ, List.getElem?_cons_zero]; try rfl)
  case hs20x1083 => kernel_rfl
  case hf20x1083 => kernel_rfl
  case hr20x1083 => kernel_rfl
  case hQ20x1083 => exact fun _ _ _ h => h
  case hy20x1083 => exact Or.inl ⟨by rfl, by (intro w hSw; (try dsimp only at hSw); go_simp)⟩
  case hS20x1083 => assumption
  (try simp only [Act.put, List.setIfInBounds_toArray, List.set_cons_zero, List.set_cons_succ])
  refine' wpAnyH_take (i := 21) (v := .bool true) ?hi21x1084 ?hs21x1084 ?hf21x1084 ?hr21x1084 ?hQ21x1084 ?hy21x1084 ?hS21x1084 ?rest21x1084
  case hi21x1084 => (simp only [List.getElem?_toArray, List.getElem?_cons_succ, List.getElem?_cons_zero]; try rfl)
  case hs21x1084 => kernel_rfl
  case hf21x1084 => kernel_rfl
  case hr21x1084 => kernel_rfl
  case hQ21x1084 => exact fun _ _ _ h => h
  case hy21x1084 => exact Or.inl ⟨by rfl, by (intro w hSw; (try dsimp only at hSw); go_simp)⟩
  case hS21x1084 => assumption
  (try simp only [Act.put, List.setIfInBounds_toArray, List.set_cons_zero, List.set_cons_succ])
  refine' wpAnyH_take (i := 22) (v := .bool true) ?hi22x1085 ?hs22x1085 ?hf22x1085 ?hr22x1085 ?hQ22x1085 ?hy22x1085 ?hS22x1085 ?rest22x1085
  case hi22x1085 => (simp only [List.getElem?_toArray, List.getElem?_cons_succ, List.getElem?_cons_zero]; try rfl)
  case hs22x1085 => kernel_rfl
  case hf22x1085 => kernel_rfl
  case hr22x1085 => kernel_rfl
  case hQ22x1085 => exact fun _ _ _ h => h
  case hy22x1085 => exact Or.inl ⟨by rfl, by (intro w hSw; (try dsimp only at hSw); go_simp)⟩
  case hS22x1085 => assumption
  (try simp only [Act.put, List.setIfInBounds_toArray, List.set_cons_zero, List.set_cons_succ])
  refine' wpAnyH_take (i := 23) (v := .pointer (some ⟨w.heap.size, 2, none⟩)) ?hi23x1086 ?hs23x1086 ?hf23x1086 ?hr23x1086 ?hQ23x1086 ?hy23x1086 ?hS23x1086 ?rest23x1086
  case hi23x1086 => (simp only [List.getElem?_toArray, List.getElem?_cons_succ, List.getElem?_cons_zero]; try rfl)
  case hs23x1086 => kernel_rfl
  case hf23x1086 => kernel_rfl
  case hr23x1086 => kernel_rfl
  case hQ23x1086 => exact fun _ _ _ h => h
  case hy23x1086 => exact Or.inl ⟨by rfl, by (intro w hSw; (try dsimp only at hSw); go_simp)⟩
  case hS23x1086 => assumption
  (try simp only [Act.put, List.setIfInBounds_toArray, List.set_cons_zero, List.set_cons_succ])
  refine' wpAnyH_take (i := 24) (v := .int .i64 n0) ?hi24x1087 ?hs24x1087 ?hf24x1087 ?hr24x1087 ?hQ24x1087 ?hy24x1087 ?hS24x1087 ?rest24x1087
  case hi24x1087 => (simp only [List.getElem?_toArray, List.getElem?_cons_succ, List.getElem?_cons_zero]; try rfl)
  case hs24x1087 => kernel_rfl
  case hf24x1087 => kernel_rfl
  case hr24x1087 => kernel_rfl
  case hQ24x1087 => exact fun _ _ _ h => h
  case hy24x1087 => exact Or.inl ⟨by rfl, by (intro w hSw; (try dsimp only at hSw); go_simp)⟩
  case hS24x1087 => assumption
  (try simp only [Act.put, List.setIfInBounds_toArray, List.set_cons_zero, List.set_cons_succ])
  refine' wpAnyH_take (i := 25) (v := .bool true) ?hi25x1088 ?hs25x1088 ?hf25x1088 ?hr25x1088 ?hQ25x1088 ?hy25x1088 ?hS25x1088 ?rest25x1088
  case hi25x1088 => (simp only [List.getElem?_toArray, List.getElem?_cons_succ, List.getElem?_cons_zero]; try rfl)
  case hs25x1088 => kernel_rfl
  case hf25x1088 => kernel_rfl
  case hr25x1088 => kernel_rfl
  case hQ25x1088 => exact fun _ _ _ h => h
  case hy25x1088 => exact Or.inl ⟨by rfl, by (intro w hSw; (try dsimp only at hSw); go_simp)⟩
  case hS25x1088 => assumption
  (try simp only [Act.put, List.setIfInBounds_toArray, List.set_cons_zero, List.set_cons_succ])
  refine' wpAnyH_take (i := 26) (v := .bool true) ?hi26x1089 ?hs26x1089 ?hf26x1089 ?hr26x1089 ?hQ26x1089 ?hy26x1089 ?hS26x1089 ?rest26x1089
  case hi26x1089 => (simp only [List.getElem?_toArray, List.getElem?_cons_succ, List.getElem?_cons_zero]; try rfl)
  case hs26x1089 => kernel_rfl
  case hf26x1089 => kernel_rfl
  case hr26x1089 => kernel_rfl
  case hQ26x1089 => exact fun _ _ _ h => h
  case hy26x1089 => exact Or.inl ⟨by rfl, by (intro w hSw; (try dsimp only at hSw); go_simp)⟩
  case hS26x1089 => assumption
  (try simp only [Act.put, List.setIfInBounds_toArray, List.set_cons_zero, List.set_cons_succ])
  refine' wpAnyH_take (i := 27) (v := .bool true) ?hi27x1090 ?hs27x1090 ?hf27x1090 ?hr27x1090 ?hQ27x1090 ?hy27x1090 ?hS27x1090 ?rest27x1090
  case hi27x1090 => (simp only [List.getElem?_toArray, List.getElem?_cons_succ, List.getElem?_cons_zero]; try rfl)
  case hs27x1090 => kernel_rfl
  case hf27x1090 => kernel_rfl
  case hr27x1090 => kernel_rfl
  case hQ27x1090 => exact fun _ _ _ h => h
  case hy27x1090 => exact Or.inl ⟨by rfl, by (intro w hSw; (try dsimp only at hSw); go_simp)⟩
  case hS27x1090 => assumption
  (try simp only [Act.put, List.setIfInBounds_toArray, List.set_cons_zero, List.set_cons_succ])
  refine' wpAnyH_take (i := 28) (v := .int .i64 m) ?hi28x1091 ?hs28x1091 ?hf28x1091 ?hr28x1091 ?hQ28x1091 ?hy28x1091 ?hS28x1091 ?rest28x1091
  case hi28x1091 => (simp only [List.getElem?_toArray, List.getElem?_cons_succ, List.getElem?_cons_zero]; try rfl)
  case hs28x1091 => kernel_rfl
  case hf28x1091 => kernel_rfl
  case hr28x1091 => kernel_rfl
  case hQ28x1091 => exact fun _ _ _ h => h
  case hy28x1091 => exact Or.inl ⟨by rfl, by (intro w hSw; (try dsimp only at hSw); go_simp)⟩
  case hS28x1091 => assumption
  (try simp only [Act.put, List.setIfInBounds_toArray, List.set_cons_zero, List.set_cons_succ])
  refine' wpAnyH_take (i := 29) (v := .pointer (some ⟨w.heap.size, 2, none⟩)) ?hi29x1092 ?hs29x1092 ?hf29x1092 ?hr29x1092 ?hQ29x1092 ?hy29x1092 ?hS29x1092 ?rest29x1092
  case hi29x1092 => (simp only [List.getElem?_toArray, List.getElem?_cons_succ, List.getElem?_cons_zero]; try rfl)
  case hs29x1092 => kernel_rfl
  case hf29x1092 => kernel_rfl
  case hr29x1092 => kernel_rfl
  case hQ29x1092 => exact fun _ _ _ h => h
  case hy29x1092 => exact Or.inl ⟨by rfl, by (intro w hSw; (try dsimp only at hSw); go_simp)⟩
  case hS29x1092 => assumption
  (try simp only [Act.put, List.setIfInBounds_toArray, List.set_cons_zero, List.set_cons_succ])
  refine' wpAnyH_take (i := 30) (v := .int .i64 n0) ?hi30x1093 ?hs30x1093 ?hf30x1093 ?hr30x1093 ?hQ30x1093 ?hy30x1093 ?hS30x1093 ?rest30x1093
  case hi30x1093 => (simp only [List.getElem?_toArray, List.getElem?_cons_succ, List.getElem?_cons_zero]; try rfl)
  case hs30x1093 => kernel_rfl
  case hf30x1093 => kernel_rfl
  case hr30x1093 => kernel_rfl
  case hQ30x1093 => exact fun _ _ _ h => h
  case hy30x1093 => exact Or.inl ⟨by rfl, by (intro w hSw; (try dsimp only at hSw); go_simp)⟩
  case hS30x1093 => assumption
  (try simp only [Act.put, List.setIfInBounds_toArray, List.set_cons_zero, List.set_cons_succ])
  refine' wpAnyH_take (i := 31) (v := .int .i64 q) ?hi31x1094 ?hs31x1094 ?hf31x1094 ?hr31x1094 ?hQ31x1094 ?hy31x1094 ?hS31x1094 ?rest31x1094
  case hi31x1094 => (simp only [List.getElem?_toArray, List.getElem?_cons_succ, List.getElem?_cons_zero]; try rfl)
  case hs31x1094 => kernel_rfl
  case hf31x1094 => kernel_rfl
  case hr31x1094 => kernel_rfl
  case hQ31x1094 => exact fun _ _ _ h => h
  case hy31x1094 => exact Or.inl ⟨by rfl, by (intro w hSw; (try dsimp only at hSw); go_simp)⟩
  case hS31x1094 => assumption
  (try simp only [Act.put, List.setIfInBounds_toArray, List.set_cons_zero, List.set_cons_succ])
  refine' wpAnyH_take (i := 32) (v := .pointer (some ⟨w.heap.size + 1, 2, none⟩)) ?hi32x1095 ?hs32x1095 ?hf32x1095 ?hr32x1095 ?hQ32x1095 ?hy32x1095 ?hS32x1095 ?rest32x1095
  case hi32x1095 => (simp only [List.getElem?_toArray, List.getElem?_cons_succ, List.getElem?_cons_zero]; try rfl)
  case hs32x1095 => kernel_rfl
  case hf32x1095 => kernel_rfl
  case hr32x1095 => kernel_rfl
  case hQ32x1095 => exact fun _ _ _ h => h
  case hy32x1095 => exact Or.inl ⟨by rfl, by (intro w hSw; (try dsimp only at hSw); go_simp)⟩
  case hS32x1095 => assumption
  (try simp only [Act.put, List.setIfInBounds_toArray, List.set_cons_zero, List.set_cons_succ])
  refine' wpAnyH_take (i := 33) (v := .int .i64 n1) ?hi33x1096 ?hs33x1096 ?hf33x1096 ?hr33x1096 ?hQ33x1096 ?hy33x1096 ?hS33x1096 ?rest33x1096
  case hi33x1096 => (simp only [List.getElem?_toArray, List.getElem?_cons_succ, List.getElem?_cons_zero]; try rfl)
  case hs33x1096 => kernel_rfl
  case hf33x1096 => kernel_rfl
  case hr33x1096 => kernel_rfl
  case hQ33x1096 => exact fun _ _ _ h => h
  case hy33x1096 => exact Or.inl ⟨by rfl, by (intro w hSw; (try dsimp only at hSw); go_simp)⟩
  case hS33x1096 => assumption
  (try simp only [Act.put, List.setIfInBounds_toArray, List.set_cons_zero, List.set_cons_succ])
  refine' wpAnyH_take (i := 34) (v := .bool false) ?hi34x1097 ?hs34x1097 ?hf34x1097 ?hr34x1097 ?hQ34x1097 ?hy34x1097 ?hS34x1097 ?rest34x1097
  case hi34x1097 => (simp only [List.getElem?_toArray, List.getElem?_cons_succ, List.getElem?_cons_zero]; try rfl)
  case hs34x1097 => kernel_rfl
  case hf34x1097 => kernel_rfl
  case hr34x1097 => kernel_rfl
  case hQ34x1097 => exact fun _ _ _ h => h
  case hy34x1097 => exact Or.inl ⟨by rfl, by (intro w hSw; (try dsimp only at hSw); go_simp)⟩
  case hS34x1097 => assumption
  (try simp only [Act.put, List.setIfInBounds_toArray, List.set_cons_zero, List.set_cons_succ])
  refine' wpAnyH_take (i := 35) (v := .bool false) ?hi35x1098 ?hs35x1098 ?hf35x1098 ?hr35x1098 ?hQ35x1098 ?hy35x1098 ?hS35x1098 ?rest35x1098
  case hi35x1098 => (simp only [List.getElem?_toArray, List.getElem?_cons_succ, List.getElem?_cons_zero]; try rfl)
  case hs35x1098 => kernel_rfl
  case hf35x1098 => kernel_rfl
  case hr35x1098 => kernel_rfl
  case hQ35x1098 => exact fun _ _ _ h => h
  case hy35x1098 => exact Or.inl ⟨by rfl, by (intro w hSw; (try dsimp only at hSw); go_simp)⟩
  case hS35x1098 => assumption
  (try simp only [Act.put, List.setIfInBounds_toArray, List.set_cons_zero, List.set_cons_succ])
  refine' wpAnyH_take (i := 36) (v := .bool false) ?hi36x1099 ?hs36x1099 ?hf36x1099 ?hr36x1099 ?hQ36x1099 ?hy36x1099 ?hS36x1099 ?rest36x1099
  case hi36x1099 => (simp only [List.getElem?_toArray, List.getElem?_cons_succ, List.getElem?_cons_zero]; try rfl)
  case hs36x1099 => kernel_rfl
  case hf36x1099 => kernel_rfl
  case hr36x1099 => kernel_rfl
  case hQ36x1099 => exact fun _ _ _ h => h
  case hy36x1099 => exact Or.inl ⟨by rfl, by (intro w hSw; (try dsimp only at hSw); go_simp)⟩
  case hS36x1099 => assumption
  (try simp only [Act.put, List.setIfInBounds_toArray, List.set_cons_zero, List.set_cons_succ])
  refine' wpAnyH_take (i := 37) (v := .bool false) ?hi37x1100 ?hs37x1100 ?hf37x1100 ?hr37x1100 ?hQ37x1100 ?hy37x1100 ?hS37x1100 ?rest37x1100
  case hi37x1100 => (simp only [List.getElem?_toArray, List.getElem?_cons_succ, List.getElem?_cons_zero]; try rfl)
  case hs37x1100 => kernel_rfl
  case hf37x1100 => kernel_rfl
  case hr37x1100 => kernel_rfl
  case hQ37x1100 => exact fun _ _ _ h => h
  case hy37x1100 => exact Or.inl ⟨by rfl, by (intro w hSw; (try dsimp only at hSw); go_simp)⟩
  case hS37x1100 => assumption
  (try simp only [Act.put, List.setIfInBounds_toArray, List.set_cons_zero, List.set_cons_succ])
  refine wpAnyH_done (by kernel_rfl) ?_ _
  refine NoPanic.normal ?_
  clear hHeld
  go_wp2_with fail
  refine wp_region_noPanic ?_
  refine wp_region_held_drew (S := (fun w' => w'.cell? ⟨w.heap.size, 0, none⟩ = some (.int .u8 k0) ∧ w'.cell? ⟨w.heap.size, 1, none⟩ = some (.bool b0) ∧ w'.cell? ⟨w.heap.size, 2, none⟩ = some (.int .i64 n0) ∧ w'.cell? ⟨w.heap.size, 3, none⟩ = some (.string s0) ∧ w'.cell? ⟨w.heap.size + 1, 0, none⟩ = some (.int .u8 k1) ∧ w'.cell? ⟨w.heap.size + 1, 1, none⟩ = some (.bool b1) ∧ w'.cell? ⟨w.heap.size + 1, 2, none⟩ = some (.int .i64 n1) ∧ w'.cell? ⟨w.heap.size + 1, 3, none⟩ = some (.string s1))) (by kernel_rfl) (by first | exact ⟨a0_, a1_, a2_, a3_, b0_, b1_, b2_, b3_⟩ | go_keep) (fun hHeld => ?_)
  refine' wpAnyH_take (i := 0) (v := .int .i64 m) ?hi0x1101 ?hs0x1101 ?hf0x1101 ?hr0x1101 ?hQ0x1101 ?hy0x1101 ?hS0x1101 ?rest0x1101
  case hi0x1101 => (simp only [List.getElem?_toArray, List.getElem?_cons_succ, List.getElem?_cons_zero]; try rfl)
  case hs0x1101 => kernel_rfl
  case hf0x1101 => kernel_rfl
  case hr0x1101 => kernel_rfl
  case hQ0x1101 => exact fun _ _ _ h => h
  case hy0x1101 => exact Or.inl ⟨by rfl, by (intro w hSw; (try dsimp only at hSw); go_simp)⟩
  case hS0x1101 => assumption
  (try simp only [Act.put, List.setIfInBounds_toArray, List.set_cons_zero, List.set_cons_succ])
  refine' wpAnyH_take (i := 1) (v := .bool false) ?hi1x1102 ?hs1x1102 ?hf1x1102 ?hr1x1102 ?hQ1x1102 ?hy1x1102 ?hS1x1102 ?rest1x1102
  case hi1x1102 => (simp only [List.getElem?_toArray, List.getElem?_cons_succ, List.getElem?_cons_zero]; try rfl)
  case hs1x1102 => kernel_rfl
  case hf1x1102 => kernel_rfl
  case hr1x1102 => kernel_rfl
  case hQ1x1102 => exact fun _ _ _ h => h
  case hy1x1102 => exact Or.inl ⟨by rfl, by (intro w hSw; (try dsimp only at hSw); go_simp)⟩
  case hS1x1102 => assumption
  (try simp only [Act.put, List.setIfInBounds_toArray, List.set_cons_zero, List.set_cons_succ])
  refine' wpAnyH_take (i := 3) (v := .agg #[.int .u8 k0, .bool b0, .int .i64 n0, .string s0]) ?hi3x1103 ?hs3x1103 ?hf3x1103 ?hr3x1103 ?hQ3x1103 ?hy3x1103 ?hS3x1103 ?rest3x1103
  case hi3x1103 => (simp only [List.getElem?_toArray, List.getElem?_cons_succ, List.getElem?_cons_zero]; try rfl)
  case hs3x1103 => kernel_rfl
  case hf3x1103 => kernel_rfl
  case hr3x1103 => kernel_rfl
  case hQ3x1103 => exact fun _ _ _ h => h
  case hy3x1103 => exact Or.inl ⟨by rfl, by (intro w hSw; (try dsimp only at hSw); go_simp)⟩
  case hS3x1103 => assumption
  (try simp only [Act.put, List.setIfInBounds_toArray, List.set_cons_zero, List.set_cons_succ])
  refine' wpAnyH_take (i := 4) (v := .agg #[.int .u8 k1, .bool b1, .int .i64 n1, .string s1]) ?hi4x1104 ?hs4x1104 ?hf4x1104 ?hr4x1104 ?hQ4x1104 ?hy4x1104 ?hS4x1104 ?rest4x1104
  case hi4x1104 => (simp only [List.getElem?_toArray, List.getElem?_cons_succ, List.getElem?_cons_zero]; try rfl)
  case hs4x1104 => kernel_rfl
  case hf4x1104 => kernel_rfl
  case hr4x1104 => kernel_rfl
  case hQ4x1104 => exact fun _ _ _ h => h
  case hy4x1104 => exact Or.inl ⟨by rfl, by (intro w hSw; (try dsimp only at hSw); go_simp)⟩
  case hS4x1104 => assumption
  (try simp only [Act.put, List.setIfInBounds_toArray, List.set_cons_zero, List.set_cons_succ])
  refine wpAnyH_ready (rs := [2, 5]) (by kernel_rfl) (by simp) ?_
  refine' AllReadyH.cons (i := 2) ?ho2x1105 (fun K hK => ?st2x1105) (AllReadyH.cons (i := 5) ?ho5x1106 (fun K hK => ?st5x1106) AllReadyH.nil)
  case ho2x1105 => (simp only [List.getElem?_toArray, List.getElem?_cons_succ, List.getElem?_cons_zero]; try rfl)
  case ho5x1106 => (simp only [List.getElem?_toArray, List.getElem?_cons_succ, List.getElem?_cons_zero]; try rfl)
  case st2x1105 =>
    go_simp
    refine (refOver_any _ _).mono ?_
    rintro e w' ⟨rfl, rfl⟩
    go_wp2_with fail
    refine hK.out _ _ ?_ (fun hHeld => ?_)
    · (first | exact ⟨a0_, a1_, a2_, a3_, b0_, b1_, b2_, b3_⟩ | go_keep)
    clear hK K
    (try simp only [Act.put, List.setIfInBounds_toArray, List.set_cons_zero, List.set_cons_succ])
    refine wpAnyH_ready (rs := [5]) (by kernel_rfl) (by simp) ?_
    refine' AllReadyH.cons (i := 5) ?ho5x1107 (fun K hK => ?st5x1107) AllReadyH.nil
    case ho5x1107 => (simp only [List.getElem?_toArray, List.getElem?_cons_succ, List.getElem?_cons_zero]; try rfl)
    go_simp
    refine hK.out _ _ ?_ (fun hHeld => ?_)
    · (first | exact ⟨a0_, a1_, a2_, a3_, b0_, b1_, b2_, b3_⟩ | go_keep)
    clear hK K
    (try simp only [Act.put, List.setIfInBounds_toArray, List.set_cons_zero, List.set_cons_succ])
    refine wpAnyH_ready (rs := [6]) (by kernel_rfl) (by simp) ?_
    refine' AllReadyH.cons (i := 6) ?ho6x1108 (fun K hK => ?st6x1108) AllReadyH.nil
    case ho6x1108 => (simp only [List.getElem?_toArray, List.getElem?_cons_succ, List.getElem?_cons_zero]; try rfl)
    go_simp
    refine (refNum2_any _ _ k0 b0 n0 s0 k1 b1 n1 s1 _ _ _ (by exact heap_at _ _ _ (by first | rfl | simp)) hs0H.out hs1H.out).mono ?_
    rw [hrH.out, refVm]
    rintro e w' ⟨rfl, hb'⟩
    replace hb := chainB (B := W0.heap.size) (a := W0) (by go_grown) hb' (by have := hb.size; first | omega | (simp; done) | (simp; omega))
    clear hb' a0_ a1_ a2_ a3_ b0_ b1_ b2_ b3_ r0_ r1_ r2_ r3_ f0_ f1_ f2_ f3_ hz hs
    obtain ⟨a0_, a1_, a2_, a3_⟩ := (hAH.out.below hb).cells; obtain ⟨b0_, b1_, b2_, b3_⟩ := (hBH.out.below hb).cells; obtain ⟨r0_, r1_, r2_, r3_⟩ := (hRH.out.below hb).cells; obtain ⟨f0_, f1_, f2_, f3_⟩ := (hRH.out.below hb).free; have hz := Nat.lt_of_lt_of_le hz0.out hb.size; have hs := hb.size
    go_wp2_with fail
    refine hK.out _ _ ?_ (fun hHeld => ?_)
    · (first | exact ⟨a0_, a1_, a2_, a3_, b0_, b1_, b2_, b3_⟩ | go_keep)
    clear hK K
    (try simp only [Act.put, List.setIfInBounds_toArray, List.set_cons_zero, List.set_cons_succ])
    refine' wpAnyH_take (i := 7) (v := .agg #[.int .u8 k', .bool b', .int .i64 n', .string s']) ?hi7x1109 ?hs7x1109 ?hf7x1109 ?hr7x1109 ?hQ7x1109 ?hy7x1109 ?hS7x1109 ?rest7x1109
    case hi7x1109 => (simp only [List.getElem?_toArray, List.getElem?_cons_succ, List.getElem?_cons_zero]; try rfl)
    case hs7x1109 => kernel_rfl
    case hf7x1109 => kernel_rfl
    case hr7x1109 => kernel_rfl
    case hQ7x1109 => exact fun _ _ _ h => h
    case hy7x1109 => exact Or.inl ⟨by rfl, by (intro w hSw; (try dsimp only at hSw); go_simp)⟩
    case hS7x1109 => assumption
    (try simp only [Act.put, List.setIfInBounds_toArray, List.set_cons_zero, List.set_cons_succ])
    refine' wpAnyH_take (i := 8) (v := .int .i64 x) ?hi8x1110 ?hs8x1110 ?hf8x1110 ?hr8x1110 ?hQ8x1110 ?hy8x1110 ?hS8x1110 ?rest8x1110
    case hi8x1110 => (simp only [List.getElem?_toArray, List.getElem?_cons_succ, List.getElem?_cons_zero]; try rfl)
    case hs8x1110 => kernel_rfl
    case hf8x1110 => kernel_rfl
    case hr8x1110 => kernel_rfl
    case hQ8x1110 => exact fun _ _ _ h => h
    case hy8x1110 => exact Or.inl ⟨by rfl, by (intro w hSw; (try dsimp only at hSw); go_simp)⟩
    case hS8x1110 => assumption
    (try simp only [Act.put, List.setIfInBounds_toArray, List.set_cons_zero, List.set_cons_succ])
    have hne1 : ¬ (w.heap.size + 1 + 1 = w.heap.size) := by omega
    have hne2 : ¬ (w.heap.size = w.heap.size + 1 + 1) := by omega
    refine wpAnyH_ready (rs := [9]) (by kernel_rfl) (by simp) ?_
    refine' AllReadyH.cons (i := 9) ?ho9x1111 (fun K hK => ?st9x1111) AllReadyH.nil
    case ho9x1111 => (simp only [List.getElem?_toArray, List.getElem?_cons_succ, List.getElem?_cons_zero]; try rfl)
    go_simp
    refine hK.out _ _ ?_ (fun hHeld => ?_)
    · (first | exact ⟨a0_, a1_, a2_, a3_, b0_, b1_, b2_, b3_⟩ | go_keep)
    clear hK K
    (try simp only [Act.put, List.setIfInBounds_toArray, List.set_cons_zero, List.set_cons_succ])
    refine' wpAnyH_take (i := 10) (v := .int .i64 x) ?hi10x1112 ?hs10x1112 ?hf10x1112 ?hr10x1112 ?hQ10x1112 ?hy10x1112 ?hS10x1112 ?rest10x1112
    case hi10x1112 => (simp only [List.getElem?_toArray, List.getElem?_cons_succ, List.getElem?_cons_zero]; try rfl)
    case hs10x1112 => kernel_rfl
    case hf10x1112 => kernel_rfl
    case hr10x1112 => kernel_rfl
    case hQ10x1112 => exact fun _ _ _ h => h
    case hy10x1112 => exact Or.inl ⟨by rfl, by (intro w hSw; (try dsimp only at hSw); go_simp)⟩
    case hS10x1112 => assumption
    (try simp only [Act.put, List.setIfInBounds_toArray, List.set_cons_zero, List.set_cons_succ])
    refine wpAnyH_done (by kernel_rfl) ?_ _
    refine NoPanic.normal ?_
    clear hne1 hne2
    go_wp2
    refine bodyPost_ret (v := .tuple #[.agg #[.int .u8 k', .bool b', .int .i64 n', .string s'], .int .i64 x]) (by simp [results, Tryd.results34, go_sem, r0_, r1_, r2_, r3_, hz]) rfl ⟨rfl, ?_⟩
    have hbw := hwWH.out.trans (hb.mono hwWH.out.size)
    clear hb
    go_grown
  case st5x1106 =>
    go_simp
    refine hK.out _ _ ?_ (fun hHeld => ?_)
    · (first | exact ⟨a0_, a1_, a2_, a3_, b0_, b1_, b2_, b3_⟩ | go_keep)
    clear hK K
    (try simp only [Act.put, List.setIfInBounds_toArray, List.set_cons_zero, List.set_cons_succ])
    refine wpAnyH_ready (rs := [2]) (by kernel_rfl) (by simp) ?_
    refine' AllReadyH.cons (i := 2) ?ho2x1113 (fun K hK => ?st2x1113) AllReadyH.nil
    case ho2x1113 => (simp only [List.getElem?_toArray, List.getElem?_cons_succ, List.getElem?_cons_zero]; try rfl)
    go_simp
    refine (refOver_any _ _).mono ?_
    rintro e w' ⟨rfl, rfl⟩
    go_wp2_with fail
    refine hK.out _ _ ?_ (fun hHeld => ?_)
    · (first | exact ⟨a0_, a1_, a2_, a3_, b0_, b1_, b2_, b3_⟩ | go_keep)
    clear hK K
    (try simp only [Act.put, List.setIfInBounds_toArray, List.set_cons_zero, List.set_cons_succ])
    refine wpAnyH_ready (rs := [6]) (by kernel_rfl) (by simp) ?_
    refine' AllReadyH.cons (i := 6) ?ho6x1114 (fun K hK => ?st6x1114) AllReadyH.nil
    case ho6x1114 => (simp only [List.getElem?_toArray, List.getElem?_cons_succ, List.getElem?_cons_zero]; try rfl)
    go_simp
    refine (refNum2_any _ _ k0 b0 n0 s0 k1 b1 n1 s1 _ _ _ (by exact heap_at _ _ _ (by first | rfl | simp)) hs0H.out hs1H.out).mono ?_
    rw [hrH.out, refVm]
    rintro e w' ⟨rfl, hb'⟩
    replace hb := chainB (B := W0.heap.size) (a := W0) (by go_grown) hb' (by have := hb.size; first | omega | (simp; done) | (simp; omega))
    clear hb' a0_ a1_ a2_ a3_ b0_ b1_ b2_ b3_ r0_ r1_ r2_ r3_ f0_ f1_ f2_ f3_ hz hs
    obtain ⟨a0_, a1_, a2_, a3_⟩ := (hAH.out.below hb).cells; obtain ⟨b0_, b1_, b2_, b3_⟩ := (hBH.out.below hb).cells; obtain ⟨r0_, r1_, r2_, r3_⟩ := (hRH.out.below hb).cells; obtain ⟨f0_, f1_, f2_, f3_⟩ := (hRH.out.below hb).free; have hz := Nat.lt_of_lt_of_le hz0.out hb.size; have hs := hb.size
    go_wp2_with fail
    refine hK.out _ _ ?_ (fun hHeld => ?_)
    · (first | exact ⟨a0_, a1_, a2_, a3_, b0_, b1_, b2_, b3_⟩ | go_keep)
    clear hK K
    (try simp only [Act.put, List.setIfInBounds_toArray, List.set_cons_zero, List.set_cons_succ])
    refine' wpAnyH_take (i := 7) (v := .agg #[.int .u8 k', .bool b', .int .i64 n', .string s']) ?hi7x1115 ?hs7x1115 ?hf7x1115 ?hr7x1115 ?hQ7x1115 ?hy7x1115 ?hS7x1115 ?rest7x1115
    case hi7x1115 => (simp only [List.getElem?_toArray, List.getElem?_cons_succ, List.getElem?_cons_zero]; try rfl)
    case hs7x1115 => kernel_rfl
    case hf7x1115 => kernel_rfl
    case hr7x1115 => kernel_rfl
    case hQ7x1115 => exact fun _ _ _ h => h
    case hy7x1115 => exact Or.inl ⟨by rfl, by (intro w hSw; (try dsimp only at hSw); go_simp)⟩
    case hS7x1115 => assumption
    (try simp only [Act.put, List.setIfInBounds_toArray, List.set_cons_zero, List.set_cons_succ])
    refine' wpAnyH_take (i := 8) (v := .int .i64 x) ?hi8x1116 ?hs8x1116 ?hf8x1116 ?hr8x1116 ?hQ8x1116 ?hy8x1116 ?hS8x1116 ?rest8x1116
    case hi8x1116 => (simp only [List.getElem?_toArray, List.getElem?_cons_succ, List.getElem?_cons_zero]; try rfl)
    case hs8x1116 => kernel_rfl
    case hf8x1116 => kernel_rfl
    case hr8x1116 => kernel_rfl
    case hQ8x1116 => exact fun _ _ _ h => h
    case hy8x1116 => exact Or.inl ⟨by rfl, by (intro w hSw; (try dsimp only at hSw); go_simp)⟩
    case hS8x1116 => assumption
    (try simp only [Act.put, List.setIfInBounds_toArray, List.set_cons_zero, List.set_cons_succ])
    have hne1 : ¬ (w.heap.size + 1 + 1 = w.heap.size) := by omega
    have hne2 : ¬ (w.heap.size = w.heap.size + 1 + 1) := by omega
    refine wpAnyH_ready (rs := [9]) (by kernel_rfl) (by simp) ?_
    refine' AllReadyH.cons (i := 9) ?ho9x1117 (fun K hK => ?st9x1117) AllReadyH.nil
    case ho9x1117 => (simp only [List.getElem?_toArray, List.getElem?_cons_succ, List.getElem?_cons_zero]; try rfl)
    go_simp
    refine hK.out _ _ ?_ (fun hHeld => ?_)
    · (first | exact ⟨a0_, a1_, a2_, a3_, b0_, b1_, b2_, b3_⟩ | go_keep)
    clear hK K
    (try simp only [Act.put, List.setIfInBounds_toArray, List.set_cons_zero, List.set_cons_succ])
    refine' wpAnyH_take (i := 10) (v := .int .i64 x) ?hi10x1118 ?hs10x1118 ?hf10x1118 ?hr10x1118 ?hQ10x1118 ?hy10x1118 ?hS10x1118 ?rest10x1118
    case hi10x1118 => (simp only [List.getElem?_toArray, List.getElem?_cons_succ, List.getElem?_cons_zero]; try rfl)
    case hs10x1118 => kernel_rfl
    case hf10x1118 => kernel_rfl
    case hr10x1118 => kernel_rfl
    case hQ10x1118 => exact fun _ _ _ h => h
    case hy10x1118 => exact Or.inl ⟨by rfl, by (intro w hSw; (try dsimp only at hSw); go_simp)⟩
    case hS10x1118 => assumption
    (try simp only [Act.put, List.setIfInBounds_toArray, List.set_cons_zero, List.set_cons_succ])
    refine wpAnyH_done (by kernel_rfl) ?_ _
    refine NoPanic.normal ?_
    clear hne1 hne2
    go_wp2
    refine bodyPost_ret (v := .tuple #[.agg #[.int .u8 k', .bool b', .int .i64 n', .string s'], .int .i64 x]) (by simp [results, Tryd.results34, go_sem, r0_, r1_, r2_, r3_, hz]) rfl ⟨rfl, ?_⟩
    have hbw := hwWH.out.trans (hb.mono hwWH.out.size)
    clear hb
    go_grown

end Go.Proofs.YtoolojfbjpnllaaDoor
