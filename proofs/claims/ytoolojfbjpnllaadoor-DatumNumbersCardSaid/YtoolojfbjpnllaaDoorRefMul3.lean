/-
  What the document's own Mul answers, at this program, part 3. Condition: the texts have at most 2^47 bytes, the numbers are 64-bit numbers.
-/
import Derived.Test.YtoolojfbjpnllaaDoorRefNeg
import Derived.Test.YtoolojfbjpnllaaDoorOps
import Derived.Deep.RegionHeld3
set_option linter.unusedVariables false
set_option linter.unusedSimpArgs false
namespace Go.Proofs.YtoolojfbjpnllaaDoor
open Go.RowKit Go.Lib

set_option maxRecDepth 100000 in
set_option maxHeartbeats 8000000 in
theorem refMul_g (k0 : Int) (b0 : Bool) (n0 : Int) (s0 : ByteArray) (k1 : Int) (b1 : Bool) (n1 : Int) (s1 : ByteArray) (w : World) (hs0 : s0.size ≤ 140737488355328) (hs1 : s1.size ≤ 140737488355328) (hc : n0 ≠ -9223372036854775808 ∧ n0 ≠ 0 ∧ n0 ≠ -1 ∧ n1 = -1) (hd : wrap64 ((wrap64 (n0 * n1)).tdiv n0) = n1) :
    Calls Tryd.prog 34 #[.agg #[.int .u8 k0, .bool b0, .int .i64 n0, .string s0], .agg #[.int .u8 k1, .bool b1, .int .i64 n1, .string s1]] w fun e w' => e = .returned (refV (numS ⟨k0, b0, n0, s0⟩ ⟨k1, b1, n1, s1⟩ (wrap64 (n0 * n1), 0))) ∧ Below w.heap.size w w' := by
  obtain ⟨r, hr⟩ : ∃ r, numS ⟨k0, b0, n0, s0⟩ ⟨k1, b1, n1, s1⟩ (wrap64 (n0 * n1), 0) = r := ⟨_, rfl⟩
  rw [hr]
  obtain ⟨⟨k', b', n', s'⟩, x⟩ := r
  rw [refVm]
  have hrH := Lib.hid hr
  clear hr
  have hs0H := Lib.hid hs0; have hs1H := Lib.hid hs1
  have dA : (n0 == -1) = false := by simp; omega
  have dAn : (n0 != -1) = true := by simp; omega
  have dAd : decide (n0 = -1) = false := by simp; omega
  have dB : (n1 == -9223372036854775808) = false := by simp; omega
  have dBn : (n1 != -9223372036854775808) = true := by simp; omega
  have dBd : decide (n1 = -9223372036854775808) = false := by simp; omega
  have dC : (n1 == -1) = true := by simp; omega
  have dCn : (n1 != -1) = false := by simp; omega
  have dCd : decide (n1 = -1) = true := by simp; omega
  have dD : (n0 == -9223372036854775808) = false := by simp; omega
  have dDn : (n0 != -9223372036854775808) = true := by simp; omega
  have dDd : decide (n0 = -9223372036854775808) = false := by simp; omega
  have dZ : (n0 == 0) = false := by simp; omega
  have dZn : (n0 != 0) = true := by simp; omega
  have dZd : decide (n0 = 0) = false := by simp; omega
  have hz0' : ¬ n0 = 0 := by omega
  obtain ⟨q, hq⟩ : ∃ q, wrap64 ((wrap64 (n0 * n1)).tdiv n0) = q := ⟨_, rfl⟩
  rw [hq] at hd
  have dq : (q != n1) = false := by simpa using hd
  have dqd : decide (q = n1) = true := by simpa using hd
  clear hd
  clear hc
  obtain ⟨m, hm⟩ : ∃ m, wrap64 (n0 * n1) = m := ⟨_, rfl⟩
  rw [hm] at hq
  have hq' : IntKind.i64.wrap (m.tdiv n0) = q := by rw [wrap_is, hq]
  have hm' : IntKind.i64.wrap (n0 * n1) = m := by rw [wrap_is, hm]
  rw [hm] at hrH
  obtain ⟨W0, hW0, hwW, hA, hB, hR, hzz⟩ := boxes2 w k0 b0 n0 s0 k1 b1 n1 s1
  have hAH := Lib.hid hA; have hBH := Lib.hid hB; have hRH := Lib.hid hR; have hz0 := Lib.hid hzz; have hwWH := Lib.hid hwW
  clear hA hB hR hzz hwW hs0 hs1
  have hb := Below.refl W0.heap.size W0
  obtain ⟨a0_, a1_, a2_, a3_⟩ := (hAH.out.below hb).cells; obtain ⟨b0_, b1_, b2_, b3_⟩ := (hBH.out.below hb).cells; obtain ⟨r0_, r1_, r2_, r3_⟩ := (hRH.out.below hb).cells; obtain ⟨f0_, f1_, f2_, f3_⟩ := (hRH.out.below hb).free; have hz := Nat.lt_of_lt_of_le hz0.out hb.size; have hs := hb.size
  go_enter Tryd.func34, Tryd.ntmps34
  go_wp2_with fail
  refine wp_region_noPanic ?_
  refine wp_region_held_drew (S := (fun w' => w'.cell? ⟨w.heap.size, 0, none⟩ = some (.int .u8 k0) ∧ w'.cell? ⟨w.heap.size, 1, none⟩ = some (.bool b0) ∧ w'.cell? ⟨w.heap.size, 2, none⟩ = some (.int .i64 n0) ∧ w'.cell? ⟨w.heap.size, 3, none⟩ = some (.string s0) ∧ w'.cell? ⟨w.heap.size + 1, 0, none⟩ = some (.int .u8 k1) ∧ w'.cell? ⟨w.heap.size + 1, 1, none⟩ = some (.bool b1) ∧ w'.cell? ⟨w.heap.size + 1, 2, none⟩ = some (.int .i64 n1) ∧ w'.cell? ⟨w.heap.size + 1, 3, none⟩ = some (.string s1))) (by kernel_rfl) (by first | exact ⟨a0_, a1_, a2_, a3_, b0_, b1_, b2_, b3_⟩ | go_keep) (fun hHeld => ?_)
  refine' wpAnyH_take (i := 0) (v := .pointer (some ⟨w.heap.size, 2, none⟩)) ?hi0x895 ?hs0x895 ?hf0x895 ?hr0x895 ?hQ0x895 ?hy0x895 ?hS0x895 ?rest0x895
  case hi0x895 => (simp only [List.getElem?_toArray, List.getElem?_cons_succ, List.getElem?_cons_zero]; try rfl)
  case hs0x895 => kernel_rfl
  case hf0x895 => kernel_rfl
  case hr0x895 => kernel_rfl
  case hQ0x895 => exact fun _ _ _ h => h
  case hy0x895 => exact Or.inl ⟨by rfl, by (intro w hSw; (try dsimp only at hSw); go_simp)⟩
  case hS0x895 => assumption
  (try simp only [Act.put, List.setIfInBounds_toArray, List.set_cons_zero, List.set_cons_succ])
  refine' wpAnyH_take (i := 1) (v := .int .i64 n0) ?hi1x896 ?hs1x896 ?hf1x896 ?hr1x896 ?hQ1x896 ?hy1x896 ?hS1x896 ?rest1x896
  case hi1x896 => (simp only [List.getElem?_toArray, List.getElem?_cons_succ, List.getElem?_cons_zero]; try rfl)
  case hs1x896 => kernel_rfl
  case hf1x896 => kernel_rfl
  case hr1x896 => kernel_rfl
  case hQ1x896 => exact fun _ _ _ h => h
  case hy1x896 => exact Or.inl ⟨by rfl, by (intro w hSw; (try dsimp only at hSw); go_simp)⟩
  case hS1x896 => assumption
  (try simp only [Act.put, List.setIfInBounds_toArray, List.set_cons_zero, List.set_cons_succ])
  refine' wpAnyH_take (i := 2) (v := .bool false) ?hi2x897 ?hs2x897 ?hf2x897 ?hr2x897 ?hQ2x897 ?hy2x897 ?hS2x897 ?rest2x897
  case hi2x897 => (simp only [List.getElem?_toArray, List.getElem?_cons_succ, List.getElem?_cons_zero]; try rfl)
  case hs2x897 => kernel_rfl
  case hf2x897 => kernel_rfl
  case hr2x897 => kernel_rfl
  case hQ2x897 => exact fun _ _ _ h => h
  case hy2x897 => exact Or.inl ⟨by rfl, by (intro w hSw; (try dsimp only at hSw); go_simp)⟩
  case hS2x897 => assumption
  (try simp only [Act.put, List.setIfInBounds_toArray, List.set_cons_zero, List.set_cons_succ])
  refine' wpAnyH_take (i := 3) (v := .bool false) ?hi3x898 ?hs3x898 ?hf3x898 ?hr3x898 ?hQ3x898 ?hy3x898 ?hS3x898 ?rest3x898
  case hi3x898 => (simp only [List.getElem?_toArray, List.getElem?_cons_succ, List.getElem?_cons_zero]; try rfl)
  case hs3x898 => kernel_rfl
  case hf3x898 => kernel_rfl
  case hr3x898 => kernel_rfl
  case hQ3x898 => exact fun _ _ _ h => h
  case hy3x898 => exact Or.inl ⟨by rfl, by (intro w hSw; (try dsimp only at hSw); go_simp)⟩
  case hS3x898 => assumption
  (try simp only [Act.put, List.setIfInBounds_toArray, List.set_cons_zero, List.set_cons_succ])
  refine' wpAnyH_take (i := 4) (v := undef) ?hi4x899 ?hs4x899 ?hf4x899 ?hr4x899 ?hQ4x899 ?hy4x899 ?hS4x899 ?rest4x899
  case hi4x899 => (simp only [List.getElem?_toArray, List.getElem?_cons_succ, List.getElem?_cons_zero]; try rfl)
  case hs4x899 => kernel_rfl
  case hf4x899 => kernel_rfl
  case hr4x899 => kernel_rfl
  case hQ4x899 => exact fun _ _ _ h => h
  case hy4x899 => exact Or.inr ⟨by rfl, rfl⟩
  case hS4x899 => assumption
  (try simp only [Act.put, List.setIfInBounds_toArray, List.set_cons_zero, List.set_cons_succ])
  refine' wpAnyH_take (i := 5) (v := undef) ?hi5x900 ?hs5x900 ?hf5x900 ?hr5x900 ?hQ5x900 ?hy5x900 ?hS5x900 ?rest5x900
  case hi5x900 => (simp only [List.getElem?_toArray, List.getElem?_cons_succ, List.getElem?_cons_zero]; try rfl)
  case hs5x900 => kernel_rfl
  case hf5x900 => kernel_rfl
  case hr5x900 => kernel_rfl
  case hQ5x900 => exact fun _ _ _ h => h
  case hy5x900 => exact Or.inr ⟨by rfl, rfl⟩
  case hS5x900 => assumption
  (try simp only [Act.put, List.setIfInBounds_toArray, List.set_cons_zero, List.set_cons_succ])
  refine' wpAnyH_take (i := 6) (v := undef) ?hi6x901 ?hs6x901 ?hf6x901 ?hr6x901 ?hQ6x901 ?hy6x901 ?hS6x901 ?rest6x901
  case hi6x901 => (simp only [List.getElem?_toArray, List.getElem?_cons_succ, List.getElem?_cons_zero]; try rfl)
  case hs6x901 => kernel_rfl
  case hf6x901 => kernel_rfl
  case hr6x901 => kernel_rfl
  case hQ6x901 => exact fun _ _ _ h => h
  case hy6x901 => exact Or.inr ⟨by rfl, rfl⟩
  case hS6x901 => assumption
  (try simp only [Act.put, List.setIfInBounds_toArray, List.set_cons_zero, List.set_cons_succ])
  refine' wpAnyH_take (i := 7) (v := .bool false) ?hi7x902 ?hs7x902 ?hf7x902 ?hr7x902 ?hQ7x902 ?hy7x902 ?hS7x902 ?rest7x902
  case hi7x902 => (simp only [List.getElem?_toArray, List.getElem?_cons_succ, List.getElem?_cons_zero]; try rfl)
  case hs7x902 => kernel_rfl
  case hf7x902 => kernel_rfl
  case hr7x902 => kernel_rfl
  case hQ7x902 => exact fun _ _ _ h => h
  case hy7x902 => exact Or.inl ⟨by rfl, by (intro w hSw; (try dsimp only at hSw); go_simp)⟩
  case hS7x902 => assumption
  (try simp only [Act.put, List.setIfInBounds_toArray, List.set_cons_zero, List.set_cons_succ])
  refine' wpAnyH_take (i := 8) (v := .bool false) ?hi8x903 ?hs8x903 ?hf8x903 ?hr8x903 ?hQ8x903 ?hy8x903 ?hS8x903 ?rest8x903
  case hi8x903 => (simp only [List.getElem?_toArray, List.getElem?_cons_succ, List.getElem?_cons_zero]; try rfl)
  case hs8x903 => kernel_rfl
  case hf8x903 => kernel_rfl
  case hr8x903 => kernel_rfl
  case hQ8x903 => exact fun _ _ _ h => h
  case hy8x903 => exact Or.inl ⟨by rfl, by (intro w hSw; (try dsimp only at hSw); go_simp)⟩
  case hS8x903 => assumption
  (try simp only [Act.put, List.setIfInBounds_toArray, List.set_cons_zero, List.set_cons_succ])
  refine' wpAnyH_take (i := 9) (v := .pointer (some ⟨w.heap.size + 1, 2, none⟩)) ?hi9x904 ?hs9x904 ?hf9x904 ?hr9x904 ?hQ9x904 ?hy9x904 ?hS9x904 ?rest9x904
  case hi9x904 => (simp only [List.getElem?_toArray, List.getElem?_cons_succ, List.getElem?_cons_zero]; try rfl)
  case hs9x904 => kernel_rfl
  case hf9x904 => kernel_rfl
  case hr9x904 => kernel_rfl
  case hQ9x904 => exact fun _ _ _ h => h
  case hy9x904 => exact Or.inl ⟨by rfl, by (intro w hSw; (try dsimp only at hSw); go_simp)⟩
  case hS9x904 => assumption
  (try simp only [Act.put, List.setIfInBounds_toArray, List.set_cons_zero, List.set_cons_succ])
  refine' wpAnyH_take (i := 10) (v := .int .i64 n1) ?hi10x905 ?hs10x905 ?hf10x905 ?hr10x905 ?hQ10x905 ?hy10x905 ?hS10x905 ?rest10x905
  case hi10x905 => (simp only [List.getElem?_toArray, List.getElem?_cons_succ, List.getElem?_cons_zero]; try rfl)
  case hs10x905 => kernel_rfl
  case hf10x905 => kernel_rfl
  case hr10x905 => kernel_rfl
  case hQ10x905 => exact fun _ _ _ h => h
  case hy10x905 => exact Or.inl ⟨by rfl, by (intro w hSw; (try dsimp only at hSw); go_simp)⟩
  case hS10x905 => assumption
  (try simp only [Act.put, List.setIfInBounds_toArray, List.set_cons_zero, List.set_cons_succ])
  refine' wpAnyH_take (i := 11) (v := .bool true) ?hi11x906 ?hs11x906 ?hf11x906 ?hr11x906 ?hQ11x906 ?hy11x906 ?hS11x906 ?rest11x906
  case hi11x906 => (simp only [List.getElem?_toArray, List.getElem?_cons_succ, List.getElem?_cons_zero]; try rfl)
  case hs11x906 => kernel_rfl
  case hf11x906 => kernel_rfl
  case hr11x906 => kernel_rfl
  case hQ11x906 => exact fun _ _ _ h => h
  case hy11x906 => exact Or.inl ⟨by rfl, by (intro w hSw; (try dsimp only at hSw); go_simp)⟩
  case hS11x906 => assumption
  (try simp only [Act.put, List.setIfInBounds_toArray, List.set_cons_zero, List.set_cons_succ])
  refine' wpAnyH_take (i := 12) (v := .bool true) ?hi12x907 ?hs12x907 ?hf12x907 ?hr12x907 ?hQ12x907 ?hy12x907 ?hS12x907 ?rest12x907
  case hi12x907 => (simp only [List.getElem?_toArray, List.getElem?_cons_succ, List.getElem?_cons_zero]; try rfl)
  case hs12x907 => kernel_rfl
  case hf12x907 => kernel_rfl
  case hr12x907 => kernel_rfl
  case hQ12x907 => exact fun _ _ _ h => h
  case hy12x907 => exact Or.inl ⟨by rfl, by (intro w hSw; (try dsimp only at hSw); go_simp)⟩
  case hS12x907 => assumption
  (try simp only [Act.put, List.setIfInBounds_toArray, List.set_cons_zero, List.set_cons_succ])
  refine' wpAnyH_take (i := 13) (v := .pointer (some ⟨w.heap.size, 2, none⟩)) ?hi13x908 ?hs13x908 ?hf13x908 ?hr13x908 ?hQ13x908 ?hy13x908 ?hS13x908 ?rest13x908
  case hi13x908 => (simp only [List.getElem?_toArray, List.getElem?_cons_succ, List.getElem?_cons_zero]; try rfl)
  case hs13x908 => kernel_rfl
  case hf13x908 => kernel_rfl
  case hr13x908 => kernel_rfl
  case hQ13x908 => exact fun _ _ _ h => h
  case hy13x908 => exact Or.inl ⟨by rfl, by (intro w hSw; (try dsimp only at hSw); go_simp)⟩
  case hS13x908 => assumption
  (try simp only [Act.put, List.setIfInBounds_toArray, List.set_cons_zero, List.set_cons_succ])
  refine' wpAnyH_take (i := 14) (v := .int .i64 n0) ?hi14x909 ?hs14x909 ?hf14x909 ?hr14x909 ?hQ14x909 ?hy14x909 ?hS14x909 ?rest14x909
  case hi14x909 => (simp only [List.getElem?_toArray, List.getElem?_cons_succ, List.getElem?_cons_zero]; try rfl)
  case hs14x909 => kernel_rfl
  case hf14x909 => kernel_rfl
  case hr14x909 => kernel_rfl
  case hQ14x909 => exact fun _ _ _ h => h
  case hy14x909 => exact Or.inl ⟨by rfl, by (intro w hSw; (try dsimp only at hSw); go_simp)⟩
  case hS14x909 => assumption
  (try simp only [Act.put, List.setIfInBounds_toArray, List.set_cons_zero, List.set_cons_succ])
  refine' wpAnyH_take (i := 15) (v := .bool false) ?hi15x910 ?hs15x910 ?hf15x910 ?hr15x910 ?hQ15x910 ?hy15x910 ?hS15x910 ?rest15x910
  case hi15x910 => (simp only [List.getElem?_toArray, List.getElem?_cons_succ, List.getElem?_cons_zero]; try rfl)
  case hs15x910 => kernel_rfl
  case hf15x910 => kernel_rfl
  case hr15x910 => kernel_rfl
  case hQ15x910 => exact fun _ _ _ h => h
  case hy15x910 => exact Or.inl ⟨by rfl, by (intro w hSw; (try dsimp only at hSw); go_simp)⟩
  case hS15x910 => assumption
  (try simp only [Act.put, List.setIfInBounds_toArray, List.set_cons_zero, List.set_cons_succ])
  refine' wpAnyH_take (i := 16) (v := .bool false) ?hi16x911 ?hs16x911 ?hf16x911 ?hr16x911 ?hQ16x911 ?hy16x911 ?hS16x911 ?rest16x911
  case hi16x911 => (simp only [List.getElem?_toArray, List.getElem?_cons_succ, List.getElem?_cons_zero]; try rfl)
  case hs16x911 => kernel_rfl
  case hf16x911 => kernel_rfl
  case hr16x911 => kernel_rfl
  case hQ16x911 => exact fun _ _ _ h => h
  case hy16x911 => exact Or.inl ⟨by rfl, by (intro w hSw; (try dsimp only at hSw); go_simp)⟩
  case hS16x911 => assumption
  (try simp only [Act.put, List.setIfInBounds_toArray, List.set_cons_zero, List.set_cons_succ])
  refine' wpAnyH_take (i := 17) (v := .bool false) ?hi17x912 ?hs17x912 ?hf17x912 ?hr17x912 ?hQ17x912 ?hy17x912 ?hS17x912 ?rest17x912
  case hi17x912 => (simp only [List.getElem?_toArray, List.getElem?_cons_succ, List.getElem?_cons_zero]; try rfl)
  case hs17x912 => kernel_rfl
  case hf17x912 => kernel_rfl
  case hr17x912 => kernel_rfl
  case hQ17x912 => exact fun _ _ _ h => h
  case hy17x912 => exact Or.inl ⟨by rfl, by (intro w hSw; (try dsimp only at hSw); go_simp)⟩
  case hS17x912 => assumption
  (try simp only [Act.put, List.setIfInBounds_toArray, List.set_cons_zero, List.set_cons_succ])
  refine' wpAnyH_take (i := 18) (v := .bool false) ?hi18x913 ?hs18x913 ?hf18x913 ?hr18x913 ?hQ18x913 ?hy18x913 ?hS18x913 ?rest18x913
  case hi18x913 => (simp only [List.getElem?_toArray, List.getElem?_cons_succ, List.getElem?_cons_zero]; try rfl)
  case hs18x913 => kernel_rfl
  case hf18x913 => kernel_rfl
  case hr18x913 => kernel_rfl
  case hQ18x913 => exact fun _ _ _ h => h
  case hy18x913 => exact Or.inl ⟨by rfl, by (intro w hSw; (try dsimp only at hSw); go_simp)⟩
  case hS18x913 => assumption
  (try simp only [Act.put, List.setIfInBounds_toArray, List.set_cons_zero, List.set_cons_succ])
  refine' wpAnyH_take (i := 19) (v := .pointer (some ⟨w.heap.size, 2, none⟩)) ?hi19x914 ?hs19x914 ?hf19x914 ?hr19x914 ?hQ19x914 ?hy19x914 ?hS19x914 ?rest19x914
  case hi19x914 => (simp only [List.getElem?_toArray, List.getElem?_cons_succ, List.getElem?_cons_zero]; try rfl)
  case hs19x914 => kernel_rfl
  case hf19x914 => kernel_rfl
  case hr19x914 => kernel_rfl
  case hQ19x914 => exact fun _ _ _ h => h
  case hy19x914 => exact Or.inl ⟨by rfl, by (intro w hSw; (try dsimp only at hSw); go_simp)⟩
  case hS19x914 => assumption
  (try simp only [Act.put, List.setIfInBounds_toArray, List.set_cons_zero, List.set_cons_succ])
  refine' wpAnyH_take (i := 20) (v := .int .i64 n0) ?hi20x915 ?hs20x915 ?hf20x915 ?hr20x915 ?hQ20x915 ?hy20x915 ?hS20x915 ?rest20x915
  case hi20x915 => (simp only [List.getElem?_toArray, List.getElem?_cons_succ, List.getElem?_cons_zero]; try rfl)
  case hs20x915 => kernel_rfl
  case hf20x915 => kernel_rfl
  case hr20x915 => kernel_rfl
  case hQ20x915 => exact fun _ _ _ h => h
  case hy20x915 => exact Or.inl ⟨by rfl, by (intro w hSw; (try dsimp only at hSw); go_simp)⟩
  case hS20x915 => assumption
  (try simp only [Act.put, List.setIfInBounds_toArray, List.set_cons_zero, List.set_cons_succ])
  refine' wpAnyH_take (i := 21) (v := .bool true) ?hi21x916 ?hs21x916 ?hf21x916 ?hr21x916 ?hQ21x916 ?hy21x916 ?hS21x916 ?rest21x916
  case hi21x916 => (simp only [List.getElem?_toArray, List.getElem?_cons_succ, List.getElem?_cons_zero]; try rfl)
  case hs21x916 => kernel_rfl
  case hf21x916 => kernel_rfl
  case hr21x916 => kernel_rfl
  case hQ21x916 => exact fun _ _ _ h => h
  case hy21x916 => exact Or.inl ⟨by rfl, by (intro w hSw; (try dsimp only at hSw); go_simp)⟩
  case hS21x916 => assumption
  (try simp only [Act.put, List.setIfInBounds_toArray, List.set_cons_zero, List.set_cons_succ])
  refine' wpAnyH_take (i := 22) (v := .bool true) ?hi22x917 ?hs22x917 ?hf22x917 ?hr22x917 ?hQ22x917 ?hy22x917 ?hS22x917 ?rest22x917
  case hi22x917 => (simp only [List.getElem?_toArray, List.getElem?_cons_succ, List.getElem?_cons_zero]; try rfl)
  case hs22x917 => kernel_rfl
  case hf22x917 => kernel_rfl
  case hr22x917 => kernel_rfl
  case hQ22x917 => exact fun _ _ _ h => h
  case hy22x917 => exact Or.inl ⟨by rfl, by (intro w hSw; (try dsimp only at hSw); go_simp)⟩
  case hS22x917 => assumption
  (try simp only [Act.put, List.setIfInBounds_toArray, List.set_cons_zero, List.set_cons_succ])
  refine' wpAnyH_take (i := 23) (v := .pointer (some ⟨w.heap.size, 2, none⟩)) ?hi23x918 ?hs23x918 ?hf23x918 ?hr23x918 ?hQ23x918 ?hy23x918 ?hS23x918 ?rest23x918
  case hi23x918 => (simp only [List.getElem?_toArray, List.getElem?_cons_succ, List.getElem?_cons_zero]; try rfl)
  case hs23x918 => kernel_rfl
  case hf23x918 => kernel_rfl
  case hr23x918 => kernel_rfl
  case hQ23x918 => exact fun _ _ _ h => h
  case hy23x918 => exact Or.inl ⟨by rfl, by (intro w hSw; (try dsimp only at hSw); go_simp)⟩
  case hS23x918 => assumption
  (try simp only [Act.put, List.setIfInBounds_toArray, List.set_cons_zero, List.set_cons_succ])
  refine' wpAnyH_take (i := 24) (v := .int .i64 n0) ?hi24x919 ?hs24x919 ?hf24x919 ?hr24x919 ?hQ24x919 ?hy24x919 ?hS24x919 ?rest24x919
  case hi24x919 => (simp only [List.getElem?_toArray, List.getElem?_cons_succ, List.getElem?_cons_zero]; try rfl)
  case hs24x919 => kernel_rfl
  case hf24x919 => kernel_rfl
  case hr24x919 => kernel_rfl
  case hQ24x919 => exact fun _ _ _ h => h
  case hy24x919 => exact Or.inl ⟨by rfl, by (intro w hSw; (try dsimp only at hSw); go_simp)⟩
  case hS24x919 => assumption
  (try simp only [Act.put, List.setIfInBounds_toArray, List.set_cons_zero, List.set_cons_succ])
  refine' wpAnyH_take (i := 25) (v := .bool true) ?hi25x920 ?hs25x920 ?hf25x920 ?hr25x920 ?hQ25x920 ?hy25x920 ?hS25x920 ?rest25x920
  case hi25x920 => (simp only [List.getElem?_toArray, List.getElem?_cons_succ, List.getElem?_cons_zero]; try rfl)
  case hs25x920 => kernel_rfl
  case hf25x920 => kernel_rfl
  case hr25x920 => kernel_rfl
  case hQ25x920 => exact fun _ _ _ h => h
  case hy25x920 => exact Or.inl ⟨by rfl, by (intro w hSw; (try dsimp only at hSw); go_simp)⟩
  case hS25x920 => assumption
  (try simp only [Act.put, List.setIfInBounds_toArray, List.set_cons_zero, List.set_cons_succ])
  refine' wpAnyH_take (i := 26) (v := .bool true) ?hi26x921 ?hs26x921 ?hf26x921 ?hr26x921 ?hQ26x921 ?hy26x921 ?hS26x921 ?rest26x921
  case hi26x921 => (simp only [List.getElem?_toArray, List.getElem?_cons_succ, List.getElem?_cons_zero]; try rfl)
  case hs26x921 => kernel_rfl
  case hf26x921 => kernel_rfl
  case hr26x921 => kernel_rfl
  case hQ26x921 => exact fun _ _ _ h => h
  case hy26x921 => exact Or.inl ⟨by rfl, by (intro w hSw; (try dsimp only at hSw); go_simp)⟩
  case hS26x921 => assumption
  (try simp only [Act.put, List.setIfInBounds_toArray, List.set_cons_zero, List.set_cons_succ])
  refine' wpAnyH_take (i := 27) (v := .bool true) ?hi27x922 ?hs27x922 ?hf27x922 ?hr27x922 ?hQ27x922 ?hy27x922 ?hS27x922 ?rest27x922
  case hi27x922 => (simp only [List.getElem?_toArray, List.getElem?_cons_succ, List.getElem?_cons_zero]; try rfl)
  case hs27x922 => kernel_rfl
  case hf27x922 => kernel_rfl
  case hr27x922 => kernel_rfl
  case hQ27x922 => exact fun _ _ _ h => h
  case hy27x922 => exact Or.inl ⟨by rfl, by (intro w hSw; (try dsimp only at hSw); go_simp)⟩
  case hS27x922 => assumption
  (try simp only [Act.put, List.setIfInBounds_toArray, List.set_cons_zero, List.set_cons_succ])
  refine' wpAnyH_take (i := 28) (v := .int .i64 m) ?hi28x923 ?hs28x923 ?hf28x923 ?hr28x923 ?hQ28x923 ?hy28x923 ?hS28x923 ?rest28x923
  case hi28x923 => (simp only [List.getElem?_toArray, List.getElem?_cons_succ, List.getElem?_cons_zero]; try rfl)
  case hs28x923 => kernel_rfl
  case hf28x923 => kernel_rfl
  case hr28x923 => kernel_rfl
  case hQ28x923 => exact fun _ _ _ h => h
  case hy28x923 => exact Or.inl ⟨by rfl, by (intro w hSw; (try dsimp only at hSw); go_simp)⟩
  case hS28x923 => assumption
  (try simp only [Act.put, List.setIfInBounds_toArray, List.set_cons_zero, List.set_cons_succ])
  refine' wpAnyH_take (i := 29) (v := .pointer (some ⟨w.heap.size, 2, none⟩)) ?hi29x924 ?hs29x924 ?hf29x924 ?hr29x924 ?hQ29x924 ?hy29x924 ?hS29x924 ?rest29x924
  case hi29x924 => (simp only [List.getElem?_toArray, List.getElem?_cons_succ, List.getElem?_cons_zero]; try rfl)
  case hs29x924 => kernel_rfl
  case hf29x924 => kernel_rfl
  case hr29x924 => kernel_rfl
  case hQ29x924 => exact fun _ _ _ h => h
  case hy29x924 => exact Or.inl ⟨by rfl, by (intro w hSw; (try dsimp only at hSw); go_simp)⟩
  case hS29x924 => assumption
  (try simp only [Act.put, List.setIfInBounds_toArray, List.set_cons_zero, List.set_cons_succ])
  refine' wpAnyH_take (i := 30) (v := .int .i64 n0) ?hi30x925 ?hs30x925 ?hf30x925 ?hr30x925 ?hQ30x925 ?hy30x925 ?hS30x925 ?rest30x925
  case hi30x925 => (simp only [List.getElem?_toArray, List.getElem?_cons_succ, List.getElem?_cons_zero]; try rfl)
  case hs30x925 => kernel_rfl
  case hf30x925 => kernel_rfl
  case hr30x925 => kernel_rfl
  case hQ30x925 => exact fun _ _ _ h => h
  case hy30x925 => exact Or.inl ⟨by rfl, by (intro w hSw; (try dsimp only at hSw); go_simp)⟩
  case hS30x925 => assumption
  (try simp only [Act.put, List.setIfInBounds_toArray, List.set_cons_zero, List.set_cons_succ])
  refine' wpAnyH_take (i := 31) (v := .int .i64 q) ?hi31x926 ?hs31x926 ?hf31x926 ?hr31x926 ?hQ31x926 ?hy31x926 ?hS31x926 ?rest31x926
  case hi31x926 => (simp only [List.getElem?_toArray, List.getElem?_cons_succ, List.getElem?_cons_zero]; try rfl)
  case hs31x926 => kernel_rfl
  case hf31x926 => kernel_rfl
  case hr31x926 => kernel_rfl
  case hQ31x926 => exact fun _ _ _ h => h
  case hy31x926 => exact Or.inl ⟨by rfl, by (intro w hSw; (try dsimp only at hSw); go_simp)⟩
  case hS31x926 => assumption
  (try simp only [Act.put, List.setIfInBounds_toArray, List.set_cons_zero, List.set_cons_succ])
  refine' wpAnyH_take (i := 32) (v := .pointer (some ⟨w.heap.size + 1, 2, none⟩)) ?hi32x927 ?hs32x927 ?hf32x927 ?hr32x927 ?hQ32x927 ?hy32x927 ?hS32x927 ?rest32x927
  case hi32x927 => (simp only [List.getElem?_toArray, List.getElem?_cons_succ, List.getElem?_cons_zero]; try rfl)
  case hs32x927 => kernel_rfl
  case hf32x927 => kernel_rfl
  case hr32x927 => kernel_rfl
  case hQ32x927 => exact fun _ _ _ h => h
  case hy32x927 => exact Or.inl ⟨by rfl, by (intro w hSw; (try dsimp only at hSw); go_simp)⟩
  case hS32x927 => assumption
  (try simp only [Act.put, List.setIfInBounds_toArray, List.set_cons_zero, List.set_cons_succ])
  refine' wpAnyH_take (i := 33) (v := .int .i64 n1) ?hi33x928 ?hs33x928 ?hf33x928 ?hr33x928 ?hQ33x928 ?hy33x928 ?hS33x928 ?rest33x928
  case hi33x928 => (simp only [List.getElem?_toArray, List.getElem?_cons_succ, List.getElem?_cons_zero]; try rfl)
  case hs33x928 => kernel_rfl
  case hf33x928 => kernel_rfl
  case hr33x928 => kernel_rfl
  case hQ33x928 => exact fun _ _ _ h => h
  case hy33x928 => exact Or.inl ⟨by rfl, by (intro w hSw; (try dsimp only at hSw); go_simp)⟩
  case hS33x928 => assumption
  (try simp only [Act.put, List.setIfInBounds_toArray, List.set_cons_zero, List.set_cons_succ])
  refine' wpAnyH_take (i := 34) (v := .bool false) ?hi34x929 ?hs34x929 ?hf34x929 ?hr34x929 ?hQ34x929 ?hy34x929 ?hS34x929 ?rest34x929
  case hi34x929 => (simp only [List.getElem?_toArray, List.getElem?_cons_succ, List.getElem?_cons_zero]; try rfl)
  case hs34x929 => kernel_rfl
  case hf34x929 => kernel_rfl
  case hr34x929 => kernel_rfl
  case hQ34x929 => exact fun _ _ _ h => h
  case hy34x929 => exact Or.inl ⟨by rfl, by (intro w hSw; (try dsimp only at hSw); go_simp)⟩
  case hS34x929 => assumption
  (try simp only [Act.put, List.setIfInBounds_toArray, List.set_cons_zero, List.set_cons_succ])
  refine' wpAnyH_take (i := 35) (v := .bool false) ?hi35x930 ?hs35x930 ?hf35x930 ?hr35x930 ?hQ35x930 ?hy35x930 ?hS35x930 ?rest35x930
  case hi35x930 => (simp only [List.getElem?_toArray, List.getElem?_cons_succ, List.getElem?_cons_zero]; try rfl)
  case hs35x930 => kernel_rfl
  case hf35x930 => kernel_rfl
  case hr35x930 => kernel_rfl
  case hQ35x930 => exact fun _ _ _ h => h
  case hy35x930 => exact Or.inl ⟨by rfl, by (intro w hSw; (try dsimp only at hSw); go_simp)⟩
  case hS35x930 => assumption
  (try simp only [Act.put, List.setIfInBounds_toArray, List.set_cons_zero, List.set_cons_succ])
  refine' wpAnyH_take (i := 36) (v := .bool false) ?hi36x931 ?hs36x931 ?hf36x931 ?hr36x931 ?hQ36x931 ?hy36x931 ?hS36x931 ?rest36x931
  case hi36x931 => (simp only [List.getElem?_toArray, List.getElem?_cons_succ, List.getElem?_cons_zero]; try rfl)
  case hs36x931 => kernel_rfl
  case hf36x931 => kernel_rfl
  case hr36x931 => kernel_rfl
  case hQ36x931 => exact fun _ _ _ h => h
  case hy36x931 => exact Or.inl ⟨by rfl, by (intro w hSw; (try dsimp only at hSw); go_simp)⟩
  case hS36x931 => assumption
  (try simp only [Act.put, List.setIfInBounds_toArray, List.set_cons_zero, List.set_cons_succ])
  refine' wpAnyH_take (i := 37) (v := .bool false) ?hi37x932 ?hs37x932 ?hf37x932 ?hr37x932 ?hQ37x932 ?hy37x932 ?hS37x932 ?rest37x932
  case hi37x932 => (simp only [List.getElem?_toArray, List.getElem?_cons_succ, List.getElem?_cons_zero]; try rfl)
  case hs37x932 => kernel_rfl
  case hf37x932 => kernel_rfl
  case hr37x932 => kernel_rfl
  case hQ37x932 => exact fun _ _ _ h => h
  case hy37x932 => exact Or.inl ⟨by rfl, by (intro w hSw; (try dsimp only at hSw); go_simp)⟩
  case hS37x932 => assumption
  (try simp only [Act.put, List.setIfInBounds_toArray, List.set_cons_zero, List.set_cons_succ])
  refine wpAnyH_done (by kernel_rfl) ?_ _
  refine NoPanic.normal ?_
  clear hHeld
  go_wp2_with fail
  refine wp_region_noPanic ?_
  refine wp_region_held_drew (S := (fun w' => w'.cell? ⟨w.heap.size, 0, none⟩ = some (.int .u8 k0) ∧ w'.cell? ⟨w.heap.size, 1, none⟩ = some (.bool b0) ∧ w'.cell? ⟨w.heap.size, 2, none⟩ = some (.int .i64 n0) ∧ w'.cell? ⟨w.heap.size, 3, none⟩ = some (.string s0) ∧ w'.cell? ⟨w.heap.size + 1, 0, none⟩ = some (.int .u8 k1) ∧ w'.cell? ⟨w.heap.size + 1, 1, none⟩ = some (.bool b1) ∧ w'.cell? ⟨w.heap.size + 1, 2, none⟩ = some (.int .i64 n1) ∧ w'.cell? ⟨w.heap.size + 1, 3, none⟩ = some (.string s1))) (by kernel_rfl) (by first | exact ⟨a0_, a1_, a2_, a3_, b0_, b1_, b2_, b3_⟩ | go_keep) (fun hHeld => ?_)
  refine' wpAnyH_take (i := 0) (v := .int .i64 m) ?hi0x933 ?hs0x933 ?hf0x933 ?hr0x933 ?hQ0x933 ?hy0x933 ?hS0x933 ?rest0x933
  case hi0x933 => (simp only [List.getElem?_toArray, List.getElem?_cons_succ, List.getElem?_cons_zero]; try rfl)
  case hs0x933 => kernel_rfl
  case hf0x933 => kernel_rfl
  case hr0x933 => kernel_rfl
  case hQ0x933 => exact fun _ _ _ h => h
  case hy0x933 => exact Or.inl ⟨by rfl, by (intro w hSw; (try dsimp only at hSw); go_simp)⟩
  case hS0x933 => assumption
  (try simp only [Act.put, List.setIfInBounds_toArray, List.set_cons_zero, List.set_cons_succ])
  refine' wpAnyH_take (i := 1) (v := .bool false) ?hi1x934 ?hs1x934 ?hf1x934 ?hr1x934 ?hQ1x934 ?hy1x934 ?hS1x934 ?rest1x934
  case hi1x934 => (simp only [List.getElem?_toArray, List.getElem?_cons_succ, List.getElem?_cons_zero]; try rfl)
  case hs1x934 => kernel_rfl
  case hf1x934 => kernel_rfl
  case hr1x934 => kernel_rfl
  case hQ1x934 => exact fun _ _ _ h => h
  case hy1x934 => exact Or.inl ⟨by rfl, by (intro w hSw; (try dsimp only at hSw); go_simp)⟩
  case hS1x934 => assumption
  (try simp only [Act.put, List.setIfInBounds_toArray, List.set_cons_zero, List.set_cons_succ])
  refine' wpAnyH_take (i := 3) (v := .agg #[.int .u8 k0, .bool b0, .int .i64 n0, .string s0]) ?hi3x935 ?hs3x935 ?hf3x935 ?hr3x935 ?hQ3x935 ?hy3x935 ?hS3x935 ?rest3x935
  case hi3x935 => (simp only [List.getElem?_toArray, List.getElem?_cons_succ, List.getElem?_cons_zero]; try rfl)
  case hs3x935 => kernel_rfl
  case hf3x935 => kernel_rfl
  case hr3x935 => kernel_rfl
  case hQ3x935 => exact fun _ _ _ h => h
  case hy3x935 => exact Or.inl ⟨by rfl, by (intro w hSw; (try dsimp only at hSw); go_simp)⟩
  case hS3x935 => assumption
  (try simp only [Act.put, List.setIfInBounds_toArray, List.set_cons_zero, List.set_cons_succ])
  refine' wpAnyH_take (i := 4) (v := .agg #[.int .u8 k1, .bool b1, .int .i64 n1, .string s1]) ?hi4x936 ?hs4x936 ?hf4x936 ?hr4x936 ?hQ4x936 ?hy4x936 ?hS4x936 ?rest4x936
  case hi4x936 => (simp only [List.getElem?_toArray, List.getElem?_cons_succ, List.getElem?_cons_zero]; try rfl)
  case hs4x936 => kernel_rfl
  case hf4x936 => kernel_rfl
  case hr4x936 => kernel_rfl
  case hQ4x936 => exact fun _ _ _ h => h
  case hy4x936 => exact Or.inl ⟨by rfl, by (intro w hSw; (try dsimp only at hSw); go_simp)⟩
  case hS4x936 => assumption
  (try simp only [Act.put, List.setIfInBounds_toArray, List.set_cons_zero, List.set_cons_succ])
  refine wpAnyH_ready (rs := [2, 5]) (by kernel_rfl) (by simp) ?_
  refine' AllReadyH.cons (i := 2) ?ho2x937 (fun K hK => ?st2x937) (AllReadyH.cons (i := 5) ?ho5x938 (fun K hK => ?st5x938) AllReadyH.nil)
  case ho2x937 => (simp only [List.getElem?_toArray, List.getElem?_cons_succ, List.getElem?_cons_zero]; try rfl)
  case ho5x938 => (simp only [List.getElem?_toArray, List.getElem?_cons_succ, List.getElem?_cons_zero]; try rfl)
  case st2x937 =>
    go_simp
    refine (refOver_any _ _).mono ?_
    rintro e w' ⟨rfl, rfl⟩
    go_wp2_with fail
    refine hK.out _ _ ?_ (fun hHeld => ?_)
    · (first | exact ⟨a0_, a1_, a2_, a3_, b0_, b1_, b2_, b3_⟩ | go_keep)
    clear hK K
    (try simp only [Act.put, List.setIfInBounds_toArray, List.set_cons_zero, List.set_cons_succ])
    refine wpAnyH_ready (rs := [5]) (by kernel_rfl) (by simp) ?_
    refine' AllReadyH.cons (i := 5) ?ho5x939 (fun K hK => ?st5x939) AllReadyH.nil
    case ho5x939 => (simp only [List.getElem?_toArray, List.getElem?_cons_succ, List.getElem?_cons_zero]; try rfl)
    go_simp
    refine hK.out _ _ ?_ (fun hHeld => ?_)
    · (first | exact ⟨a0_, a1_, a2_, a3_, b0_, b1_, b2_, b3_⟩ | go_keep)
    clear hK K
    (try simp only [Act.put, List.setIfInBounds_toArray, List.set_cons_zero, List.set_cons_succ])
    refine wpAnyH_ready (rs := [6]) (by kernel_rfl) (by simp) ?_
    refine' AllReadyH.cons (i := 6) ?ho6x940 (fun K hK => ?st6x940) AllReadyH.nil
    case ho6x940 => (simp only [List.getElem?_toArray, List.getElem?_cons_succ, List.getElem?_cons_zero]; try rfl)
    go_simp
    refine (refNum2_any _ _ k0 b0 n0 s0 k1 b1 n1 s1 _ _ _ (by exact heap_at _ _ _ (by first | rfl | simp)) hs0H.out hs1H.out).mono ?_
    rw [hrH.out, refVm]
    rintro e w' ⟨rfl, hb'⟩
    replace hb := chainB (B := W0.heap.size) (a := W0) (by go_grown) hb' (by have := hb.size; first | omega | (simp; done) | (simp; omega))
    clear hb' a0_ a1_ a2_ a3_ b0_ b1_ b2_ b3_ r0_ r1_ r2_ r3_ f0_ f1_ f2_ f3_ hz hs
    obtain ⟨a0_, a1_, a2_, a3_⟩ := (hAH.out.below hb).cells; obtain ⟨b0_, b1_, b2_, b3_⟩ := (hBH.out.below hb).cells; obtain ⟨r0_, r1_, r2_, r3_⟩ := (hRH.out.below hb).cells; obtain ⟨f0_, f1_, f2_, f3_⟩ := (hRH.out.below hb).free; have hz := Nat.lt_of_lt_of_le hz0.out hb.size; have hs := hb.size
    go_wp2_with fail
    refine hK.out _ _ ?_ (fun hHeld => ?_)
    · (first | exact ⟨a0_, a1_, a2_, a3_, b0_, b1_, b2_, b3_⟩ | go_keep)
    clear hK K
    (try simp only [Act.put, List.setIfInBounds_toArray, List.set_cons_zero, List.set_cons_succ])
    refine' wpAnyH_take (i := 7) (v := .agg #[.int .u8 k', .bool b', .int .i64 n', .string s']) ?hi7x941 ?hs7x941 ?hf7x941 ?hr7x941 ?hQ7x941 ?hy7x941 ?hS7x941 ?rest7x941
    case hi7x941 => (simp only [List.getElem?_toArray, List.getElem?_cons_succ, List.getElem?_cons_zero]; try rfl)
    case hs7x941 => kernel_rfl
    case hf7x941 => kernel_rfl
    case hr7x941 => kernel_rfl
    case hQ7x941 => exact fun _ _ _ h => h
    case hy7x941 => exact Or.inl ⟨by rfl, by (intro w hSw; (try dsimp only at hSw); go_simp)⟩
    case hS7x941 => assumption
    (try simp only [Act.put, List.setIfInBounds_toArray, List.set_cons_zero, List.set_cons_succ])
    refine' wpAnyH_take (i := 8) (v := .int .i64 x) ?hi8x942 ?hs8x942 ?hf8x942 ?hr8x942 ?hQ8x942 ?hy8x942 ?hS8x942 ?rest8x942
    case hi8x942 => (simp only [List.getElem?_toArray, List.getElem?_cons_succ, List.getElem?_cons_zero]; try rfl)
    case hs8x942 => kernel_rfl
    case hf8x942 => kernel_rfl
    case hr8x942 => kernel_rfl
    case hQ8x942 => exact fun _ _ _ h => h
    case hy8x942 => exact Or.inl ⟨by rfl, by (intro w hSw; (try dsimp only at hSw); go_simp)⟩
    case hS8x942 => assumption
    (try simp only [Act.put, List.setIfInBounds_toArray, List.set_cons_zero, List.set_cons_succ])
    have hne1 : ¬ (w.heap.size + 1 + 1 = w.heap.size) := by omega
    have hne2 : ¬ (w.heap.size = w.heap.size + 1 + 1) := by omega
    refine wpAnyH_ready (rs := [9]) (by kernel_rfl) (by simp) ?_
    refine' AllReadyH.cons (i := 9) ?ho9x943 (fun K hK => ?st9x943) AllReadyH.nil
    case ho9x943 => (simp only [List.getElem?_toArray, List.getElem?_cons_succ, List.getElem?_cons_zero]; try rfl)
    go_simp
    refine hK.out _ _ ?_ (fun hHeld => ?_)
    · (first | exact ⟨a0_, a1_, a2_, a3_, b0_, b1_, b2_, b3_⟩ | go_keep)
    clear hK K
    (try simp only [Act.put, List.setIfInBounds_toArray, List.set_cons_zero, List.set_cons_succ])
    refine' wpAnyH_take (i := 10) (v := .int .i64 x) ?hi10x944 ?hs10x944 ?hf10x944 ?hr10x944 ?hQ10x944 ?hy10x944 ?hS10x944 ?rest10x944
    case hi10x944 => (simp only [List.getElem?_toArray, List.getElem?_cons_succ, List.getElem?_cons_zero]; try rfl)
    case hs10x944 => kernel_rfl
    case hf10x944 => kernel_rfl
    case hr10x944 => kernel_rfl
    case hQ10x944 => exact fun _ _ _ h => h
    case hy10x944 => exact Or.inl ⟨by rfl, by (intro w hSw; (try dsimp only at hSw); go_simp)⟩
    case hS10x944 => assumption
    (try simp only [Act.put, List.setIfInBounds_toArray, List.set_cons_zero, List.set_cons_succ])
    refine wpAnyH_done (by kernel_rfl) ?_ _
    refine NoPanic.normal ?_
    clear hne1 hne2
    go_wp2
    refine bodyPost_ret (v := .tuple #[.agg #[.int .u8 k', .bool b', .int .i64 n', .string s'], .int .i64 x]) (by simp [results, Tryd.results34, go_sem, r0_, r1_, r2_, r3_, hz]) rfl ⟨rfl, ?_⟩
    have hbw := hwWH.out.trans (hb.mono hwWH.out.size)
    clear hb
    go_grown
  case st5x938 =>
    go_simp
    refine hK.out _ _ ?_ (fun hHeld => ?_)
    · (first | exact ⟨a0_, a1_, a2_, a3_, b0_, b1_, b2_, b3_⟩ | go_keep)
    clear hK K
    (try simp only [Act.put, List.setIfInBounds_toArray, List.set_cons_zero, List.set_cons_succ])
    refine wpAnyH_ready (rs := [2]) (by kernel_rfl) (by simp) ?_
    refine' AllReadyH.cons (i := 2) ?ho2x945 (fun K hK => ?st2x945) AllReadyH.nil
    case ho2x945 => (simp only [List.getElem?_toArray, List.getElem?_cons_succ, List.getElem?_cons_zero]; try rfl)
    go_simp
    refine (refOver_any _ _).mono ?_
    rintro e w' ⟨rfl, rfl⟩
    go_wp2_with fail
    refine hK.out _ _ ?_ (fun hHeld => ?_)
    · (first | exact ⟨a0_, a1_, a2_, a3_, b0_, b1_, b2_, b3_⟩ | go_keep)
    clear hK K
    (try simp only [Act.put, List.setIfInBounds_toArray, List.set_cons_zero, List.set_cons_succ])
    refine wpAnyH_ready (rs := [6]) (by kernel_rfl) (by simp) ?_
    refine' AllReadyH.cons (i := 6) ?ho6x946 (fun K hK => ?st6x946) AllReadyH.nil
    case ho6x946 => (simp only [List.getElem?_toArray, List.getElem?_cons_succ, List.getElem?_cons_zero]; try rfl)
    go_simp
    refine (refNum2_any _ _ k0 b0 n0 s0 k1 b1 n1 s1 _ _ _ (by exact heap_at _ _ _ (by first | rfl | simp)) hs0H.out hs1H.out).mono ?_
    rw [hrH.out, refVm]
    rintro e w' ⟨rfl, hb'⟩
    replace hb := chainB (B := W0.heap.size) (a := W0) (by go_grown) hb' (by have := hb.size; first | omega | (simp; done) | (simp; omega))
    clear hb' a0_ a1_ a2_ a3_ b0_ b1_ b2_ b3_ r0_ r1_ r2_ r3_ f0_ f1_ f2_ f3_ hz hs
    obtain ⟨a0_, a1_, a2_, a3_⟩ := (hAH.out.below hb).cells; obtain ⟨b0_, b1_, b2_, b3_⟩ := (hBH.out.below hb).cells; obtain ⟨r0_, r1_, r2_, r3_⟩ := (hRH.out.below hb).cells; obtain ⟨f0_, f1_, f2_, f3_⟩ := (hRH.out.below hb).free; have hz := Nat.lt_of_lt_of_le hz0.out hb.size; have hs := hb.size
    go_wp2_with fail
    refine hK.out _ _ ?_ (fun hHeld => ?_)
    · (first | exact ⟨a0_, a1_, a2_, a3_, b0_, b1_, b2_, b3_⟩ | go_keep)
    clear hK K
    (try simp only [Act.put, List.setIfInBounds_toArray, List.set_cons_zero, List.set_cons_succ])
    refine' wpAnyH_take (i := 7) (v := .agg #[.int .u8 k', .bool b', .int .i64 n', .string s']) ?hi7x947 ?hs7x947 ?hf7x947 ?hr7x947 ?hQ7x947 ?hy7x947 ?hS7x947 ?rest7x947
    case hi7x947 => (simp only [List.getElem?_toArray, List.getElem?_cons_succ, List.getElem?_cons_zero]; try rfl)
    case hs7x947 => kernel_rfl
    case hf7x947 => kernel_rfl
    case hr7x947 => kernel_rfl
    case hQ7x947 => exact fun _ _ _ h => h
    case hy7x947 => exact Or.inl ⟨by rfl, by (intro w hSw; (try dsimp only at hSw); go_simp)⟩
    case hS7x947 => assumption
    (try simp only [Act.put, List.setIfInBounds_toArray, List.set_cons_zero, List.set_cons_succ])
    refine' wpAnyH_take (i := 8) (v := .int .i64 x) ?hi8x948 ?hs8x948 ?hf8x948 ?hr8x948 ?hQ8x948 ?hy8x948 ?hS8x948 ?rest8x948
    case hi8x948 => (simp only [List.getElem?_toArray, List.getElem?_cons_succ, List.getElem?_cons_zero]; try rfl)
    case hs8x948 => kernel_rfl
    case hf8x948 => kernel_rfl
    case hr8x948 => kernel_rfl
    case hQ8x948 => exact fun _ _ _ h => h
    case hy8x948 => exact Or.inl ⟨by rfl, by (intro w hSw; (try dsimp only at hSw); go_simp)⟩
    case hS8x948 => assumption
    (try simp only [Act.put, List.setIfInBounds_toArray, List.set_cons_zero, List.set_cons_succ])
    have hne1 : ¬ (w.heap.size + 1 + 1 = w.heap.size) := by omega
    have hne2 : ¬ (w.heap.size = w.heap.size + 1 + 1) := by omega
    refine wpAnyH_ready (rs := [9]) (by kernel_rfl) (by simp) ?_
    refine' AllReadyH.cons (i := 9) ?ho9x949 (fun K hK => ?st9x949) AllReadyH.nil
    case ho9x949 => (simp only [List.getElem?_toArray, List.getElem?_cons_succ, List.getElem?_cons_zero]; try rfl)
    go_simp
    refine hK.out _ _ ?_ (fun hHeld => ?_)
    · (first | exact ⟨a0_, a1_, a2_, a3_, b0_, b1_, b2_, b3_⟩ | go_keep)
    clear hK K
    (try simp only [Act.put, List.setIfInBounds_toArray, List.set_cons_zero, List.set_cons_succ])
    refine' wpAnyH_take (i := 10) (v := .int .i64 x) ?hi10x950 ?hs10x950 ?hf10x950 ?hr10x950 ?hQ10x950 ?hy10x950 ?hS10x950 ?rest10x950
    case hi10x950 => (simp only [List.getElem?_toArray, List.getElem?_cons_succ, List.getElem?_cons_zero]; try rfl)
    case hs10x950 => kernel_rfl
    case hf10x950 => kernel_rfl
    case hr10x950 => kernel_rfl
    case hQ10x950 => exact fun _ _ _ h => h
    case hy10x950 => exact Or.inl ⟨by rfl, by (intro w hSw; (try dsimp only at hSw); go_simp)⟩
    case hS10x950 => assumption
    (try simp only [Act.put, List.setIfInBounds_toArray, List.set_cons_zero, List.set_cons_succ])
    refine wpAnyH_done (by kernel_rfl) ?_ _
    refine NoPanic.normal ?_
    clear hne1 hne2
    go_wp2
    refine bodyPost_ret (v := .tuple #[.agg #[.int .u8 k', .bool b', .int .i64 n', .string s'], .int .i64 x]) (by simp [results, Tryd.results34, go_sem, r0_, r1_, r2_, r3_, hz]) rfl ⟨rfl, ?_⟩
    have hbw := hwWH.out.trans (hb.mono hwWH.out.size)
    clear hb
    go_grown

set_option maxRecDepth 100000 in
set_option maxHeartbeats 8000000 in
theorem refMul_h (k0 : Int) (b0 : Bool) (n0 : Int) (s0 : ByteArray) (k1 : Int) (b1 : Bool) (n1 : Int) (s1 : ByteArray) (w : World) (hs0 : s0.size ≤ 140737488355328) (hs1 : s1.size ≤ 140737488355328) (hc : n0 = 0 ∧ n1 ≠ -1) :
    Calls Tryd.prog 34 #[.agg #[.int .u8 k0, .bool b0, .int .i64 n0, .string s0], .agg #[.int .u8 k1, .bool b1, .int .i64 n1, .string s1]] w fun e w' => e = .returned (refV (numS ⟨k0, b0, n0, s0⟩ ⟨k1, b1, n1, s1⟩ (wrap64 (n0 * n1), 0))) ∧ Below w.heap.size w w' := by
  obtain ⟨r, hr⟩ : ∃ r, numS ⟨k0, b0, n0, s0⟩ ⟨k1, b1, n1, s1⟩ (wrap64 (n0 * n1), 0) = r := ⟨_, rfl⟩
  rw [hr]
  obtain ⟨⟨k', b', n', s'⟩, x⟩ := r
  rw [refVm]
  have hrH := Lib.hid hr
  clear hr
  have hs0H := Lib.hid hs0; have hs1H := Lib.hid hs1
  have dA : (n0 == -1) = false := by simp; omega
  have dAn : (n0 != -1) = true := by simp; omega
  have dAd : decide (n0 = -1) = false := by simp; omega
  have dC : (n1 == -1) = false := by simp; omega
  have dCn : (n1 != -1) = true := by simp; omega
  have dCd : decide (n1 = -1) = false := by simp; omega
  have dD : (n0 == -9223372036854775808) = false := by simp; omega
  have dDn : (n0 != -9223372036854775808) = true := by simp; omega
  have dDd : decide (n0 = -9223372036854775808) = false := by simp; omega
  have dZ : (n0 == 0) = true := by simp; omega
  have dZn : (n0 != 0) = false := by simp; omega
  have dZd : decide (n0 = 0) = true := by simp; omega
  clear hc
  obtain ⟨m, hm⟩ : ∃ m, wrap64 (n0 * n1) = m := ⟨_, rfl⟩
  have hm' : IntKind.i64.wrap (n0 * n1) = m := by rw [wrap_is, hm]
  rw [hm] at hrH
  obtain ⟨W0, hW0, hwW, hA, hB, hR, hzz⟩ := boxes2 w k0 b0 n0 s0 k1 b1 n1 s1
  have hAH := Lib.hid hA; have hBH := Lib.hid hB; have hRH := Lib.hid hR; have hz0 := Lib.hid hzz; have hwWH := Lib.hid hwW
  clear hA hB hR hzz hwW hs0 hs1
  have hb := Below.refl W0.heap.size W0
  obtain ⟨a0_, a1_, a2_, a3_⟩ := (hAH.out.below hb).cells; obtain ⟨b0_, b1_, b2_, b3_⟩ := (hBH.out.below hb).cells; obtain ⟨r0_, r1_, r2_, r3_⟩ := (hRH.out.below hb).cells; obtain ⟨f0_, f1_, f2_, f3_⟩ := (hRH.out.below hb).free; have hz := Nat.lt_of_lt_of_le hz0.out hb.size; have hs := hb.size
  go_enter Tryd.func34, Tryd.ntmps34
  go_wp2_with fail
  refine wp_region_noPanic ?_
  refine wp_region_held_drew (S := (fun w' => w'.cell? ⟨w.heap.size, 0, none⟩ = some (.int .u8 k0) ∧ w'.cell? ⟨w.heap.size, 1, none⟩ = some (.bool b0) ∧ w'.cell? ⟨w.heap.size, 2, none⟩ = some (.int .i64 n0) ∧ w'.cell? ⟨w.heap.size, 3, none⟩ = some (.string s0) ∧ w'.cell? ⟨w.heap.size + 1, 0, none⟩ = some (.int .u8 k1) ∧ w'.cell? ⟨w.heap.size + 1, 1, none⟩ = some (.bool b1) ∧ w'.cell? ⟨w.heap.size + 1, 2, none⟩ = some (.int .i64 n1) ∧ w'.cell? ⟨w.heap.size + 1, 3, none⟩ = some (.string s1))) (by kernel_rfl) (by first | exact ⟨a0_, a1_, a2_, a3_, b0_, b1_, b2_, b3_⟩ | go_keep) (fun hHeld => ?_)
  refine' wpAnyH_take (i := 0) (v := .pointer (some ⟨w.heap.size, 2, none⟩)) ?hi0x951 ?hs0x951 ?hf0x951 ?hr0x951 ?hQ0x951 ?hy0x951 ?hS0x951 ?rest0x951
  case hi0x951 => (simp only [List.getElem?_toArray, List.getElem?_cons_succ, List.getElem?_cons_zero]; try rfl)
  case hs0x951 => kernel_rfl
  case hf0x951 => kernel_rfl
  case hr0x951 => kernel_rfl
  case hQ0x951 => exact fun _ _ _ h => h
  case hy0x951 => exact Or.inl ⟨by rfl, by (intro w hSw; (try dsimp only at hSw); go_simp)⟩
  case hS0x951 => assumption
  (try simp only [Act.put, List.setIfInBounds_toArray, List.set_cons_zero, List.set_cons_succ])
  refine' wpAnyH_take (i := 1) (v := .int .i64 n0) ?hi1x952 ?hs1x952 ?hf1x952 ?hr1x952 ?hQ1x952 ?hy1x952 ?hS1x952 ?rest1x952
  case hi1x952 => (simp only [List.getElem?_toArray, List.getElem?_cons_succ, List.getElem?_cons_zero]; try rfl)
  case hs1x952 => kernel_rfl
  case hf1x952 => kernel_rfl
  case hr1x952 => kernel_rfl
  case hQ1x952 => exact fun _ _ _ h => h
  case hy1x952 => exact Or.inl ⟨by rfl, by (intro w hSw; (try dsimp only at hSw); go_simp)⟩
  case hS1x952 => assumption
  (try simp only [Act.put, List.setIfInBounds_toArray, List.set_cons_zero, List.set_cons_succ])
  refine' wpAnyH_take (i := 2) (v := .bool false) ?hi2x953 ?hs2x953 ?hf2x953 ?hr2x953 ?hQ2x953 ?hy2x953 ?hS2x953 ?rest2x953
  case hi2x953 => (simp only [List.getElem?_toArray, List.getElem?_cons_succ, List.getElem?_cons_zero]; try rfl)
  case hs2x953 => kernel_rfl
  case hf2x953 => kernel_rfl
  case hr2x953 => kernel_rfl
  case hQ2x953 => exact fun _ _ _ h => h
  case hy2x953 => exact Or.inl ⟨by rfl, by (intro w hSw; (try dsimp only at hSw); go_simp)⟩
  case hS2x953 => assumption
  (try simp only [Act.put, List.setIfInBounds_toArray, List.set_cons_zero, List.set_cons_succ])
  refine' wpAnyH_take (i := 3) (v := .bool false) ?hi3x954 ?hs3x954 ?hf3x954 ?hr3x954 ?hQ3x954 ?hy3x954 ?hS3x954 ?rest3x954
  case hi3x954 => (simp only [List.getElem?_toArray, List.getElem?_cons_succ, List.getElem?_cons_zero]; try rfl)
  case hs3x954 => kernel_rfl
  case hf3x954 => kernel_rfl
  case hr3x954 => kernel_rfl
  case hQ3x954 => exact fun _ _ _ h => h
  case hy3x954 => exact Or.inl ⟨by rfl, by (intro w hSw; (try dsimp only at hSw); go_simp)⟩
  case hS3x954 => assumption
  (try simp only [Act.put, List.setIfInBounds_toArray, List.set_cons_zero, List.set_cons_succ])
  refine' wpAnyH_take (i := 4) (v := undef) ?hi4x955 ?hs4x955 ?hf4x955 ?hr4x955 ?hQ4x955 ?hy4x955 ?hS4x955 ?rest4x955
  case hi4x955 => (simp only [List.getElem?_toArray, List.getElem?_cons_succ, List.getElem?_cons_zero]; try rfl)
  case hs4x955 => kernel_rfl
  case hf4x955 => kernel_rfl
  case hr4x955 => kernel_rfl
  case hQ4x955 => exact fun _ _ _ h => h
  case hy4x955 => exact Or.inr ⟨by rfl, rfl⟩
  case hS4x955 => assumption
  (try simp only [Act.put, List.setIfInBounds_toArray, List.set_cons_zero, List.set_cons_succ])
  refine' wpAnyH_take (i := 5) (v := undef) ?hi5x956 ?hs5x956 ?hf5x956 ?hr5x956 ?hQ5x956 ?hy5x956 ?hS5x956 ?rest5x956
  case hi5x956 => (simp only [List.getElem?_toArray, List.getElem?_cons_succ, List.getElem?_cons_zero]; try rfl)
  case hs5x956 => kernel_rfl
  case hf5x956 => kernel_rfl
  case hr5x956 => kernel_rfl
  case hQ5x956 => exact fun _ _ _ h => h
  case hy5x956 => exact Or.inr ⟨by rfl, rfl⟩
  case hS5x956 => assumption
  (try simp only [Act.put, List.setIfInBounds_toArray, List.set_cons_zero, List.set_cons_succ])
  refine' wpAnyH_take (i := 6) (v := undef) ?hi6x957 ?hs6x957 ?hf6x957 ?hr6x957 ?hQ6x957 ?hy6x957 ?hS6x957 ?rest6x957
  case hi6x957 => (simp only [List.getElem?_toArray, List.getElem?_cons_succ, List.getElem?_cons_zero]; try rfl)
  case hs6x957 => kernel_rfl
  case hf6x957 => kernel_rfl
  case hr6x957 => kernel_rfl
  case hQ6x957 => exact fun _ _ _ h => h
  case hy6x957 => exact Or.inr ⟨by rfl, rfl⟩
  case hS6x957 => assumption
  (try simp only [Act.put, List.setIfInBounds_toArray, List.set_cons_zero, List.set_cons_succ])
  refine' wpAnyH_take (i := 7) (v := .bool false) ?hi7x958 ?hs7x958 ?hf7x958 ?hr7x958 ?hQ7x958 ?hy7x958 ?hS7x958 ?rest7x958
  case hi7x958 => (simp only [List.getElem?_toArray, List.getElem?_cons_succ, List.getElem?_cons_zero]; try rfl)
  case hs7x958 => kernel_rfl
  case hf7x958 => kernel_rfl
  case hr7x958 => kernel_rfl
  case hQ7x958 => exact fun _ _ _ h => h
  case hy7x958 => exact Or.inl ⟨by rfl, by (intro w hSw; (try dsimp only at hSw); go_simp)⟩
  case hS7x958 => assumption
  (try simp only [Act.put, List.setIfInBounds_toArray, List.set_cons_zero, List.set_cons_succ])
  refine' wpAnyH_take (i := 8) (v := .bool false) ?hi8x959 ?hs8x959 ?hf8x959 ?hr8x959 ?hQ8x959 ?hy8x959 ?hS8x959 ?rest8x959
  case hi8x959 => (simp only [List.getElem?_toArray, List.getElem?_cons_succ, List.getElem?_cons_zero]; try rfl)
  case hs8x959 => kernel_rfl
  case hf8x959 => kernel_rfl
  case hr8x959 => kernel_rfl
  case hQ8x959 => exact fun _ _ _ h => h
  case hy8x959 => exact Or.inl ⟨by rfl, by (intro w hSw; (try dsimp only at hSw); go_simp)⟩
  case hS8x959 => assumption
  (try simp only [Act.put, List.setIfInBounds_toArray, List.set_cons_zero, List.set_cons_succ])
  refine' wpAnyH_take (i := 9) (v := .pointer (some ⟨w.heap.size + 1, 2, none⟩)) ?hi9x960 ?hs9x960 ?hf9x960 ?hr9x960 ?hQ9x960 ?hy9x960 ?hS9x960 ?rest9x960
  case hi9x960 => (simp only [List.getElem?_toArray, List.getElem?_cons_succ, List.getElem?_cons_zero]; try rfl)
  case hs9x960 => kernel_rfl
  case hf9x960 => kernel_rfl
  case hr9x960 => kernel_rfl
  case hQ9x960 => exact fun _ _ _ h => h
  case hy9x960 => exact Or.inl ⟨by rfl, by (intro w hSw; (try dsimp only at hSw); go_simp)⟩
  case hS9x960 => assumption
  (try simp only [Act.put, List.setIfInBounds_toArray, List.set_cons_zero, List.set_cons_succ])
  refine' wpAnyH_take (i := 10) (v := .int .i64 n1) ?hi10x961 ?hs10x961 ?hf10x961 ?hr10x961 ?hQ10x961 ?hy10x961 ?hS10x961 ?rest10x961
  case hi10x961 => (simp only [List.getElem?_toArray, List.getElem?_cons_succ, List.getElem?_cons_zero]; try rfl)
  case hs10x961 => kernel_rfl
  case hf10x961 => kernel_rfl
  case hr10x961 => kernel_rfl
  case hQ10x961 => exact fun _ _ _ h => h
  case hy10x961 => exact Or.inl ⟨by rfl, by (intro w hSw; (try dsimp only at hSw); go_simp)⟩
  case hS10x961 => assumption
  (try simp only [Act.put, List.setIfInBounds_toArray, List.set_cons_zero, List.set_cons_succ])
  refine' wpAnyH_take (i := 11) (v := .bool false) ?hi11x962 ?hs11x962 ?hf11x962 ?hr11x962 ?hQ11x962 ?hy11x962 ?hS11x962 ?rest11x962
  case hi11x962 => (simp only [List.getElem?_toArray, List.getElem?_cons_succ, List.getElem?_cons_zero]; try rfl)
  case hs11x962 => kernel_rfl
  case hf11x962 => kernel_rfl
  case hr11x962 => kernel_rfl
  case hQ11x962 => exact fun _ _ _ h => h
  case hy11x962 => exact Or.inl ⟨by rfl, by (intro w hSw; (try dsimp only at hSw); go_simp)⟩
  case hS11x962 => assumption
  (try simp only [Act.put, List.setIfInBounds_toArray, List.set_cons_zero, List.set_cons_succ])
  refine' wpAnyH_take (i := 12) (v := .bool false) ?hi12x963 ?hs12x963 ?hf12x963 ?hr12x963 ?hQ12x963 ?hy12x963 ?hS12x963 ?rest12x963
  case hi12x963 => (simp only [List.getElem?_toArray, List.getElem?_cons_succ, List.getElem?_cons_zero]; try rfl)
  case hs12x963 => kernel_rfl
  case hf12x963 => kernel_rfl
  case hr12x963 => kernel_rfl
  case hQ12x963 => exact fun _ _ _ h => h
  case hy12x963 => exact Or.inl ⟨by rfl, by (intro w hSw; (try dsimp only at hSw); go_simp)⟩
  case hS12x963 => assumption
  (try simp only [Act.put, List.setIfInBounds_toArray, List.set_cons_zero, List.set_cons_succ])
  refine' wpAnyH_take (i := 13) (v := undef) ?hi13x964 ?hs13x964 ?hf13x964 ?hr13x964 ?hQ13x964 ?hy13x964 ?hS13x964 ?rest13x964
  case hi13x964 => (simp only [List.getElem?_toArray, List.getElem?_cons_succ, List.getElem?_cons_zero]; try rfl)
  case hs13x964 => kernel_rfl
  case hf13x964 => kernel_rfl
  case hr13x964 => kernel_rfl
  case hQ13x964 => exact fun _ _ _ h => h
  case hy13x964 => exact Or.inr ⟨by rfl, rfl⟩
  case hS13x964 => assumption
  (try simp only [Act.put, List.setIfInBounds_toArray, List.set_cons_zero, List.set_cons_succ])
  refine' wpAnyH_take (i := 14) (v := undef) ?hi14x965 ?hs14x965 ?hf14x965 ?hr14x965 ?hQ14x965 ?hy14x965 ?hS14x965 ?rest14x965
  case hi14x965 => (simp only [List.getElem?_toArray, List.getElem?_cons_succ, List.getElem?_cons_zero]; try rfl)
  case hs14x965 => kernel_rfl
  case hf14x965 => kernel_rfl
  case hr14x965 => kernel_rfl
  case hQ14x965 => exact fun _ _ _ h => h
  case hy14x965 => exact Or.inr ⟨by rfl, rfl⟩
  case hS14x965 => assumption
  (try simp only [Act.put, List.setIfInBounds_toArray, List.set_cons_zero, List.set_cons_succ])
  refine' wpAnyH_take (i := 15) (v := undef) ?hi15x966 ?hs15x966 ?hf15x966 ?hr15x966 ?hQ15x966 ?hy15x966 ?hS15x966 ?rest15x966
  case hi15x966 => (simp only [List.getElem?_toArray, List.getElem?_cons_succ, List.getElem?_cons_zero]; try rfl)
  case hs15x966 => kernel_rfl
  case hf15x966 => kernel_rfl
  case hr15x966 => kernel_rfl
  case hQ15x966 => exact fun _ _ _ h => h
  case hy15x966 => exact Or.inr ⟨by rfl, rfl⟩
  case hS15x966 => assumption
  (try simp only [Act.put, List.setIfInBounds_toArray, List.set_cons_zero, List.set_cons_succ])
  refine' wpAnyH_take (i := 16) (v := .bool false) ?hi16x967 ?hs16x967 ?hf16x967 ?hr16x967 ?hQ16x967 ?hy16x967 ?hS16x967 ?rest16x967
  case hi16x967 => (simp only [List.getElem?_toArray, List.getElem?_cons_succ, List.getElem?_cons_zero]; try rfl)
  case hs16x967 => kernel_rfl
  case hf16x967 => kernel_rfl
  case hr16x967 => kernel_rfl
  case hQ16x967 => exact fun _ _ _ h => h
  case hy16x967 => exact Or.inl ⟨by rfl, by (intro w hSw; (try dsimp only at hSw); go_simp)⟩
  case hS16x967 => assumption
  (try simp only [Act.put, List.setIfInBounds_toArray, List.set_cons_zero, List.set_cons_succ])
  refine' wpAnyH_take (i := 17) (v := .bool false) ?hi17x968 ?hs17x968 ?hf17x968 ?hr17x968 ?hQ17x968 ?hy17x968 ?hS17x968 ?rest17x968
  case hi17x968 => (simp only [List.getElem?_toArray, List.getElem?_cons_succ, List.getElem?_cons_zero]; try rfl)
  case hs17x968 => kernel_rfl
  case hf17x968 => kernel_rfl
  case hr17x968 => kernel_rfl
  case hQ17x968 => exact fun _ _ _ h => h
  case hy17x968 => exact Or.inl ⟨by rfl, by (intro w hSw; (try dsimp only at hSw); go_simp)⟩
  case hS17x968 => assumption
  (try simp only [Act.put, List.setIfInBounds_toArray, List.set_cons_zero, List.set_cons_succ])
  refine' wpAnyH_take (i := 18) (v := .bool false) ?hi18x969 ?hs18x969 ?hf18x969 ?hr18x969 ?hQ18x969 ?hy18x969 ?hS18x969 ?rest18x969
  case hi18x969 => (simp only [List.getElem?_toArray, List.getElem?_cons_succ, List.getElem?_cons_zero]; try rfl)
  case hs18x969 => kernel_rfl
  case hf18x969 => kernel_rfl
  case hr18x969 => kernel_rfl
  case hQ18x969 => exact fun _ _ _ h => h
  case hy18x969 => exact Or.inl ⟨by rfl, by (intro w hSw; (try dsimp only at hSw); go_simp)⟩
  case hS18x969 => assumption
  (try simp only [Act.put, List.setIfInBounds_toArray, List.set_cons_zero, List.set_cons_succ])
  refine' wpAnyH_take (i := 19) (v := .pointer (some ⟨w.heap.size, 2, none⟩)) ?hi19x970 ?hs19x970 ?hf19x970 ?hr19x970 ?hQ19x970 ?hy19x970 ?hS19x970 ?rest19x970
  case hi19x970 => (simp only [List.getElem?_toArray, List.getElem?_cons_succ, List.getElem?_cons_zero]; try rfl)
  case hs19x970 => kernel_rfl
  case hf19x970 => kernel_rfl
  case hr19x970 => kernel_rfl
  case hQ19x970 => exact fun _ _ _ h => h
  case hy19x970 => exact Or.inl ⟨by rfl, by (intro w hSw; (try dsimp only at hSw); go_simp)⟩
  case hS19x970 => assumption
  (try simp only [Act.put, List.setIfInBounds_toArray, List.set_cons_zero, List.set_cons_succ])
  refine' wpAnyH_take (i := 20) (v := .int .i64 n0) ?hi20x971 ?hs20x971 ?hf20x971 ?hr20x971 ?hQ20x971 ?hy20x971 ?hS20x971 ?rest20x971
  case hi20x971 => (simp only [List.getElem?_toArray, List.getElem?_cons_succ, List.getElem?_cons_zero]; try rfl)
  case hs20x971 => kernel_rfl
  case hf20x971 => kernel_rfl
  case hr20x971 => kernel_rfl
  case hQ20x971 => exact fun _ _ _ h => h
  case hy20x971 => exact Or.inl ⟨by rfl, by (intro w hSw; (try dsimp only at hSw); go_simp)⟩
  case hS20x971 => assumption
  (try simp only [Act.put, List.setIfInBounds_toArray, List.set_cons_zero, List.set_cons_succ])
  refine' wpAnyH_take (i := 21) (v := .bool false) ?hi21x972 ?hs21x972 ?hf21x972 ?hr21x972 ?hQ21x972 ?hy21x972 ?hS21x972 ?rest21x972
  case hi21x972 => (simp only [List.getElem?_toArray, List.getElem?_cons_succ, List.getElem?_cons_zero]; try rfl)
  case hs21x972 => kernel_rfl
  case hf21x972 => kernel_rfl
  case hr21x972 => kernel_rfl
  case hQ21x972 => exact fun _ _ _ h => h
  case hy21x972 => exact Or.inl ⟨by rfl, by (intro w hSw; (try dsimp only at hSw); go_simp)⟩
  case hS21x972 => assumption
  (try simp only [Act.put, List.setIfInBounds_toArray, List.set_cons_zero, List.set_cons_succ])
  refine' wpAnyH_take (i := 22) (v := .bool false) ?hi22x973 ?hs22x973 ?hf22x973 ?hr22x973 ?hQ22x973 ?hy22x973 ?hS22x973 ?rest22x973
  case hi22x973 => (simp only [List.getElem?_toArray, List.getElem?_cons_succ, List.getElem?_cons_zero]; try rfl)
  case hs22x973 => kernel_rfl
  case hf22x973 => kernel_rfl
  case hr22x973 => kernel_rfl
  case hQ22x973 => exact fun _ _ _ h => h
  case hy22x973 => exact Or.inl ⟨by rfl, by (intro w hSw; (try dsimp only at hSw); go_simp)⟩
  case hS22x973 => assumption
  (try simp only [Act.put, List.setIfInBounds_toArray, List.set_cons_zero, List.set_cons_succ])
  refine' wpAnyH_take (i := 23) (v := undef) ?hi23x974 ?hs23x974 ?hf23x974 ?hr23x974 ?hQ23x974 ?hy23x974 ?hS23x974 ?rest23x974
  case hi23x974 => (simp only [List.getElem?_toArray, List.getElem?_cons_succ, List.getElem?_cons_zero]; try rfl)
  case hs23x974 => kernel_rfl
  case hf23x974 => kernel_rfl
  case hr23x974 => kernel_rfl
  case hQ23x974 => exact fun _ _ _ h => h
  case hy23x974 => exact Or.inr ⟨by rfl, rfl⟩
  case hS23x974 => assumption
  (try simp only [Act.put, List.setIfInBounds_toArray, List.set_cons_zero, List.set_cons_succ])
  refine' wpAnyH_take (i := 24) (v := undef) ?hi24x975 ?hs24x975 ?hf24x975 ?hr24x975 ?hQ24x975 ?hy24x975 ?hS24x975 ?rest24x975
  case hi24x975 => (simp only [List.getElem?_toArray, List.getElem?_cons_succ, List.getElem?_cons_zero]; try rfl)
  case hs24x975 => kernel_rfl
  case hf24x975 => kernel_rfl
  case hr24x975 => kernel_rfl
  case hQ24x975 => exact fun _ _ _ h => h
  case hy24x975 => exact Or.inr ⟨by rfl, rfl⟩
  case hS24x975 => assumption
  (try simp only [Act.put, List.setIfInBounds_toArray, List.set_cons_zero, List.set_cons_succ])
  refine' wpAnyH_take (i := 25) (v := undef) ?hi25x976 ?hs25x976 ?hf25x976 ?hr25x976 ?hQ25x976 ?hy25x976 ?hS25x976 ?rest25x976
  case hi25x976 => (simp only [List.getElem?_toArray, List.getElem?_cons_succ, List.getElem?_cons_zero]; try rfl)
  case hs25x976 => kernel_rfl
  case hf25x976 => kernel_rfl
  case hr25x976 => kernel_rfl
  case hQ25x976 => exact fun _ _ _ h => h
  case hy25x976 => exact Or.inr ⟨by rfl, rfl⟩
  case hS25x976 => assumption
  (try simp only [Act.put, List.setIfInBounds_toArray, List.set_cons_zero, List.set_cons_succ])
  refine' wpAnyH_take (i := 26) (v := .bool false) ?hi26x977 ?hs26x977 ?hf26x977 ?hr26x977 ?hQ26x977 ?hy26x977 ?hS26x977 ?rest26x977
  case hi26x977 => (simp only [List.getElem?_toArray, List.getElem?_cons_succ, List.getElem?_cons_zero]; try rfl)
  case hs26x977 => kernel_rfl
  case hf26x977 => kernel_rfl
  case hr26x977 => kernel_rfl
  case hQ26x977 => exact fun _ _ _ h => h
  case hy26x977 => exact Or.inl ⟨by rfl, by (intro w hSw; (try dsimp only at hSw); go_simp)⟩
  case hS26x977 => assumption
  (try simp only [Act.put, List.setIfInBounds_toArray, List.set_cons_zero, List.set_cons_succ])
  refine' wpAnyH_take (i := 27) (v := .bool false) ?hi27x978 ?hs27x978 ?hf27x978 ?hr27x978 ?hQ27x978 ?hy27x978 ?hS27x978 ?rest27x978
  case hi27x978 => (simp only [List.getElem?_toArray, List.getElem?_cons_succ, List.getElem?_cons_zero]; try rfl)
  case hs27x978 => kernel_rfl
  case hf27x978 => kernel_rfl
  case hr27x978 => kernel_rfl
  case hQ27x978 => exact fun _ _ _ h => h
  case hy27x978 => exact Or.inl ⟨by rfl, by (intro w hSw; (try dsimp only at hSw); go_simp)⟩
  case hS27x978 => assumption
  (try simp only [Act.put, List.setIfInBounds_toArray, List.set_cons_zero, List.set_cons_succ])
  refine' wpAnyH_take (i := 28) (v := undef) ?hi28x979 ?hs28x979 ?hf28x979 ?hr28x979 ?hQ28x979 ?hy28x979 ?hS28x979 ?rest28x979
  case hi28x979 => (simp only [List.getElem?_toArray, List.getElem?_cons_succ, List.getElem?_cons_zero]; try rfl)
  case hs28x979 => kernel_rfl
  case hf28x979 => kernel_rfl
  case hr28x979 => kernel_rfl
  case hQ28x979 => exact fun _ _ _ h => h
  case hy28x979 => exact Or.inr ⟨by rfl, rfl⟩
  case hS28x979 => assumption
  (try simp only [Act.put, List.setIfInBounds_toArray, List.set_cons_zero, List.set_cons_succ])
  refine' wpAnyH_take (i := 29) (v := undef) ?hi29x980 ?hs29x980 ?hf29x980 ?hr29x980 ?hQ29x980 ?hy29x980 ?hS29x980 ?rest29x980
  case hi29x980 => (simp only [List.getElem?_toArray, List.getElem?_cons_succ, List.getElem?_cons_zero]; try rfl)
  case hs29x980 => kernel_rfl
  case hf29x980 => kernel_rfl
  case hr29x980 => kernel_rfl
  case hQ29x980 => exact fun _ _ _ h => h
  case hy29x980 => exact Or.inr ⟨by rfl, rfl⟩
  case hS29x980 => assumption
  (try simp only [Act.put, List.setIfInBounds_toArray, List.set_cons_zero, List.set_cons_succ])
  refine' wpAnyH_take (i := 30) (v := undef) ?hi30x981 ?hs30x981 ?hf30x981 ?hr30x981 ?hQ30x981 ?hy30x981 ?hS30x981 ?rest30x981
  case hi30x981 => (simp only [List.getElem?_toArray, List.getElem?_cons_succ, List.getElem?_cons_zero]; try rfl)
  case hs30x981 => kernel_rfl
  case hf30x981 => kernel_rfl
  case hr30x981 => kernel_rfl
  case hQ30x981 => exact fun _ _ _ h => h
  case hy30x981 => exact Or.inr ⟨by rfl, rfl⟩
  case hS30x981 => assumption
  (try simp only [Act.put, List.setIfInBounds_toArray, List.set_cons_zero, List.set_cons_succ])
  refine' wpAnyH_take (i := 31) (v := undef) ?hi31x982 ?hs31x982 ?hf31x982 ?hr31x982 ?hQ31x982 ?hy31x982 ?hS31x982 ?rest31x982
  case hi31x982 => (simp only [List.getElem?_toArray, List.getElem?_cons_succ, List.getElem?_cons_zero]; try rfl)
  case hs31x982 => kernel_rfl
  case hf31x982 => kernel_rfl
  case hr31x982 => kernel_rfl
  case hQ31x982 => exact fun _ _ _ h => h
  case hy31x982 => exact Or.inr ⟨by rfl, rfl⟩
  case hS31x982 => assumption
  (try simp only [Act.put, List.setIfInBounds_toArray, List.set_cons_zero, List.set_cons_succ])
  refine' wpAnyH_take (i := 32) (v := undef) ?hi32x983 ?hs32x983 ?hf32x983 ?hr32x983 ?hQ32x983 ?hy32x983 ?hS32x983 ?rest32x983
  case hi32x983 => (simp only [List.getElem?_toArray, List.getElem?_cons_succ, List.getElem?_cons_zero]; try rfl)
  case hs32x983 => kernel_rfl
  case hf32x983 => kernel_rfl
  case hr32x983 => kernel_rfl
  case hQ32x983 => exact fun _ _ _ h => h
  case hy32x983 => exact Or.inr ⟨by rfl, rfl⟩
  case hS32x983 => assumption
  (try simp only [Act.put, List.setIfInBounds_toArray, List.set_cons_zero, List.set_cons_succ])
  refine' wpAnyH_take (i := 33) (v := undef) ?hi33x984 ?hs33x984 ?hf33x984 ?hr33x984 ?hQ33x984 ?hy33x984 ?hS33x984 ?rest33x984
  case hi33x984 => (simp only [List.getElem?_toArray, List.getElem?_cons_succ, List.getElem?_cons_zero]; try rfl)
  case hs33x984 => kernel_rfl
  case hf33x984 => kernel_rfl
  case hr33x984 => kernel_rfl
  case hQ33x984 => exact fun _ _ _ h => h
  case hy33x984 => exact Or.inr ⟨by rfl, rfl⟩
  case hS33x984 => assumption
  (try simp only [Act.put, List.setIfInBounds_toArray, List.set_cons_zero, List.set_cons_succ])
  refine' wpAnyH_take (i := 34) (v := undef) ?hi34x985 ?hs34x985 ?hf34x985 ?hr34x985 ?hQ34x985 ?hy34x985 ?hS34x985 ?rest34x985
  case hi34x985 => (simp only [List.getElem?_toArray, List.getElem?_cons_succ, List.getElem?_cons_zero]; try rfl)
  case hs34x985 => kernel_rfl
  case hf34x985 => kernel_rfl
  case hr34x985 => kernel_rfl
  case hQ34x985 => exact fun _ _ _ h => h
  case hy34x985 => exact Or.inr ⟨by rfl, rfl⟩
  case hS34x985 => assumption
  (try simp only [Act.put, List.setIfInBounds_toArray, List.set_cons_zero, List.set_cons_succ])
  refine' wpAnyH_take (i := 35) (v := .bool false) ?hi35x986 ?hs35x986 ?hf35x986 ?hr35x986 ?hQ35x986 ?hy35x986 ?hS35x986 ?rest35x986
  case hi35x986 => (simp only [List.getElem?_toArray, List.getElem?_cons_succ, List.getElem?_cons_zero]; try rfl)
  case hs35x986 => kernel_rfl
  case hf35x986 => kernel_rfl
  case hr35x986 => kernel_rfl
  case hQ35x986 => exact fun _ _ _ h => h
  case hy35x986 => exact Or.inl ⟨by rfl, by (intro w hSw; (try dsimp only at hSw); go_simp)⟩
  case hS35x986 => assumption
  (try simp only [Act.put, List.setIfInBounds_toArray, List.set_cons_zero, List.set_cons_succ])
  refine' wpAnyH_take (i := 36) (v := .bool false) ?hi36x987 ?hs36x987 ?hf36x987 ?hr36x987 ?hQ36x987 ?hy36x987 ?hS36x987 ?rest36x987
  case hi36x987 => (simp only [List.getElem?_toArray, List.getElem?_cons_succ, List.getElem?_cons_zero]; try rfl)
  case hs36x987 => kernel_rfl
  case hf36x987 => kernel_rfl
  case hr36x987 => kernel_rfl
  case hQ36x987 => exact fun _ _ _ h => h
  case hy36x987 => exact Or.inl ⟨by rfl, by (intro w hSw; (try dsimp only at hSw); go_simp)⟩
  case hS36x987 => assumption
  (try simp only [Act.put, List.setIfInBounds_toArray, List.set_cons_zero, List.set_cons_succ])
  refine' wpAnyH_take (i := 37) (v := .bool false) ?hi37x988 ?hs37x988 ?hf37x988 ?hr37x988 ?hQ37x988 ?hy37x988 ?hS37x988 ?rest37x988
  case hi37x988 => (simp only [List.getElem?_toArray, List.getElem?_cons_succ, List.getElem?_cons_zero]; try rfl)
  case hs37x988 => kernel_rfl
  case hf37x988 => kernel_rfl
  case hr37x988 => kernel_rfl
  case hQ37x988 => exact fun _ _ _ h => h
  case hy37x988 => exact Or.inl ⟨by rfl, by (intro w hSw; (try dsimp only at hSw); go_simp)⟩
  case hS37x988 => assumption
  (try simp only [Act.put, List.setIfInBounds_toArray, List.set_cons_zero, List.set_cons_succ])
  refine wpAnyH_done (by kernel_rfl) ?_ _
  refine NoPanic.normal ?_
  clear hHeld
  go_wp2_with fail
  refine wp_region_noPanic ?_
  refine wp_region_held_drew (S := (fun w' => w'.cell? ⟨w.heap.size, 0, none⟩ = some (.int .u8 k0) ∧ w'.cell? ⟨w.heap.size, 1, none⟩ = some (.bool b0) ∧ w'.cell? ⟨w.heap.size, 2, none⟩ = some (.int .i64 n0) ∧ w'.cell? ⟨w.heap.size, 3, none⟩ = some (.string s0) ∧ w'.cell? ⟨w.heap.size + 1, 0, none⟩ = some (.int .u8 k1) ∧ w'.cell? ⟨w.heap.size + 1, 1, none⟩ = some (.bool b1) ∧ w'.cell? ⟨w.heap.size + 1, 2, none⟩ = some (.int .i64 n1) ∧ w'.cell? ⟨w.heap.size + 1, 3, none⟩ = some (.string s1))) (by kernel_rfl) (by first | exact ⟨a0_, a1_, a2_, a3_, b0_, b1_, b2_, b3_⟩ | go_keep) (fun hHeld => ?_)
  refine' wpAnyH_take (i := 0) (v := .int .i64 m) ?hi0x989 ?hs0x989 ?hf0x989 ?hr0x989 ?hQ0x989 ?hy0x989 ?hS0x989 ?rest0x989
  case hi0x989 => (simp only [List.getElem?_toArray, List.getElem?_cons_succ, List.getElem?_cons_zero]; try rfl)
  case hs0x989 => kernel_rfl
  case hf0x989 => kernel_rfl
  case hr0x989 => kernel_rfl
  case hQ0x989 => exact fun _ _ _ h => h
  case hy0x989 => exact Or.inl ⟨by rfl, by (intro w hSw; (try dsimp only at hSw); go_simp)⟩
  case hS0x989 => assumption
  (try simp only [Act.put, List.setIfInBounds_toArray, List.set_cons_zero, List.set_cons_succ])
  refine' wpAnyH_take (i := 1) (v := .bool false) ?hi1x990 ?hs1x990 ?hf1x990 ?hr1x990 ?hQ1x990 ?hy1x990 ?hS1x990 ?rest1x990
  case hi1x990 => (simp only [List.getElem?_toArray, List.getElem?_cons_succ, List.getElem?_cons_zero]; try rfl)
  case hs1x990 => kernel_rfl
  case hf1x990 => kernel_rfl
  case hr1x990 => kernel_rfl
  case hQ1x990 => exact fun _ _ _ h => h
  case hy1x990 => exact Or.inl ⟨by rfl, by (intro w hSw; (try dsimp only at hSw); go_simp)⟩
  case hS1x990 => assumption
  (try simp only [Act.put, List.setIfInBounds_toArray, List.set_cons_zero, List.set_cons_succ])
  refine' wpAnyH_take (i := 3) (v := .agg #[.int .u8 k0, .bool b0, .int .i64 n0, .string s0]) ?hi3x991 ?hs3x991 ?hf3x991 ?hr3x991 ?hQ3x991 ?hy3x991 ?hS3x991 ?rest3x991
  case hi3x991 => (simp only [List.getElem?_toArray, List.getElem?_cons_succ, List.getElem?_cons_zero]; try rfl)
  case hs3x991 => kernel_rfl
  case hf3x991 => kernel_rfl
  case hr3x991 => kernel_rfl
  case hQ3x991 => exact fun _ _ _ h => h
  case hy3x991 => exact Or.inl ⟨by rfl, by (intro w hSw; (try dsimp only at hSw); go_simp)⟩
  case hS3x991 => assumption
  (try simp only [Act.put, List.setIfInBounds_toArray, List.set_cons_zero, List.set_cons_succ])
  refine' wpAnyH_take (i := 4) (v := .agg #[.int .u8 k1, .bool b1, .int .i64 n1, .string s1]) ?hi4x992 ?hs4x992 ?hf4x992 ?hr4x992 ?hQ4x992 ?hy4x992 ?hS4x992 ?rest4x992
  case hi4x992 => (simp only [List.getElem?_toArray, List.getElem?_cons_succ, List.getElem?_cons_zero]; try rfl)
  case hs4x992 => kernel_rfl
  case hf4x992 => kernel_rfl
  case hr4x992 => kernel_rfl
  case hQ4x992 => exact fun _ _ _ h => h
  case hy4x992 => exact Or.inl ⟨by rfl, by (intro w hSw; (try dsimp only at hSw); go_simp)⟩
  case hS4x992 => assumption
  (try simp only [Act.put, List.setIfInBounds_toArray, List.set_cons_zero, List.set_cons_succ])
  refine wpAnyH_ready (rs := [2, 5]) (by kernel_rfl) (by simp) ?_
  refine' AllReadyH.cons (i := 2) ?ho2x993 (fun K hK => ?st2x993) (AllReadyH.cons (i := 5) ?ho5x994 (fun K hK => ?st5x994) AllReadyH.nil)
  case ho2x993 => (simp only [List.getElem?_toArray, List.getElem?_cons_succ, List.getElem?_cons_zero]; try rfl)
  case ho5x994 => (simp only [List.getElem?_toArray, List.getElem?_cons_succ, List.getElem?_cons_zero]; try rfl)
  case st2x993 =>
    go_simp
    refine (refOver_any _ _).mono ?_
    rintro e w' ⟨rfl, rfl⟩
    go_wp2_with fail
    refine hK.out _ _ ?_ (fun hHeld => ?_)
    · (first | exact ⟨a0_, a1_, a2_, a3_, b0_, b1_, b2_, b3_⟩ | go_keep)
    clear hK K
    (try simp only [Act.put, List.setIfInBounds_toArray, List.set_cons_zero, List.set_cons_succ])
    refine wpAnyH_ready (rs := [5]) (by kernel_rfl) (by simp) ?_
    refine' AllReadyH.cons (i := 5) ?ho5x995 (fun K hK => ?st5x995) AllReadyH.nil
    case ho5x995 => (simp only [List.getElem?_toArray, List.getElem?_cons_succ, List.getElem?_cons_zero]; try rfl)
    go_simp
    refine hK.out _ _ ?_ (fun hHeld => ?_)
    · (first | exact ⟨a0_, a1_, a2_, a3_, b0_, b1_, b2_, b3_⟩ | go_keep)
    clear hK K
    (try simp only [Act.put, List.setIfInBounds_toArray, List.set_cons_zero, List.set_cons_succ])
    refine wpAnyH_ready (rs := [6]) (by kernel_rfl) (by simp) ?_
    refine' AllReadyH.cons (i := 6) ?ho6x996 (fun K hK => ?st6x996) AllReadyH.nil
    case ho6x996 => (simp only [List.getElem?_toArray, List.getElem?_cons_succ, List.getElem?_cons_zero]; try rfl)
    go_simp
    refine (refNum2_any _ _ k0 b0 n0 s0 k1 b1 n1 s1 _ _ _ (by exact heap_at _ _ _ (by first | rfl | simp)) hs0H.out hs1H.out).mono ?_
    rw [hrH.out, refVm]
    rintro e w' ⟨rfl, hb'⟩
    replace hb := chainB (B := W0.heap.size) (a := W0) (by go_grown) hb' (by have := hb.size; first | omega | (simp; done) | (simp; omega))
    clear hb' a0_ a1_ a2_ a3_ b0_ b1_ b2_ b3_ r0_ r1_ r2_ r3_ f0_ f1_ f2_ f3_ hz hs
    obtain ⟨a0_, a1_, a2_, a3_⟩ := (hAH.out.below hb).cells; obtain ⟨b0_, b1_, b2_, b3_⟩ := (hBH.out.below hb).cells; obtain ⟨r0_, r1_, r2_, r3_⟩ := (hRH.out.below hb).cells; obtain ⟨f0_, f1_, f2_, f3_⟩ := (hRH.out.below hb).free; have hz := Nat.lt_of_lt_of_le hz0.out hb.size; have hs := hb.size
    go_wp2_with fail
    refine hK.out _ _ ?_ (fun hHeld => ?_)
    · (first | exact ⟨a0_, a1_, a2_, a3_, b0_, b1_, b2_, b3_⟩ | go_keep)
    clear hK K
    (try simp only [Act.put, List.setIfInBounds_toArray, List.set_cons_zero, List.set_cons_succ])
    refine' wpAnyH_take (i := 7) (v := .agg #[.int .u8 k', .bool b', .int .i64 n', .string s']) ?hi7x997 ?hs7x997 ?hf7x997 ?hr7x997 ?hQ7x997 ?hy7x997 ?hS7x997 ?rest7x997
    case hi7x997 => (simp only [List.getElem?_toArray, List.getElem?_cons_succ, List.getElem?_cons_zero]; try rfl)
    case hs7x997 => kernel_rfl
    case hf7x997 => kernel_rfl
    case hr7x997 => kernel_rfl
    case hQ7x997 => exact fun _ _ _ h => h
    case hy7x997 => exact Or.inl ⟨by rfl, by (intro w hSw; (try dsimp only at hSw); go_simp)⟩
    case hS7x997 => assumption
    (try simp only [Act.put, List.setIfInBounds_toArray, List.set_cons_zero, List.set_cons_succ])
    refine' wpAnyH_take (i := 8) (v := .int .i64 x) ?hi8x998 ?hs8x998 ?hf8x998 ?hr8x998 ?hQ8x998 ?hy8x998 ?hS8x998 ?rest8x998
    case hi8x998 => (simp only [List.getElem?_toArray, List.getElem?_cons_succ, List.getElem?_cons_zero]; try rfl)
    case hs8x998 => kernel_rfl
    case hf8x998 => kernel_rfl
    case hr8x998 => kernel_rfl
    case hQ8x998 => exact fun _ _ _ h => h
    case hy8x998 => exact Or.inl ⟨by rfl, by (intro w hSw; (try dsimp only at hSw); go_simp)⟩
    case hS8x998 => assumption
    (try simp only [Act.put, List.setIfInBounds_toArray, List.set_cons_zero, List.set_cons_succ])
    have hne1 : ¬ (w.heap.size + 1 + 1 = w.heap.size) := by omega
    have hne2 : ¬ (w.heap.size = w.heap.size + 1 + 1) := by omega
    refine wpAnyH_ready (rs := [9]) (by kernel_rfl) (by simp) ?_
    refine' AllReadyH.cons (i := 9) ?ho9x999 (fun K hK => ?st9x999) AllReadyH.nil
    case ho9x999 => (simp only [List.getElem?_toArray, List.getElem?_cons_succ, List.getElem?_cons_zero]; try rfl)
    go_simp
    refine hK.out _ _ ?_ (fun hHeld => ?_)
    · (first | exact ⟨a0_, a1_, a2_, a3_, b0_, b1_, b2_, b3_⟩ | go_keep)
    clear hK K
    (try simp only [Act.put, List.setIfInBounds_toArray, List.set_cons_zero, List.set_cons_succ])
    refine' wpAnyH_take (i := 10) (v := .int .i64 x) ?hi10x1000 ?hs10x1000 ?hf10x1000 ?hr10x1000 ?hQ10x1000 ?hy10x1000 ?hS10x1000 ?rest10x1000
    case hi10x1000 => (simp only [List.getElem?_toArray, List.getElem?_cons_succ, List.getElem?_cons_zero]; try rfl)
    case hs10x1000 => kernel_rfl
    case hf10x1000 => kernel_rfl
    case hr10x1000 => kernel_rfl
    case hQ10x1000 => exact fun _ _ _ h => h
    case hy10x1000 => exact Or.inl ⟨by rfl, by (intro w hSw; (try dsimp only at hSw); go_simp)⟩
    case hS10x1000 => assumption
    (try simp only [Act.put, List.setIfInBounds_toArray, List.set_cons_zero, List.set_cons_succ])
    refine wpAnyH_done (by kernel_rfl) ?_ _
    refine NoPanic.normal ?_
    clear hne1 hne2
    go_wp2
    refine bodyPost_ret (v := .tuple #[.agg #[.int .u8 k', .bool b', .int .i64 n', .string s'], .int .i64 x]) (by simp [results, Tryd.results34, go_sem, r0_, r1_, r2_, r3_, hz]) rfl ⟨rfl, ?_⟩
    have hbw := hwWH.out.trans (hb.mono hwWH.out.size)
    clear hb
    go_grown
  case st5x994 =>
    go_simp
    refine hK.out _ _ ?_ (fun hHeld => ?_)
    · (first | exact ⟨a0_, a1_, a2_, a3_, b0_, b1_, b2_, b3_⟩ | go_keep)
    clear hK K
    (try simp only [Act.put, List.setIfInBounds_toArray, List.set_cons_zero, List.set_cons_succ])
    refine wpAnyH_ready (rs := [2]) (by kernel_rfl) (by simp) ?_
    refine' AllReadyH.cons (i := 2) ?ho2x1001 (fun K hK => ?st2x1001) AllReadyH.nil
    case ho2x1001 => (simp only [List.getElem?_toArray, List.getElem?_cons_succ, List.getElem?_cons_zero]; try rfl)
    go_simp
    refine (refOver_any _ _).mono ?_
    rintro e w' ⟨rfl, rfl⟩
    go_wp2_with fail
    refine hK.out _ _ ?_ (fun hHeld => ?_)
    · (first | exact ⟨a0_, a1_, a2_, a3_, b0_, b1_, b2_, b3_⟩ | go_keep)
    clear hK K
    (try simp only [Act.put, List.setIfInBounds_toArray, List.set_cons_zero, List.set_cons_succ])
    refine wpAnyH_ready (rs := [6]) (by kernel_rfl) (by simp) ?_
    refine' AllReadyH.cons (i := 6) ?ho6x1002 (fun K hK => ?st6x1002) AllReadyH.nil
    case ho6x1002 => (simp only [List.getElem?_toArray, List.getElem?_cons_succ, List.getElem?_cons_zero]; try rfl)
    go_simp
    refine (refNum2_any _ _ k0 b0 n0 s0 k1 b1 n1 s1 _ _ _ (by exact heap_at _ _ _ (by first | rfl | simp)) hs0H.out hs1H.out).mono ?_
    rw [hrH.out, refVm]
    rintro e w' ⟨rfl, hb'⟩
    replace hb := chainB (B := W0.heap.size) (a := W0) (by go_grown) hb' (by have := hb.size; first | omega | (simp; done) | (simp; omega))
    clear hb' a0_ a1_ a2_ a3_ b0_ b1_ b2_ b3_ r0_ r1_ r2_ r3_ f0_ f1_ f2_ f3_ hz hs
    obtain ⟨a0_, a1_, a2_, a3_⟩ := (hAH.out.below hb).cells; obtain ⟨b0_, b1_, b2_, b3_⟩ := (hBH.out.below hb).cells; obtain ⟨r0_, r1_, r2_, r3_⟩ := (hRH.out.below hb).cells; obtain ⟨f0_, f1_, f2_, f3_⟩ := (hRH.out.below hb).free; have hz := Nat.lt_of_lt_of_le hz0.out hb.size; have hs := hb.size
    go_wp2_with fail
    refine hK.out _ _ ?_ (fun hHeld => ?_)
    · (first | exact ⟨a0_, a1_, a2_, a3_, b0_, b1_, b2_, b3_⟩ | go_keep)
    clear hK K
    (try simp only [Act.put, List.setIfInBounds_toArray, List.set_cons_zero, List.set_cons_succ])
    refine' wpAnyH_take (i := 7) (v := .agg #[.int .u8 k', .bool b', .int .i64 n', .string s']) ?hi7x1003 ?hs7x1003 ?hf7x1003 ?hr7x1003 ?hQ7x1003 ?hy7x1003 ?hS7x1003 ?rest7x1003
    case hi7x1003 => (simp only [List.getElem?_toArray, List.getElem?_cons_succ, List.getElem?_cons_zero]; try rfl)
    case hs7x1003 => kernel_rfl
    case hf7x1003 => kernel_rfl
    case hr7x1003 => kernel_rfl
    case hQ7x1003 => exact fun _ _ _ h => h
    case hy7x1003 => exact Or.inl ⟨by rfl, by (intro w hSw; (try dsimp only at hSw); go_simp)⟩
    case hS7x1003 => assumption
    (try simp only [Act.put, List.setIfInBounds_toArray, List.set_cons_zero, List.set_cons_succ])
    refine' wpAnyH_take (i := 8) (v := .int .i64 x) ?hi8x1004 ?hs8x1004 ?hf8x1004 ?hr8x1004 ?hQ8x1004 ?hy8x1004 ?hS8x1004 ?rest8x1004
    case hi8x1004 => (simp only [List.getElem?_toArray, List.getElem?_cons_succ, List.getElem?_cons_zero]; try rfl)
    case hs8x1004 => kernel_rfl
    case hf8x1004 => kernel_rfl
    case hr8x1004 => kernel_rfl
    case hQ8x1004 => exact fun _ _ _ h => h
    case hy8x1004 => exact Or.inl ⟨by rfl, by (intro w hSw; (try dsimp only at hSw); go_simp)⟩
    case hS8x1004 => assumption
    (try simp only [Act.put, List.setIfInBounds_toArray, List.set_cons_zero, List.set_cons_succ])
    have hne1 : ¬ (w.heap.size + 1 + 1 = w.heap.size) := by omega
    have hne2 : ¬ (w.heap.size = w.heap.size + 1 + 1) := by omega
    refine wpAnyH_ready (rs := [9]) (by kernel_rfl) (by simp) ?_
    refine' AllReadyH.cons (i := 9) ?ho9x1005 (fun K hK => ?st9x1005) AllReadyH.nil
    case ho9x1005 => (simp only [List.getElem?_toArray, List.getElem?_cons_succ, List.getElem?_cons_zero]; try rfl)
    go_simp
    refine hK.out _ _ ?_ (fun hHeld => ?_)
    · (first | exact ⟨a0_, a1_, a2_, a3_, b0_, b1_, b2_, b3_⟩ | go_keep)
    clear hK K
    (try simp only [Act.put, List.setIfInBounds_toArray, List.set_cons_zero, List.set_cons_succ])
    refine' wpAnyH_take (i := 10) (v := .int .i64 x) ?hi10x1006 ?hs10x1006 ?hf10x1006 ?hr10x1006 ?hQ10x1006 ?hy10x1006 ?hS10x1006 ?rest10x1006
    case hi10x1006 => (simp only [List.getElem?_toArray, List.getElem?_cons_succ, List.getElem?_cons_zero]; try rfl)
    case hs10x1006 => kernel_rfl
    case hf10x1006 => kernel_rfl
    case hr10x1006 => kernel_rfl
    case hQ10x1006 => exact fun _ _ _ h => h
    case hy10x1006 => exact Or.inl ⟨by rfl, by (intro w hSw; (try dsimp only at hSw); go_simp)⟩
    case hS10x1006 => assumption
    (try simp only [Act.put, List.setIfInBounds_toArray, List.set_cons_zero, List.set_cons_succ])
    refine wpAnyH_done (by kernel_rfl) ?_ _
    refine NoPanic.normal ?_
    clear hne1 hne2
    go_wp2
    refine bodyPost_ret (v := .tuple #[.agg #[.int .u8 k', .bool b', .int .i64 n', .string s'], .int .i64 x]) (by simp [results, Tryd.results34, go_sem, r0_, r1_, r2_, r3_, hz]) rfl ⟨rfl, ?_⟩
    have hbw := hwWH.out.trans (hb.mono hwWH.out.size)
    clear hb
    go_grown

end Go.Proofs.YtoolojfbjpnllaaDoor
