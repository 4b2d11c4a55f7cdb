/-
  What the document's own Add answers, at this program, part 0. Condition: the texts have at most 2^47 bytes, the numbers are 64-bit numbers.
-/
import Derived.Test.YtoolojfbjpnllaaDoorRefNeg
import Derived.Test.YtoolojfbjpnllaaDoorOps
import Derived.Deep.RegionHeld3
set_option linter.unusedVariables false
set_option linter.unusedSimpArgs false
namespace Go.Proofs.YtoolojfbjpnllaaDoor
open Go.RowKit Go.Lib

set_option maxRecDepth 100000 in
set_option maxHeartbeats 8000000 in
theorem refAdd_pn (k0 : Int) (b0 : Bool) (n0 : Int) (s0 : ByteArray) (k1 : Int) (b1 : Bool) (n1 : Int) (s1 : ByteArray) (w : World) (hs0 : s0.size ≤ 140737488355328) (hs1 : s1.size ≤ 140737488355328) (ha : 0 ≤ n0) (hb1 : n1 < 0) :
    Calls Tryd.prog 32 #[.agg #[.int .u8 k0, .bool b0, .int .i64 n0, .string s0], .agg #[.int .u8 k1, .bool b1, .int .i64 n1, .string s1]] w fun e w' => e = .returned (refV (numS ⟨k0, b0, n0, s0⟩ ⟨k1, b1, n1, s1⟩ (wrap64 (n0 + n1), 0))) ∧ Below w.heap.size w w' := by
  obtain ⟨r, hr⟩ : ∃ r, numS ⟨k0, b0, n0, s0⟩ ⟨k1, b1, n1, s1⟩ (wrap64 (n0 + n1), 0) = r := ⟨_, rfl⟩
  rw [hr]
  obtain ⟨⟨k', b', n', s'⟩, x⟩ := r
  rw [refVm]
  have hrH := Lib.hid hr
  clear hr
  have hs0H := Lib.hid hs0; have hs1H := Lib.hid hs1
  obtain ⟨m, hm⟩ : ∃ m, wrap64 (n0 + n1) = m := ⟨_, rfl⟩
  have hm' : IntKind.i64.wrap (n0 + n1) = m := by rw [wrap_is, hm]
  rw [hm] at hrH
  have d1 : decide (n0 ≥ 0) = true := by simp; omega
  have d2 : decide (n0 < 0) = false := by simp; omega
  have d3 : decide (n1 ≥ 0) = false := by simp; omega
  obtain ⟨W0, hW0, hwW, hA, hB, hR, hzz⟩ := boxes2 w k0 b0 n0 s0 k1 b1 n1 s1
  have hAH := Lib.hid hA; have hBH := Lib.hid hB; have hRH := Lib.hid hR; have hz0 := Lib.hid hzz; have hwWH := Lib.hid hwW
  clear hA hB hR hzz hwW hs0 hs1
  have hb := Below.refl W0.heap.size W0
  obtain ⟨a0_, a1_, a2_, a3_⟩ := (hAH.out.below hb).cells; obtain ⟨b0_, b1_, b2_, b3_⟩ := (hBH.out.below hb).cells; obtain ⟨r0_, r1_, r2_, r3_⟩ := (hRH.out.below hb).cells; obtain ⟨f0_, f1_, f2_, f3_⟩ := (hRH.out.below hb).free; have hz := Nat.lt_of_lt_of_le hz0.out hb.size; have hs := hb.size
  go_enter Tryd.func32, Tryd.ntmps32
  go_wp2_with fail
  refine wp_region_noPanic ?_
  refine wp_region_held_drew (S := (fun w' => w'.cell? ⟨w.heap.size, 0, none⟩ = some (.int .u8 k0) ∧ w'.cell? ⟨w.heap.size, 1, none⟩ = some (.bool b0) ∧ w'.cell? ⟨w.heap.size, 2, none⟩ = some (.int .i64 n0) ∧ w'.cell? ⟨w.heap.size, 3, none⟩ = some (.string s0) ∧ w'.cell? ⟨w.heap.size + 1, 0, none⟩ = some (.int .u8 k1) ∧ w'.cell? ⟨w.heap.size + 1, 1, none⟩ = some (.bool b1) ∧ w'.cell? ⟨w.heap.size + 1, 2, none⟩ = some (.int .i64 n1) ∧ w'.cell? ⟨w.heap.size + 1, 3, none⟩ = some (.string s1))) (by kernel_rfl) (by first | exact ⟨a0_, a1_, a2_, a3_, b0_, b1_, b2_, b3_⟩ | go_keep) (fun hHeld => ?_)
  refine' wpAnyH_take (i := 0) (v := .int .i64 m) ?hi0x43 ?hs0x43 ?hf0x43 ?hr0x43 ?hQ0x43 ?hy0x43 ?hS0x43 ?rest0x43
  case hi0x43 => (simp only [List.getElem?_toArray, List.getElem?_cons_succ, List.getElem?_cons_zero]; try rfl)
  case hs0x43 => kernel_rfl
  case hf0x43 => kernel_rfl
  case hr0x43 => kernel_rfl
  case hQ0x43 => exact fun _ _ _ h => h
  case hy0x43 => exact Or.inl ⟨by rfl, by (intro w hSw; (try dsimp only at hSw); go_simp)⟩
  case hS0x43 => assumption
  (try simp only [Act.put, List.setIfInBounds_toArray, List.set_cons_zero, List.set_cons_succ])
  refine' wpAnyH_take (i := 1) (v := .pointer (some ⟨w.heap.size, 2, none⟩)) ?hi1x44 ?hs1x44 ?hf1x44 ?hr1x44 ?hQ1x44 ?hy1x44 ?hS1x44 ?rest1x44
  case hi1x44 => (simp only [List.getElem?_toArray, List.getElem?_cons_succ, List.getElem?_cons_zero]; try rfl)
  case hs1x44 => kernel_rfl
  case hf1x44 => kernel_rfl
  case hr1x44 => kernel_rfl
  case hQ1x44 => exact fun _ _ _ h => h
  case hy1x44 => exact Or.inl ⟨by rfl, by (intro w hSw; (try dsimp only at hSw); go_simp)⟩
  case hS1x44 => assumption
  (try simp only [Act.put, List.setIfInBounds_toArray, List.set_cons_zero, List.set_cons_succ])
  refine' wpAnyH_take (i := 2) (v := .int .i64 n0) ?hi2x45 ?hs2x45 ?hf2x45 ?hr2x45 ?hQ2x45 ?hy2x45 ?hS2x45 ?rest2x45
  case hi2x45 => (simp only [List.getElem?_toArray, List.getElem?_cons_succ, List.getElem?_cons_zero]; try rfl)
  case hs2x45 => kernel_rfl
  case hf2x45 => kernel_rfl
  case hr2x45 => kernel_rfl
  case hQ2x45 => exact fun _ _ _ h => h
  case hy2x45 => exact Or.inl ⟨by rfl, by (intro w hSw; (try dsimp only at hSw); go_simp)⟩
  case hS2x45 => assumption
  (try simp only [Act.put, List.setIfInBounds_toArray, List.set_cons_zero, List.set_cons_succ])
  refine' wpAnyH_take (i := 3) (v := .bool true) ?hi3x46 ?hs3x46 ?hf3x46 ?hr3x46 ?hQ3x46 ?hy3x46 ?hS3x46 ?rest3x46
  case hi3x46 => (simp only [List.getElem?_toArray, List.getElem?_cons_succ, List.getElem?_cons_zero]; try rfl)
  case hs3x46 => kernel_rfl
  case hf3x46 => kernel_rfl
  case hr3x46 => kernel_rfl
  case hQ3x46 => exact fun _ _ _ h => h
  case hy3x46 => exact Or.inl ⟨by rfl, by (intro w hSw; (try dsimp only at hSw); go_simp)⟩
  case hS3x46 => assumption
  (try simp only [Act.put, List.setIfInBounds_toArray, List.set_cons_zero, List.set_cons_succ])
  refine' wpAnyH_take (i := 4) (v := .bool true) ?hi4x47 ?hs4x47 ?hf4x47 ?hr4x47 ?hQ4x47 ?hy4x47 ?hS4x47 ?rest4x47
  case hi4x47 => (simp only [List.getElem?_toArray, List.getElem?_cons_succ, List.getElem?_cons_zero]; try rfl)
  case hs4x47 => kernel_rfl
  case hf4x47 => kernel_rfl
  case hr4x47 => kernel_rfl
  case hQ4x47 => exact fun _ _ _ h => h
  case hy4x47 => exact Or.inl ⟨by rfl, by (intro w hSw; (try dsimp only at hSw); go_simp)⟩
  case hS4x47 => assumption
  (try simp only [Act.put, List.setIfInBounds_toArray, List.set_cons_zero, List.set_cons_succ])
  refine' wpAnyH_take (i := 5) (v := .pointer (some ⟨w.heap.size + 1, 2, none⟩)) ?hi5x48 ?hs5x48 ?hf5x48 ?hr5x48 ?hQ5x48 ?hy5x48 ?hS5x48 ?rest5x48
  case hi5x48 => (simp only [List.getElem?_toArray, List.getElem?_cons_succ, List.getElem?_cons_zero]; try rfl)
  case hs5x48 => kernel_rfl
  case hf5x48 => kernel_rfl
  case hr5x48 => kernel_rfl
  case hQ5x48 => exact fun _ _ _ h => h
  case hy5x48 => exact Or.inl ⟨by rfl, by (intro w hSw; (try dsimp only at hSw); go_simp)⟩
  case hS5x48 => assumption
  (try simp only [Act.put, List.setIfInBounds_toArray, List.set_cons_zero, List.set_cons_succ])
  refine' wpAnyH_take (i := 6) (v := .int .i64 n1) ?hi6x49 ?hs6x49 ?hf6x49 ?hr6x49 ?hQ6x49 ?hy6x49 ?hS6x49 ?rest6x49
  case hi6x49 => (simp only [List.getElem?_toArray, List.getElem?_cons_succ, List.getElem?_cons_zero]; try rfl)
  case hs6x49 => kernel_rfl
  case hf6x49 => kernel_rfl
  case hr6x49 => kernel_rfl
  case hQ6x49 => exact fun _ _ _ h => h
  case hy6x49 => exact Or.inl ⟨by rfl, by (intro w hSw; (try dsimp only at hSw); go_simp)⟩
  case hS6x49 => assumption
  (try simp only [Act.put, List.setIfInBounds_toArray, List.set_cons_zero, List.set_cons_succ])
  refine' wpAnyH_take (i := 7) (v := .bool false) ?hi7x50 ?hs7x50 ?hf7x50 ?hr7x50 ?hQ7x50 ?hy7x50 ?hS7x50 ?rest7x50
  case hi7x50 => (simp only [List.getElem?_toArray, List.getElem?_cons_succ, List.getElem?_cons_zero]; try rfl)
  case hs7x50 => kernel_rfl
  case hf7x50 => kernel_rfl
  case hr7x50 => kernel_rfl
  case hQ7x50 => exact fun _ _ _ h => h
  case hy7x50 => exact Or.inl ⟨by rfl, by (intro w hSw; (try dsimp only at hSw); go_simp)⟩
  case hS7x50 => assumption
  (try simp only [Act.put, List.setIfInBounds_toArray, List.set_cons_zero, List.set_cons_succ])
  refine' wpAnyH_take (i := 8) (v := .bool false) ?hi8x51 ?hs8x51 ?hf8x51 ?hr8x51 ?hQ8x51 ?hy8x51 ?hS8x51 ?rest8x51
  case hi8x51 => (simp only [List.getElem?_toArray, List.getElem?_cons_succ, List.getElem?_cons_zero]; try rfl)
  case hs8x51 => kernel_rfl
  case hf8x51 => kernel_rfl
  case hr8x51 => kernel_rfl
  case hQ8x51 => exact fun _ _ _ h => h
  case hy8x51 => exact Or.inl ⟨by rfl, by (intro w hSw; (try dsimp only at hSw); go_simp)⟩
  case hS8x51 => assumption
  (try simp only [Act.put, List.setIfInBounds_toArray, List.set_cons_zero, List.set_cons_succ])
  refine' wpAnyH_take (i := 9) (v := .bool false) ?hi9x52 ?hs9x52 ?hf9x52 ?hr9x52 ?hQ9x52 ?hy9x52 ?hS9x52 ?rest9x52
  case hi9x52 => (simp only [List.getElem?_toArray, List.getElem?_cons_succ, List.getElem?_cons_zero]; try rfl)
  case hs9x52 => kernel_rfl
  case hf9x52 => kernel_rfl
  case hr9x52 => kernel_rfl
  case hQ9x52 => exact fun _ _ _ h => h
  case hy9x52 => exact Or.inl ⟨by rfl, by (intro w hSw; (try dsimp only at hSw); go_simp)⟩
  case hS9x52 => assumption
  (try simp only [Act.put, List.setIfInBounds_toArray, List.set_cons_zero, List.set_cons_succ])
  refine' wpAnyH_take (i := 10) (v := undef) ?hi10x53 ?hs10x53 ?hf10x53 ?hr10x53 ?hQ10x53 ?hy10x53 ?hS10x53 ?rest10x53
  case hi10x53 => (simp only [List.getElem?_toArray, List.getElem?_cons_succ, List.getElem?_cons_zero]; try rfl)
  case hs10x53 => kernel_rfl
  case hf10x53 => kernel_rfl
  case hr10x53 => kernel_rfl
  case hQ10x53 => exact fun _ _ _ h => h
  case hy10x53 => exact Or.inr ⟨by rfl, rfl⟩
  case hS10x53 => assumption
  (try simp only [Act.put, List.setIfInBounds_toArray, List.set_cons_zero, List.set_cons_succ])
  refine' wpAnyH_take (i := 11) (v := undef) ?hi11x54 ?hs11x54 ?hf11x54 ?hr11x54 ?hQ11x54 ?hy11x54 ?hS11x54 ?rest11x54
  case hi11x54 => (simp only [List.getElem?_toArray, List.getElem?_cons_succ, List.getElem?_cons_zero]; try rfl)
  case hs11x54 => kernel_rfl
  case hf11x54 => kernel_rfl
  case hr11x54 => kernel_rfl
  case hQ11x54 => exact fun _ _ _ h => h
  case hy11x54 => exact Or.inr ⟨by rfl, rfl⟩
  case hS11x54 => assumption
  (try simp only [Act.put, List.setIfInBounds_toArray, List.set_cons_zero, List.set_cons_succ])
  refine' wpAnyH_take (i := 12) (v := .bool false) ?hi12x55 ?hs12x55 ?hf12x55 ?hr12x55 ?hQ12x55 ?hy12x55 ?hS12x55 ?rest12x55
  case hi12x55 => (simp only [List.getElem?_toArray, List.getElem?_cons_succ, List.getElem?_cons_zero]; try rfl)
  case hs12x55 => kernel_rfl
  case hf12x55 => kernel_rfl
  case hr12x55 => kernel_rfl
  case hQ12x55 => exact fun _ _ _ h => h
  case hy12x55 => exact Or.inl ⟨by rfl, by (intro w hSw; (try dsimp only at hSw); go_simp)⟩
  case hS12x55 => assumption
  (try simp only [Act.put, List.setIfInBounds_toArray, List.set_cons_zero, List.set_cons_succ])
  refine' wpAnyH_take (i := 13) (v := .bool false) ?hi13x56 ?hs13x56 ?hf13x56 ?hr13x56 ?hQ13x56 ?hy13x56 ?hS13x56 ?rest13x56
  case hi13x56 => (simp only [List.getElem?_toArray, List.getElem?_cons_succ, List.getElem?_cons_zero]; try rfl)
  case hs13x56 => kernel_rfl
  case hf13x56 => kernel_rfl
  case hr13x56 => kernel_rfl
  case hQ13x56 => exact fun _ _ _ h => h
  case hy13x56 => exact Or.inl ⟨by rfl, by (intro w hSw; (try dsimp only at hSw); go_simp)⟩
  case hS13x56 => assumption
  (try simp only [Act.put, List.setIfInBounds_toArray, List.set_cons_zero, List.set_cons_succ])
  refine' wpAnyH_take (i := 14) (v := .pointer (some ⟨w.heap.size, 2, none⟩)) ?hi14x57 ?hs14x57 ?hf14x57 ?hr14x57 ?hQ14x57 ?hy14x57 ?hS14x57 ?rest14x57
  case hi14x57 => (simp only [List.getElem?_toArray, List.getElem?_cons_succ, List.getElem?_cons_zero]; try rfl)
  case hs14x57 => kernel_rfl
  case hf14x57 => kernel_rfl
  case hr14x57 => kernel_rfl
  case hQ14x57 => exact fun _ _ _ h => h
  case hy14x57 => exact Or.inl ⟨by rfl, by (intro w hSw; (try dsimp only at hSw); go_simp)⟩
  case hS14x57 => assumption
  (try simp only [Act.put, List.setIfInBounds_toArray, List.set_cons_zero, List.set_cons_succ])
  refine' wpAnyH_take (i := 15) (v := .int .i64 n0) ?hi15x58 ?hs15x58 ?hf15x58 ?hr15x58 ?hQ15x58 ?hy15x58 ?hS15x58 ?rest15x58
  case hi15x58 => (simp only [List.getElem?_toArray, List.getElem?_cons_succ, List.getElem?_cons_zero]; try rfl)
  case hs15x58 => kernel_rfl
  case hf15x58 => kernel_rfl
  case hr15x58 => kernel_rfl
  case hQ15x58 => exact fun _ _ _ h => h
  case hy15x58 => exact Or.inl ⟨by rfl, by (intro w hSw; (try dsimp only at hSw); go_simp)⟩
  case hS15x58 => assumption
  (try simp only [Act.put, List.setIfInBounds_toArray, List.set_cons_zero, List.set_cons_succ])
  refine' wpAnyH_take (i := 16) (v := .bool false) ?hi16x59 ?hs16x59 ?hf16x59 ?hr16x59 ?hQ16x59 ?hy16x59 ?hS16x59 ?rest16x59
  case hi16x59 => (simp only [List.getElem?_toArray, List.getElem?_cons_succ, List.getElem?_cons_zero]; try rfl)
  case hs16x59 => kernel_rfl
  case hf16x59 => kernel_rfl
  case hr16x59 => kernel_rfl
  case hQ16x59 => exact fun _ _ _ h => h
  case hy16x59 => exact Or.inl ⟨by rfl, by (intro w hSw; (try dsimp only at hSw); go_simp)⟩
  case hS16x59 => assumption
  (try simp only [Act.put, List.setIfInBounds_toArray, List.set_cons_zero, List.set_cons_succ])
  refine' wpAnyH_take (i := 17) (v := .bool false) ?hi17x60 ?hs17x60 ?hf17x60 ?hr17x60 ?hQ17x60 ?hy17x60 ?hS17x60 ?rest17x60
  case hi17x60 => (simp only [List.getElem?_toArray, List.getElem?_cons_succ, List.getElem?_cons_zero]; try rfl)
  case hs17x60 => kernel_rfl
  case hf17x60 => kernel_rfl
  case hr17x60 => kernel_rfl
  case hQ17x60 => exact fun _ _ _ h => h
  case hy17x60 => exact Or.inl ⟨by rfl, by (intro w hSw; (try dsimp only at hSw); go_simp)⟩
  case hS17x60 => assumption
  (try simp only [Act.put, List.setIfInBounds_toArray, List.set_cons_zero, List.set_cons_succ])
  refine' wpAnyH_take (i := 18) (v := undef) ?hi18x61 ?hs18x61 ?hf18x61 ?hr18x61 ?hQ18x61 ?hy18x61 ?hS18x61 ?rest18x61
  case hi18x61 => (simp only [List.getElem?_toArray, List.getElem?_cons_succ, List.getElem?_cons_zero]; try rfl)
  case hs18x61 => kernel_rfl
  case hf18x61 => kernel_rfl
  case hr18x61 => kernel_rfl
  case hQ18x61 => exact fun _ _ _ h => h
  case hy18x61 => exact Or.inr ⟨by rfl, rfl⟩
  case hS18x61 => assumption
  (try simp only [Act.put, List.setIfInBounds_toArray, List.set_cons_zero, List.set_cons_succ])
  refine' wpAnyH_take (i := 19) (v := undef) ?hi19x62 ?hs19x62 ?hf19x62 ?hr19x62 ?hQ19x62 ?hy19x62 ?hS19x62 ?rest19x62
  case hi19x62 => (simp only [List.getElem?_toArray, List.getElem?_cons_succ, List.getElem?_cons_zero]; try rfl)
  case hs19x62 => kernel_rfl
  case hf19x62 => kernel_rfl
  case hr19x62 => kernel_rfl
  case hQ19x62 => exact fun _ _ _ h => h
  case hy19x62 => exact Or.inr ⟨by rfl, rfl⟩
  case hS19x62 => assumption
  (try simp only [Act.put, List.setIfInBounds_toArray, List.set_cons_zero, List.set_cons_succ])
  refine' wpAnyH_take (i := 20) (v := undef) ?hi20x63 ?hs20x63 ?hf20x63 ?hr20x63 ?hQ20x63 ?hy20x63 ?hS20x63 ?rest20x63
  case hi20x63 => (simp only [List.getElem?_toArray, List.getElem?_cons_succ, List.getElem?_cons_zero]; try rfl)
  case hs20x63 => kernel_rfl
  case hf20x63 => kernel_rfl
  case hr20x63 => kernel_rfl
  case hQ20x63 => exact fun _ _ _ h => h
  case hy20x63 => exact Or.inr ⟨by rfl, rfl⟩
  case hS20x63 => assumption
  (try simp only [Act.put, List.setIfInBounds_toArray, List.set_cons_zero, List.set_cons_succ])
  refine' wpAnyH_take (i := 21) (v := .bool false) ?hi21x64 ?hs21x64 ?hf21x64 ?hr21x64 ?hQ21x64 ?hy21x64 ?hS21x64 ?rest21x64
  case hi21x64 => (simp only [List.getElem?_toArray, List.getElem?_cons_succ, List.getElem?_cons_zero]; try rfl)
  case hs21x64 => kernel_rfl
  case hf21x64 => kernel_rfl
  case hr21x64 => kernel_rfl
  case hQ21x64 => exact fun _ _ _ h => h
  case hy21x64 => exact Or.inl ⟨by rfl, by (intro w hSw; (try dsimp only at hSw); go_simp)⟩
  case hS21x64 => assumption
  (try simp only [Act.put, List.setIfInBounds_toArray, List.set_cons_zero, List.set_cons_succ])
  refine' wpAnyH_take (i := 22) (v := .bool false) ?hi22x65 ?hs22x65 ?hf22x65 ?hr22x65 ?hQ22x65 ?hy22x65 ?hS22x65 ?rest22x65
  case hi22x65 => (simp only [List.getElem?_toArray, List.getElem?_cons_succ, List.getElem?_cons_zero]; try rfl)
  case hs22x65 => kernel_rfl
  case hf22x65 => kernel_rfl
  case hr22x65 => kernel_rfl
  case hQ22x65 => exact fun _ _ _ h => h
  case hy22x65 => exact Or.inl ⟨by rfl, by (intro w hSw; (try dsimp only at hSw); go_simp)⟩
  case hS22x65 => assumption
  (try simp only [Act.put, List.setIfInBounds_toArray, List.set_cons_zero, List.set_cons_succ])
  refine' wpAnyH_take (i := 23) (v := undef) ?hi23x66 ?hs23x66 ?hf23x66 ?hr23x66 ?hQ23x66 ?hy23x66 ?hS23x66 ?rest23x66
  case hi23x66 => (simp only [List.getElem?_toArray, List.getElem?_cons_succ, List.getElem?_cons_zero]; try rfl)
  case hs23x66 => kernel_rfl
  case hf23x66 => kernel_rfl
  case hr23x66 => kernel_rfl
  case hQ23x66 => exact fun _ _ _ h => h
  case hy23x66 => exact Or.inr ⟨by rfl, rfl⟩
  case hS23x66 => assumption
  (try simp only [Act.put, List.setIfInBounds_toArray, List.set_cons_zero, List.set_cons_succ])
  refine' wpAnyH_take (i := 24) (v := undef) ?hi24x67 ?hs24x67 ?hf24x67 ?hr24x67 ?hQ24x67 ?hy24x67 ?hS24x67 ?rest24x67
  case hi24x67 => (simp only [List.getElem?_toArray, List.getElem?_cons_succ, List.getElem?_cons_zero]; try rfl)
  case hs24x67 => kernel_rfl
  case hf24x67 => kernel_rfl
  case hr24x67 => kernel_rfl
  case hQ24x67 => exact fun _ _ _ h => h
  case hy24x67 => exact Or.inr ⟨by rfl, rfl⟩
  case hS24x67 => assumption
  (try simp only [Act.put, List.setIfInBounds_toArray, List.set_cons_zero, List.set_cons_succ])
  refine' wpAnyH_take (i := 25) (v := .bool false) ?hi25x68 ?hs25x68 ?hf25x68 ?hr25x68 ?hQ25x68 ?hy25x68 ?hS25x68 ?rest25x68
  case hi25x68 => (simp only [List.getElem?_toArray, List.getElem?_cons_succ, List.getElem?_cons_zero]; try rfl)
  case hs25x68 => kernel_rfl
  case hf25x68 => kernel_rfl
  case hr25x68 => kernel_rfl
  case hQ25x68 => exact fun _ _ _ h => h
  case hy25x68 => exact Or.inl ⟨by rfl, by (intro w hSw; (try dsimp only at hSw); go_simp)⟩
  case hS25x68 => assumption
  (try simp only [Act.put, List.setIfInBounds_toArray, List.set_cons_zero, List.set_cons_succ])
  refine' wpAnyH_take (i := 26) (v := .bool false) ?hi26x69 ?hs26x69 ?hf26x69 ?hr26x69 ?hQ26x69 ?hy26x69 ?hS26x69 ?rest26x69
  case hi26x69 => (simp only [List.getElem?_toArray, List.getElem?_cons_succ, List.getElem?_cons_zero]; try rfl)
  case hs26x69 => kernel_rfl
  case hf26x69 => kernel_rfl
  case hr26x69 => kernel_rfl
  case hQ26x69 => exact fun _ _ _ h => h
  case hy26x69 => exact Or.inl ⟨by rfl, by (intro w hSw; (try dsimp only at hSw); go_simp)⟩
  case hS26x69 => assumption
  (try simp only [Act.put, List.setIfInBounds_toArray, List.set_cons_zero, List.set_cons_succ])
  refine' wpAnyH_take (i := 28) (v := .agg #[.int .u8 k0, .bool b0, .int .i64 n0, .string s0]) ?hi28x70 ?hs28x70 ?hf28x70 ?hr28x70 ?hQ28x70 ?hy28x70 ?hS28x70 ?rest28x70
  case hi28x70 => (simp only [List.getElem?_toArray, List.getElem?_cons_succ, List.getElem?_cons_zero]; try rfl)
  case hs28x70 => kernel_rfl
  case hf28x70 => kernel_rfl
  case hr28x70 => kernel_rfl
  case hQ28x70 => exact fun _ _ _ h => h
  case hy28x70 => exact Or.inl ⟨by rfl, by (intro w hSw; (try dsimp only at hSw); go_simp)⟩
  case hS28x70 => assumption
  (try simp only [Act.put, List.setIfInBounds_toArray, List.set_cons_zero, List.set_cons_succ])
  refine' wpAnyH_take (i := 29) (v := .agg #[.int .u8 k1, .bool b1, .int .i64 n1, .string s1]) ?hi29x71 ?hs29x71 ?hf29x71 ?hr29x71 ?hQ29x71 ?hy29x71 ?hS29x71 ?rest29x71
  case hi29x71 => (simp only [List.getElem?_toArray, List.getElem?_cons_succ, List.getElem?_cons_zero]; try rfl)
  case hs29x71 => kernel_rfl
  case hf29x71 => kernel_rfl
  case hr29x71 => kernel_rfl
  case hQ29x71 => exact fun _ _ _ h => h
  case hy29x71 => exact Or.inl ⟨by rfl, by (intro w hSw; (try dsimp only at hSw); go_simp)⟩
  case hS29x71 => assumption
  (try simp only [Act.put, List.setIfInBounds_toArray, List.set_cons_zero, List.set_cons_succ])
  refine wpAnyH_ready (rs := [27, 30]) (by kernel_rfl) (by simp) ?_
  refine' AllReadyH.cons (i := 27) ?ho27x72 (fun K hK => ?st27x72) (AllReadyH.cons (i := 30) ?ho30x73 (fun K hK => ?st30x73) AllReadyH.nil)
  case ho27x72 => (simp only [List.getElem?_toArray, List.getElem?_cons_succ, List.getElem?_cons_zero]; try rfl)
  case ho30x73 => (simp only [List.getElem?_toArray, List.getElem?_cons_succ, List.getElem?_cons_zero]; try rfl)
  case st27x72 =>
    go_simp
    refine (refOver_any _ _).mono ?_
    rintro e w' ⟨rfl, rfl⟩
    go_wp2_with fail
    refine hK.out _ _ ?_ (fun hHeld => ?_)
    · (first | exact ⟨a0_, a1_, a2_, a3_, b0_, b1_, b2_, b3_⟩ | go_keep)
    clear hK K
    (try simp only [Act.put, List.setIfInBounds_toArray, List.set_cons_zero, List.set_cons_succ])
    refine wpAnyH_ready (rs := [30]) (by kernel_rfl) (by simp) ?_
    refine' AllReadyH.cons (i := 30) ?ho30x74 (fun K hK => ?st30x74) AllReadyH.nil
    case ho30x74 => (simp only [List.getElem?_toArray, List.getElem?_cons_succ, List.getElem?_cons_zero]; try rfl)
    go_simp
    refine hK.out _ _ ?_ (fun hHeld => ?_)
    · (first | exact ⟨a0_, a1_, a2_, a3_, b0_, b1_, b2_, b3_⟩ | go_keep)
    clear hK K
    (try simp only [Act.put, List.setIfInBounds_toArray, List.set_cons_zero, List.set_cons_succ])
    refine wpAnyH_ready (rs := [31]) (by kernel_rfl) (by simp) ?_
    refine' AllReadyH.cons (i := 31) ?ho31x75 (fun K hK => ?st31x75) AllReadyH.nil
    case ho31x75 => (simp only [List.getElem?_toArray, List.getElem?_cons_succ, List.getElem?_cons_zero]; try rfl)
    go_simp
    refine (refNum2_any _ _ k0 b0 n0 s0 k1 b1 n1 s1 _ _ _ (by exact heap_at _ _ _ (by first | rfl | simp)) hs0H.out hs1H.out).mono ?_
    rw [hrH.out, refVm]
    rintro e w' ⟨rfl, hb'⟩
    replace hb := chainB (B := W0.heap.size) (a := W0) (by go_grown) hb' (by have := hb.size; first | omega | (simp; done) | (simp; omega))
    clear hb' a0_ a1_ a2_ a3_ b0_ b1_ b2_ b3_ r0_ r1_ r2_ r3_ f0_ f1_ f2_ f3_ hz hs
    obtain ⟨a0_, a1_, a2_, a3_⟩ := (hAH.out.below hb).cells; obtain ⟨b0_, b1_, b2_, b3_⟩ := (hBH.out.below hb).cells; obtain ⟨r0_, r1_, r2_, r3_⟩ := (hRH.out.below hb).cells; obtain ⟨f0_, f1_, f2_, f3_⟩ := (hRH.out.below hb).free; have hz := Nat.lt_of_lt_of_le hz0.out hb.size; have hs := hb.size
    go_wp2_with fail
    refine hK.out _ _ ?_ (fun hHeld => ?_)
    · (first | exact ⟨a0_, a1_, a2_, a3_, b0_, b1_, b2_, b3_⟩ | go_keep)
    clear hK K
    (try simp only [Act.put, List.setIfInBounds_toArray, List.set_cons_zero, List.set_cons_succ])
    refine' wpAnyH_take (i := 32) (v := .agg #[.int .u8 k', .bool b', .int .i64 n', .string s']) ?hi32x76 ?hs32x76 ?hf32x76 ?hr32x76 ?hQ32x76 ?hy32x76 ?hS32x76 ?rest32x76
    case hi32x76 => (simp only [List.getElem?_toArray, List.getElem?_cons_succ, List.getElem?_cons_zero]; try rfl)
    case hs32x76 => kernel_rfl
    case hf32x76 => kernel_rfl
    case hr32x76 => kernel_rfl
    case hQ32x76 => exact fun _ _ _ h => h
    case hy32x76 => exact Or.inl ⟨by rfl, by (intro w hSw; (try dsimp only at hSw); go_simp)⟩
    case hS32x76 => assumption
    (try simp only [Act.put, List.setIfInBounds_toArray, List.set_cons_zero, List.set_cons_succ])
    refine' wpAnyH_take (i := 33) (v := .int .i64 x) ?hi33x77 ?hs33x77 ?hf33x77 ?hr33x77 ?hQ33x77 ?hy33x77 ?hS33x77 ?rest33x77
    case hi33x77 => (simp only [List.getElem?_toArray, List.getElem?_cons_succ, List.getElem?_cons_zero]; try rfl)
    case hs33x77 => kernel_rfl
    case hf33x77 => kernel_rfl
    case hr33x77 => kernel_rfl
    case hQ33x77 => exact fun _ _ _ h => h
    case hy33x77 => exact Or.inl ⟨by rfl, by (intro w hSw; (try dsimp only at hSw); go_simp)⟩
    case hS33x77 => assumption
    (try simp only [Act.put, List.setIfInBounds_toArray, List.set_cons_zero, List.set_cons_succ])
    have hne1 : ¬ (w.heap.size + 1 + 1 = w.heap.size) := by omega
    have hne2 : ¬ (w.heap.size = w.heap.size + 1 + 1) := by omega
    refine wpAnyH_ready (rs := [34]) (by kernel_rfl) (by simp) ?_
    refine' AllReadyH.cons (i := 34) ?ho34x78 (fun K hK => ?st34x78) AllReadyH.nil
    case ho34x78 => (simp only [List.getElem?_toArray, List.getElem?_cons_succ, List.getElem?_cons_zero]; try rfl)
    go_simp
    refine hK.out _ _ ?_ (fun hHeld => ?_)
    · (first | exact ⟨a0_, a1_, a2_, a3_, b0_, b1_, b2_, b3_⟩ | go_keep)
    clear hK K
    (try simp only [Act.put, List.setIfInBounds_toArray, List.set_cons_zero, List.set_cons_succ])
    refine' wpAnyH_take (i := 35) (v := .int .i64 x) ?hi35x79 ?hs35x79 ?hf35x79 ?hr35x79 ?hQ35x79 ?hy35x79 ?hS35x79 ?rest35x79
    case hi35x79 => (simp only [List.getElem?_toArray, List.getElem?_cons_succ, List.getElem?_cons_zero]; try rfl)
    case hs35x79 => kernel_rfl
    case hf35x79 => kernel_rfl
    case hr35x79 => kernel_rfl
    case hQ35x79 => exact fun _ _ _ h => h
    case hy35x79 => exact Or.inl ⟨by rfl, by (intro w hSw; (try dsimp only at hSw); go_simp)⟩
    case hS35x79 => assumption
    (try simp only [Act.put, List.setIfInBounds_toArray, List.set_cons_zero, List.set_cons_succ])
    refine wpAnyH_done (by kernel_rfl) ?_ _
    refine NoPanic.normal ?_
    clear hne1 hne2
    go_wp2
    refine bodyPost_ret (v := .tuple #[.agg #[.int .u8 k', .bool b', .int .i64 n', .string s'], .int .i64 x]) (by simp [results, Tryd.results32, go_sem, r0_, r1_, r2_, r3_, hz]) rfl ⟨rfl, ?_⟩
    have hbw := hwWH.out.trans (hb.mono hwWH.out.size)
    clear hb
    go_grown
  case st30x73 =>
    go_simp
    refine hK.out _ _ ?_ (fun hHeld => ?_)
    · (first | exact ⟨a0_, a1_, a2_, a3_, b0_, b1_, b2_, b3_⟩ | go_keep)
    clear hK K
    (try simp only [Act.put, List.setIfInBounds_toArray, List.set_cons_zero, List.set_cons_succ])
    refine wpAnyH_ready (rs := [27]) (by kernel_rfl) (by simp) ?_
    refine' AllReadyH.cons (i := 27) ?ho27x80 (fun K hK => ?st27x80) AllReadyH.nil
    case ho27x80 => (simp only [List.getElem?_toArray, List.getElem?_cons_succ, List.getElem?_cons_zero]; try rfl)
    go_simp
    refine (refOver_any _ _).mono ?_
    rintro e w' ⟨rfl, rfl⟩
    go_wp2_with fail
    refine hK.out _ _ ?_ (fun hHeld => ?_)
    · (first | exact ⟨a0_, a1_, a2_, a3_, b0_, b1_, b2_, b3_⟩ | go_keep)
    clear hK K
    (try simp only [Act.put, List.setIfInBounds_toArray, List.set_cons_zero, List.set_cons_succ])
    refine wpAnyH_ready (rs := [31]) (by kernel_rfl) (by simp) ?_
    refine' AllReadyH.cons (i := 31) ?ho31x81 (fun K hK => ?st31x81) AllReadyH.nil
    case ho31x81 => (simp only [List.getElem?_toArray, List.getElem?_cons_succ, List.getElem?_cons_zero]; try rfl)
    go_simp
    refine (refNum2_any _ _ k0 b0 n0 s0 k1 b1 n1 s1 _ _ _ (by exact heap_at _ _ _ (by first | rfl | simp)) hs0H.out hs1H.out).mono ?_
    rw [hrH.out, refVm]
    rintro e w' ⟨rfl, hb'⟩
    replace hb := chainB (B := W0.heap.size) (a := W0) (by go_grown) hb' (by have := hb.size; first | omega | (simp; done) | (simp; omega))
    clear hb' a0_ a1_ a2_ a3_ b0_ b1_ b2_ b3_ r0_ r1_ r2_ r3_ f0_ f1_ f2_ f3_ hz hs
    obtain ⟨a0_, a1_, a2_, a3_⟩ := (hAH.out.below hb).cells; obtain ⟨b0_, b1_, b2_, b3_⟩ := (hBH.out.below hb).cells; obtain ⟨r0_, r1_, r2_, r3_⟩ := (hRH.out.below hb).cells; obtain ⟨f0_, f1_, f2_, f3_⟩ := (hRH.out.below hb).free; have hz := Nat.lt_of_lt_of_le hz0.out hb.size; have hs := hb.size
    go_wp2_with fail
    refine hK.out _ _ ?_ (fun hHeld => ?_)
    · (first | exact ⟨a0_, a1_, a2_, a3_, b0_, b1_, b2_, b3_⟩ | go_keep)
    clear hK K
    (try simp only [Act.put, List.setIfInBounds_toArray, List.set_cons_zero, List.set_cons_succ])
    refine' wpAnyH_take (i := 32) (v := .agg #[.int .u8 k', .bool b', .int .i64 n', .string s']) ?hi32x82 ?hs32x82 ?hf32x82 ?hr32x82 ?hQ32x82 ?hy32x82 ?hS32x82 ?rest32x82
    case hi32x82 => (simp only [List.getElem?_toArray, List.getElem?_cons_succ, List.getElem?_cons_zero]; try rfl)
    case hs32x82 => kernel_rfl
    case hf32x82 => kernel_rfl
    case hr32x82 => kernel_rfl
    case hQ32x82 => exact fun _ _ _ h => h
    case hy32x82 => exact Or.inl ⟨by rfl, by (intro w hSw; (try dsimp only at hSw); go_simp)⟩
    case hS32x82 => assumption
    (try simp only [Act.put, List.setIfInBounds_toArray, List.set_cons_zero, List.set_cons_succ])
    refine' wpAnyH_take (i := 33) (v := .int .i64 x) ?hi33x83 ?hs33x83 ?hf33x83 ?hr33x83 ?hQ33x83 ?hy33x83 ?hS33x83 ?rest33x83
    case hi33x83 => (simp only [List.getElem?_toArray, List.getElem?_cons_succ, List.getElem?_cons_zero]; try rfl)
    case hs33x83 => kernel_rfl
    case hf33x83 => kernel_rfl
    case hr33x83 => kernel_rfl
    case hQ33x83 => exact fun _ _ _ h => h
    case hy33x83 => exact Or.inl ⟨by rfl, by (intro w hSw; (try dsimp only at hSw); go_simp)⟩
    case hS33x83 => assumption
    (try simp only [Act.put, List.setIfInBounds_toArray, List.set_cons_zero, List.set_cons_succ])
    have hne1 : ¬ (w.heap.size + 1 + 1 = w.heap.size) := by omega
    have hne2 : ¬ (w.heap.size = w.heap.size + 1 + 1) := by omega
    refine wpAnyH_ready (rs := [34]) (by kernel_rfl) (by simp) ?_
    refine' AllReadyH.cons (i := 34) ?ho34x84 (fun K hK => ?st34x84) AllReadyH.nil
    case ho34x84 => (simp only [List.getElem?_toArray, List.getElem?_cons_succ, List.getElem?_cons_zero]; try rfl)
    go_simp
    refine hK.out _ _ ?_ (fun hHeld => ?_)
    · (first | exact ⟨a0_, a1_, a2_, a3_, b0_, b1_, b2_, b3_⟩ | go_keep)
    clear hK K
    (try simp only [Act.put, List.setIfInBounds_toArray, List.set_cons_zero, List.set_cons_succ])
    refine' wpAnyH_take (i := 35) (v := .int .i64 x) ?hi35x85 ?hs35x85 ?hf35x85 ?hr35x85 ?hQ35x85 ?hy35x85 ?hS35x85 ?rest35x85
    case hi35x85 => (simp only [List.getElem?_toArray, List.getElem?_cons_succ, List.getElem?_cons_zero]; try rfl)
    case hs35x85 => kernel_rfl
    case hf35x85 => kernel_rfl
    case hr35x85 => kernel_rfl
    case hQ35x85 => exact fun _ _ _ h => h
    case hy35x85 => exact Or.inl ⟨by rfl, by (intro w hSw; (try dsimp only at hSw); go_simp)⟩
    case hS35x85 => assumption
    (try simp only [Act.put, List.setIfInBounds_toArray, List.set_cons_zero, List.set_cons_succ])
    refine wpAnyH_done (by kernel_rfl) ?_ _
    refine NoPanic.normal ?_
    clear hne1 hne2
    go_wp2
    refine bodyPost_ret (v := .tuple #[.agg #[.int .u8 k', .bool b', .int .i64 n', .string s'], .int .i64 x]) (by simp [results, Tryd.results32, go_sem, r0_, r1_, r2_, r3_, hz]) rfl ⟨rfl, ?_⟩
    have hbw := hwWH.out.trans (hb.mono hwWH.out.size)
    clear hb
    go_grown

set_option maxRecDepth 100000 in
set_option maxHeartbeats 8000000 in
theorem refAdd_ppp (k0 : Int) (b0 : Bool) (n0 : Int) (s0 : ByteArray) (k1 : Int) (b1 : Bool) (n1 : Int) (s1 : ByteArray) (w : World) (hs0 : s0.size ≤ 140737488355328) (hs1 : s1.size ≤ 140737488355328) (ha : 0 ≤ n0) (hb1 : 0 ≤ n1) (hc : 0 ≤ wrap64 (n0 + n1)) :
    Calls Tryd.prog 32 #[.agg #[.int .u8 k0, .bool b0, .int .i64 n0, .string s0], .agg #[.int .u8 k1, .bool b1, .int .i64 n1, .string s1]] w fun e w' => e = .returned (refV (numS ⟨k0, b0, n0, s0⟩ ⟨k1, b1, n1, s1⟩ (wrap64 (n0 + n1), 0))) ∧ Below w.heap.size w w' := by
  obtain ⟨r, hr⟩ : ∃ r, numS ⟨k0, b0, n0, s0⟩ ⟨k1, b1, n1, s1⟩ (wrap64 (n0 + n1), 0) = r := ⟨_, rfl⟩
  rw [hr]
  obtain ⟨⟨k', b', n', s'⟩, x⟩ := r
  rw [refVm]
  have hrH := Lib.hid hr
  clear hr
  have hs0H := Lib.hid hs0; have hs1H := Lib.hid hs1
  obtain ⟨m, hm⟩ : ∃ m, wrap64 (n0 + n1) = m := ⟨_, rfl⟩
  have hm' : IntKind.i64.wrap (n0 + n1) = m := by rw [wrap_is, hm]
  rw [hm] at hrH
  rw [hm] at hc
  have d1 : decide (n0 ≥ 0) = true := by simp; omega
  have d2 : decide (n0 < 0) = false := by simp; omega
  have d3 : decide (n1 ≥ 0) = true := by simp; omega
  have d4 : decide (m < 0) = false := by simp; omega
  have d5 : decide (m ≥ 0) = true := by simp; omega
  obtain ⟨W0, hW0, hwW, hA, hB, hR, hzz⟩ := boxes2 w k0 b0 n0 s0 k1 b1 n1 s1
  have hAH := Lib.hid hA; have hBH := Lib.hid hB; have hRH := Lib.hid hR; have hz0 := Lib.hid hzz; have hwWH := Lib.hid hwW
  clear hA hB hR hzz hwW hs0 hs1
  have hb := Below.refl W0.heap.size W0
  obtain ⟨a0_, a1_, a2_, a3_⟩ := (hAH.out.below hb).cells; obtain ⟨b0_, b1_, b2_, b3_⟩ := (hBH.out.below hb).cells; obtain ⟨r0_, r1_, r2_, r3_⟩ := (hRH.out.below hb).cells; obtain ⟨f0_, f1_, f2_, f3_⟩ := (hRH.out.below hb).free; have hz := Nat.lt_of_lt_of_le hz0.out hb.size; have hs := hb.size
  go_enter Tryd.func32, Tryd.ntmps32
  go_wp2_with fail
  refine wp_region_noPanic ?_
  refine wp_region_held_drew (S := (fun w' => w'.cell? ⟨w.heap.size, 0, none⟩ = some (.int .u8 k0) ∧ w'.cell? ⟨w.heap.size, 1, none⟩ = some (.bool b0) ∧ w'.cell? ⟨w.heap.size, 2, none⟩ = some (.int .i64 n0) ∧ w'.cell? ⟨w.heap.size, 3, none⟩ = some (.string s0) ∧ w'.cell? ⟨w.heap.size + 1, 0, none⟩ = some (.int .u8 k1) ∧ w'.cell? ⟨w.heap.size + 1, 1, none⟩ = some (.bool b1) ∧ w'.cell? ⟨w.heap.size + 1, 2, none⟩ = some (.int .i64 n1) ∧ w'.cell? ⟨w.heap.size + 1, 3, none⟩ = some (.string s1))) (by kernel_rfl) (by first | exact ⟨a0_, a1_, a2_, a3_, b0_, b1_, b2_, b3_⟩ | go_keep) (fun hHeld => ?_)
  refine' wpAnyH_take (i := 0) (v := .int .i64 m) ?hi0x86 ?hs0x86 ?hf0x86 ?hr0x86 ?hQ0x86 ?hy0x86 ?hS0x86 ?rest0x86
  case hi0x86 => (simp only [List.getElem?_toArray, List.getElem?_cons_succ, List.getElem?_cons_zero]; try rfl)
  case hs0x86 => kernel_rfl
  case hf0x86 => kernel_rfl
  case hr0x86 => kernel_rfl
  case hQ0x86 => exact fun _ _ _ h => h
  case hy0x86 => exact Or.inl ⟨by rfl, by (intro w hSw; (try dsimp only at hSw); go_simp)⟩
  case hS0x86 => assumption
  (try simp only [Act.put, List.setIfInBounds_toArray, List.set_cons_zero, List.set_cons_succ])
  refine' wpAnyH_take (i := 1) (v := .pointer (some ⟨w.heap.size, 2, none⟩)) ?hi1x87 ?hs1x87 ?hf1x87 ?hr1x87 ?hQ1x87 ?hy1x87 ?hS1x87 ?rest1x87
  case hi1x87 => (simp only [List.getElem?_toArray, List.getElem?_cons_succ, List.getElem?_cons_zero]; try rfl)
  case hs1x87 => kernel_rfl
  case hf1x87 => kernel_rfl
  case hr1x87 => kernel_rfl
  case hQ1x87 => exact fun _ _ _ h => h
  case hy1x87 => exact Or.inl ⟨by rfl, by (intro w hSw; (try dsimp only at hSw); go_simp)⟩
  case hS1x87 => assumption
  (try simp only [Act.put, List.setIfInBounds_toArray, List.set_cons_zero, List.set_cons_succ])
  refine' wpAnyH_take (i := 2) (v := .int .i64 n0) ?hi2x88 ?hs2x88 ?hf2x88 ?hr2x88 ?hQ2x88 ?hy2x88 ?hS2x88 ?rest2x88
  case hi2x88 => (simp only [List.getElem?_toArray, List.getElem?_cons_succ, List.getElem?_cons_zero]; try rfl)
  case hs2x88 => kernel_rfl
  case hf2x88 => kernel_rfl
  case hr2x88 => kernel_rfl
  case hQ2x88 => exact fun _ _ _ h => h
  case hy2x88 => exact Or.inl ⟨by rfl, by (intro w hSw; (try dsimp only at hSw); go_simp)⟩
  case hS2x88 => assumption
  (try simp only [Act.put, List.setIfInBounds_toArray, List.set_cons_zero, List.set_cons_succ])
  refine' wpAnyH_take (i := 3) (v := .bool true) ?hi3x89 ?hs3x89 ?hf3x89 ?hr3x89 ?hQ3x89 ?hy3x89 ?hS3x89 ?rest3x89
  case hi3x89 => (simp only [List.getElem?_toArray, List.getElem?_cons_succ, List.getElem?_cons_zero]; try rfl)
  case hs3x89 => kernel_rfl
  case hf3x89 => kernel_rfl
  case hr3x89 => kernel_rfl
  case hQ3x89 => exact fun _ _ _ h => h
  case hy3x89 => exact Or.inl ⟨by rfl, by (intro w hSw; (try dsimp only at hSw); go_simp)⟩
  case hS3x89 => assumption
  (try simp only [Act.put, List.setIfInBounds_toArray, List.set_cons_zero, List.set_cons_succ])
  refine' wpAnyH_take (i := 4) (v := .bool true) ?hi4x90 ?hs4x90 ?hf4x90 ?hr4x90 ?hQ4x90 ?hy4x90 ?hS4x90 ?rest4x90
  case hi4x90 => (simp only [List.getElem?_toArray, List.getElem?_cons_succ, List.getElem?_cons_zero]; try rfl)
  case hs4x90 => kernel_rfl
  case hf4x90 => kernel_rfl
  case hr4x90 => kernel_rfl
  case hQ4x90 => exact fun _ _ _ h => h
  case hy4x90 => exact Or.inl ⟨by rfl, by (intro w hSw; (try dsimp only at hSw); go_simp)⟩
  case hS4x90 => assumption
  (try simp only [Act.put, List.setIfInBounds_toArray, List.set_cons_zero, List.set_cons_succ])
  refine' wpAnyH_take (i := 5) (v := .pointer (some ⟨w.heap.size + 1, 2, none⟩)) ?hi5x91 ?hs5x91 ?hf5x91 ?hr5x91 ?hQ5x91 ?hy5x91 ?hS5x91 ?rest5x91
  case hi5x91 => (simp only [List.getElem?_toArray, List.getElem?_cons_succ, List.getElem?_cons_zero]; try rfl)
  case hs5x91 => kernel_rfl
  case hf5x91 => kernel_rfl
  case hr5x91 => kernel_rfl
  case hQ5x91 => exact fun _ _ _ h => h
  case hy5x91 => exact Or.inl ⟨by rfl, by (intro w hSw; (try dsimp only at hSw); go_simp)⟩
  case hS5x91 => assumption
  (try simp only [Act.put, List.setIfInBounds_toArray, List.set_cons_zero, List.set_cons_succ])
  refine' wpAnyH_take (i := 6) (v := .int .i64 n1) ?hi6x92 ?hs6x92 ?hf6x92 ?hr6x92 ?hQ6x92 ?hy6x92 ?hS6x92 ?rest6x92
  case hi6x92 => (simp only [List.getElem?_toArray, List.getElem?_cons_succ, List.getElem?_cons_zero]; try rfl)
  case hs6x92 => kernel_rfl
  case hf6x92 => kernel_rfl
  case hr6x92 => kernel_rfl
  case hQ6x92 => exact fun _ _ _ h => h
  case hy6x92 => exact Or.inl ⟨by rfl, by (intro w hSw; (try dsimp only at hSw); go_simp)⟩
  case hS6x92 => assumption
  (try simp only [Act.put, List.setIfInBounds_toArray, List.set_cons_zero, List.set_cons_succ])
  refine' wpAnyH_take (i := 7) (v := .bool true) ?hi7x93 ?hs7x93 ?hf7x93 ?hr7x93 ?hQ7x93 ?hy7x93 ?hS7x93 ?rest7x93
  case hi7x93 => (simp only [List.getElem?_toArray, List.getElem?_cons_succ, List.getElem?_cons_zero]; try rfl)
  case hs7x93 => kernel_rfl
  case hf7x93 => kernel_rfl
  case hr7x93 => kernel_rfl
  case hQ7x93 => exact fun _ _ _ h => h
  case hy7x93 => exact Or.inl ⟨by rfl, by (intro w hSw; (try dsimp only at hSw); go_simp)⟩
  case hS7x93 => assumption
  (try simp only [Act.put, List.setIfInBounds_toArray, List.set_cons_zero, List.set_cons_succ])
  refine' wpAnyH_take (i := 8) (v := .bool true) ?hi8x94 ?hs8x94 ?hf8x94 ?hr8x94 ?hQ8x94 ?hy8x94 ?hS8x94 ?rest8x94
  case hi8x94 => (simp only [List.getElem?_toArray, List.getElem?_cons_succ, List.getElem?_cons_zero]; try rfl)
  case hs8x94 => kernel_rfl
  case hf8x94 => kernel_rfl
  case hr8x94 => kernel_rfl
  case hQ8x94 => exact fun _ _ _ h => h
  case hy8x94 => exact Or.inl ⟨by rfl, by (intro w hSw; (try dsimp only at hSw); go_simp)⟩
  case hS8x94 => assumption
  (try simp only [Act.put, List.setIfInBounds_toArray, List.set_cons_zero, List.set_cons_succ])
  refine' wpAnyH_take (i := 9) (v := .bool true) ?hi9x95 ?hs9x95 ?hf9x95 ?hr9x95 ?hQ9x95 ?hy9x95 ?hS9x95 ?rest9x95
  case hi9x95 => (simp only [List.getElem?_toArray, List.getElem?_cons_succ, List.getElem?_cons_zero]; try rfl)
  case hs9x95 => kernel_rfl
  case hf9x95 => kernel_rfl
  case hr9x95 => kernel_rfl
  case hQ9x95 => exact fun _ _ _ h => h
  case hy9x95 => exact Or.inl ⟨by rfl, by (intro w hSw; (try dsimp only at hSw); go_simp)⟩
  case hS9x95 => assumption
  (try simp only [Act.put, List.setIfInBounds_toArray, List.set_cons_zero, List.set_cons_succ])
  refine' wpAnyH_take (i := 10) (v := .int .i64 m) ?hi10x96 ?hs10x96 ?hf10x96 ?hr10x96 ?hQ10x96 ?hy10x96 ?hS10x96 ?rest10x96
  case hi10x96 => (simp only [List.getElem?_toArray, List.getElem?_cons_succ, List.getElem?_cons_zero]; try rfl)
  case hs10x96 => kernel_rfl
  case hf10x96 => kernel_rfl
  case hr10x96 => kernel_rfl
  case hQ10x96 => exact fun _ _ _ h => h
  case hy10x96 => exact Or.inl ⟨by rfl, by (intro w hSw; (try dsimp only at hSw); go_simp)⟩
  case hS10x96 => assumption
  (try simp only [Act.put, List.setIfInBounds_toArray, List.set_cons_zero, List.set_cons_succ])
  refine' wpAnyH_take (i := 11) (v := .bool false) ?hi11x97 ?hs11x97 ?hf11x97 ?hr11x97 ?hQ11x97 ?hy11x97 ?hS11x97 ?rest11x97
  case hi11x97 => (simp only [List.getElem?_toArray, List.getElem?_cons_succ, List.getElem?_cons_zero]; try rfl)
  case hs11x97 => kernel_rfl
  case hf11x97 => kernel_rfl
  case hr11x97 => kernel_rfl
  case hQ11x97 => exact fun _ _ _ h => h
  case hy11x97 => exact Or.inl ⟨by rfl, by (intro w hSw; (try dsimp only at hSw); go_simp)⟩
  case hS11x97 => assumption
  (try simp only [Act.put, List.setIfInBounds_toArray, List.set_cons_zero, List.set_cons_succ])
  refine' wpAnyH_take (i := 12) (v := .bool false) ?hi12x98 ?hs12x98 ?hf12x98 ?hr12x98 ?hQ12x98 ?hy12x98 ?hS12x98 ?rest12x98
  case hi12x98 => (simp only [List.getElem?_toArray, List.getElem?_cons_succ, List.getElem?_cons_zero]; try rfl)
  case hs12x98 => kernel_rfl
  case hf12x98 => kernel_rfl
  case hr12x98 => kernel_rfl
  case hQ12x98 => exact fun _ _ _ h => h
  case hy12x98 => exact Or.inl ⟨by rfl, by (intro w hSw; (try dsimp only at hSw); go_simp)⟩
  case hS12x98 => assumption
  (try simp only [Act.put, List.setIfInBounds_toArray, List.set_cons_zero, List.set_cons_succ])
  refine' wpAnyH_take (i := 13) (v := .bool false) ?hi13x99 ?hs13x99 ?hf13x99 ?hr13x99 ?hQ13x99 ?hy13x99 ?hS13x99 ?rest13x99
  case hi13x99 => (simp only [List.getElem?_toArray, List.getElem?_cons_succ, List.getElem?_cons_zero]; try rfl)
  case hs13x99 => kernel_rfl
  case hf13x99 => kernel_rfl
  case hr13x99 => kernel_rfl
  case hQ13x99 => exact fun _ _ _ h => h
  case hy13x99 => exact Or.inl ⟨by rfl, by (intro w hSw; (try dsimp only at hSw); go_simp)⟩
  case hS13x99 => assumption
  (try simp only [Act.put, List.setIfInBounds_toArray, List.set_cons_zero, List.set_cons_succ])
  refine' wpAnyH_take (i := 14) (v := .pointer (some ⟨w.heap.size, 2, none⟩)) ?hi14x100 ?hs14x100 ?hf14x100 ?hr14x100 ?hQ14x100 ?hy14x100 ?hS14x100 ?rest14x100
  case hi14x100 => (simp only [List.getElem?_toArray, List.getElem?_cons_succ, List.getElem?_cons_zero]; try rfl)
  case hs14x100 => kernel_rfl
  case hf14x100 => kernel_rfl
  case hr14x100 => kernel_rfl
  case hQ14x100 => exact fun _ _ _ h => h
  case hy14x100 => exact Or.inl ⟨by rfl, by (intro w hSw; (try dsimp only at hSw); go_simp)⟩
  case hS14x100 => assumption
  (try simp only [Act.put, List.setIfInBounds_toArray, List.set_cons_zero, List.set_cons_succ])
  refine' wpAnyH_take (i := 15) (v := .int .i64 n0) ?hi15x101 ?hs15x101 ?hf15x101 ?hr15x101 ?hQ15x101 ?hy15x101 ?hS15x101 ?rest15x101
  case hi15x101 => (simp only [List.getElem?_toArray, List.getElem?_cons_succ, List.getElem?_cons_zero]; try rfl)
  case hs15x101 => kernel_rfl
  case hf15x101 => kernel_rfl
  case hr15x101 => kernel_rfl
  case hQ15x101 => exact fun _ _ _ h => h
  case hy15x101 => exact Or.inl ⟨by rfl, by (intro w hSw; (try dsimp only at hSw); go_simp)⟩
  case hS15x101 => assumption
  (try simp only [Act.put, List.setIfInBounds_toArray, List.set_cons_zero, List.set_cons_succ])
  refine' wpAnyH_take (i := 16) (v := .bool false) ?hi16x102 ?hs16x102 ?hf16x102 ?hr16x102 ?hQ16x102 ?hy16x102 ?hS16x102 ?rest16x102
  case hi16x102 => (simp only [List.getElem?_toArray, List.getElem?_cons_succ, List.getElem?_cons_zero]; try rfl)
  case hs16x102 => kernel_rfl
  case hf16x102 => kernel_rfl
  case hr16x102 => kernel_rfl
  case hQ16x102 => exact fun _ _ _ h => h
  case hy16x102 => exact Or.inl ⟨by rfl, by (intro w hSw; (try dsimp only at hSw); go_simp)⟩
  case hS16x102 => assumption
  (try simp only [Act.put, List.setIfInBounds_toArray, List.set_cons_zero, List.set_cons_succ])
  refine' wpAnyH_take (i := 17) (v := .bool false) ?hi17x103 ?hs17x103 ?hf17x103 ?hr17x103 ?hQ17x103 ?hy17x103 ?hS17x103 ?rest17x103
  case hi17x103 => (simp only [List.getElem?_toArray, List.getElem?_cons_succ, List.getElem?_cons_zero]; try rfl)
  case hs17x103 => kernel_rfl
  case hf17x103 => kernel_rfl
  case hr17x103 => kernel_rfl
  case hQ17x103 => exact fun _ _ _ h => h
  case hy17x103 => exact Or.inl ⟨by rfl, by (intro w hSw; (try dsimp only at hSw); go_simp)⟩
  case hS17x103 => assumption
  (try simp only [Act.put, List.setIfInBounds_toArray, List.set_cons_zero, List.set_cons_succ])
  refine' wpAnyH_take (i := 18) (v := undef) ?hi18x104 ?hs18x104 ?hf18x104 ?hr18x104 ?hQ18x104 ?hy18x104 ?hS18x104 ?rest18x104
  case hi18x104 => (simp only [List.getElem?_toArray, List.getElem?_cons_succ, List.getElem?_cons_zero]; try rfl)
  case hs18x104 => kernel_rfl
  case hf18x104 => kernel_rfl
  case hr18x104 => kernel_rfl
  case hQ18x104 => exact fun _ _ _ h => h
  case hy18x104 => exact Or.inr ⟨by rfl, rfl⟩
  case hS18x104 => assumption
  (try simp only [Act.put, List.setIfInBounds_toArray, List.set_cons_zero, List.set_cons_succ])
  refine' wpAnyH_take (i := 19) (v := undef) ?hi19x105 ?hs19x105 ?hf19x105 ?hr19x105 ?hQ19x105 ?hy19x105 ?hS19x105 ?rest19x105
  case hi19x105 => (simp only [List.getElem?_toArray, List.getElem?_cons_succ, List.getElem?_cons_zero]; try rfl)
  case hs19x105 => kernel_rfl
  case hf19x105 => kernel_rfl
  case hr19x105 => kernel_rfl
  case hQ19x105 => exact fun _ _ _ h => h
  case hy19x105 => exact Or.inr ⟨by rfl, rfl⟩
  case hS19x105 => assumption
  (try simp only [Act.put, List.setIfInBounds_toArray, List.set_cons_zero, List.set_cons_succ])
  refine' wpAnyH_take (i := 20) (v := undef) ?hi20x106 ?hs20x106 ?hf20x106 ?hr20x106 ?hQ20x106 ?hy20x106 ?hS20x106 ?rest20x106
  case hi20x106 => (simp only [List.getElem?_toArray, List.getElem?_cons_succ, List.getElem?_cons_zero]; try rfl)
  case hs20x106 => kernel_rfl
  case hf20x106 => kernel_rfl
  case hr20x106 => kernel_rfl
  case hQ20x106 => exact fun _ _ _ h => h
  case hy20x106 => exact Or.inr ⟨by rfl, rfl⟩
  case hS20x106 => assumption
  (try simp only [Act.put, List.setIfInBounds_toArray, List.set_cons_zero, List.set_cons_succ])
  refine' wpAnyH_take (i := 21) (v := .bool false) ?hi21x107 ?hs21x107 ?hf21x107 ?hr21x107 ?hQ21x107 ?hy21x107 ?hS21x107 ?rest21x107
  case hi21x107 => (simp only [List.getElem?_toArray, List.getElem?_cons_succ, List.getElem?_cons_zero]; try rfl)
  case hs21x107 => kernel_rfl
  case hf21x107 => kernel_rfl
  case hr21x107 => kernel_rfl
  case hQ21x107 => exact fun _ _ _ h => h
  case hy21x107 => exact Or.inl ⟨by rfl, by (intro w hSw; (try dsimp only at hSw); go_simp)⟩
  case hS21x107 => assumption
  (try simp only [Act.put, List.setIfInBounds_toArray, List.set_cons_zero, List.set_cons_succ])
  refine' wpAnyH_take (i := 22) (v := .bool false) ?hi22x108 ?hs22x108 ?hf22x108 ?hr22x108 ?hQ22x108 ?hy22x108 ?hS22x108 ?rest22x108
  case hi22x108 => (simp only [List.getElem?_toArray, List.getElem?_cons_succ, List.getElem?_cons_zero]; try rfl)
  case hs22x108 => kernel_rfl
  case hf22x108 => kernel_rfl
  case hr22x108 => kernel_rfl
  case hQ22x108 => exact fun _ _ _ h => h
  case hy22x108 => exact Or.inl ⟨by rfl, by (intro w hSw; (try dsimp only at hSw); go_simp)⟩
  case hS22x108 => assumption
  (try simp only [Act.put, List.setIfInBounds_toArray, List.set_cons_zero, List.set_cons_succ])
  refine' wpAnyH_take (i := 23) (v := undef) ?hi23x109 ?hs23x109 ?hf23x109 ?hr23x109 ?hQ23x109 ?hy23x109 ?hS23x109 ?rest23x109
  case hi23x109 => (simp only [List.getElem?_toArray, List.getElem?_cons_succ, List.getElem?_cons_zero]; try rfl)
  case hs23x109 => kernel_rfl
  case hf23x109 => kernel_rfl
  case hr23x109 => kernel_rfl
  case hQ23x109 => exact fun _ _ _ h => h
  case hy23x109 => exact Or.inr ⟨by rfl, rfl⟩
  case hS23x109 => assumption
  (try simp only [Act.put, List.setIfInBounds_toArray, List.set_cons_zero, List.set_cons_succ])
  refine' wpAnyH_take (i := 24) (v := undef) ?hi24x110 ?hs24x110 ?hf24x110 ?hr24x110 ?hQ24x110 ?hy24x110 ?hS24x110 ?rest24x110
  case hi24x110 => (simp only [List.getElem?_toArray, List.getElem?_cons_succ, List.getElem?_cons_zero]; try rfl)
  case hs24x110 => kernel_rfl
  case hf24x110 => kernel_rfl
  case hr24x110 => kernel_rfl
  case hQ24x110 => exact fun _ _ _ h => h
  case hy24x110 => exact Or.inr ⟨by rfl, rfl⟩
  case hS24x110 => assumption
  (try simp only [Act.put, List.setIfInBounds_toArray, List.set_cons_zero, List.set_cons_succ])
  refine' wpAnyH_take (i := 25) (v := .bool false) ?hi25x111 ?hs25x111 ?hf25x111 ?hr25x111 ?hQ25x111 ?hy25x111 ?hS25x111 ?rest25x111
  case hi25x111 => (simp only [List.getElem?_toArray, List.getElem?_cons_succ, List.getElem?_cons_zero]; try rfl)
  case hs25x111 => kernel_rfl
  case hf25x111 => kernel_rfl
  case hr25x111 => kernel_rfl
  case hQ25x111 => exact fun _ _ _ h => h
  case hy25x111 => exact Or.inl ⟨by rfl, by (intro w hSw; (try dsimp only at hSw); go_simp)⟩
  case hS25x111 => assumption
  (try simp only [Act.put, List.setIfInBounds_toArray, List.set_cons_zero, List.set_cons_succ])
  refine' wpAnyH_take (i := 26) (v := .bool false) ?hi26x112 ?hs26x112 ?hf26x112 ?hr26x112 ?hQ26x112 ?hy26x112 ?hS26x112 ?rest26x112
  case hi26x112 => (simp only [List.getElem?_toArray, List.getElem?_cons_succ, List.getElem?_cons_zero]; try rfl)
  case hs26x112 => kernel_rfl
  case hf26x112 => kernel_rfl
  case hr26x112 => kernel_rfl
  case hQ26x112 => exact fun _ _ _ h => h
  case hy26x112 => exact Or.inl ⟨by rfl, by (intro w hSw; (try dsimp only at hSw); go_simp)⟩
  case hS26x112 => assumption
  (try simp only [Act.put, List.setIfInBounds_toArray, List.set_cons_zero, List.set_cons_succ])
  refine' wpAnyH_take (i := 28) (v := .agg #[.int .u8 k0, .bool b0, .int .i64 n0, .string s0]) ?hi28x113 ?hs28x113 ?hf28x113 ?hr28x113 ?hQ28x113 ?hy28x113 ?hS28x113 ?rest28x113
  case hi28x113 => (simp only [List.getElem?_toArray, List.getElem?_cons_succ, List.getElem?_cons_zero]; try rfl)
  case hs28x113 => kernel_rfl
  case hf28x113 => kernel_rfl
  case hr28x113 => kernel_rfl
  case hQ28x113 => exact fun _ _ _ h => h
  case hy28x113 => exact Or.inl ⟨by rfl, by (intro w hSw; (try dsimp only at hSw); go_simp)⟩
  case hS28x113 => assumption
  (try simp only [Act.put, List.setIfInBounds_toArray, List.set_cons_zero, List.set_cons_succ])
  refine' wpAnyH_take (i := 29) (v := .agg #[.int .u8 k1, .bool b1, .int .i64 n1, .string s1]) ?hi29x114 ?hs29x114 ?hf29x114 ?hr29x114 ?hQ29x114 ?hy29x114 ?hS29x114 ?rest29x114
  case hi29x114 => (simp only [List.getElem?_toArray, List.getElem?_cons_succ, List.getElem?_cons_zero]; try rfl)
  case hs29x114 => kernel_rfl
  case hf29x114 => kernel_rfl
  case hr29x114 => kernel_rfl
  case hQ29x114 => exact fun _ _ _ h => h
  case hy29x114 => exact Or.inl ⟨by rfl, by (intro w hSw; (try dsimp only at hSw); go_simp)⟩
  case hS29x114 => assumption
  (try simp only [Act.put, List.setIfInBounds_toArray, List.set_cons_zero, List.set_cons_succ])
  refine wpAnyH_ready (rs := [27, 30]) (by kernel_rfl) (by simp) ?_
  refine' AllReadyH.cons (i := 27) ?ho27x115 (fun K hK => ?st27x115) (AllReadyH.cons (i := 30) ?ho30x116 (fun K hK => ?st30x116) AllReadyH.nil)
  case ho27x115 => (simp only [List.getElem?_toArray, List.getElem?_cons_succ, List.getElem?_cons_zero]; try rfl)
  case ho30x116 => (simp only [List.getElem?_toArray, List.getElem?_cons_succ, List.getElem?_cons_zero]; try rfl)
  case st27x115 =>
    go_simp
    refine (refOver_any _ _).mono ?_
    rintro e w' ⟨rfl, rfl⟩
    go_wp2_with fail
    refine hK.out _ _ ?_ (fun hHeld => ?_)
    · (first | exact ⟨a0_, a1_, a2_, a3_, b0_, b1_, b2_, b3_⟩ | go_keep)
    clear hK K
    (try simp only [Act.put, List.setIfInBounds_toArray, List.set_cons_zero, List.set_cons_succ])
    refine wpAnyH_ready (rs := [30]) (by kernel_rfl) (by simp) ?_
    refine' AllReadyH.cons (i := 30) ?ho30x117 (fun K hK => ?st30x117) AllReadyH.nil
    case ho30x117 => (simp only [List.getElem?_toArray, List.getElem?_cons_succ, List.getElem?_cons_zero]; try rfl)
    go_simp
    refine hK.out _ _ ?_ (fun hHeld => ?_)
    · (first | exact ⟨a0_, a1_, a2_, a3_, b0_, b1_, b2_, b3_⟩ | go_keep)
    clear hK K
    (try simp only [Act.put, List.setIfInBounds_toArray, List.set_cons_zero, List.set_cons_succ])
    refine wpAnyH_ready (rs := [31]) (by kernel_rfl) (by simp) ?_
    refine' AllReadyH.cons (i := 31) ?ho31x118 (fun K hK => ?st31x118) AllReadyH.nil
    case ho31x118 => (simp only [List.getElem?_toArray, List.getElem?_cons_succ, List.getElem?_cons_zero]; try rfl)
    go_simp
    refine (refNum2_any _ _ k0 b0 n0 s0 k1 b1 n1 s1 _ _ _ (by exact heap_at _ _ _ (by first | rfl | simp)) hs0H.out hs1H.out).mono ?_
    rw [hrH.out, refVm]
    rintro e w' ⟨rfl, hb'⟩
    replace hb := chainB (B := W0.heap.size) (a := W0) (by go_grown) hb' (by have := hb.size; first | omega | (simp; done) | (simp; omega))
    clear hb' a0_ a1_ a2_ a3_ b0_ b1_ b2_ b3_ r0_ r1_ r2_ r3_ f0_ f1_ f2_ f3_ hz hs
    obtain ⟨a0_, a1_, a2_, a3_⟩ := (hAH.out.below hb).cells; obtain ⟨b0_, b1_, b2_, b3_⟩ := (hBH.out.below hb).cells; obtain ⟨r0_, r1_, r2_, r3_⟩ := (hRH.out.below hb).cells; obtain ⟨f0_, f1_, f2_, f3_⟩ := (hRH.out.below hb).free; have hz := Nat.lt_of_lt_of_le hz0.out hb.size; have hs := hb.size
    go_wp2_with fail
    refine hK.out _ _ ?_ (fun hHeld => ?_)
    · (first | exact ⟨a0_, a1_, a2_, a3_, b0_, b1_, b2_, b3_⟩ | go_keep)
    clear hK K
    (try simp only [Act.put, List.setIfInBounds_toArray, List.set_cons_zero, List.set_cons_succ])
    refine' wpAnyH_take (i := 32) (v := .agg #[.int .u8 k', .bool b', .int .i64 n', .string s']) ?hi32x119 ?hs32x119 ?hf32x119 ?hr32x119 ?hQ32x119 ?hy32x119 ?hS32x119 ?rest32x119
    case hi32x119 => (simp only [List.getElem?_toArray, List.getElem?_cons_succ, List.getElem?_cons_zero]; try rfl)
    case hs32x119 => kernel_rfl
    case hf32x119 => kernel_rfl
    case hr32x119 => kernel_rfl
    case hQ32x119 => exact fun _ _ _ h => h
    case hy32x119 => exact Or.inl ⟨by rfl, by (intro w hSw; (try dsimp only at hSw); go_simp)⟩
    case hS32x119 => assumption
    (try simp only [Act.put, List.setIfInBounds_toArray, List.set_cons_zero, List.set_cons_succ])
    refine' wpAnyH_take (i := 33) (v := .int .i64 x) ?hi33x120 ?hs33x120 ?hf33x120 ?hr33x120 ?hQ33x120 ?hy33x120 ?hS33x120 ?rest33x120
    case hi33x120 => (simp only [List.getElem?_toArray, List.getElem?_cons_succ, List.getElem?_cons_zero]; try rfl)
    case hs33x120 => kernel_rfl
    case hf33x120 => kernel_rfl
    case hr33x120 => kernel_rfl
    case hQ33x120 => exact fun _ _ _ h => h
    case hy33x120 => exact Or.inl ⟨by rfl, by (intro w hSw; (try dsimp only at hSw); go_simp)⟩
    case hS33x120 => assumption
    (try simp only [Act.put, List.setIfInBounds_toArray, List.set_cons_zero, List.set_cons_succ])
    have hne1 : ¬ (w.heap.size + 1 + 1 = w.heap.size) := by omega
    have hne2 : ¬ (w.heap.size = w.heap.size + 1 + 1) := by omega
    refine wpAnyH_ready (rs := [34]) (by kernel_rfl) (by simp) ?_
    refine' AllReadyH.cons (i := 34) ?ho34x121 (fun K hK => ?st34x121) AllReadyH.nil
    case ho34x121 => (simp only [List.getElem?_toArray, List.getElem?_cons_succ, List.getElem?_cons_zero]; try rfl)
    go_simp
    refine hK.out _ _ ?_ (fun hHeld => ?_)
    · (first | exact ⟨a0_, a1_, a2_, a3_, b0_, b1_, b2_, b3_⟩ | go_keep)
    clear hK K
    (try simp only [Act.put, List.setIfInBounds_toArray, List.set_cons_zero, List.set_cons_succ])
    refine' wpAnyH_take (i := 35) (v := .int .i64 x) ?hi35x122 ?hs35x122 ?hf35x122 ?hr35x122 ?hQ35x122 ?hy35x122 ?hS35x122 ?rest35x122
    case hi35x122 => (simp only [List.getElem?_toArray, List.getElem?_cons_succ, List.getElem?_cons_zero]; try rfl)
    case hs35x122 => kernel_rfl
    case hf35x122 => kernel_rfl
    case hr35x122 => kernel_rfl
    case hQ35x122 => exact fun _ _ _ h => h
    case hy35x122 => exact Or.inl ⟨by rfl, by (intro w hSw; (try dsimp only at hSw); go_simp)⟩
    case hS35x122 => assumption
    (try simp only [Act.put, List.setIfInBounds_toArray, List.set_cons_zero, List.set_cons_succ])
    refine wpAnyH_done (by kernel_rfl) ?_ _
    refine NoPanic.normal ?_
    clear hne1 hne2
    go_wp2
    refine bodyPost_ret (v := .tuple #[.agg #[.int .u8 k', .bool b', .int .i64 n', .string s'], .int .i64 x]) (by simp [results, Tryd.results32, go_sem, r0_, r1_, r2_, r3_, hz]) rfl ⟨rfl, ?_⟩
    have hbw := hwWH.out.trans (hb.mono hwWH.out.size)
    clear hb
    go_grown
  case st30x116 =>
    go_simp
    refine hK.out _ _ ?_ (fun hHeld => ?_)
    · (first | exact ⟨a0_, a1_, a2_, a3_, b0_, b1_, b2_, b3_⟩ | go_keep)
    clear hK K
    (try simp only [Act.put, List.setIfInBounds_toArray, List.set_cons_zero, List.set_cons_succ])
    refine wpAnyH_ready (rs := [27]) (by kernel_rfl) (by simp) ?_
    refine' AllReadyH.cons (i := 27) ?ho27x123 (fun K hK => ?st27x123) AllReadyH.nil
    case ho27x123 => (simp only [List.getElem?_toArray, List.getElem?_cons_succ, List.getElem?_cons_zero]; try rfl)
    go_simp
    refine (refOver_any _ _).mono ?_
    rintro e w' ⟨rfl, rfl⟩
    go_wp2_with fail
    refine hK.out _ _ ?_ (fun hHeld => ?_)
    · (first | exact ⟨a0_, a1_, a2_, a3_, b0_, b1_, b2_, b3_⟩ | go_keep)
    clear hK K
    (try simp only [Act.put, List.setIfInBounds_toArray, List.set_cons_zero, List.set_cons_succ])
    refine wpAnyH_ready (rs := [31]) (by kernel_rfl) (by simp) ?_
    refine' AllReadyH.cons (i := 31) ?ho31x124 (fun K hK => ?st31x124) AllReadyH.nil
    case ho31x124 => (simp only [List.getElem?_toArray, List.getElem?_cons_succ, List.getElem?_cons_zero]; try rfl)
    go_simp
    refine (refNum2_any _ _ k0 b0 n0 s0 k1 b1 n1 s1 _ _ _ (by exact heap_at _ _ _ (by first | rfl | simp)) hs0H.out hs1H.out).mono ?_
    rw [hrH.out, refVm]
    rintro e w' ⟨rfl, hb'⟩
    replace hb := chainB (B := W0.heap.size) (a := W0) (by go_grown) hb' (by have := hb.size; first | omega | (simp; done) | (simp; omega))
    clear hb' a0_ a1_ a2_ a3_ b0_ b1_ b2_ b3_ r0_ r1_ r2_ r3_ f0_ f1_ f2_ f3_ hz hs
    obtain ⟨a0_, a1_, a2_, a3_⟩ := (hAH.out.below hb).cells; obtain ⟨b0_, b1_, b2_, b3_⟩ := (hBH.out.below hb).cells; obtain ⟨r0_, r1_, r2_, r3_⟩ := (hRH.out.below hb).cells; obtain ⟨f0_, f1_, f2_, f3_⟩ := (hRH.out.below hb).free; have hz := Nat.lt_of_lt_of_le hz0.out hb.size; have hs := hb.size
    go_wp2_with fail
    refine hK.out _ _ ?_ (fun hHeld => ?_)
    · (first | exact ⟨a0_, a1_, a2_, a3_, b0_, b1_, b2_, b3_⟩ | go_keep)
    clear hK K
    (try simp only [Act.put, List.setIfInBounds_toArray, List.set_cons_zero, List.set_cons_succ])
    refine' wpAnyH_take (i := 32) (v := .agg #[.int .u8 k', .bool b', .int .i64 n', .string s']) ?hi32x125 ?hs32x125 ?hf32x125 ?hr32x125 ?hQ32x125 ?hy32x125 ?hS32x125 ?rest32x125
    case hi32x125 => (simp only [List.getElem?_toArray, List.getElem?_cons_succ, List.getElem?_cons_zero]; try rfl)
    case hs32x125 => kernel_rfl
    case hf32x125 => kernel_rfl
    case hr32x125 => kernel_rfl
    case hQ32x125 => exact fun _ _ _ h => h
    case hy32x125 => exact Or.inl ⟨by rfl, by (intro w hSw; (try dsimp only at hSw); go_simp)⟩
    case hS32x125 => assumption
    (try simp only [Act.put, List.setIfInBounds_toArray, List.set_cons_zero, List.set_cons_succ])
    refine' wpAnyH_take (i := 33) (v := .int .i64 x) ?hi33x126 ?hs33x126 ?hf33x126 ?hr33x126 ?hQ33x126 ?hy33x126 ?hS33x126 ?rest33x126
    case hi33x126 => (simp only [List.getElem?_toArray, List.getElem?_cons_succ, List.getElem?_cons_zero]; try rfl)
    case hs33x126 => kernel_rfl
    case hf33x126 => kernel_rfl
    case hr33x126 => kernel_rfl
    case hQ33x126 => exact fun _ _ _ h => h
    case hy33x126 => exact Or.inl ⟨by rfl, by (intro w hSw; (try dsimp only at hSw); go_simp)⟩
    case hS33x126 => assumption
    (try simp only [Act.put, List.setIfInBounds_toArray, List.set_cons_zero, List.set_cons_succ])
    have hne1 : ¬ (w.heap.size + 1 + 1 = w.heap.size) := by omega
    have hne2 : ¬ (w.heap.size = w.heap.size + 1 + 1) := by omega
    refine wpAnyH_ready (rs := [34]) (by kernel_rfl) (by simp) ?_
    refine' AllReadyH.cons (i := 34) ?ho34x127 (fun K hK => ?st34x127) AllReadyH.nil
    case ho34x127 => (simp only [List.getElem?_toArray, List.getElem?_cons_succ, List.getElem?_cons_zero]; try rfl)
    go_simp
    refine hK.out _ _ ?_ (fun hHeld => ?_)
    · (first | exact ⟨a0_, a1_, a2_, a3_, b0_, b1_, b2_, b3_⟩ | go_keep)
    clear hK K
    (try simp only [Act.put, List.setIfInBounds_toArray, List.set_cons_zero, List.set_cons_succ])
    refine' wpAnyH_take (i := 35) (v := .int .i64 x) ?hi35x128 ?hs35x128 ?hf35x128 ?hr35x128 ?hQ35x128 ?hy35x128 ?hS35x128 ?rest35x128
    case hi35x128 => (simp only [List.getElem?_toArray, List.getElem?_cons_succ, List.getElem?_cons_zero]; try rfl)
    case hs35x128 => kernel_rfl
    case hf35x128 => kernel_rfl
    case hr35x128 => kernel_rfl
    case hQ35x128 => exact fun _ _ _ h => h
    case hy35x128 => exact Or.inl ⟨by rfl, by (intro w hSw; (try dsimp only at hSw); go_simp)⟩
    case hS35x128 => assumption
    (try simp only [Act.put, List.setIfInBounds_toArray, List.set_cons_zero, List.set_cons_succ])
    refine wpAnyH_done (by kernel_rfl) ?_ _
    refine NoPanic.normal ?_
    clear hne1 hne2
    go_wp2
    refine bodyPost_ret (v := .tuple #[.agg #[.int .u8 k', .bool b', .int .i64 n', .string s'], .int .i64 x]) (by simp [results, Tryd.results32, go_sem, r0_, r1_, r2_, r3_, hz]) rfl ⟨rfl, ?_⟩
    have hbw := hwWH.out.trans (hb.mono hwWH.out.size)
    clear hb
    go_grown

end Go.Proofs.YtoolojfbjpnllaaDoor
