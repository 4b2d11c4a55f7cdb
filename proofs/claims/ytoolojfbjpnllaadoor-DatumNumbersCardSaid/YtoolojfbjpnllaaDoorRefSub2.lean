/-
  What the document's own Sub answers, at this program, part 2. Condition: the texts have at most 2^47 bytes, the numbers are 64-bit numbers.
-/
import Derived.Test.YtoolojfbjpnllaaDoorRefNeg
import Derived.Test.YtoolojfbjpnllaaDoorOps
import Derived.Deep.RegionHeld3
set_option linter.unusedVariables false
set_option linter.unusedSimpArgs false
namespace Go.Proofs.YtoolojfbjpnllaaDoor
open Go.RowKit Go.Lib

set_option maxRecDepth 100000 in
set_option maxHeartbeats 8000000 in
theorem refSub_npp (k0 : Int) (b0 : Bool) (n0 : Int) (s0 : ByteArray) (k1 : Int) (b1 : Bool) (n1 : Int) (s1 : ByteArray) (w : World) (hs0 : s0.size ≤ 140737488355328) (hs1 : s1.size ≤ 140737488355328) (ha : n0 < 0) (hb1 : 0 < n1) (hc : 0 ≤ wrap64 (n0 - n1)) :
    Calls Tryd.prog 33 #[.agg #[.int .u8 k0, .bool b0, .int .i64 n0, .string s0], .agg #[.int .u8 k1, .bool b1, .int .i64 n1, .string s1]] w fun e w' => e = .returned (refV (numS ⟨k0, b0, n0, s0⟩ ⟨k1, b1, n1, s1⟩ (wrap64 (n0 - n1), 10))) ∧ Below w.heap.size w w' := by
  obtain ⟨r, hr⟩ : ∃ r, numS ⟨k0, b0, n0, s0⟩ ⟨k1, b1, n1, s1⟩ (wrap64 (n0 - n1), 10) = r := ⟨_, rfl⟩
  rw [hr]
  obtain ⟨⟨k', b', n', s'⟩, x⟩ := r
  rw [refVm]
  have hrH := Lib.hid hr
  clear hr
  have hs0H := Lib.hid hs0; have hs1H := Lib.hid hs1
  obtain ⟨m, hm⟩ : ∃ m, wrap64 (n0 - n1) = m := ⟨_, rfl⟩
  have hm' : IntKind.i64.wrap (n0 - n1) = m := by rw [wrap_is, hm]
  rw [hm] at hrH
  rw [hm] at hc
  have d1 : decide (n0 ≥ 0) = false := by simp; omega
  have d2 : decide (n0 < 0) = true := by simp; omega
  have d3 : decide (n1 > 0) = true := by simp; omega
  have d6 : decide (0 < n1) = true := by simp; omega
  have d4 : decide (m < 0) = false := by simp; omega
  have d5 : decide (m ≥ 0) = true := by simp; omega
  obtain ⟨W0, hW0, hwW, hA, hB, hR, hzz⟩ := boxes2 w k0 b0 n0 s0 k1 b1 n1 s1
  have hAH := Lib.hid hA; have hBH := Lib.hid hB; have hRH := Lib.hid hR; have hz0 := Lib.hid hzz; have hwWH := Lib.hid hwW
  clear hA hB hR hzz hwW hs0 hs1
  have hb := Below.refl W0.heap.size W0
  obtain ⟨a0_, a1_, a2_, a3_⟩ := (hAH.out.below hb).cells; obtain ⟨b0_, b1_, b2_, b3_⟩ := (hBH.out.below hb).cells; obtain ⟨r0_, r1_, r2_, r3_⟩ := (hRH.out.below hb).cells; obtain ⟨f0_, f1_, f2_, f3_⟩ := (hRH.out.below hb).free; have hz := Nat.lt_of_lt_of_le hz0.out hb.size; have hs := hb.size
  go_enter Tryd.func33, Tryd.ntmps33
  go_wp2_with fail
  refine wp_region_noPanic ?_
  refine wp_region_held_drew (S := (fun w' => w'.cell? ⟨w.heap.size, 0, none⟩ = some (.int .u8 k0) ∧ w'.cell? ⟨w.heap.size, 1, none⟩ = some (.bool b0) ∧ w'.cell? ⟨w.heap.size, 2, none⟩ = some (.int .i64 n0) ∧ w'.cell? ⟨w.heap.size, 3, none⟩ = some (.string s0) ∧ w'.cell? ⟨w.heap.size + 1, 0, none⟩ = some (.int .u8 k1) ∧ w'.cell? ⟨w.heap.size + 1, 1, none⟩ = some (.bool b1) ∧ w'.cell? ⟨w.heap.size + 1, 2, none⟩ = some (.int .i64 n1) ∧ w'.cell? ⟨w.heap.size + 1, 3, none⟩ = some (.string s1))) (by kernel_rfl) (by first | exact ⟨a0_, a1_, a2_, a3_, b0_, b1_, b2_, b3_⟩ | go_keep) (fun hHeld => ?_)
  refine' wpAnyH_take (i := 0) (v := .int .i64 m) ?hi0x473 ?hs0x473 ?hf0x473 ?hr0x473 ?hQ0x473 ?hy0x473 ?hS0x473 ?rest0x473
  case hi0x473 => (simp only [List.getElem?_toArray, List.getElem?_cons_succ, List.getElem?_cons_zero]; try rfl)
  case hs0x473 => kernel_rfl
  case hf0x473 => kernel_rfl
  case hr0x473 => kernel_rfl
  case hQ0x473 => exact fun _ _ _ h => h
  case hy0x473 => exact Or.inl ⟨by rfl, by (intro w hSw; (try dsimp only at hSw); go_simp)⟩
  case hS0x473 => assumption
  (try simp only [Act.put, List.setIfInBounds_toArray, List.set_cons_zero, List.set_cons_succ])
  refine' wpAnyH_take (i := 1) (v := .pointer (some ⟨w.heap.size, 2, none⟩)) ?hi1x474 ?hs1x474 ?hf1x474 ?hr1x474 ?hQ1x474 ?hy1x474 ?hS1x474 ?rest1x474
  case hi1x474 => (simp only [List.getElem?_toArray, List.getElem?_cons_succ, List.getElem?_cons_zero]; try rfl)
  case hs1x474 => kernel_rfl
  case hf1x474 => kernel_rfl
  case hr1x474 => kernel_rfl
  case hQ1x474 => exact fun _ _ _ h => h
  case hy1x474 => exact Or.inl ⟨by rfl, by (intro w hSw; (try dsimp only at hSw); go_simp)⟩
  case hS1x474 => assumption
  (try simp only [Act.put, List.setIfInBounds_toArray, List.set_cons_zero, List.set_cons_succ])
  refine' wpAnyH_take (i := 2) (v := .int .i64 n0) ?hi2x475 ?hs2x475 ?hf2x475 ?hr2x475 ?hQ2x475 ?hy2x475 ?hS2x475 ?rest2x475
  case hi2x475 => (simp only [List.getElem?_toArray, List.getElem?_cons_succ, List.getElem?_cons_zero]; try rfl)
  case hs2x475 => kernel_rfl
  case hf2x475 => kernel_rfl
  case hr2x475 => kernel_rfl
  case hQ2x475 => exact fun _ _ _ h => h
  case hy2x475 => exact Or.inl ⟨by rfl, by (intro w hSw; (try dsimp only at hSw); go_simp)⟩
  case hS2x475 => assumption
  (try simp only [Act.put, List.setIfInBounds_toArray, List.set_cons_zero, List.set_cons_succ])
  refine' wpAnyH_take (i := 3) (v := .bool false) ?hi3x476 ?hs3x476 ?hf3x476 ?hr3x476 ?hQ3x476 ?hy3x476 ?hS3x476 ?rest3x476
  case hi3x476 => (simp only [List.getElem?_toArray, List.getElem?_cons_succ, List.getElem?_cons_zero]; try rfl)
  case hs3x476 => kernel_rfl
  case hf3x476 => kernel_rfl
  case hr3x476 => kernel_rfl
  case hQ3x476 => exact fun _ _ _ h => h
  case hy3x476 => exact Or.inl ⟨by rfl, by (intro w hSw; (try dsimp only at hSw); go_simp)⟩
  case hS3x476 => assumption
  (try simp only [Act.put, List.setIfInBounds_toArray, List.set_cons_zero, List.set_cons_succ])
  refine' wpAnyH_take (i := 4) (v := .bool false) ?hi4x477 ?hs4x477 ?hf4x477 ?hr4x477 ?hQ4x477 ?hy4x477 ?hS4x477 ?rest4x477
  case hi4x477 => (simp only [List.getElem?_toArray, List.getElem?_cons_succ, List.getElem?_cons_zero]; try rfl)
  case hs4x477 => kernel_rfl
  case hf4x477 => kernel_rfl
  case hr4x477 => kernel_rfl
  case hQ4x477 => exact fun _ _ _ h => h
  case hy4x477 => exact Or.inl ⟨by rfl, by (intro w hSw; (try dsimp only at hSw); go_simp)⟩
  case hS4x477 => assumption
  (try simp only [Act.put, List.setIfInBounds_toArray, List.set_cons_zero, List.set_cons_succ])
  refine' wpAnyH_take (i := 5) (v := undef) ?hi5x478 ?hs5x478 ?hf5x478 ?hr5x478 ?hQ5x478 ?hy5x478 ?hS5x478 ?rest5x478
  case hi5x478 => (simp only [List.getElem?_toArray, List.getElem?_cons_succ, List.getElem?_cons_zero]; try rfl)
  case hs5x478 => kernel_rfl
  case hf5x478 => kernel_rfl
  case hr5x478 => kernel_rfl
  case hQ5x478 => exact fun _ _ _ h => h
  case hy5x478 => exact Or.inr ⟨by rfl, rfl⟩
  case hS5x478 => assumption
  (try simp only [Act.put, List.setIfInBounds_toArray, List.set_cons_zero, List.set_cons_succ])
  refine' wpAnyH_take (i := 6) (v := undef) ?hi6x479 ?hs6x479 ?hf6x479 ?hr6x479 ?hQ6x479 ?hy6x479 ?hS6x479 ?rest6x479
  case hi6x479 => (simp only [List.getElem?_toArray, List.getElem?_cons_succ, List.getElem?_cons_zero]; try rfl)
  case hs6x479 => kernel_rfl
  case hf6x479 => kernel_rfl
  case hr6x479 => kernel_rfl
  case hQ6x479 => exact fun _ _ _ h => h
  case hy6x479 => exact Or.inr ⟨by rfl, rfl⟩
  case hS6x479 => assumption
  (try simp only [Act.put, List.setIfInBounds_toArray, List.set_cons_zero, List.set_cons_succ])
  refine' wpAnyH_take (i := 7) (v := undef) ?hi7x480 ?hs7x480 ?hf7x480 ?hr7x480 ?hQ7x480 ?hy7x480 ?hS7x480 ?rest7x480
  case hi7x480 => (simp only [List.getElem?_toArray, List.getElem?_cons_succ, List.getElem?_cons_zero]; try rfl)
  case hs7x480 => kernel_rfl
  case hf7x480 => kernel_rfl
  case hr7x480 => kernel_rfl
  case hQ7x480 => exact fun _ _ _ h => h
  case hy7x480 => exact Or.inr ⟨by rfl, rfl⟩
  case hS7x480 => assumption
  (try simp only [Act.put, List.setIfInBounds_toArray, List.set_cons_zero, List.set_cons_succ])
  refine' wpAnyH_take (i := 8) (v := .bool false) ?hi8x481 ?hs8x481 ?hf8x481 ?hr8x481 ?hQ8x481 ?hy8x481 ?hS8x481 ?rest8x481
  case hi8x481 => (simp only [List.getElem?_toArray, List.getElem?_cons_succ, List.getElem?_cons_zero]; try rfl)
  case hs8x481 => kernel_rfl
  case hf8x481 => kernel_rfl
  case hr8x481 => kernel_rfl
  case hQ8x481 => exact fun _ _ _ h => h
  case hy8x481 => exact Or.inl ⟨by rfl, by (intro w hSw; (try dsimp only at hSw); go_simp)⟩
  case hS8x481 => assumption
  (try simp only [Act.put, List.setIfInBounds_toArray, List.set_cons_zero, List.set_cons_succ])
  refine' wpAnyH_take (i := 9) (v := .bool false) ?hi9x482 ?hs9x482 ?hf9x482 ?hr9x482 ?hQ9x482 ?hy9x482 ?hS9x482 ?rest9x482
  case hi9x482 => (simp only [List.getElem?_toArray, List.getElem?_cons_succ, List.getElem?_cons_zero]; try rfl)
  case hs9x482 => kernel_rfl
  case hf9x482 => kernel_rfl
  case hr9x482 => kernel_rfl
  case hQ9x482 => exact fun _ _ _ h => h
  case hy9x482 => exact Or.inl ⟨by rfl, by (intro w hSw; (try dsimp only at hSw); go_simp)⟩
  case hS9x482 => assumption
  (try simp only [Act.put, List.setIfInBounds_toArray, List.set_cons_zero, List.set_cons_succ])
  refine' wpAnyH_take (i := 10) (v := undef) ?hi10x483 ?hs10x483 ?hf10x483 ?hr10x483 ?hQ10x483 ?hy10x483 ?hS10x483 ?rest10x483
  case hi10x483 => (simp only [List.getElem?_toArray, List.getElem?_cons_succ, List.getElem?_cons_zero]; try rfl)
  case hs10x483 => kernel_rfl
  case hf10x483 => kernel_rfl
  case hr10x483 => kernel_rfl
  case hQ10x483 => exact fun _ _ _ h => h
  case hy10x483 => exact Or.inr ⟨by rfl, rfl⟩
  case hS10x483 => assumption
  (try simp only [Act.put, List.setIfInBounds_toArray, List.set_cons_zero, List.set_cons_succ])
  refine' wpAnyH_take (i := 11) (v := undef) ?hi11x484 ?hs11x484 ?hf11x484 ?hr11x484 ?hQ11x484 ?hy11x484 ?hS11x484 ?rest11x484
  case hi11x484 => (simp only [List.getElem?_toArray, List.getElem?_cons_succ, List.getElem?_cons_zero]; try rfl)
  case hs11x484 => kernel_rfl
  case hf11x484 => kernel_rfl
  case hr11x484 => kernel_rfl
  case hQ11x484 => exact fun _ _ _ h => h
  case hy11x484 => exact Or.inr ⟨by rfl, rfl⟩
  case hS11x484 => assumption
  (try simp only [Act.put, List.setIfInBounds_toArray, List.set_cons_zero, List.set_cons_succ])
  refine' wpAnyH_take (i := 12) (v := .bool false) ?hi12x485 ?hs12x485 ?hf12x485 ?hr12x485 ?hQ12x485 ?hy12x485 ?hS12x485 ?rest12x485
  case hi12x485 => (simp only [List.getElem?_toArray, List.getElem?_cons_succ, List.getElem?_cons_zero]; try rfl)
  case hs12x485 => kernel_rfl
  case hf12x485 => kernel_rfl
  case hr12x485 => kernel_rfl
  case hQ12x485 => exact fun _ _ _ h => h
  case hy12x485 => exact Or.inl ⟨by rfl, by (intro w hSw; (try dsimp only at hSw); go_simp)⟩
  case hS12x485 => assumption
  (try simp only [Act.put, List.setIfInBounds_toArray, List.set_cons_zero, List.set_cons_succ])
  refine' wpAnyH_take (i := 13) (v := .bool false) ?hi13x486 ?hs13x486 ?hf13x486 ?hr13x486 ?hQ13x486 ?hy13x486 ?hS13x486 ?rest13x486
  case hi13x486 => (simp only [List.getElem?_toArray, List.getElem?_cons_succ, List.getElem?_cons_zero]; try rfl)
  case hs13x486 => kernel_rfl
  case hf13x486 => kernel_rfl
  case hr13x486 => kernel_rfl
  case hQ13x486 => exact fun _ _ _ h => h
  case hy13x486 => exact Or.inl ⟨by rfl, by (intro w hSw; (try dsimp only at hSw); go_simp)⟩
  case hS13x486 => assumption
  (try simp only [Act.put, List.setIfInBounds_toArray, List.set_cons_zero, List.set_cons_succ])
  refine' wpAnyH_take (i := 14) (v := .pointer (some ⟨w.heap.size, 2, none⟩)) ?hi14x487 ?hs14x487 ?hf14x487 ?hr14x487 ?hQ14x487 ?hy14x487 ?hS14x487 ?rest14x487
  case hi14x487 => (simp only [List.getElem?_toArray, List.getElem?_cons_succ, List.getElem?_cons_zero]; try rfl)
  case hs14x487 => kernel_rfl
  case hf14x487 => kernel_rfl
  case hr14x487 => kernel_rfl
  case hQ14x487 => exact fun _ _ _ h => h
  case hy14x487 => exact Or.inl ⟨by rfl, by (intro w hSw; (try dsimp only at hSw); go_simp)⟩
  case hS14x487 => assumption
  (try simp only [Act.put, List.setIfInBounds_toArray, List.set_cons_zero, List.set_cons_succ])
  refine' wpAnyH_take (i := 15) (v := .int .i64 n0) ?hi15x488 ?hs15x488 ?hf15x488 ?hr15x488 ?hQ15x488 ?hy15x488 ?hS15x488 ?rest15x488
  case hi15x488 => (simp only [List.getElem?_toArray, List.getElem?_cons_succ, List.getElem?_cons_zero]; try rfl)
  case hs15x488 => kernel_rfl
  case hf15x488 => kernel_rfl
  case hr15x488 => kernel_rfl
  case hQ15x488 => exact fun _ _ _ h => h
  case hy15x488 => exact Or.inl ⟨by rfl, by (intro w hSw; (try dsimp only at hSw); go_simp)⟩
  case hS15x488 => assumption
  (try simp only [Act.put, List.setIfInBounds_toArray, List.set_cons_zero, List.set_cons_succ])
  refine' wpAnyH_take (i := 16) (v := .bool true) ?hi16x489 ?hs16x489 ?hf16x489 ?hr16x489 ?hQ16x489 ?hy16x489 ?hS16x489 ?rest16x489
  case hi16x489 => (simp only [List.getElem?_toArray, List.getElem?_cons_succ, List.getElem?_cons_zero]; try rfl)
  case hs16x489 => kernel_rfl
  case hf16x489 => kernel_rfl
  case hr16x489 => kernel_rfl
  case hQ16x489 => exact fun _ _ _ h => h
  case hy16x489 => exact Or.inl ⟨by rfl, by (intro w hSw; (try dsimp only at hSw); go_simp)⟩
  case hS16x489 => assumption
  (try simp only [Act.put, List.setIfInBounds_toArray, List.set_cons_zero, List.set_cons_succ])
  refine' wpAnyH_take (i := 17) (v := .bool true) ?hi17x490 ?hs17x490 ?hf17x490 ?hr17x490 ?hQ17x490 ?hy17x490 ?hS17x490 ?rest17x490
  case hi17x490 => (simp only [List.getElem?_toArray, List.getElem?_cons_succ, List.getElem?_cons_zero]; try rfl)
  case hs17x490 => kernel_rfl
  case hf17x490 => kernel_rfl
  case hr17x490 => kernel_rfl
  case hQ17x490 => exact fun _ _ _ h => h
  case hy17x490 => exact Or.inl ⟨by rfl, by (intro w hSw; (try dsimp only at hSw); go_simp)⟩
  case hS17x490 => assumption
  (try simp only [Act.put, List.setIfInBounds_toArray, List.set_cons_zero, List.set_cons_succ])
  refine' wpAnyH_take (i := 18) (v := .pointer (some ⟨w.heap.size + 1, 2, none⟩)) ?hi18x491 ?hs18x491 ?hf18x491 ?hr18x491 ?hQ18x491 ?hy18x491 ?hS18x491 ?rest18x491
  case hi18x491 => (simp only [List.getElem?_toArray, List.getElem?_cons_succ, List.getElem?_cons_zero]; try rfl)
  case hs18x491 => kernel_rfl
  case hf18x491 => kernel_rfl
  case hr18x491 => kernel_rfl
  case hQ18x491 => exact fun _ _ _ h => h
  case hy18x491 => exact Or.inl ⟨by rfl, by (intro w hSw; (try dsimp only at hSw); go_simp)⟩
  case hS18x491 => assumption
  (try simp only [Act.put, List.setIfInBounds_toArray, List.set_cons_zero, List.set_cons_succ])
  refine' wpAnyH_take (i := 19) (v := .int .i64 n1) ?hi19x492 ?hs19x492 ?hf19x492 ?hr19x492 ?hQ19x492 ?hy19x492 ?hS19x492 ?rest19x492
  case hi19x492 => (simp only [List.getElem?_toArray, List.getElem?_cons_succ, List.getElem?_cons_zero]; try rfl)
  case hs19x492 => kernel_rfl
  case hf19x492 => kernel_rfl
  case hr19x492 => kernel_rfl
  case hQ19x492 => exact fun _ _ _ h => h
  case hy19x492 => exact Or.inl ⟨by rfl, by (intro w hSw; (try dsimp only at hSw); go_simp)⟩
  case hS19x492 => assumption
  (try simp only [Act.put, List.setIfInBounds_toArray, List.set_cons_zero, List.set_cons_succ])
  refine' wpAnyH_take (i := 20) (v := .bool true) ?hi20x493 ?hs20x493 ?hf20x493 ?hr20x493 ?hQ20x493 ?hy20x493 ?hS20x493 ?rest20x493
  case hi20x493 => (simp only [List.getElem?_toArray, List.getElem?_cons_succ, List.getElem?_cons_zero]; try rfl)
  case hs20x493 => kernel_rfl
  case hf20x493 => kernel_rfl
  case hr20x493 => kernel_rfl
  case hQ20x493 => exact fun _ _ _ h => h
  case hy20x493 => exact Or.inl ⟨by rfl, by (intro w hSw; (try dsimp only at hSw); go_simp)⟩
  case hS20x493 => assumption
  (try simp only [Act.put, List.setIfInBounds_toArray, List.set_cons_zero, List.set_cons_succ])
  refine' wpAnyH_take (i := 21) (v := .bool true) ?hi21x494 ?hs21x494 ?hf21x494 ?hr21x494 ?hQ21x494 ?hy21x494 ?hS21x494 ?rest21x494
  case hi21x494 => (simp only [List.getElem?_toArray, List.getElem?_cons_succ, List.getElem?_cons_zero]; try rfl)
  case hs21x494 => kernel_rfl
  case hf21x494 => kernel_rfl
  case hr21x494 => kernel_rfl
  case hQ21x494 => exact fun _ _ _ h => h
  case hy21x494 => exact Or.inl ⟨by rfl, by (intro w hSw; (try dsimp only at hSw); go_simp)⟩
  case hS21x494 => assumption
  (try simp only [Act.put, List.setIfInBounds_toArray, List.set_cons_zero, List.set_cons_succ])
  refine' wpAnyH_take (i := 22) (v := .bool true) ?hi22x495 ?hs22x495 ?hf22x495 ?hr22x495 ?hQ22x495 ?hy22x495 ?hS22x495 ?rest22x495
  case hi22x495 => (simp only [List.getElem?_toArray, List.getElem?_cons_succ, List.getElem?_cons_zero]; try rfl)
  case hs22x495 => kernel_rfl
  case hf22x495 => kernel_rfl
  case hr22x495 => kernel_rfl
  case hQ22x495 => exact fun _ _ _ h => h
  case hy22x495 => exact Or.inl ⟨by rfl, by (intro w hSw; (try dsimp only at hSw); go_simp)⟩
  case hS22x495 => assumption
  (try simp only [Act.put, List.setIfInBounds_toArray, List.set_cons_zero, List.set_cons_succ])
  refine' wpAnyH_take (i := 23) (v := .int .i64 m) ?hi23x496 ?hs23x496 ?hf23x496 ?hr23x496 ?hQ23x496 ?hy23x496 ?hS23x496 ?rest23x496
  case hi23x496 => (simp only [List.getElem?_toArray, List.getElem?_cons_succ, List.getElem?_cons_zero]; try rfl)
  case hs23x496 => kernel_rfl
  case hf23x496 => kernel_rfl
  case hr23x496 => kernel_rfl
  case hQ23x496 => exact fun _ _ _ h => h
  case hy23x496 => exact Or.inl ⟨by rfl, by (intro w hSw; (try dsimp only at hSw); go_simp)⟩
  case hS23x496 => assumption
  (try simp only [Act.put, List.setIfInBounds_toArray, List.set_cons_zero, List.set_cons_succ])
  refine' wpAnyH_take (i := 24) (v := .bool true) ?hi24x497 ?hs24x497 ?hf24x497 ?hr24x497 ?hQ24x497 ?hy24x497 ?hS24x497 ?rest24x497
  case hi24x497 => (simp only [List.getElem?_toArray, List.getElem?_cons_succ, List.getElem?_cons_zero]; try rfl)
  case hs24x497 => kernel_rfl
  case hf24x497 => kernel_rfl
  case hr24x497 => kernel_rfl
  case hQ24x497 => exact fun _ _ _ h => h
  case hy24x497 => exact Or.inl ⟨by rfl, by (intro w hSw; (try dsimp only at hSw); go_simp)⟩
  case hS24x497 => assumption
  (try simp only [Act.put, List.setIfInBounds_toArray, List.set_cons_zero, List.set_cons_succ])
  refine' wpAnyH_take (i := 25) (v := .bool true) ?hi25x498 ?hs25x498 ?hf25x498 ?hr25x498 ?hQ25x498 ?hy25x498 ?hS25x498 ?rest25x498
  case hi25x498 => (simp only [List.getElem?_toArray, List.getElem?_cons_succ, List.getElem?_cons_zero]; try rfl)
  case hs25x498 => kernel_rfl
  case hf25x498 => kernel_rfl
  case hr25x498 => kernel_rfl
  case hQ25x498 => exact fun _ _ _ h => h
  case hy25x498 => exact Or.inl ⟨by rfl, by (intro w hSw; (try dsimp only at hSw); go_simp)⟩
  case hS25x498 => assumption
  (try simp only [Act.put, List.setIfInBounds_toArray, List.set_cons_zero, List.set_cons_succ])
  refine' wpAnyH_take (i := 26) (v := .bool true) ?hi26x499 ?hs26x499 ?hf26x499 ?hr26x499 ?hQ26x499 ?hy26x499 ?hS26x499 ?rest26x499
  case hi26x499 => (simp only [List.getElem?_toArray, List.getElem?_cons_succ, List.getElem?_cons_zero]; try rfl)
  case hs26x499 => kernel_rfl
  case hf26x499 => kernel_rfl
  case hr26x499 => kernel_rfl
  case hQ26x499 => exact fun _ _ _ h => h
  case hy26x499 => exact Or.inl ⟨by rfl, by (intro w hSw; (try dsimp only at hSw); go_simp)⟩
  case hS26x499 => assumption
  (try simp only [Act.put, List.setIfInBounds_toArray, List.set_cons_zero, List.set_cons_succ])
  refine' wpAnyH_take (i := 28) (v := .agg #[.int .u8 k0, .bool b0, .int .i64 n0, .string s0]) ?hi28x500 ?hs28x500 ?hf28x500 ?hr28x500 ?hQ28x500 ?hy28x500 ?hS28x500 ?rest28x500
  case hi28x500 => (simp only [List.getElem?_toArray, List.getElem?_cons_succ, List.getElem?_cons_zero]; try rfl)
  case hs28x500 => kernel_rfl
  case hf28x500 => kernel_rfl
  case hr28x500 => kernel_rfl
  case hQ28x500 => exact fun _ _ _ h => h
  case hy28x500 => exact Or.inl ⟨by rfl, by (intro w hSw; (try dsimp only at hSw); go_simp)⟩
  case hS28x500 => assumption
  (try simp only [Act.put, List.setIfInBounds_toArray, List.set_cons_zero, List.set_cons_succ])
  refine' wpAnyH_take (i := 29) (v := .agg #[.int .u8 k1, .bool b1, .int .i64 n1, .string s1]) ?hi29x501 ?hs29x501 ?hf29x501 ?hr29x501 ?hQ29x501 ?hy29x501 ?hS29x501 ?rest29x501
  case hi29x501 => (simp only [List.getElem?_toArray, List.getElem?_cons_succ, List.getElem?_cons_zero]; try rfl)
  case hs29x501 => kernel_rfl
  case hf29x501 => kernel_rfl
  case hr29x501 => kernel_rfl
  case hQ29x501 => exact fun _ _ _ h => h
  case hy29x501 => exact Or.inl ⟨by rfl, by (intro w hSw; (try dsimp only at hSw); go_simp)⟩
  case hS29x501 => assumption
  (try simp only [Act.put, List.setIfInBounds_toArray, List.set_cons_zero, List.set_cons_succ])
  refine wpAnyH_ready (rs := [27, 30]) (by kernel_rfl) (by simp) ?_
  refine' AllReadyH.cons (i := 27) ?ho27x502 (fun K hK => ?st27x502) (AllReadyH.cons (i := 30) ?ho30x503 (fun K hK => ?st30x503) AllReadyH.nil)
  case ho27x502 => (simp only [List.getElem?_toArray, List.getElem?_cons_succ, List.getElem?_cons_zero]; try rfl)
  case ho30x503 => (simp only [List.getElem?_toArray, List.getElem?_cons_succ, List.getElem?_cons_zero]; try rfl)
  case st27x502 =>
    go_simp
    refine (refOver_any _ _).mono ?_
    rintro e w' ⟨rfl, rfl⟩
    go_wp2_with fail
    refine hK.out _ _ ?_ (fun hHeld => ?_)
    · (first | exact ⟨a0_, a1_, a2_, a3_, b0_, b1_, b2_, b3_⟩ | go_keep)
    clear hK K
    (try simp only [Act.put, List.setIfInBounds_toArray, List.set_cons_zero, List.set_cons_succ])
    refine wpAnyH_ready (rs := [30]) (by kernel_rfl) (by simp) ?_
    refine' AllReadyH.cons (i := 30) ?ho30x504 (fun K hK => ?st30x504) AllReadyH.nil
    case ho30x504 => (simp only [List.getElem?_toArray, List.getElem?_cons_succ, List.getElem?_cons_zero]; try rfl)
    go_simp
    refine hK.out _ _ ?_ (fun hHeld => ?_)
    · (first | exact ⟨a0_, a1_, a2_, a3_, b0_, b1_, b2_, b3_⟩ | go_keep)
    clear hK K
    (try simp only [Act.put, List.setIfInBounds_toArray, List.set_cons_zero, List.set_cons_succ])
    refine wpAnyH_ready (rs := [31]) (by kernel_rfl) (by simp) ?_
    refine' AllReadyH.cons (i := 31) ?ho31x505 (fun K hK => ?st31x505) AllReadyH.nil
    case ho31x505 => (simp only [List.getElem?_toArray, List.getElem?_cons_succ, List.getElem?_cons_zero]; try rfl)
    go_simp
    refine (refNum2_any _ _ k0 b0 n0 s0 k1 b1 n1 s1 _ _ _ (by exact heap_at _ _ _ (by first | rfl | simp)) hs0H.out hs1H.out).mono ?_
    rw [hrH.out, refVm]
    rintro e w' ⟨rfl, hb'⟩
    replace hb := chainB (B := W0.heap.size) (a := W0) (by go_grown) hb' (by have := hb.size; first | omega | (simp; done) | (simp; omega))
    clear hb' a0_ a1_ a2_ a3_ b0_ b1_ b2_ b3_ r0_ r1_ r2_ r3_ f0_ f1_ f2_ f3_ hz hs
    obtain ⟨a0_, a1_, a2_, a3_⟩ := (hAH.out.below hb).cells; obtain ⟨b0_, b1_, b2_, b3_⟩ := (hBH.out.below hb).cells; obtain ⟨r0_, r1_, r2_, r3_⟩ := (hRH.out.below hb).cells; obtain ⟨f0_, f1_, f2_, f3_⟩ := (hRH.out.below hb).free; have hz := Nat.lt_of_lt_of_le hz0.out hb.size; have hs := hb.size
    go_wp2_with fail
    refine hK.out _ _ ?_ (fun hHeld => ?_)
    · (first | exact ⟨a0_, a1_, a2_, a3_, b0_, b1_, b2_, b3_⟩ | go_keep)
    clear hK K
    (try simp only [Act.put, List.setIfInBounds_toArray, List.set_cons_zero, List.set_cons_succ])
    refine' wpAnyH_take (i := 32) (v := .agg #[.int .u8 k', .bool b', .int .i64 n', .string s']) ?hi32x506 ?hs32x506 ?hf32x506 ?hr32x506 ?hQ32x506 ?hy32x506 ?hS32x506 ?rest32x506
    case hi32x506 => (simp only [List.getElem?_toArray, List.getElem?_cons_succ, List.getElem?_cons_zero]; try rfl)
    case hs32x506 => kernel_rfl
    case hf32x506 => kernel_rfl
    case hr32x506 => kernel_rfl
    case hQ32x506 => exact fun _ _ _ h => h
    case hy32x506 => exact Or.inl ⟨by rfl, by (intro w hSw; (try dsimp only at hSw); go_simp)⟩
    case hS32x506 => assumption
    (try simp only [Act.put, List.setIfInBounds_toArray, List.set_cons_zero, List.set_cons_succ])
    refine' wpAnyH_take (i := 33) (v := .int .i64 x) ?hi33x507 ?hs33x507 ?hf33x507 ?hr33x507 ?hQ33x507 ?hy33x507 ?hS33x507 ?rest33x507
    case hi33x507 => (simp only [List.getElem?_toArray, List.getElem?_cons_succ, List.getElem?_cons_zero]; try rfl)
    case hs33x507 => kernel_rfl
    case hf33x507 => kernel_rfl
    case hr33x507 => kernel_rfl
    case hQ33x507 => exact fun _ _ _ h => h
    case hy33x507 => exact Or.inl ⟨by rfl, by (intro w hSw; (try dsimp only at hSw); go_simp)⟩
    case hS33x507 => assumption
    (try simp only [Act.put, List.setIfInBounds_toArray, List.set_cons_zero, List.set_cons_succ])
    have hne1 : ¬ (w.heap.size + 1 + 1 = w.heap.size) := by omega
    have hne2 : ¬ (w.heap.size = w.heap.size + 1 + 1) := by omega
    refine wpAnyH_ready (rs := [34]) (by kernel_rfl) (by simp) ?_
    refine' AllReadyH.cons (i := 34) ?ho34x508 (fun K hK => ?st34x508) AllReadyH.nil
    case ho34x508 => (simp only [List.getElem?_toArray, List.getElem?_cons_succ, List.getElem?_cons_zero]; try rfl)
    go_simp
    refine hK.out _ _ ?_ (fun hHeld => ?_)
    · (first | exact ⟨a0_, a1_, a2_, a3_, b0_, b1_, b2_, b3_⟩ | go_keep)
    clear hK K
    (try simp only [Act.put, List.setIfInBounds_toArray, List.set_cons_zero, List.set_cons_succ])
    refine' wpAnyH_take (i := 35) (v := .int .i64 x) ?hi35x509 ?hs35x509 ?hf35x509 ?hr35x509 ?hQ35x509 ?hy35x509 ?hS35x509 ?rest35x509
    case hi35x509 => (simp only [List.getElem?_toArray, List.getElem?_cons_succ, List.getElem?_cons_zero]; try rfl)
    case hs35x509 => kernel_rfl
    case hf35x509 => kernel_rfl
    case hr35x509 => kernel_rfl
    case hQ35x509 => exact fun _ _ _ h => h
    case hy35x509 => exact Or.inl ⟨by rfl, by (intro w hSw; (try dsimp only at hSw); go_simp)⟩
    case hS35x509 => assumption
    (try simp only [Act.put, List.setIfInBounds_toArray, List.set_cons_zero, List.set_cons_succ])
    refine wpAnyH_done (by kernel_rfl) ?_ _
    refine NoPanic.normal ?_
    clear hne1 hne2
    go_wp2
    refine bodyPost_ret (v := .tuple #[.agg #[.int .u8 k', .bool b', .int .i64 n', .string s'], .int .i64 x]) (by simp [results, Tryd.results33, go_sem, r0_, r1_, r2_, r3_, hz]) rfl ⟨rfl, ?_⟩
    have hbw := hwWH.out.trans (hb.mono hwWH.out.size)
    clear hb
    go_grown
  case st30x503 =>
    go_simp
    refine hK.out _ _ ?_ (fun hHeld => ?_)
    · (first | exact ⟨a0_, a1_, a2_, a3_, b0_, b1_, b2_, b3_⟩ | go_keep)
    clear hK K
    (try simp only [Act.put, List.setIfInBounds_toArray, List.set_cons_zero, List.set_cons_succ])
    refine wpAnyH_ready (rs := [27]) (by kernel_rfl) (by simp) ?_
    refine' AllReadyH.cons (i := 27) ?ho27x510 (fun K hK => ?st27x510) AllReadyH.nil
    case ho27x510 => (simp only [List.getElem?_toArray, List.getElem?_cons_succ, List.getElem?_cons_zero]; try rfl)
    go_simp
    refine (refOver_any _ _).mono ?_
    rintro e w' ⟨rfl, rfl⟩
    go_wp2_with fail
    refine hK.out _ _ ?_ (fun hHeld => ?_)
    · (first | exact ⟨a0_, a1_, a2_, a3_, b0_, b1_, b2_, b3_⟩ | go_keep)
    clear hK K
    (try simp only [Act.put, List.setIfInBounds_toArray, List.set_cons_zero, List.set_cons_succ])
    refine wpAnyH_ready (rs := [31]) (by kernel_rfl) (by simp) ?_
    refine' AllReadyH.cons (i := 31) ?ho31x511 (fun K hK => ?st31x511) AllReadyH.nil
    case ho31x511 => (simp only [List.getElem?_toArray, List.getElem?_cons_succ, List.getElem?_cons_zero]; try rfl)
    go_simp
    refine (refNum2_any _ _ k0 b0 n0 s0 k1 b1 n1 s1 _ _ _ (by exact heap_at _ _ _ (by first | rfl | simp)) hs0H.out hs1H.out).mono ?_
    rw [hrH.out, refVm]
    rintro e w' ⟨rfl, hb'⟩
    replace hb := chainB (B := W0.heap.size) (a := W0) (by go_grown) hb' (by have := hb.size; first | omega | (simp; done) | (simp; omega))
    clear hb' a0_ a1_ a2_ a3_ b0_ b1_ b2_ b3_ r0_ r1_ r2_ r3_ f0_ f1_ f2_ f3_ hz hs
    obtain ⟨a0_, a1_, a2_, a3_⟩ := (hAH.out.below hb).cells; obtain ⟨b0_, b1_, b2_, b3_⟩ := (hBH.out.below hb).cells; obtain ⟨r0_, r1_, r2_, r3_⟩ := (hRH.out.below hb).cells; obtain ⟨f0_, f1_, f2_, f3_⟩ := (hRH.out.below hb).free; have hz := Nat.lt_of_lt_of_le hz0.out hb.size; have hs := hb.size
    go_wp2_with fail
    refine hK.out _ _ ?_ (fun hHeld => ?_)
    · (first | exact ⟨a0_, a1_, a2_, a3_, b0_, b1_, b2_, b3_⟩ | go_keep)
    clear hK K
    (try simp only [Act.put, List.setIfInBounds_toArray, List.set_cons_zero, List.set_cons_succ])
    refine' wpAnyH_take (i := 32) (v := .agg #[.int .u8 k', .bool b', .int .i64 n', .string s']) ?hi32x512 ?hs32x512 ?hf32x512 ?hr32x512 ?hQ32x512 ?hy32x512 ?hS32x512 ?rest32x512
    case hi32x512 => (simp only [List.getElem?_toArray, List.getElem?_cons_succ, List.getElem?_cons_zero]; try rfl)
    case hs32x512 => kernel_rfl
    case hf32x512 => kernel_rfl
    case hr32x512 => kernel_rfl
    case hQ32x512 => exact fun _ _ _ h => h
    case hy32x512 => exact Or.inl ⟨by rfl, by (intro w hSw; (try dsimp only at hSw); go_simp)⟩
    case hS32x512 => assumption
    (try simp only [Act.put, List.setIfInBounds_toArray, List.set_cons_zero, List.set_cons_succ])
    refine' wpAnyH_take (i := 33) (v := .int .i64 x) ?hi33x513 ?hs33x513 ?hf33x513 ?hr33x513 ?hQ33x513 ?hy33x513 ?hS33x513 ?rest33x513
    case hi33x513 => (simp only [List.getElem?_toArray, List.getElem?_cons_succ, List.getElem?_cons_zero]; try rfl)
    case hs33x513 => kernel_rfl
    case hf33x513 => kernel_rfl
    case hr33x513 => kernel_rfl
    case hQ33x513 => exact fun _ _ _ h => h
    case hy33x513 => exact Or.inl ⟨by rfl, by (intro w hSw; (try dsimp only at hSw); go_simp)⟩
    case hS33x513 => assumption
    (try simp only [Act.put, List.setIfInBounds_toArray, List.set_cons_zero, List.set_cons_succ])
    have hne1 : ¬ (w.heap.size + 1 + 1 = w.heap.size) := by omega
    have hne2 : ¬ (w.heap.size = w.heap.size + 1 + 1) := by omega
    refine wpAnyH_ready (rs := [34]) (by kernel_rfl) (by simp) ?_
    refine' AllReadyH.cons (i := 34) ?ho34x514 (fun K hK => ?st34x514) AllReadyH.nil
    case ho34x514 => (simp only [List.getElem?_toArray, List.getElem?_cons_succ, List.getElem?_cons_zero]; try rfl)
    go_simp
    refine hK.out _ _ ?_ (fun hHeld => ?_)
    · (first | exact ⟨a0_, a1_, a2_, a3_, b0_, b1_, b2_, b3_⟩ | go_keep)
    clear hK K
    (try simp only [Act.put, List.setIfInBounds_toArray, List.set_cons_zero, List.set_cons_succ])
    refine' wpAnyH_take (i := 35) (v := .int .i64 x) ?hi35x515 ?hs35x515 ?hf35x515 ?hr35x515 ?hQ35x515 ?hy35x515 ?hS35x515 ?rest35x515
    case hi35x515 => (simp only [List.getElem?_toArray, List.getElem?_cons_succ, List.getElem?_cons_zero]; try rfl)
    case hs35x515 => kernel_rfl
    case hf35x515 => kernel_rfl
    case hr35x515 => kernel_rfl
    case hQ35x515 => exact fun _ _ _ h => h
    case hy35x515 => exact Or.inl ⟨by rfl, by (intro w hSw; (try dsimp only at hSw); go_simp)⟩
    case hS35x515 => assumption
    (try simp only [Act.put, List.setIfInBounds_toArray, List.set_cons_zero, List.set_cons_succ])
    refine wpAnyH_done (by kernel_rfl) ?_ _
    refine NoPanic.normal ?_
    clear hne1 hne2
    go_wp2
    refine bodyPost_ret (v := .tuple #[.agg #[.int .u8 k', .bool b', .int .i64 n', .string s'], .int .i64 x]) (by simp [results, Tryd.results33, go_sem, r0_, r1_, r2_, r3_, hz]) rfl ⟨rfl, ?_⟩
    have hbw := hwWH.out.trans (hb.mono hwWH.out.size)
    clear hb
    go_grown

set_option maxRecDepth 100000 in
set_option maxHeartbeats 8000000 in
theorem refSub_npn (k0 : Int) (b0 : Bool) (n0 : Int) (s0 : ByteArray) (k1 : Int) (b1 : Bool) (n1 : Int) (s1 : ByteArray) (w : World) (hs0 : s0.size ≤ 140737488355328) (hs1 : s1.size ≤ 140737488355328) (ha : n0 < 0) (hb1 : 0 < n1) (hc : wrap64 (n0 - n1) < 0) :
    Calls Tryd.prog 33 #[.agg #[.int .u8 k0, .bool b0, .int .i64 n0, .string s0], .agg #[.int .u8 k1, .bool b1, .int .i64 n1, .string s1]] w fun e w' => e = .returned (refV (numS ⟨k0, b0, n0, s0⟩ ⟨k1, b1, n1, s1⟩ (wrap64 (n0 - n1), 0))) ∧ Below w.heap.size w w' := by
  obtain ⟨r, hr⟩ : ∃ r, numS ⟨k0, b0, n0, s0⟩ ⟨k1, b1, n1, s1⟩ (wrap64 (n0 - n1), 0) = r := ⟨_, rfl⟩
  rw [hr]
  obtain ⟨⟨k', b', n', s'⟩, x⟩ := r
  rw [refVm]
  have hrH := Lib.hid hr
  clear hr
  have hs0H := Lib.hid hs0; have hs1H := Lib.hid hs1
  obtain ⟨m, hm⟩ : ∃ m, wrap64 (n0 - n1) = m := ⟨_, rfl⟩
  have hm' : IntKind.i64.wrap (n0 - n1) = m := by rw [wrap_is, hm]
  rw [hm] at hrH
  rw [hm] at hc
  have d1 : decide (n0 ≥ 0) = false := by simp; omega
  have d2 : decide (n0 < 0) = true := by simp; omega
  have d3 : decide (n1 > 0) = true := by simp; omega
  have d6 : decide (0 < n1) = true := by simp; omega
  have d4 : decide (m < 0) = true := by simp; omega
  have d5 : decide (m ≥ 0) = false := by simp; omega
  obtain ⟨W0, hW0, hwW, hA, hB, hR, hzz⟩ := boxes2 w k0 b0 n0 s0 k1 b1 n1 s1
  have hAH := Lib.hid hA; have hBH := Lib.hid hB; have hRH := Lib.hid hR; have hz0 := Lib.hid hzz; have hwWH := Lib.hid hwW
  clear hA hB hR hzz hwW hs0 hs1
  have hb := Below.refl W0.heap.size W0
  obtain ⟨a0_, a1_, a2_, a3_⟩ := (hAH.out.below hb).cells; obtain ⟨b0_, b1_, b2_, b3_⟩ := (hBH.out.below hb).cells; obtain ⟨r0_, r1_, r2_, r3_⟩ := (hRH.out.below hb).cells; obtain ⟨f0_, f1_, f2_, f3_⟩ := (hRH.out.below hb).free; have hz := Nat.lt_of_lt_of_le hz0.out hb.size; have hs := hb.size
  go_enter Tryd.func33, Tryd.ntmps33
  go_wp2_with fail
  refine wp_region_noPanic ?_
  refine wp_region_held_drew (S := (fun w' => w'.cell? ⟨w.heap.size, 0, none⟩ = some (.int .u8 k0) ∧ w'.cell? ⟨w.heap.size, 1, none⟩ = some (.bool b0) ∧ w'.cell? ⟨w.heap.size, 2, none⟩ = some (.int .i64 n0) ∧ w'.cell? ⟨w.heap.size, 3, none⟩ = some (.string s0) ∧ w'.cell? ⟨w.heap.size + 1, 0, none⟩ = some (.int .u8 k1) ∧ w'.cell? ⟨w.heap.size + 1, 1, none⟩ = some (.bool b1) ∧ w'.cell? ⟨w.heap.size + 1, 2, none⟩ = some (.int .i64 n1) ∧ w'.cell? ⟨w.heap.size + 1, 3, none⟩ = some (.string s1))) (by kernel_rfl) (by first | exact ⟨a0_, a1_, a2_, a3_, b0_, b1_, b2_, b3_⟩ | go_keep) (fun hHeld => ?_)
  refine' wpAnyH_take (i := 0) (v := .int .i64 m) ?hi0x516 ?hs0x516 ?hf0x516 ?hr0x516 ?hQ0x516 ?hy0x516 ?hS0x516 ?rest0x516
  case hi0x516 => (simp only [List.getElem?_toArray, List.getElem?_cons_succ, List.getElem?_cons_zero]; try rfl)
  case hs0x516 => kernel_rfl
  case hf0x516 => kernel_rfl
  case hr0x516 => kernel_rfl
  case hQ0x516 => exact fun _ _ _ h => h
  case hy0x516 => exact Or.inl ⟨by rfl, by (intro w hSw; (try dsimp only at hSw); go_simp)⟩
  case hS0x516 => assumption
  (try simp only [Act.put, List.setIfInBounds_toArray, List.set_cons_zero, List.set_cons_succ])
  refine' wpAnyH_take (i := 1) (v := .pointer (some ⟨w.heap.size, 2, none⟩)) ?hi1x517 ?hs1x517 ?hf1x517 ?hr1x517 ?hQ1x517 ?hy1x517 ?hS1x517 ?rest1x517
  case hi1x517 => (simp only [List.getElem?_toArray, List.getElem?_cons_succ, List.getElem?_cons_zero]; try rfl)
  case hs1x517 => kernel_rfl
  case hf1x517 => kernel_rfl
  case hr1x517 => kernel_rfl
  case hQ1x517 => exact fun _ _ _ h => h
  case hy1x517 => exact Or.inl ⟨by rfl, by (intro w hSw; (try dsimp only at hSw); go_simp)⟩
  case hS1x517 => assumption
  (try simp only [Act.put, List.setIfInBounds_toArray, List.set_cons_zero, List.set_cons_succ])
  refine' wpAnyH_take (i := 2) (v := .int .i64 n0) ?hi2x518 ?hs2x518 ?hf2x518 ?hr2x518 ?hQ2x518 ?hy2x518 ?hS2x518 ?rest2x518
  case hi2x518 => (simp only [List.getElem?_toArray, List.getElem?_cons_succ, List.getElem?_cons_zero]; try rfl)
  case hs2x518 => kernel_rfl
  case hf2x518 => kernel_rfl
  case hr2x518 => kernel_rfl
  case hQ2x518 => exact fun _ _ _ h => h
  case hy2x518 => exact Or.inl ⟨by rfl, by (intro w hSw; (try dsimp only at hSw); go_simp)⟩
  case hS2x518 => assumption
  (try simp only [Act.put, List.setIfInBounds_toArray, List.set_cons_zero, List.set_cons_succ])
  refine' wpAnyH_take (i := 3) (v := .bool false) ?hi3x519 ?hs3x519 ?hf3x519 ?hr3x519 ?hQ3x519 ?hy3x519 ?hS3x519 ?rest3x519
  case hi3x519 => (simp only [List.getElem?_toArray, List.getElem?_cons_succ, List.getElem?_cons_zero]; try rfl)
  case hs3x519 => kernel_rfl
  case hf3x519 => kernel_rfl
  case hr3x519 => kernel_rfl
  case hQ3x519 => exact fun _ _ _ h => h
  case hy3x519 => exact Or.inl ⟨by rfl, by (intro w hSw; (try dsimp only at hSw); go_simp)⟩
  case hS3x519 => assumption
  (try simp only [Act.put, List.setIfInBounds_toArray, List.set_cons_zero, List.set_cons_succ])
  refine' wpAnyH_take (i := 4) (v := .bool false) ?hi4x520 ?hs4x520 ?hf4x520 ?hr4x520 ?hQ4x520 ?hy4x520 ?hS4x520 ?rest4x520
  case hi4x520 => (simp only [List.getElem?_toArray, List.getElem?_cons_succ, List.getElem?_cons_zero]; try rfl)
  case hs4x520 => kernel_rfl
  case hf4x520 => kernel_rfl
  case hr4x520 => kernel_rfl
  case hQ4x520 => exact fun _ _ _ h => h
  case hy4x520 => exact Or.inl ⟨by rfl, by (intro w hSw; (try dsimp only at hSw); go_simp)⟩
  case hS4x520 => assumption
  (try simp only [Act.put, List.setIfInBounds_toArray, List.set_cons_zero, List.set_cons_succ])
  refine' wpAnyH_take (i := 5) (v := undef) ?hi5x521 ?hs5x521 ?hf5x521 ?hr5x521 ?hQ5x521 ?hy5x521 ?hS5x521 ?rest5x521
  case hi5x521 => (simp only [List.getElem?_toArray, List.getElem?_cons_succ, List.getElem?_cons_zero]; try rfl)
  case hs5x521 => kernel_rfl
  case hf5x521 => kernel_rfl
  case hr5x521 => kernel_rfl
  case hQ5x521 => exact fun _ _ _ h => h
  case hy5x521 => exact Or.inr ⟨by rfl, rfl⟩
  case hS5x521 => assumption
  (try simp only [Act.put, List.setIfInBounds_toArray, List.set_cons_zero, List.set_cons_succ])
  refine' wpAnyH_take (i := 6) (v := undef) ?hi6x522 ?hs6x522 ?hf6x522 ?hr6x522 ?hQ6x522 ?hy6x522 ?hS6x522 ?rest6x522
  case hi6x522 => (simp only [List.getElem?_toArray, List.getElem?_cons_succ, List.getElem?_cons_zero]; try rfl)
  case hs6x522 => kernel_rfl
  case hf6x522 => kernel_rfl
  case hr6x522 => kernel_rfl
  case hQ6x522 => exact fun _ _ _ h => h
  case hy6x522 => exact Or.inr ⟨by rfl, rfl⟩
  case hS6x522 => assumption
  (try simp only [Act.put, List.setIfInBounds_toArray, List.set_cons_zero, List.set_cons_succ])
  refine' wpAnyH_take (i := 7) (v := undef) ?hi7x523 ?hs7x523 ?hf7x523 ?hr7x523 ?hQ7x523 ?hy7x523 ?hS7x523 ?rest7x523
  case hi7x523 => (simp only [List.getElem?_toArray, List.getElem?_cons_succ, List.getElem?_cons_zero]; try rfl)
  case hs7x523 => kernel_rfl
  case hf7x523 => kernel_rfl
  case hr7x523 => kernel_rfl
  case hQ7x523 => exact fun _ _ _ h => h
  case hy7x523 => exact Or.inr ⟨by rfl, rfl⟩
  case hS7x523 => assumption
  (try simp only [Act.put, List.setIfInBounds_toArray, List.set_cons_zero, List.set_cons_succ])
  refine' wpAnyH_take (i := 8) (v := .bool false) ?hi8x524 ?hs8x524 ?hf8x524 ?hr8x524 ?hQ8x524 ?hy8x524 ?hS8x524 ?rest8x524
  case hi8x524 => (simp only [List.getElem?_toArray, List.getElem?_cons_succ, List.getElem?_cons_zero]; try rfl)
  case hs8x524 => kernel_rfl
  case hf8x524 => kernel_rfl
  case hr8x524 => kernel_rfl
  case hQ8x524 => exact fun _ _ _ h => h
  case hy8x524 => exact Or.inl ⟨by rfl, by (intro w hSw; (try dsimp only at hSw); go_simp)⟩
  case hS8x524 => assumption
  (try simp only [Act.put, List.setIfInBounds_toArray, List.set_cons_zero, List.set_cons_succ])
  refine' wpAnyH_take (i := 9) (v := .bool false) ?hi9x525 ?hs9x525 ?hf9x525 ?hr9x525 ?hQ9x525 ?hy9x525 ?hS9x525 ?rest9x525
  case hi9x525 => (simp only [List.getElem?_toArray, List.getElem?_cons_succ, List.getElem?_cons_zero]; try rfl)
  case hs9x525 => kernel_rfl
  case hf9x525 => kernel_rfl
  case hr9x525 => kernel_rfl
  case hQ9x525 => exact fun _ _ _ h => h
  case hy9x525 => exact Or.inl ⟨by rfl, by (intro w hSw; (try dsimp only at hSw); go_simp)⟩
  case hS9x525 => assumption
  (try simp only [Act.put, List.setIfInBounds_toArray, List.set_cons_zero, List.set_cons_succ])
  refine' wpAnyH_take (i := 10) (v := undef) ?hi10x526 ?hs10x526 ?hf10x526 ?hr10x526 ?hQ10x526 ?hy10x526 ?hS10x526 ?rest10x526
  case hi10x526 => (simp only [List.getElem?_toArray, List.getElem?_cons_succ, List.getElem?_cons_zero]; try rfl)
  case hs10x526 => kernel_rfl
  case hf10x526 => kernel_rfl
  case hr10x526 => kernel_rfl
  case hQ10x526 => exact fun _ _ _ h => h
  case hy10x526 => exact Or.inr ⟨by rfl, rfl⟩
  case hS10x526 => assumption
  (try simp only [Act.put, List.setIfInBounds_toArray, List.set_cons_zero, List.set_cons_succ])
  refine' wpAnyH_take (i := 11) (v := undef) ?hi11x527 ?hs11x527 ?hf11x527 ?hr11x527 ?hQ11x527 ?hy11x527 ?hS11x527 ?rest11x527
  case hi11x527 => (simp only [List.getElem?_toArray, List.getElem?_cons_succ, List.getElem?_cons_zero]; try rfl)
  case hs11x527 => kernel_rfl
  case hf11x527 => kernel_rfl
  case hr11x527 => kernel_rfl
  case hQ11x527 => exact fun _ _ _ h => h
  case hy11x527 => exact Or.inr ⟨by rfl, rfl⟩
  case hS11x527 => assumption
  (try simp only [Act.put, List.setIfInBounds_toArray, List.set_cons_zero, List.set_cons_succ])
  refine' wpAnyH_take (i := 12) (v := .bool false) ?hi12x528 ?hs12x528 ?hf12x528 ?hr12x528 ?hQ12x528 ?hy12x528 ?hS12x528 ?rest12x528
  case hi12x528 => (simp only [List.getElem?_toArray, List.getElem?_cons_succ, List.getElem?_cons_zero]; try rfl)
  case hs12x528 => kernel_rfl
  case hf12x528 => kernel_rfl
  case hr12x528 => kernel_rfl
  case hQ12x528 => exact fun _ _ _ h => h
  case hy12x528 => exact Or.inl ⟨by rfl, by (intro w hSw; (try dsimp only at hSw); go_simp)⟩
  case hS12x528 => assumption
  (try simp only [Act.put, List.setIfInBounds_toArray, List.set_cons_zero, List.set_cons_succ])
  refine' wpAnyH_take (i := 13) (v := .bool false) ?hi13x529 ?hs13x529 ?hf13x529 ?hr13x529 ?hQ13x529 ?hy13x529 ?hS13x529 ?rest13x529
  case hi13x529 => (simp only [List.getElem?_toArray, List.getElem?_cons_succ, List.getElem?_cons_zero]; try rfl)
  case hs13x529 => kernel_rfl
  case hf13x529 => kernel_rfl
  case hr13x529 => kernel_rfl
  case hQ13x529 => exact fun _ _ _ h => h
  case hy13x529 => exact Or.inl ⟨by rfl, by (intro w hSw; (try dsimp only at hSw); go_simp)⟩
  case hS13x529 => assumption
  (try simp only [Act.put, List.setIfInBounds_toArray, List.set_cons_zero, List.set_cons_succ])
  refine' wpAnyH_take (i := 14) (v := .pointer (some ⟨w.heap.size, 2, none⟩)) ?hi14x530 ?hs14x530 ?hf14x530 ?hr14x530 ?hQ14x530 ?hy14x530 ?hS14x530 ?rest14x530
  case hi14x530 => (simp only [List.getElem?_toArray, List.getElem?_cons_succ, List.getElem?_cons_zero]; try rfl)
  case hs14x530 => kernel_rfl
  case hf14x530 => kernel_rfl
  case hr14x530 => kernel_rfl
  case hQ14x530 => exact fun _ _ _ h => h
  case hy14x530 => exact Or.inl ⟨by rfl, by (intro w hSw; (try dsimp only at hSw); go_simp)⟩
  case hS14x530 => assumption
  (try simp only [Act.put, List.setIfInBounds_toArray, List.set_cons_zero, List.set_cons_succ])
  refine' wpAnyH_take (i := 15) (v := .int .i64 n0) ?hi15x531 ?hs15x531 ?hf15x531 ?hr15x531 ?hQ15x531 ?hy15x531 ?hS15x531 ?rest15x531
  case hi15x531 => (simp only [List.getElem?_toArray, List.getElem?_cons_succ, List.getElem?_cons_zero]; try rfl)
  case hs15x531 => kernel_rfl
  case hf15x531 => kernel_rfl
  case hr15x531 => kernel_rfl
  case hQ15x531 => exact fun _ _ _ h => h
  case hy15x531 => exact Or.inl ⟨by rfl, by (intro w hSw; (try dsimp only at hSw); go_simp)⟩
  case hS15x531 => assumption
  (try simp only [Act.put, List.setIfInBounds_toArray, List.set_cons_zero, List.set_cons_succ])
  refine' wpAnyH_take (i := 16) (v := .bool true) ?hi16x532 ?hs16x532 ?hf16x532 ?hr16x532 ?hQ16x532 ?hy16x532 ?hS16x532 ?rest16x532
  case hi16x532 => (simp only [List.getElem?_toArray, List.getElem?_cons_succ, List.getElem?_cons_zero]; try rfl)
  case hs16x532 => kernel_rfl
  case hf16x532 => kernel_rfl
  case hr16x532 => kernel_rfl
  case hQ16x532 => exact fun _ _ _ h => h
  case hy16x532 => exact Or.inl ⟨by rfl, by (intro w hSw; (try dsimp only at hSw); go_simp)⟩
  case hS16x532 => assumption
  (try simp only [Act.put, List.setIfInBounds_toArray, List.set_cons_zero, List.set_cons_succ])
  refine' wpAnyH_take (i := 17) (v := .bool true) ?hi17x533 ?hs17x533 ?hf17x533 ?hr17x533 ?hQ17x533 ?hy17x533 ?hS17x533 ?rest17x533
  case hi17x533 => (simp only [List.getElem?_toArray, List.getElem?_cons_succ, List.getElem?_cons_zero]; try rfl)
  case hs17x533 => kernel_rfl
  case hf17x533 => kernel_rfl
  case hr17x533 => kernel_rfl
  case hQ17x533 => exact fun _ _ _ h => h
  case hy17x533 => exact Or.inl ⟨by rfl, by (intro w hSw; (try dsimp only at hSw); go_simp)⟩
  case hS17x533 => assumption
  (try simp only [Act.put, List.setIfInBounds_toArray, List.set_cons_zero, List.set_cons_succ])
  refine' wpAnyH_take (i := 18) (v := .pointer (some ⟨w.heap.size + 1, 2, none⟩)) ?hi18x534 ?hs18x534 ?hf18x534 ?hr18x534 ?hQ18x534 ?hy18x534 ?hS18x534 ?rest18x534
  case hi18x534 => (simp only [List.getElem?_toArray, List.getElem?_cons_succ, List.getElem?_cons_zero]; try rfl)
  case hs18x534 => kernel_rfl
  case hf18x534 => kernel_rfl
  case hr18x534 => kernel_rfl
  case hQ18x534 => exact fun _ _ _ h => h
  case hy18x534 => exact Or.inl ⟨by rfl, by (intro w hSw; (try dsimp only at hSw); go_simp)⟩
  case hS18x534 => assumption
  (try simp only [Act.put, List.setIfInBounds_toArray, List.set_cons_zero, List.set_cons_succ])
  refine' wpAnyH_take (i := 19) (v := .int .i64 n1) ?hi19x535 ?hs19x535 ?hf19x535 ?hr19x535 ?hQ19x535 ?hy19x535 ?hS19x535 ?rest19x535
  case hi19x535 => (simp only [List.getElem?_toArray, List.getElem?_cons_succ, List.getElem?_cons_zero]; try rfl)
  case hs19x535 => kernel_rfl
  case hf19x535 => kernel_rfl
  case hr19x535 => kernel_rfl
  case hQ19x535 => exact fun _ _ _ h => h
  case hy19x535 => exact Or.inl ⟨by rfl, by (intro w hSw; (try dsimp only at hSw); go_simp)⟩
  case hS19x535 => assumption
  (try simp only [Act.put, List.setIfInBounds_toArray, List.set_cons_zero, List.set_cons_succ])
  refine' wpAnyH_take (i := 20) (v := .bool true) ?hi20x536 ?hs20x536 ?hf20x536 ?hr20x536 ?hQ20x536 ?hy20x536 ?hS20x536 ?rest20x536
  case hi20x536 => (simp only [List.getElem?_toArray, List.getElem?_cons_succ, List.getElem?_cons_zero]; try rfl)
  case hs20x536 => kernel_rfl
  case hf20x536 => kernel_rfl
  case hr20x536 => kernel_rfl
  case hQ20x536 => exact fun _ _ _ h => h
  case hy20x536 => exact Or.inl ⟨by rfl, by (intro w hSw; (try dsimp only at hSw); go_simp)⟩
  case hS20x536 => assumption
  (try simp only [Act.put, List.setIfInBounds_toArray, List.set_cons_zero, List.set_cons_succ])
  refine' wpAnyH_take (i := 21) (v := .bool true) ?hi21x537 ?hs21x537 ?hf21x537 ?hr21x537 ?hQ21x537 ?hy21x537 ?hS21x537 ?rest21x537
  case hi21x537 => (simp only [List.getElem?_toArray, List.getElem?_cons_succ, List.getElem?_cons_zero]; try rfl)
  case hs21x537 => kernel_rfl
  case hf21x537 => kernel_rfl
  case hr21x537 => kernel_rfl
  case hQ21x537 => exact fun _ _ _ h => h
  case hy21x537 => exact Or.inl ⟨by rfl, by (intro w hSw; (try dsimp only at hSw); go_simp)⟩
  case hS21x537 => assumption
  (try simp only [Act.put, List.setIfInBounds_toArray, List.set_cons_zero, List.set_cons_succ])
  refine' wpAnyH_take (i := 22) (v := .bool true) ?hi22x538 ?hs22x538 ?hf22x538 ?hr22x538 ?hQ22x538 ?hy22x538 ?hS22x538 ?rest22x538
  case hi22x538 => (simp only [List.getElem?_toArray, List.getElem?_cons_succ, List.getElem?_cons_zero]; try rfl)
  case hs22x538 => kernel_rfl
  case hf22x538 => kernel_rfl
  case hr22x538 => kernel_rfl
  case hQ22x538 => exact fun _ _ _ h => h
  case hy22x538 => exact Or.inl ⟨by rfl, by (intro w hSw; (try dsimp only at hSw); go_simp)⟩
  case hS22x538 => assumption
  (try simp only [Act.put, List.setIfInBounds_toArray, List.set_cons_zero, List.set_cons_succ])
  refine' wpAnyH_take (i := 23) (v := .int .i64 m) ?hi23x539 ?hs23x539 ?hf23x539 ?hr23x539 ?hQ23x539 ?hy23x539 ?hS23x539 ?rest23x539
  case hi23x539 => (simp only [List.getElem?_toArray, List.getElem?_cons_succ, List.getElem?_cons_zero]; try rfl)
  case hs23x539 => kernel_rfl
  case hf23x539 => kernel_rfl
  case hr23x539 => kernel_rfl
  case hQ23x539 => exact fun _ _ _ h => h
  case hy23x539 => exact Or.inl ⟨by rfl, by (intro w hSw; (try dsimp only at hSw); go_simp)⟩
  case hS23x539 => assumption
  (try simp only [Act.put, List.setIfInBounds_toArray, List.set_cons_zero, List.set_cons_succ])
  refine' wpAnyH_take (i := 24) (v := .bool false) ?hi24x540 ?hs24x540 ?hf24x540 ?hr24x540 ?hQ24x540 ?hy24x540 ?hS24x540 ?rest24x540
  case hi24x540 => (simp only [List.getElem?_toArray, List.getElem?_cons_succ, List.getElem?_cons_zero]; try rfl)
  case hs24x540 => kernel_rfl
  case hf24x540 => kernel_rfl
  case hr24x540 => kernel_rfl
  case hQ24x540 => exact fun _ _ _ h => h
  case hy24x540 => exact Or.inl ⟨by rfl, by (intro w hSw; (try dsimp only at hSw); go_simp)⟩
  case hS24x540 => assumption
  (try simp only [Act.put, List.setIfInBounds_toArray, List.set_cons_zero, List.set_cons_succ])
  refine' wpAnyH_take (i := 25) (v := .bool false) ?hi25x541 ?hs25x541 ?hf25x541 ?hr25x541 ?hQ25x541 ?hy25x541 ?hS25x541 ?rest25x541
  case hi25x541 => (simp only [List.getElem?_toArray, List.getElem?_cons_succ, List.getElem?_cons_zero]; try rfl)
  case hs25x541 => kernel_rfl
  case hf25x541 => kernel_rfl
  case hr25x541 => kernel_rfl
  case hQ25x541 => exact fun _ _ _ h => h
  case hy25x541 => exact Or.inl ⟨by rfl, by (intro w hSw; (try dsimp only at hSw); go_simp)⟩
  case hS25x541 => assumption
  (try simp only [Act.put, List.setIfInBounds_toArray, List.set_cons_zero, List.set_cons_succ])
  refine' wpAnyH_take (i := 26) (v := .bool false) ?hi26x542 ?hs26x542 ?hf26x542 ?hr26x542 ?hQ26x542 ?hy26x542 ?hS26x542 ?rest26x542
  case hi26x542 => (simp only [List.getElem?_toArray, List.getElem?_cons_succ, List.getElem?_cons_zero]; try rfl)
  case hs26x542 => kernel_rfl
  case hf26x542 => kernel_rfl
  case hr26x542 => kernel_rfl
  case hQ26x542 => exact fun _ _ _ h => h
  case hy26x542 => exact Or.inl ⟨by rfl, by (intro w hSw; (try dsimp only at hSw); go_simp)⟩
  case hS26x542 => assumption
  (try simp only [Act.put, List.setIfInBounds_toArray, List.set_cons_zero, List.set_cons_succ])
  refine' wpAnyH_take (i := 28) (v := .agg #[.int .u8 k0, .bool b0, .int .i64 n0, .string s0]) ?hi28x543 ?hs28x543 ?hf28x543 ?hr28x543 ?hQ28x543 ?hy28x543 ?hS28x543 ?rest28x543
  case hi28x543 => (simp only [List.getElem?_toArray, List.getElem?_cons_succ, List.getElem?_cons_zero]; try rfl)
  case hs28x543 => kernel_rfl
  case hf28x543 => kernel_rfl
  case hr28x543 => kernel_rfl
  case hQ28x543 => exact fun _ _ _ h => h
  case hy28x543 => exact Or.inl ⟨by rfl, by (intro w hSw; (try dsimp only at hSw); go_simp)⟩
  case hS28x543 => assumption
  (try simp only [Act.put, List.setIfInBounds_toArray, List.set_cons_zero, List.set_cons_succ])
  refine' wpAnyH_take (i := 29) (v := .agg #[.int .u8 k1, .bool b1, .int .i64 n1, .string s1]) ?hi29x544 ?hs29x544 ?hf29x544 ?hr29x544 ?hQ29x544 ?hy29x544 ?hS29x544 ?rest29x544
  case hi29x544 => (simp only [List.getElem?_toArray, List.getElem?_cons_succ, List.getElem?_cons_zero]; try rfl)
  case hs29x544 => kernel_rfl
  case hf29x544 => kernel_rfl
  case hr29x544 => kernel_rfl
  case hQ29x544 => exact fun _ _ _ h => h
  case hy29x544 => exact Or.inl ⟨by rfl, by (intro w hSw; (try dsimp only at hSw); go_simp)⟩
  case hS29x544 => assumption
  (try simp only [Act.put, List.setIfInBounds_toArray, List.set_cons_zero, List.set_cons_succ])
  refine wpAnyH_ready (rs := [27, 30]) (by kernel_rfl) (by simp) ?_
  refine' AllReadyH.cons (i := 27) ?ho27x545 (fun K hK => ?st27x545) (AllReadyH.cons (i := 30) ?ho30x546 (fun K hK => ?st30x546) AllReadyH.nil)
  case ho27x545 => (simp only [List.getElem?_toArray, List.getElem?_cons_succ, List.getElem?_cons_zero]; try rfl)
  case ho30x546 => (simp only [List.getElem?_toArray, List.getElem?_cons_succ, List.getElem?_cons_zero]; try rfl)
  case st27x545 =>
    go_simp
    refine (refOver_any _ _).mono ?_
    rintro e w' ⟨rfl, rfl⟩
    go_wp2_with fail
    refine hK.out _ _ ?_ (fun hHeld => ?_)
    · (first | exact ⟨a0_, a1_, a2_, a3_, b0_, b1_, b2_, b3_⟩ | go_keep)
    clear hK K
    (try simp only [Act.put, List.setIfInBounds_toArray, List.set_cons_zero, List.set_cons_succ])
    refine wpAnyH_ready (rs := [30]) (by kernel_rfl) (by simp) ?_
    refine' AllReadyH.cons (i := 30) ?ho30x547 (fun K hK => ?st30x547) AllReadyH.nil
    case ho30x547 => (simp only [List.getElem?_toArray, List.getElem?_cons_succ, List.getElem?_cons_zero]; try rfl)
    go_simp
    refine hK.out _ _ ?_ (fun hHeld => ?_)
    · (first | exact ⟨a0_, a1_, a2_, a3_, b0_, b1_, b2_, b3_⟩ | go_keep)
    clear hK K
    (try simp only [Act.put, List.setIfInBounds_toArray, List.set_cons_zero, List.set_cons_succ])
    refine wpAnyH_ready (rs := [31]) (by kernel_rfl) (by simp) ?_
    refine' AllReadyH.cons (i := 31) ?ho31x548 (fun K hK => ?st31x548) AllReadyH.nil
    case ho31x548 => (simp only [List.getElem?_toArray, List.getElem?_cons_succ, List.getElem?_cons_zero]; try rfl)
    go_simp
    refine (refNum2_any _ _ k0 b0 n0 s0 k1 b1 n1 s1 _ _ _ (by exact heap_at _ _ _ (by first | rfl | simp)) hs0H.out hs1H.out).mono ?_
    rw [hrH.out, refVm]
    rintro e w' ⟨rfl, hb'⟩
    replace hb := chainB (B := W0.heap.size) (a := W0) (by go_grown) hb' (by have := hb.size; first | omega | (simp; done) | (simp; omega))
    clear hb' a0_ a1_ a2_ a3_ b0_ b1_ b2_ b3_ r0_ r1_ r2_ r3_ f0_ f1_ f2_ f3_ hz hs
    obtain ⟨a0_, a1_, a2_, a3_⟩ := (hAH.out.below hb).cells; obtain ⟨b0_, b1_, b2_, b3_⟩ := (hBH.out.below hb).cells; obtain ⟨r0_, r1_, r2_, r3_⟩ := (hRH.out.below hb).cells; obtain ⟨f0_, f1_, f2_, f3_⟩ := (hRH.out.below hb).free; have hz := Nat.lt_of_lt_of_le hz0.out hb.size; have hs := hb.size
    go_wp2_with fail
    refine hK.out _ _ ?_ (fun hHeld => ?_)
    · (first | exact ⟨a0_, a1_, a2_, a3_, b0_, b1_, b2_, b3_⟩ | go_keep)
    clear hK K
    (try simp only [Act.put, List.setIfInBounds_toArray, List.set_cons_zero, List.set_cons_succ])
    refine' wpAnyH_take (i := 32) (v := .agg #[.int .u8 k', .bool b', .int .i64 n', .string s']) ?hi32x549 ?hs32x549 ?hf32x549 ?hr32x549 ?hQ32x549 ?hy32x549 ?hS32x549 ?rest32x549
    case hi32x549 => (simp only [List.getElem?_toArray, List.getElem?_cons_succ, List.getElem?_cons_zero]; try rfl)
    case hs32x549 => kernel_rfl
    case hf32x549 => kernel_rfl
    case hr32x549 => kernel_rfl
    case hQ32x549 => exact fun _ _ _ h => h
    case hy32x549 => exact Or.inl ⟨by rfl, by (intro w hSw; (try dsimp only at hSw); go_simp)⟩
    case hS32x549 => assumption
    (try simp only [Act.put, List.setIfInBounds_toArray, List.set_cons_zero, List.set_cons_succ])
    refine' wpAnyH_take (i := 33) (v := .int .i64 x) ?hi33x550 ?hs33x550 ?hf33x550 ?hr33x550 ?hQ33x550 ?hy33x550 ?hS33x550 ?rest33x550
    case hi33x550 => (simp only [List.getElem?_toArray, List.getElem?_cons_succ, List.getElem?_cons_zero]; try rfl)
    case hs33x550 => kernel_rfl
    case hf33x550 => kernel_rfl
    case hr33x550 => kernel_rfl
    case hQ33x550 => exact fun _ _ _ h => h
    case hy33x550 => exact Or.inl ⟨by rfl, by (intro w hSw; (try dsimp only at hSw); go_simp)⟩
    case hS33x550 => assumption
    (try simp only [Act.put, List.setIfInBounds_toArray, List.set_cons_zero, List.set_cons_succ])
    have hne1 : ¬ (w.heap.size + 1 + 1 = w.heap.size) := by omega
    have hne2 : ¬ (w.heap.size = w.heap.size + 1 + 1) := by omega
    refine wpAnyH_ready (rs := [34]) (by kernel_rfl) (by simp) ?_
    refine' AllReadyH.cons (i := 34) ?ho34x551 (fun K hK => ?st34x551) AllReadyH.nil
    case ho34x551 => (simp only [List.getElem?_toArray, List.getElem?_cons_succ, List.getElem?_cons_zero]; try rfl)
    go_simp
    refine hK.out _ _ ?_ (fun hHeld => ?_)
    · (first | exact ⟨a0_, a1_, a2_, a3_, b0_, b1_, b2_, b3_⟩ | go_keep)
    clear hK K
    (try simp only [Act.put, List.setIfInBounds_toArray, List.set_cons_zero, List.set_cons_succ])
    refine' wpAnyH_take (i := 35) (v := .int .i64 x) ?hi35x552 ?hs35x552 ?hf35x552 ?hr35x552 ?hQ35x552 ?hy35x552 ?hS35x552 ?rest35x552
    case hi35x552 => (simp only [List.getElem?_toArray, List.getElem?_cons_succ, List.getElem?_cons_zero]; try rfl)
    case hs35x552 => kernel_rfl
    case hf35x552 => kernel_rfl
    case hr35x552 => kernel_rfl
    case hQ35x552 => exact fun _ _ _ h => h
    case hy35x552 => exact Or.inl ⟨by rfl, by (intro w hSw; (try dsimp only at hSw); go_simp)⟩
    case hS35x552 => assumption
    (try simp only [Act.put, List.setIfInBounds_toArray, List.set_cons_zero, List.set_cons_succ])
    refine wpAnyH_done (by kernel_rfl) ?_ _
    refine NoPanic.normal ?_
    clear hne1 hne2
    go_wp2
    refine bodyPost_ret (v := .tuple #[.agg #[.int .u8 k', .bool b', .int .i64 n', .string s'], .int .i64 x]) (by simp [results, Tryd.results33, go_sem, r0_, r1_, r2_, r3_, hz]) rfl ⟨rfl, ?_⟩
    have hbw := hwWH.out.trans (hb.mono hwWH.out.size)
    clear hb
    go_grown
  case st30x546 =>
    go_simp
    refine hK.out _ _ ?_ (fun hHeld => ?_)
    · (first | exact ⟨a0_, a1_, a2_, a3_, b0_, b1_, b2_, b3_⟩ | go_keep)
    clear hK K
    (try simp only [Act.put, List.setIfInBounds_toArray, List.set_cons_zero, List.set_cons_succ])
    refine wpAnyH_ready (rs := [27]) (by kernel_rfl) (by simp) ?_
    refine' AllReadyH.cons (i := 27) ?ho27x553 (fun K hK => ?st27x553) AllReadyH.nil
    case ho27x553 => (simp only [List.getElem?_toArray, List.getElem?_cons_succ, List.getElem?_cons_zero]; try rfl)
    go_simp
    refine (refOver_any _ _).mono ?_
    rintro e w' ⟨rfl, rfl⟩
    go_wp2_with fail
    refine hK.out _ _ ?_ (fun hHeld => ?_)
    · (first | exact ⟨a0_, a1_, a2_, a3_, b0_, b1_, b2_, b3_⟩ | go_keep)
    clear hK K
    (try simp only [Act.put, List.setIfInBounds_toArray, List.set_cons_zero, List.set_cons_succ])
    refine wpAnyH_ready (rs := [31]) (by kernel_rfl) (by simp) ?_
    refine' AllReadyH.cons (i := 31) ?ho31x554 (fun K hK => ?st31x554) AllReadyH.nil
    case ho31x554 => (simp only [List.getElem?_toArray, List.getElem?_cons_succ, List.getElem?_cons_zero]; try rfl)
    go_simp
    refine (refNum2_any _ _ k0 b0 n0 s0 k1 b1 n1 s1 _ _ _ (by exact heap_at _ _ _ (by first | rfl | simp)) hs0H.out hs1H.out).mono ?_
    rw [hrH.out, refVm]
    rintro e w' ⟨rfl, hb'⟩
    replace hb := chainB (B := W0.heap.size) (a := W0) (by go_grown) hb' (by have := hb.size; first | omega | (simp; done) | (simp; omega))
    clear hb' a0_ a1_ a2_ a3_ b0_ b1_ b2_ b3_ r0_ r1_ r2_ r3_ f0_ f1_ f2_ f3_ hz hs
    obtain ⟨a0_, a1_, a2_, a3_⟩ := (hAH.out.below hb).cells; obtain ⟨b0_, b1_, b2_, b3_⟩ := (hBH.out.below hb).cells; obtain ⟨r0_, r1_, r2_, r3_⟩ := (hRH.out.below hb).cells; obtain ⟨f0_, f1_, f2_, f3_⟩ := (hRH.out.below hb).free; have hz := Nat.lt_of_lt_of_le hz0.out hb.size; have hs := hb.size
    go_wp2_with fail
    refine hK.out _ _ ?_ (fun hHeld => ?_)
    · (first | exact ⟨a0_, a1_, a2_, a3_, b0_, b1_, b2_, b3_⟩ | go_keep)
    clear hK K
    (try simp only [Act.put, List.setIfInBounds_toArray, List.set_cons_zero, List.set_cons_succ])
    refine' wpAnyH_take (i := 32) (v := .agg #[.int .u8 k', .bool b', .int .i64 n', .string s']) ?hi32x555 ?hs32x555 ?hf32x555 ?hr32x555 ?hQ32x555 ?hy32x555 ?hS32x555 ?rest32x555
    case hi32x555 => (simp only [List.getElem?_toArray, List.getElem?_cons_succ, List.getElem?_cons_zero]; try rfl)
    case hs32x555 => kernel_rfl
    case hf32x555 => kernel_rfl
    case hr32x555 => kernel_rfl
    case hQ32x555 => exact fun _ _ _ h => h
    case hy32x555 => exact Or.inl ⟨by rfl, by (intro w hSw; (try dsimp only at hSw); go_simp)⟩
    case hS32x555 => assumption
    (try simp only [Act.put, List.setIfInBounds_toArray, List.set_cons_zero, List.set_cons_succ])
    refine' wpAnyH_take (i := 33) (v := .int .i64 x) ?hi33x556 ?hs33x556 ?hf33x556 ?hr33x556 ?hQ33x556 ?hy33x556 ?hS33x556 ?rest33x556
    case hi33x556 => (simp only [List.getElem?_toArray, List.getElem?_cons_succ, List.getElem?_cons_zero]; try rfl)
    case hs33x556 => kernel_rfl
    case hf33x556 => kernel_rfl
    case hr33x556 => kernel_rfl
    case hQ33x556 => exact fun _ _ _ h => h
    case hy33x556 => exact Or.inl ⟨by rfl, by (intro w hSw; (try dsimp only at hSw); go_simp)⟩
    case hS33x556 => assumption
    (try simp only [Act.put, List.setIfInBounds_toArray, List.set_cons_zero, List.set_cons_succ])
    have hne1 : ¬ (w.heap.size + 1 + 1 = w.heap.size) := by omega
    have hne2 : ¬ (w.heap.size = w.heap.size + 1 + 1) := by omega
    refine wpAnyH_ready (rs := [34]) (by kernel_rfl) (by simp) ?_
    refine' AllReadyH.cons (i := 34) ?ho34x557 (fun K hK => ?st34x557) AllReadyH.nil
    case ho34x557 => (simp only [List.getElem?_toArray, List.getElem?_cons_succ, List.getElem?_cons_zero]; try rfl)
    go_simp
    refine hK.out _ _ ?_ (fun hHeld => ?_)
    · (first | exact ⟨a0_, a1_, a2_, a3_, b0_, b1_, b2_, b3_⟩ | go_keep)
    clear hK K
    (try simp only [Act.put, List.setIfInBounds_toArray, List.set_cons_zero, List.set_cons_succ])
    refine' wpAnyH_take (i := 35) (v := .int .i64 x) ?hi35x558 ?hs35x558 ?hf35x558 ?hr35x558 ?hQ35x558 ?hy35x558 ?hS35x558 ?rest35x558
    case hi35x558 => (simp only [List.getElem?_toArray, List.getElem?_cons_succ, List.getElem?_cons_zero]; try rfl)
    case hs35x558 => kernel_rfl
    case hf35x558 => kernel_rfl
    case hr35x558 => kernel_rfl
    case hQ35x558 => exact fun _ _ _ h => h
    case hy35x558 => exact Or.inl ⟨by rfl, by (intro w hSw; (try dsimp only at hSw); go_simp)⟩
    case hS35x558 => assumption
    (try simp only [Act.put, List.setIfInBounds_toArray, List.set_cons_zero, List.set_cons_succ])
    refine wpAnyH_done (by kernel_rfl) ?_ _
    refine NoPanic.normal ?_
    clear hne1 hne2
    go_wp2
    refine bodyPost_ret (v := .tuple #[.agg #[.int .u8 k', .bool b', .int .i64 n', .string s'], .int .i64 x]) (by simp [results, Tryd.results33, go_sem, r0_, r1_, r2_, r3_, hz]) rfl ⟨rfl, ?_⟩
    have hbw := hwWH.out.trans (hb.mono hwWH.out.size)
    clear hb
    go_grown

end Go.Proofs.YtoolojfbjpnllaaDoor
