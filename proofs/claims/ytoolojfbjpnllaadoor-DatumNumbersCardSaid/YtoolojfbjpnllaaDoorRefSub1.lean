/-
  What the document's own Sub answers, at this program, part 1. Condition: the texts have at most 2^47 bytes, the numbers are 64-bit numbers.
-/
import Derived.Test.YtoolojfbjpnllaaDoorRefNeg
import Derived.Test.YtoolojfbjpnllaaDoorOps
import Derived.Deep.RegionHeld3
set_option linter.unusedVariables false
set_option linter.unusedSimpArgs false
namespace Go.Proofs.YtoolojfbjpnllaaDoor
open Go.RowKit Go.Lib

set_option maxRecDepth 100000 in
set_option maxHeartbeats 8000000 in
theorem refSub_pp (k0 : Int) (b0 : Bool) (n0 : Int) (s0 : ByteArray) (k1 : Int) (b1 : Bool) (n1 : Int) (s1 : ByteArray) (w : World) (hs0 : s0.size ≤ 140737488355328) (hs1 : s1.size ≤ 140737488355328) (ha : 0 ≤ n0) (hb1 : 0 ≤ n1) :
    Calls Tryd.prog 33 #[.agg #[.int .u8 k0, .bool b0, .int .i64 n0, .string s0], .agg #[.int .u8 k1, .bool b1, .int .i64 n1, .string s1]] w fun e w' => e = .returned (refV (numS ⟨k0, b0, n0, s0⟩ ⟨k1, b1, n1, s1⟩ (wrap64 (n0 - n1), 0))) ∧ Below w.heap.size w w' := by
  obtain ⟨r, hr⟩ : ∃ r, numS ⟨k0, b0, n0, s0⟩ ⟨k1, b1, n1, s1⟩ (wrap64 (n0 - n1), 0) = r := ⟨_, rfl⟩
  rw [hr]
  obtain ⟨⟨k', b', n', s'⟩, x⟩ := r
  rw [refVm]
  have hrH := Lib.hid hr
  clear hr
  have hs0H := Lib.hid hs0; have hs1H := Lib.hid hs1
  obtain ⟨m, hm⟩ : ∃ m, wrap64 (n0 - n1) = m := ⟨_, rfl⟩
  have hm' : IntKind.i64.wrap (n0 - n1) = m := by rw [wrap_is, hm]
  rw [hm] at hrH
  have d1 : decide (n0 ≥ 0) = true := by simp; omega
  have d2 : decide (n0 < 0) = false := by simp; omega
  have d3 : decide (n1 < 0) = false := by simp; omega
  obtain ⟨W0, hW0, hwW, hA, hB, hR, hzz⟩ := boxes2 w k0 b0 n0 s0 k1 b1 n1 s1
  have hAH := Lib.hid hA; have hBH := Lib.hid hB; have hRH := Lib.hid hR; have hz0 := Lib.hid hzz; have hwWH := Lib.hid hwW
  clear hA hB hR hzz hwW hs0 hs1
  have hb := Below.refl W0.heap.size W0
  obtain ⟨a0_, a1_, a2_, a3_⟩ := (hAH.out.below hb).cells; obtain ⟨b0_, b1_, b2_, b3_⟩ := (hBH.out.below hb).cells; obtain ⟨r0_, r1_, r2_, r3_⟩ := (hRH.out.below hb).cells; obtain ⟨f0_, f1_, f2_, f3_⟩ := (hRH.out.below hb).free; have hz := Nat.lt_of_lt_of_le hz0.out hb.size; have hs := hb.size
  go_enter Tryd.func33, Tryd.ntmps33
  go_wp2_with fail
  refine wp_region_noPanic ?_
  refine wp_region_held_drew (S := (fun w' => w'.cell? ⟨w.heap.size, 0, none⟩ = some (.int .u8 k0) ∧ w'.cell? ⟨w.heap.size, 1, none⟩ = some (.bool b0) ∧ w'.cell? ⟨w.heap.size, 2, none⟩ = some (.int .i64 n0) ∧ w'.cell? ⟨w.heap.size, 3, none⟩ = some (.string s0) ∧ w'.cell? ⟨w.heap.size + 1, 0, none⟩ = some (.int .u8 k1) ∧ w'.cell? ⟨w.heap.size + 1, 1, none⟩ = some (.bool b1) ∧ w'.cell? ⟨w.heap.size + 1, 2, none⟩ = some (.int .i64 n1) ∧ w'.cell? ⟨w.heap.size + 1, 3, none⟩ = some (.string s1))) (by kernel_rfl) (by first | exact ⟨a0_, a1_, a2_, a3_, b0_, b1_, b2_, b3_⟩ | go_keep) (fun hHeld => ?_)
  refine' wpAnyH_take (i := 0) (v := .int .i64 m) ?hi0x387 ?hs0x387 ?hf0x387 ?hr0x387 ?hQ0x387 ?hy0x387 ?hS0x387 ?rest0x387
  case hi0x387 => (simp only [List.getElem?_toArray, List.getElem?_cons_succ, List.getElem?_cons_zero]; try rfl)
  case hs0x387 => kernel_rfl
  case hf0x387 => kernel_rfl
  case hr0x387 => kernel_rfl
  case hQ0x387 => exact fun _ _ _ h => h
  case hy0x387 => exact Or.inl ⟨by rfl, by (intro w hSw; (try dsimp only at hSw); go_simp)⟩
  case hS0x387 => assumption
  (try simp only [Act.put, List.setIfInBounds_toArray, List.set_cons_zero, List.set_cons_succ])
  refine' wpAnyH_take (i := 1) (v := .pointer (some ⟨w.heap.size, 2, none⟩)) ?hi1x388 ?hs1x388 ?hf1x388 ?hr1x388 ?hQ1x388 ?hy1x388 ?hS1x388 ?rest1x388
  case hi1x388 => (simp only [List.getElem?_toArray, List.getElem?_cons_succ, List.getElem?_cons_zero]; try rfl)
  case hs1x388 => kernel_rfl
  case hf1x388 => kernel_rfl
  case hr1x388 => kernel_rfl
  case hQ1x388 => exact fun _ _ _ h => h
  case hy1x388 => exact Or.inl ⟨by rfl, by (intro w hSw; (try dsimp only at hSw); go_simp)⟩
  case hS1x388 => assumption
  (try simp only [Act.put, List.setIfInBounds_toArray, List.set_cons_zero, List.set_cons_succ])
  refine' wpAnyH_take (i := 2) (v := .int .i64 n0) ?hi2x389 ?hs2x389 ?hf2x389 ?hr2x389 ?hQ2x389 ?hy2x389 ?hS2x389 ?rest2x389
  case hi2x389 => (simp only [List.getElem?_toArray, List.getElem?_cons_succ, List.getElem?_cons_zero]; try rfl)
  case hs2x389 => kernel_rfl
  case hf2x389 => kernel_rfl
  case hr2x389 => kernel_rfl
  case hQ2x389 => exact fun _ _ _ h => h
  case hy2x389 => exact Or.inl ⟨by rfl, by (intro w hSw; (try dsimp only at hSw); go_simp)⟩
  case hS2x389 => assumption
  (try simp only [Act.put, List.setIfInBounds_toArray, List.set_cons_zero, List.set_cons_succ])
  refine' wpAnyH_take (i := 3) (v := .bool true) ?hi3x390 ?hs3x390 ?hf3x390 ?hr3x390 ?hQ3x390 ?hy3x390 ?hS3x390 ?rest3x390
  case hi3x390 => (simp only [List.getElem?_toArray, List.getElem?_cons_succ, List.getElem?_cons_zero]; try rfl)
  case hs3x390 => kernel_rfl
  case hf3x390 => kernel_rfl
  case hr3x390 => kernel_rfl
  case hQ3x390 => exact fun _ _ _ h => h
  case hy3x390 => exact Or.inl ⟨by rfl, by (intro w hSw; (try dsimp only at hSw); go_simp)⟩
  case hS3x390 => assumption
  (try simp only [Act.put, List.setIfInBounds_toArray, List.set_cons_zero, List.set_cons_succ])
  refine' wpAnyH_take (i := 4) (v := .bool true) ?hi4x391 ?hs4x391 ?hf4x391 ?hr4x391 ?hQ4x391 ?hy4x391 ?hS4x391 ?rest4x391
  case hi4x391 => (simp only [List.getElem?_toArray, List.getElem?_cons_succ, List.getElem?_cons_zero]; try rfl)
  case hs4x391 => kernel_rfl
  case hf4x391 => kernel_rfl
  case hr4x391 => kernel_rfl
  case hQ4x391 => exact fun _ _ _ h => h
  case hy4x391 => exact Or.inl ⟨by rfl, by (intro w hSw; (try dsimp only at hSw); go_simp)⟩
  case hS4x391 => assumption
  (try simp only [Act.put, List.setIfInBounds_toArray, List.set_cons_zero, List.set_cons_succ])
  refine' wpAnyH_take (i := 5) (v := .pointer (some ⟨w.heap.size + 1, 2, none⟩)) ?hi5x392 ?hs5x392 ?hf5x392 ?hr5x392 ?hQ5x392 ?hy5x392 ?hS5x392 ?rest5x392
  case hi5x392 => (simp only [List.getElem?_toArray, List.getElem?_cons_succ, List.getElem?_cons_zero]; try rfl)
  case hs5x392 => kernel_rfl
  case hf5x392 => kernel_rfl
  case hr5x392 => kernel_rfl
  case hQ5x392 => exact fun _ _ _ h => h
  case hy5x392 => exact Or.inl ⟨by rfl, by (intro w hSw; (try dsimp only at hSw); go_simp)⟩
  case hS5x392 => assumption
  (try simp only [Act.put, List.setIfInBounds_toArray, List.set_cons_zero, List.set_cons_succ])
  refine' wpAnyH_take (i := 6) (v := .int .i64 n1) ?hi6x393 ?hs6x393 ?hf6x393 ?hr6x393 ?hQ6x393 ?hy6x393 ?hS6x393 ?rest6x393
  case hi6x393 => (simp only [List.getElem?_toArray, List.getElem?_cons_succ, List.getElem?_cons_zero]; try rfl)
  case hs6x393 => kernel_rfl
  case hf6x393 => kernel_rfl
  case hr6x393 => kernel_rfl
  case hQ6x393 => exact fun _ _ _ h => h
  case hy6x393 => exact Or.inl ⟨by rfl, by (intro w hSw; (try dsimp only at hSw); go_simp)⟩
  case hS6x393 => assumption
  (try simp only [Act.put, List.setIfInBounds_toArray, List.set_cons_zero, List.set_cons_succ])
  refine' wpAnyH_take (i := 7) (v := .bool false) ?hi7x394 ?hs7x394 ?hf7x394 ?hr7x394 ?hQ7x394 ?hy7x394 ?hS7x394 ?rest7x394
  case hi7x394 => (simp only [List.getElem?_toArray, List.getElem?_cons_succ, List.getElem?_cons_zero]; try rfl)
  case hs7x394 => kernel_rfl
  case hf7x394 => kernel_rfl
  case hr7x394 => kernel_rfl
  case hQ7x394 => exact fun _ _ _ h => h
  case hy7x394 => exact Or.inl ⟨by rfl, by (intro w hSw; (try dsimp only at hSw); go_simp)⟩
  case hS7x394 => assumption
  (try simp only [Act.put, List.setIfInBounds_toArray, List.set_cons_zero, List.set_cons_succ])
  refine' wpAnyH_take (i := 8) (v := .bool false) ?hi8x395 ?hs8x395 ?hf8x395 ?hr8x395 ?hQ8x395 ?hy8x395 ?hS8x395 ?rest8x395
  case hi8x395 => (simp only [List.getElem?_toArray, List.getElem?_cons_succ, List.getElem?_cons_zero]; try rfl)
  case hs8x395 => kernel_rfl
  case hf8x395 => kernel_rfl
  case hr8x395 => kernel_rfl
  case hQ8x395 => exact fun _ _ _ h => h
  case hy8x395 => exact Or.inl ⟨by rfl, by (intro w hSw; (try dsimp only at hSw); go_simp)⟩
  case hS8x395 => assumption
  (try simp only [Act.put, List.setIfInBounds_toArray, List.set_cons_zero, List.set_cons_succ])
  refine' wpAnyH_take (i := 9) (v := .bool false) ?hi9x396 ?hs9x396 ?hf9x396 ?hr9x396 ?hQ9x396 ?hy9x396 ?hS9x396 ?rest9x396
  case hi9x396 => (simp only [List.getElem?_toArray, List.getElem?_cons_succ, List.getElem?_cons_zero]; try rfl)
  case hs9x396 => kernel_rfl
  case hf9x396 => kernel_rfl
  case hr9x396 => kernel_rfl
  case hQ9x396 => exact fun _ _ _ h => h
  case hy9x396 => exact Or.inl ⟨by rfl, by (intro w hSw; (try dsimp only at hSw); go_simp)⟩
  case hS9x396 => assumption
  (try simp only [Act.put, List.setIfInBounds_toArray, List.set_cons_zero, List.set_cons_succ])
  refine' wpAnyH_take (i := 10) (v := undef) ?hi10x397 ?hs10x397 ?hf10x397 ?hr10x397 ?hQ10x397 ?hy10x397 ?hS10x397 ?rest10x397
  case hi10x397 => (simp only [List.getElem?_toArray, List.getElem?_cons_succ, List.getElem?_cons_zero]; try rfl)
  case hs10x397 => kernel_rfl
  case hf10x397 => kernel_rfl
  case hr10x397 => kernel_rfl
  case hQ10x397 => exact fun _ _ _ h => h
  case hy10x397 => exact Or.inr ⟨by rfl, rfl⟩
  case hS10x397 => assumption
  (try simp only [Act.put, List.setIfInBounds_toArray, List.set_cons_zero, List.set_cons_succ])
  refine' wpAnyH_take (i := 11) (v := undef) ?hi11x398 ?hs11x398 ?hf11x398 ?hr11x398 ?hQ11x398 ?hy11x398 ?hS11x398 ?rest11x398
  case hi11x398 => (simp only [List.getElem?_toArray, List.getElem?_cons_succ, List.getElem?_cons_zero]; try rfl)
  case hs11x398 => kernel_rfl
  case hf11x398 => kernel_rfl
  case hr11x398 => kernel_rfl
  case hQ11x398 => exact fun _ _ _ h => h
  case hy11x398 => exact Or.inr ⟨by rfl, rfl⟩
  case hS11x398 => assumption
  (try simp only [Act.put, List.setIfInBounds_toArray, List.set_cons_zero, List.set_cons_succ])
  refine' wpAnyH_take (i := 12) (v := .bool false) ?hi12x399 ?hs12x399 ?hf12x399 ?hr12x399 ?hQ12x399 ?hy12x399 ?hS12x399 ?rest12x399
  case hi12x399 => (simp only [List.getElem?_toArray, List.getElem?_cons_succ, List.getElem?_cons_zero]; try rfl)
  case hs12x399 => kernel_rfl
  case hf12x399 => kernel_rfl
  case hr12x399 => kernel_rfl
  case hQ12x399 => exact fun _ _ _ h => h
  case hy12x399 => exact Or.inl ⟨by rfl, by (intro w hSw; (try dsimp only at hSw); go_simp)⟩
  case hS12x399 => assumption
  (try simp only [Act.put, List.setIfInBounds_toArray, List.set_cons_zero, List.set_cons_succ])
  refine' wpAnyH_take (i := 13) (v := .bool false) ?hi13x400 ?hs13x400 ?hf13x400 ?hr13x400 ?hQ13x400 ?hy13x400 ?hS13x400 ?rest13x400
  case hi13x400 => (simp only [List.getElem?_toArray, List.getElem?_cons_succ, List.getElem?_cons_zero]; try rfl)
  case hs13x400 => kernel_rfl
  case hf13x400 => kernel_rfl
  case hr13x400 => kernel_rfl
  case hQ13x400 => exact fun _ _ _ h => h
  case hy13x400 => exact Or.inl ⟨by rfl, by (intro w hSw; (try dsimp only at hSw); go_simp)⟩
  case hS13x400 => assumption
  (try simp only [Act.put, List.setIfInBounds_toArray, List.set_cons_zero, List.set_cons_succ])
  refine' wpAnyH_take (i := 14) (v := .pointer (some ⟨w.heap.size, 2, none⟩)) ?hi14x401 ?hs14x401 ?hf14x401 ?hr14x401 ?hQ14x401 ?hy14x401 ?hS14x401 ?rest14x401
  case hi14x401 => (simp only [List.getElem?_toArray, List.getElem?_cons_succ, List.getElem?_cons_zero]; try rfl)
  case hs14x401 => kernel_rfl
  case hf14x401 => kernel_rfl
  case hr14x401 => kernel_rfl
  case hQ14x401 => exact fun _ _ _ h => h
  case hy14x401 => exact Or.inl ⟨by rfl, by (intro w hSw; (try dsimp only at hSw); go_simp)⟩
  case hS14x401 => assumption
  (try simp only [Act.put, List.setIfInBounds_toArray, List.set_cons_zero, List.set_cons_succ])
  refine' wpAnyH_take (i := 15) (v := .int .i64 n0) ?hi15x402 ?hs15x402 ?hf15x402 ?hr15x402 ?hQ15x402 ?hy15x402 ?hS15x402 ?rest15x402
  case hi15x402 => (simp only [List.getElem?_toArray, List.getElem?_cons_succ, List.getElem?_cons_zero]; try rfl)
  case hs15x402 => kernel_rfl
  case hf15x402 => kernel_rfl
  case hr15x402 => kernel_rfl
  case hQ15x402 => exact fun _ _ _ h => h
  case hy15x402 => exact Or.inl ⟨by rfl, by (intro w hSw; (try dsimp only at hSw); go_simp)⟩
  case hS15x402 => assumption
  (try simp only [Act.put, List.setIfInBounds_toArray, List.set_cons_zero, List.set_cons_succ])
  refine' wpAnyH_take (i := 16) (v := .bool false) ?hi16x403 ?hs16x403 ?hf16x403 ?hr16x403 ?hQ16x403 ?hy16x403 ?hS16x403 ?rest16x403
  case hi16x403 => (simp only [List.getElem?_toArray, List.getElem?_cons_succ, List.getElem?_cons_zero]; try rfl)
  case hs16x403 => kernel_rfl
  case hf16x403 => kernel_rfl
  case hr16x403 => kernel_rfl
  case hQ16x403 => exact fun _ _ _ h => h
  case hy16x403 => exact Or.inl ⟨by rfl, by (intro w hSw; (try dsimp only at hSw); go_simp)⟩
  case hS16x403 => assumption
  (try simp only [Act.put, List.setIfInBounds_toArray, List.set_cons_zero, List.set_cons_succ])
  refine' wpAnyH_take (i := 17) (v := .bool false) ?hi17x404 ?hs17x404 ?hf17x404 ?hr17x404 ?hQ17x404 ?hy17x404 ?hS17x404 ?rest17x404
  case hi17x404 => (simp only [List.getElem?_toArray, List.getElem?_cons_succ, List.getElem?_cons_zero]; try rfl)
  case hs17x404 => kernel_rfl
  case hf17x404 => kernel_rfl
  case hr17x404 => kernel_rfl
  case hQ17x404 => exact fun _ _ _ h => h
  case hy17x404 => exact Or.inl ⟨by rfl, by (intro w hSw; (try dsimp only at hSw); go_simp)⟩
  case hS17x404 => assumption
  (try simp only [Act.put, List.setIfInBounds_toArray, List.set_cons_zero, List.set_cons_succ])
  refine' wpAnyH_take (i := 18) (v := undef) ?hi18x405 ?hs18x405 ?hf18x405 ?hr18x405 ?hQ18x405 ?hy18x405 ?hS18x405 ?rest18x405
  case hi18x405 => (simp only [List.getElem?_toArray, List.getElem?_cons_succ, List.getElem?_cons_zero]; try rfl)
  case hs18x405 => kernel_rfl
  case hf18x405 => kernel_rfl
  case hr18x405 => kernel_rfl
  case hQ18x405 => exact fun _ _ _ h => h
  case hy18x405 => exact Or.inr ⟨by rfl, rfl⟩
  case hS18x405 => assumption
  (try simp only [Act.put, List.setIfInBounds_toArray, List.set_cons_zero, List.set_cons_succ])
  refine' wpAnyH_take (i := 19) (v := undef) ?hi19x406 ?hs19x406 ?hf19x406 ?hr19x406 ?hQ19x406 ?hy19x406 ?hS19x406 ?rest19x406
  case hi19x406 => (simp only [List.getElem?_toArray, List.getElem?_cons_succ, List.getElem?_cons_zero]; try rfl)
  case hs19x406 => kernel_rfl
  case hf19x406 => kernel_rfl
  case hr19x406 => kernel_rfl
  case hQ19x406 => exact fun _ _ _ h => h
  case hy19x406 => exact Or.inr ⟨by rfl, rfl⟩
  case hS19x406 => assumption
  (try simp only [Act.put, List.setIfInBounds_toArray, List.set_cons_zero, List.set_cons_succ])
  refine' wpAnyH_take (i := 20) (v := undef) ?hi20x407 ?hs20x407 ?hf20x407 ?hr20x407 ?hQ20x407 ?hy20x407 ?hS20x407 ?rest20x407
  case hi20x407 => (simp only [List.getElem?_toArray, List.getElem?_cons_succ, List.getElem?_cons_zero]; try rfl)
  case hs20x407 => kernel_rfl
  case hf20x407 => kernel_rfl
  case hr20x407 => kernel_rfl
  case hQ20x407 => exact fun _ _ _ h => h
  case hy20x407 => exact Or.inr ⟨by rfl, rfl⟩
  case hS20x407 => assumption
  (try simp only [Act.put, List.setIfInBounds_toArray, List.set_cons_zero, List.set_cons_succ])
  refine' wpAnyH_take (i := 21) (v := .bool false) ?hi21x408 ?hs21x408 ?hf21x408 ?hr21x408 ?hQ21x408 ?hy21x408 ?hS21x408 ?rest21x408
  case hi21x408 => (simp only [List.getElem?_toArray, List.getElem?_cons_succ, List.getElem?_cons_zero]; try rfl)
  case hs21x408 => kernel_rfl
  case hf21x408 => kernel_rfl
  case hr21x408 => kernel_rfl
  case hQ21x408 => exact fun _ _ _ h => h
  case hy21x408 => exact Or.inl ⟨by rfl, by (intro w hSw; (try dsimp only at hSw); go_simp)⟩
  case hS21x408 => assumption
  (try simp only [Act.put, List.setIfInBounds_toArray, List.set_cons_zero, List.set_cons_succ])
  refine' wpAnyH_take (i := 22) (v := .bool false) ?hi22x409 ?hs22x409 ?hf22x409 ?hr22x409 ?hQ22x409 ?hy22x409 ?hS22x409 ?rest22x409
  case hi22x409 => (simp only [List.getElem?_toArray, List.getElem?_cons_succ, List.getElem?_cons_zero]; try rfl)
  case hs22x409 => kernel_rfl
  case hf22x409 => kernel_rfl
  case hr22x409 => kernel_rfl
  case hQ22x409 => exact fun _ _ _ h => h
  case hy22x409 => exact Or.inl ⟨by rfl, by (intro w hSw; (try dsimp only at hSw); go_simp)⟩
  case hS22x409 => assumption
  (try simp only [Act.put, List.setIfInBounds_toArray, List.set_cons_zero, List.set_cons_succ])
  refine' wpAnyH_take (i := 23) (v := undef) ?hi23x410 ?hs23x410 ?hf23x410 ?hr23x410 ?hQ23x410 ?hy23x410 ?hS23x410 ?rest23x410
  case hi23x410 => (simp only [List.getElem?_toArray, List.getElem?_cons_succ, List.getElem?_cons_zero]; try rfl)
  case hs23x410 => kernel_rfl
  case hf23x410 => kernel_rfl
  case hr23x410 => kernel_rfl
  case hQ23x410 => exact fun _ _ _ h => h
  case hy23x410 => exact Or.inr ⟨by rfl, rfl⟩
  case hS23x410 => assumption
  (try simp only [Act.put, List.setIfInBounds_toArray, List.set_cons_zero, List.set_cons_succ])
  refine' wpAnyH_take (i := 24) (v := undef) ?hi24x411 ?hs24x411 ?hf24x411 ?hr24x411 ?hQ24x411 ?hy24x411 ?hS24x411 ?rest24x411
  case hi24x411 => (simp only [List.getElem?_toArray, List.getElem?_cons_succ, List.getElem?_cons_zero]; try rfl)
  case hs24x411 => kernel_rfl
  case hf24x411 => kernel_rfl
  case hr24x411 => kernel_rfl
  case hQ24x411 => exact fun _ _ _ h => h
  case hy24x411 => exact Or.inr ⟨by rfl, rfl⟩
  case hS24x411 => assumption
  (try simp only [Act.put, List.setIfInBounds_toArray, List.set_cons_zero, List.set_cons_succ])
  refine' wpAnyH_take (i := 25) (v := .bool false) ?hi25x412 ?hs25x412 ?hf25x412 ?hr25x412 ?hQ25x412 ?hy25x412 ?hS25x412 ?rest25x412
  case hi25x412 => (simp only [List.getElem?_toArray, List.getElem?_cons_succ, List.getElem?_cons_zero]; try rfl)
  case hs25x412 => kernel_rfl
  case hf25x412 => kernel_rfl
  case hr25x412 => kernel_rfl
  case hQ25x412 => exact fun _ _ _ h => h
  case hy25x412 => exact Or.inl ⟨by rfl, by (intro w hSw; (try dsimp only at hSw); go_simp)⟩
  case hS25x412 => assumption
  (try simp only [Act.put, List.setIfInBounds_toArray, List.set_cons_zero, List.set_cons_succ])
  refine' wpAnyH_take (i := 26) (v := .bool false) ?hi26x413 ?hs26x413 ?hf26x413 ?hr26x413 ?hQ26x413 ?hy26x413 ?hS26x413 ?rest26x413
  case hi26x413 => (simp only [List.getElem?_toArray, List.getElem?_cons_succ, List.getElem?_cons_zero]; try rfl)
  case hs26x413 => kernel_rfl
  case hf26x413 => kernel_rfl
  case hr26x413 => kernel_rfl
  case hQ26x413 => exact fun _ _ _ h => h
  case hy26x413 => exact Or.inl ⟨by rfl, by (intro w hSw; (try dsimp only at hSw); go_simp)⟩
  case hS26x413 => assumption
  (try simp only [Act.put, List.setIfInBounds_toArray, List.set_cons_zero, List.set_cons_succ])
  refine' wpAnyH_take (i := 28) (v := .agg #[.int .u8 k0, .bool b0, .int .i64 n0, .string s0]) ?hi28x414 ?hs28x414 ?hf28x414 ?hr28x414 ?hQ28x414 ?hy28x414 ?hS28x414 ?rest28x414
  case hi28x414 => (simp only [List.getElem?_toArray, List.getElem?_cons_succ, List.getElem?_cons_zero]; try rfl)
  case hs28x414 => kernel_rfl
  case hf28x414 => kernel_rfl
  case hr28x414 => kernel_rfl
  case hQ28x414 => exact fun _ _ _ h => h
  case hy28x414 => exact Or.inl ⟨by rfl, by (intro w hSw; (try dsimp only at hSw); go_simp)⟩
  case hS28x414 => assumption
  (try simp only [Act.put, List.setIfInBounds_toArray, List.set_cons_zero, List.set_cons_succ])
  refine' wpAnyH_take (i := 29) (v := .agg #[.int .u8 k1, .bool b1, .int .i64 n1, .string s1]) ?hi29x415 ?hs29x415 ?hf29x415 ?hr29x415 ?hQ29x415 ?hy29x415 ?hS29x415 ?rest29x415
  case hi29x415 => (simp only [List.getElem?_toArray, List.getElem?_cons_succ, List.getElem?_cons_zero]; try rfl)
  case hs29x415 => kernel_rfl
  case hf29x415 => kernel_rfl
  case hr29x415 => kernel_rfl
  case hQ29x415 => exact fun _ _ _ h => h
  case hy29x415 => exact Or.inl ⟨by rfl, by (intro w hSw; (try dsimp only at hSw); go_simp)⟩
  case hS29x415 => assumption
  (try simp only [Act.put, List.setIfInBounds_toArray, List.set_cons_zero, List.set_cons_succ])
  refine wpAnyH_ready (rs := [27, 30]) (by kernel_rfl) (by simp) ?_
  refine' AllReadyH.cons (i := 27) ?ho27x416 (fun K hK => ?st27x416) (AllReadyH.cons (i := 30) ?ho30x417 (fun K hK => ?st30x417) AllReadyH.nil)
  case ho27x416 => (simp only [List.getElem?_toArray, List.getElem?_cons_succ, List.getElem?_cons_zero]; try rfl)
  case ho30x417 => (simp only [List.getElem?_toArray, List.getElem?_cons_succ, List.getElem?_cons_zero]; try rfl)
  case st27x416 =>
    go_simp
    refine (refOver_any _ _).mono ?_
    rintro e w' ⟨rfl, rfl⟩
    go_wp2_with fail
    refine hK.out _ _ ?_ (fun hHeld => ?_)
    · (first | exact ⟨a0_, a1_, a2_, a3_, b0_, b1_, b2_, b3_⟩ | go_keep)
    clear hK K
    (try simp only [Act.put, List.setIfInBounds_toArray, List.set_cons_zero, List.set_cons_succ])
    refine wpAnyH_ready (rs := [30]) (by kernel_rfl) (by simp) ?_
    refine' AllReadyH.cons (i := 30) ?ho30x418 (fun K hK => ?st30x418) AllReadyH.nil
    case ho30x418 => (simp only [List.getElem?_toArray, List.getElem?_cons_succ, List.getElem?_cons_zero]; try rfl)
    go_simp
    refine hK.out _ _ ?_ (fun hHeld => ?_)
    · (first | exact ⟨a0_, a1_, a2_, a3_, b0_, b1_, b2_, b3_⟩ | go_keep)
    clear hK K
    (try simp only [Act.put, List.setIfInBounds_toArray, List.set_cons_zero, List.set_cons_succ])
    refine wpAnyH_ready (rs := [31]) (by kernel_rfl) (by simp) ?_
    refine' AllReadyH.cons (i := 31) ?ho31x419 (fun K hK => ?st31x419) AllReadyH.nil
    case ho31x419 => (simp only [List.getElem?_toArray, List.getElem?_cons_succ, List.getElem?_cons_zero]; try rfl)
    go_simp
    refine (refNum2_any _ _ k0 b0 n0 s0 k1 b1 n1 s1 _ _ _ (by exact heap_at _ _ _ (by first | rfl | simp)) hs0H.out hs1H.out).mono ?_
    rw [hrH.out, refVm]
    rintro e w' ⟨rfl, hb'⟩
    replace hb := chainB (B := W0.heap.size) (a := W0) (by go_grown) hb' (by have := hb.size; first | omega | (simp; done) | (simp; omega))
    clear hb' a0_ a1_ a2_ a3_ b0_ b1_ b2_ b3_ r0_ r1_ r2_ r3_ f0_ f1_ f2_ f3_ hz hs
    obtain ⟨a0_, a1_, a2_, a3_⟩ := (hAH.out.below hb).cells; obtain ⟨b0_, b1_, b2_, b3_⟩ := (hBH.out.below hb).cells; obtain ⟨r0_, r1_, r2_, r3_⟩ := (hRH.out.below hb).cells; obtain ⟨f0_, f1_, f2_, f3_⟩ := (hRH.out.below hb).free; have hz := Nat.lt_of_lt_of_le hz0.out hb.size; have hs := hb.size
    go_wp2_with fail
    refine hK.out _ _ ?_ (fun hHeld => ?_)
    · (first | exact ⟨a0_, a1_, a2_, a3_, b0_, b1_, b2_, b3_⟩ | go_keep)
    clear hK K
    (try simp only [Act.put, List.setIfInBounds_toArray, List.set_cons_zero, List.set_cons_succ])
    refine' wpAnyH_take (i := 32) (v := .agg #[.int .u8 k', .bool b', .int .i64 n', .string s']) ?hi32x420 ?hs32x420 ?hf32x420 ?hr32x420 ?hQ32x420 ?hy32x420 ?hS32x420 ?rest32x420
    case hi32x420 => (simp only [List.getElem?_toArray, List.getElem?_cons_succ, List.getElem?_cons_zero]; try rfl)
    case hs32x420 => kernel_rfl
    case hf32x420 => kernel_rfl
    case hr32x420 => kernel_rfl
    case hQ32x420 => exact fun _ _ _ h => h
    case hy32x420 => exact Or.inl ⟨by rfl, by (intro w hSw; (try dsimp only at hSw); go_simp)⟩
    case hS32x420 => assumption
    (try simp only [Act.put, List.setIfInBounds_toArray, List.set_cons_zero, List.set_cons_succ])
    refine' wpAnyH_take (i := 33) (v := .int .i64 x) ?hi33x421 ?hs33x421 ?hf33x421 ?hr33x421 ?hQ33x421 ?hy33x421 ?hS33x421 ?rest33x421
    case hi33x421 => (simp only [List.getElem?_toArray, List.getElem?_cons_succ, List.getElem?_cons_zero]; try rfl)
    case hs33x421 => kernel_rfl
    case hf33x421 => kernel_rfl
    case hr33x421 => kernel_rfl
    case hQ33x421 => exact fun _ _ _ h => h
    case hy33x421 => exact Or.inl ⟨by rfl, by (intro w hSw; (try dsimp only at hSw); go_simp)⟩
    case hS33x421 => assumption
    (try simp only [Act.put, List.setIfInBounds_toArray, List.set_cons_zero, List.set_cons_succ])
    have hne1 : ¬ (w.heap.size + 1 + 1 = w.heap.size) := by omega
    have hne2 : ¬ (w.heap.size = w.heap.size + 1 + 1) := by omega
    refine wpAnyH_ready (rs := [34]) (by kernel_rfl) (by simp) ?_
    refine' AllReadyH.cons (i := 34) ?ho34x422 (fun K hK => ?st34x422) AllReadyH.nil
    case ho34x422 => (simp only [List.getElem?_toArray, List.getElem?_cons_succ, List.getElem?_cons_zero]; try rfl)
    go_simp
    refine hK.out _ _ ?_ (fun hHeld => ?_)
    · (first | exact ⟨a0_, a1_, a2_, a3_, b0_, b1_, b2_, b3_⟩ | go_keep)
    clear hK K
    (try simp only [Act.put, List.setIfInBounds_toArray, List.set_cons_zero, List.set_cons_succ])
    refine' wpAnyH_take (i := 35) (v := .int .i64 x) ?hi35x423 ?hs35x423 ?hf35x423 ?hr35x423 ?hQ35x423 ?hy35x423 ?hS35x423 ?rest35x423
    case hi35x423 => (simp only [List.getElem?_toArray, List.getElem?_cons_succ, List.getElem?_cons_zero]; try rfl)
    case hs35x423 => kernel_rfl
    case hf35x423 => kernel_rfl
    case hr35x423 => kernel_rfl
    case hQ35x423 => exact fun _ _ _ h => h
    case hy35x423 => exact Or.inl ⟨by rfl, by (intro w hSw; (try dsimp only at hSw); go_simp)⟩
    case hS35x423 => assumption
    (try simp only [Act.put, List.setIfInBounds_toArray, List.set_cons_zero, List.set_cons_succ])
    refine wpAnyH_done (by kernel_rfl) ?_ _
    refine NoPanic.normal ?_
    clear hne1 hne2
    go_wp2
    refine bodyPost_ret (v := .tuple #[.agg #[.int .u8 k', .bool b', .int .i64 n', .string s'], .int .i64 x]) (by simp [results, Tryd.results33, go_sem, r0_, r1_, r2_, r3_, hz]) rfl ⟨rfl, ?_⟩
    have hbw := hwWH.out.trans (hb.mono hwWH.out.size)
    clear hb
    go_grown
  case st30x417 =>
    go_simp
    refine hK.out _ _ ?_ (fun hHeld => ?_)
    · (first | exact ⟨a0_, a1_, a2_, a3_, b0_, b1_, b2_, b3_⟩ | go_keep)
    clear hK K
    (try simp only [Act.put, List.setIfInBounds_toArray, List.set_cons_zero, List.set_cons_succ])
    refine wpAnyH_ready (rs := [27]) (by kernel_rfl) (by simp) ?_
    refine' AllReadyH.cons (i := 27) ?ho27x424 (fun K hK => ?st27x424) AllReadyH.nil
    case ho27x424 => (simp only [List.getElem?_toArray, List.getElem?_cons_succ, List.getElem?_cons_zero]; try rfl)
    go_simp
    refine (refOver_any _ _).mono ?_
    rintro e w' ⟨rfl, rfl⟩
    go_wp2_with fail
    refine hK.out _ _ ?_ (fun hHeld => ?_)
    · (first | exact ⟨a0_, a1_, a2_, a3_, b0_, b1_, b2_, b3_⟩ | go_keep)
    clear hK K
    (try simp only [Act.put, List.setIfInBounds_toArray, List.set_cons_zero, List.set_cons_succ])
    refine wpAnyH_ready (rs := [31]) (by kernel_rfl) (by simp) ?_
    refine' AllReadyH.cons (i := 31) ?ho31x425 (fun K hK => ?st31x425) AllReadyH.nil
    case ho31x425 => (simp only [List.getElem?_toArray, List.getElem?_cons_succ, List.getElem?_cons_zero]; try rfl)
    go_simp
    refine (refNum2_any _ _ k0 b0 n0 s0 k1 b1 n1 s1 _ _ _ (by exact heap_at _ _ _ (by first | rfl | simp)) hs0H.out hs1H.out).mono ?_
    rw [hrH.out, refVm]
    rintro e w' ⟨rfl, hb'⟩
    replace hb := chainB (B := W0.heap.size) (a := W0) (by go_grown) hb' (by have := hb.size; first | omega | (simp; done) | (simp; omega))
    clear hb' a0_ a1_ a2_ a3_ b0_ b1_ b2_ b3_ r0_ r1_ r2_ r3_ f0_ f1_ f2_ f3_ hz hs
    obtain ⟨a0_, a1_, a2_, a3_⟩ := (hAH.out.below hb).cells; obtain ⟨b0_, b1_, b2_, b3_⟩ := (hBH.out.below hb).cells; obtain ⟨r0_, r1_, r2_, r3_⟩ := (hRH.out.below hb).cells; obtain ⟨f0_, f1_, f2_, f3_⟩ := (hRH.out.below hb).free; have hz := Nat.lt_of_lt_of_le hz0.out hb.size; have hs := hb.size
    go_wp2_with fail
    refine hK.out _ _ ?_ (fun hHeld => ?_)
    · (first | exact ⟨a0_, a1_, a2_, a3_, b0_, b1_, b2_, b3_⟩ | go_keep)
    clear hK K
    (try simp only [Act.put, List.setIfInBounds_toArray, List.set_cons_zero, List.set_cons_succ])
    refine' wpAnyH_take (i := 32) (v := .agg #[.int .u8 k', .bool b', .int .i64 n', .string s']) ?hi32x426 ?hs32x426 ?hf32x426 ?hr32x426 ?hQ32x426 ?hy32x426 ?hS32x426 ?rest32x426
    case hi32x426 => (simp only [List.getElem?_toArray, List.getElem?_cons_succ, List.getElem?_cons_zero]; try rfl)
    case hs32x426 => kernel_rfl
    case hf32x426 => kernel_rfl
    case hr32x426 => kernel_rfl
    case hQ32x426 => exact fun _ _ _ h => h
    case hy32x426 => exact Or.inl ⟨by rfl, by (intro w hSw; (try dsimp only at hSw); go_simp)⟩
    case hS32x426 => assumption
    (try simp only [Act.put, List.setIfInBounds_toArray, List.set_cons_zero, List.set_cons_succ])
    refine' wpAnyH_take (i := 33) (v := .int .i64 x) ?hi33x427 ?hs33x427 ?hf33x427 ?hr33x427 ?hQ33x427 ?hy33x427 ?hS33x427 ?rest33x427
    case hi33x427 => (simp only [List.getElem?_toArray, List.getElem?_cons_succ, List.getElem?_cons_zero]; try rfl)
    case hs33x427 => kernel_rfl
    case hf33x427 => kernel_rfl
    case hr33x427 => kernel_rfl
    case hQ33x427 => exact fun _ _ _ h => h
    case hy33x427 => exact Or.inl ⟨by rfl, by (intro w hSw; (try dsimp only at hSw); go_simp)⟩
    case hS33x427 => assumption
    (try simp only [Act.put, List.setIfInBounds_toArray, List.set_cons_zero, List.set_cons_succ])
    have hne1 : ¬ (w.heap.size + 1 + 1 = w.heap.size) := by omega
    have hne2 : ¬ (w.heap.size = w.heap.size + 1 + 1) := by omega
    refine wpAnyH_ready (rs := [34]) (by kernel_rfl) (by simp) ?_
    refine' AllReadyH.cons (i := 34) ?ho34x428 (fun K hK => ?st34x428) AllReadyH.nil
    case ho34x428 => (simp only [List.getElem?_toArray, List.getElem?_cons_succ, List.getElem?_cons_zero]; try rfl)
    go_simp
    refine hK.out _ _ ?_ (fun hHeld => ?_)
    · (first | exact ⟨a0_, a1_, a2_, a3_, b0_, b1_, b2_, b3_⟩ | go_keep)
    clear hK K
    (try simp only [Act.put, List.setIfInBounds_toArray, List.set_cons_zero, List.set_cons_succ])
    refine' wpAnyH_take (i := 35) (v := .int .i64 x) ?hi35x429 ?hs35x429 ?hf35x429 ?hr35x429 ?hQ35x429 ?hy35x429 ?hS35x429 ?rest35x429
    case hi35x429 => (simp only [List.getElem?_toArray, List.getElem?_cons_succ, List.getElem?_cons_zero]; try rfl)
    case hs35x429 => kernel_rfl
    case hf35x429 => kernel_rfl
    case hr35x429 => kernel_rfl
    case hQ35x429 => exact fun _ _ _ h => h
    case hy35x429 => exact Or.inl ⟨by rfl, by (intro w hSw; (try dsimp only at hSw); go_simp)⟩
    case hS35x429 => assumption
    (try simp only [Act.put, List.setIfInBounds_toArray, List.set_cons_zero, List.set_cons_succ])
    refine wpAnyH_done (by kernel_rfl) ?_ _
    refine NoPanic.normal ?_
    clear hne1 hne2
    go_wp2
    refine bodyPost_ret (v := .tuple #[.agg #[.int .u8 k', .bool b', .int .i64 n', .string s'], .int .i64 x]) (by simp [results, Tryd.results33, go_sem, r0_, r1_, r2_, r3_, hz]) rfl ⟨rfl, ?_⟩
    have hbw := hwWH.out.trans (hb.mono hwWH.out.size)
    clear hb
    go_grown

set_option maxRecDepth 100000 in
set_option maxHeartbeats 8000000 in
theorem refSub_nn (k0 : Int) (b0 : Bool) (n0 : Int) (s0 : ByteArray) (k1 : Int) (b1 : Bool) (n1 : Int) (s1 : ByteArray) (w : World) (hs0 : s0.size ≤ 140737488355328) (hs1 : s1.size ≤ 140737488355328) (ha : n0 < 0) (hb1 : n1 ≤ 0) :
    Calls Tryd.prog 33 #[.agg #[.int .u8 k0, .bool b0, .int .i64 n0, .string s0], .agg #[.int .u8 k1, .bool b1, .int .i64 n1, .string s1]] w fun e w' => e = .returned (refV (numS ⟨k0, b0, n0, s0⟩ ⟨k1, b1, n1, s1⟩ (wrap64 (n0 - n1), 0))) ∧ Below w.heap.size w w' := by
  obtain ⟨r, hr⟩ : ∃ r, numS ⟨k0, b0, n0, s0⟩ ⟨k1, b1, n1, s1⟩ (wrap64 (n0 - n1), 0) = r := ⟨_, rfl⟩
  rw [hr]
  obtain ⟨⟨k', b', n', s'⟩, x⟩ := r
  rw [refVm]
  have hrH := Lib.hid hr
  clear hr
  have hs0H := Lib.hid hs0; have hs1H := Lib.hid hs1
  obtain ⟨m, hm⟩ : ∃ m, wrap64 (n0 - n1) = m := ⟨_, rfl⟩
  have hm' : IntKind.i64.wrap (n0 - n1) = m := by rw [wrap_is, hm]
  rw [hm] at hrH
  have d1 : decide (n0 ≥ 0) = false := by simp; omega
  have d2 : decide (n0 < 0) = true := by simp; omega
  have d3 : decide (n1 > 0) = false := by simp; omega
  have d6 : decide (0 < n1) = false := by simp; omega
  obtain ⟨W0, hW0, hwW, hA, hB, hR, hzz⟩ := boxes2 w k0 b0 n0 s0 k1 b1 n1 s1
  have hAH := Lib.hid hA; have hBH := Lib.hid hB; have hRH := Lib.hid hR; have hz0 := Lib.hid hzz; have hwWH := Lib.hid hwW
  clear hA hB hR hzz hwW hs0 hs1
  have hb := Below.refl W0.heap.size W0
  obtain ⟨a0_, a1_, a2_, a3_⟩ := (hAH.out.below hb).cells; obtain ⟨b0_, b1_, b2_, b3_⟩ := (hBH.out.below hb).cells; obtain ⟨r0_, r1_, r2_, r3_⟩ := (hRH.out.below hb).cells; obtain ⟨f0_, f1_, f2_, f3_⟩ := (hRH.out.below hb).free; have hz := Nat.lt_of_lt_of_le hz0.out hb.size; have hs := hb.size
  go_enter Tryd.func33, Tryd.ntmps33
  go_wp2_with fail
  refine wp_region_noPanic ?_
  refine wp_region_held_drew (S := (fun w' => w'.cell? ⟨w.heap.size, 0, none⟩ = some (.int .u8 k0) ∧ w'.cell? ⟨w.heap.size, 1, none⟩ = some (.bool b0) ∧ w'.cell? ⟨w.heap.size, 2, none⟩ = some (.int .i64 n0) ∧ w'.cell? ⟨w.heap.size, 3, none⟩ = some (.string s0) ∧ w'.cell? ⟨w.heap.size + 1, 0, none⟩ = some (.int .u8 k1) ∧ w'.cell? ⟨w.heap.size + 1, 1, none⟩ = some (.bool b1) ∧ w'.cell? ⟨w.heap.size + 1, 2, none⟩ = some (.int .i64 n1) ∧ w'.cell? ⟨w.heap.size + 1, 3, none⟩ = some (.string s1))) (by kernel_rfl) (by first | exact ⟨a0_, a1_, a2_, a3_, b0_, b1_, b2_, b3_⟩ | go_keep) (fun hHeld => ?_)
  refine' wpAnyH_take (i := 0) (v := .int .i64 m) ?hi0x430 ?hs0x430 ?hf0x430 ?hr0x430 ?hQ0x430 ?hy0x430 ?hS0x430 ?rest0x430
  case hi0x430 => (simp only [List.getElem?_toArray, List.getElem?_cons_succ, List.getElem?_cons_zero]; try rfl)
  case hs0x430 => kernel_rfl
  case hf0x430 => kernel_rfl
  case hr0x430 => kernel_rfl
  case hQ0x430 => exact fun _ _ _ h => h
  case hy0x430 => exact Or.inl ⟨by rfl, by (intro w hSw; (try dsimp only at hSw); go_simp)⟩
  case hS0x430 => assumption
  (try simp only [Act.put, List.setIfInBounds_toArray, List.set_cons_zero, List.set_cons_succ])
  refine' wpAnyH_take (i := 1) (v := .pointer (some ⟨w.heap.size, 2, none⟩)) ?hi1x431 ?hs1x431 ?hf1x431 ?hr1x431 ?hQ1x431 ?hy1x431 ?hS1x431 ?rest1x431
  case hi1x431 => (simp only [List.getElem?_toArray, List.getElem?_cons_succ, List.getElem?_cons_zero]; try rfl)
  case hs1x431 => kernel_rfl
  case hf1x431 => kernel_rfl
  case hr1x431 => kernel_rfl
  case hQ1x431 => exact fun _ _ _ h => h
  case hy1x431 => exact Or.inl ⟨by rfl, by (intro w hSw; (try dsimp only at hSw); go_simp)⟩
  case hS1x431 => assumption
  (try simp only [Act.put, List.setIfInBounds_toArray, List.set_cons_zero, List.set_cons_succ])
  refine' wpAnyH_take (i := 2) (v := .int .i64 n0) ?hi2x432 ?hs2x432 ?hf2x432 ?hr2x432 ?hQ2x432 ?hy2x432 ?hS2x432 ?rest2x432
  case hi2x432 => (simp only [List.getElem?_toArray, List.getElem?_cons_succ, List.getElem?_cons_zero]; try rfl)
  case hs2x432 => kernel_rfl
  case hf2x432 => kernel_rfl
  case hr2x432 => kernel_rfl
  case hQ2x432 => exact fun _ _ _ h => h
  case hy2x432 => exact Or.inl ⟨by rfl, by (intro w hSw; (try dsimp only at hSw); go_simp)⟩
  case hS2x432 => assumption
  (try simp only [Act.put, List.setIfInBounds_toArray, List.set_cons_zero, List.set_cons_succ])
  refine' wpAnyH_take (i := 3) (v := .bool false) ?hi3x433 ?hs3x433 ?hf3x433 ?hr3x433 ?hQ3x433 ?hy3x433 ?hS3x433 ?rest3x433
  case hi3x433 => (simp only [List.getElem?_toArray, List.getElem?_cons_succ, List.getElem?_cons_zero]; try rfl)
  case hs3x433 => kernel_rfl
  case hf3x433 => kernel_rfl
  case hr3x433 => kernel_rfl
  case hQ3x433 => exact fun _ _ _ h => h
  case hy3x433 => exact Or.inl ⟨by rfl, by (intro w hSw; (try dsimp only at hSw); go_simp)⟩
  case hS3x433 => assumption
  (try simp only [Act.put, List.setIfInBounds_toArray, List.set_cons_zero, List.set_cons_succ])
  refine' wpAnyH_take (i := 4) (v := .bool false) ?hi4x434 ?hs4x434 ?hf4x434 ?hr4x434 ?hQ4x434 ?hy4x434 ?hS4x434 ?rest4x434
  case hi4x434 => (simp only [List.getElem?_toArray, List.getElem?_cons_succ, List.getElem?_cons_zero]; try rfl)
  case hs4x434 => kernel_rfl
  case hf4x434 => kernel_rfl
  case hr4x434 => kernel_rfl
  case hQ4x434 => exact fun _ _ _ h => h
  case hy4x434 => exact Or.inl ⟨by rfl, by (intro w hSw; (try dsimp only at hSw); go_simp)⟩
  case hS4x434 => assumption
  (try simp only [Act.put, List.setIfInBounds_toArray, List.set_cons_zero, List.set_cons_succ])
  refine' wpAnyH_take (i := 5) (v := undef) ?hi5x435 ?hs5x435 ?hf5x435 ?hr5x435 ?hQ5x435 ?hy5x435 ?hS5x435 ?rest5x435
  case hi5x435 => (simp only [List.getElem?_toArray, List.getElem?_cons_succ, List.getElem?_cons_zero]; try rfl)
  case hs5x435 => kernel_rfl
  case hf5x435 => kernel_rfl
  case hr5x435 => kernel_rfl
  case hQ5x435 => exact fun _ _ _ h => h
  case hy5x435 => exact Or.inr ⟨by rfl, rfl⟩
  case hS5x435 => assumption
  (try simp only [Act.put, List.setIfInBounds_toArray, List.set_cons_zero, List.set_cons_succ])
  refine' wpAnyH_take (i := 6) (v := undef) ?hi6x436 ?hs6x436 ?hf6x436 ?hr6x436 ?hQ6x436 ?hy6x436 ?hS6x436 ?rest6x436
  case hi6x436 => (simp only [List.getElem?_toArray, List.getElem?_cons_succ, List.getElem?_cons_zero]; try rfl)
  case hs6x436 => kernel_rfl
  case hf6x436 => kernel_rfl
  case hr6x436 => kernel_rfl
  case hQ6x436 => exact fun _ _ _ h => h
  case hy6x436 => exact Or.inr ⟨by rfl, rfl⟩
  case hS6x436 => assumption
  (try simp only [Act.put, List.setIfInBounds_toArray, List.set_cons_zero, List.set_cons_succ])
  refine' wpAnyH_take (i := 7) (v := undef) ?hi7x437 ?hs7x437 ?hf7x437 ?hr7x437 ?hQ7x437 ?hy7x437 ?hS7x437 ?rest7x437
  case hi7x437 => (simp only [List.getElem?_toArray, List.getElem?_cons_succ, List.getElem?_cons_zero]; try rfl)
  case hs7x437 => kernel_rfl
  case hf7x437 => kernel_rfl
  case hr7x437 => kernel_rfl
  case hQ7x437 => exact fun _ _ _ h => h
  case hy7x437 => exact Or.inr ⟨by rfl, rfl⟩
  case hS7x437 => assumption
  (try simp only [Act.put, List.setIfInBounds_toArray, List.set_cons_zero, List.set_cons_succ])
  refine' wpAnyH_take (i := 8) (v := .bool false) ?hi8x438 ?hs8x438 ?hf8x438 ?hr8x438 ?hQ8x438 ?hy8x438 ?hS8x438 ?rest8x438
  case hi8x438 => (simp only [List.getElem?_toArray, List.getElem?_cons_succ, List.getElem?_cons_zero]; try rfl)
  case hs8x438 => kernel_rfl
  case hf8x438 => kernel_rfl
  case hr8x438 => kernel_rfl
  case hQ8x438 => exact fun _ _ _ h => h
  case hy8x438 => exact Or.inl ⟨by rfl, by (intro w hSw; (try dsimp only at hSw); go_simp)⟩
  case hS8x438 => assumption
  (try simp only [Act.put, List.setIfInBounds_toArray, List.set_cons_zero, List.set_cons_succ])
  refine' wpAnyH_take (i := 9) (v := .bool false) ?hi9x439 ?hs9x439 ?hf9x439 ?hr9x439 ?hQ9x439 ?hy9x439 ?hS9x439 ?rest9x439
  case hi9x439 => (simp only [List.getElem?_toArray, List.getElem?_cons_succ, List.getElem?_cons_zero]; try rfl)
  case hs9x439 => kernel_rfl
  case hf9x439 => kernel_rfl
  case hr9x439 => kernel_rfl
  case hQ9x439 => exact fun _ _ _ h => h
  case hy9x439 => exact Or.inl ⟨by rfl, by (intro w hSw; (try dsimp only at hSw); go_simp)⟩
  case hS9x439 => assumption
  (try simp only [Act.put, List.setIfInBounds_toArray, List.set_cons_zero, List.set_cons_succ])
  refine' wpAnyH_take (i := 10) (v := undef) ?hi10x440 ?hs10x440 ?hf10x440 ?hr10x440 ?hQ10x440 ?hy10x440 ?hS10x440 ?rest10x440
  case hi10x440 => (simp only [List.getElem?_toArray, List.getElem?_cons_succ, List.getElem?_cons_zero]; try rfl)
  case hs10x440 => kernel_rfl
  case hf10x440 => kernel_rfl
  case hr10x440 => kernel_rfl
  case hQ10x440 => exact fun _ _ _ h => h
  case hy10x440 => exact Or.inr ⟨by rfl, rfl⟩
  case hS10x440 => assumption
  (try simp only [Act.put, List.setIfInBounds_toArray, List.set_cons_zero, List.set_cons_succ])
  refine' wpAnyH_take (i := 11) (v := undef) ?hi11x441 ?hs11x441 ?hf11x441 ?hr11x441 ?hQ11x441 ?hy11x441 ?hS11x441 ?rest11x441
  case hi11x441 => (simp only [List.getElem?_toArray, List.getElem?_cons_succ, List.getElem?_cons_zero]; try rfl)
  case hs11x441 => kernel_rfl
  case hf11x441 => kernel_rfl
  case hr11x441 => kernel_rfl
  case hQ11x441 => exact fun _ _ _ h => h
  case hy11x441 => exact Or.inr ⟨by rfl, rfl⟩
  case hS11x441 => assumption
  (try simp only [Act.put, List.setIfInBounds_toArray, List.set_cons_zero, List.set_cons_succ])
  refine' wpAnyH_take (i := 12) (v := .bool false) ?hi12x442 ?hs12x442 ?hf12x442 ?hr12x442 ?hQ12x442 ?hy12x442 ?hS12x442 ?rest12x442
  case hi12x442 => (simp only [List.getElem?_toArray, List.getElem?_cons_succ, List.getElem?_cons_zero]; try rfl)
  case hs12x442 => kernel_rfl
  case hf12x442 => kernel_rfl
  case hr12x442 => kernel_rfl
  case hQ12x442 => exact fun _ _ _ h => h
  case hy12x442 => exact Or.inl ⟨by rfl, by (intro w hSw; (try dsimp only at hSw); go_simp)⟩
  case hS12x442 => assumption
  (try simp only [Act.put, List.setIfInBounds_toArray, List.set_cons_zero, List.set_cons_succ])
  refine' wpAnyH_take (i := 13) (v := .bool false) ?hi13x443 ?hs13x443 ?hf13x443 ?hr13x443 ?hQ13x443 ?hy13x443 ?hS13x443 ?rest13x443
  case hi13x443 => (simp only [List.getElem?_toArray, List.getElem?_cons_succ, List.getElem?_cons_zero]; try rfl)
  case hs13x443 => kernel_rfl
  case hf13x443 => kernel_rfl
  case hr13x443 => kernel_rfl
  case hQ13x443 => exact fun _ _ _ h => h
  case hy13x443 => exact Or.inl ⟨by rfl, by (intro w hSw; (try dsimp only at hSw); go_simp)⟩
  case hS13x443 => assumption
  (try simp only [Act.put, List.setIfInBounds_toArray, List.set_cons_zero, List.set_cons_succ])
  refine' wpAnyH_take (i := 14) (v := .pointer (some ⟨w.heap.size, 2, none⟩)) ?hi14x444 ?hs14x444 ?hf14x444 ?hr14x444 ?hQ14x444 ?hy14x444 ?hS14x444 ?rest14x444
  case hi14x444 => (simp only [List.getElem?_toArray, List.getElem?_cons_succ, List.getElem?_cons_zero]; try rfl)
  case hs14x444 => kernel_rfl
  case hf14x444 => kernel_rfl
  case hr14x444 => kernel_rfl
  case hQ14x444 => exact fun _ _ _ h => h
  case hy14x444 => exact Or.inl ⟨by rfl, by (intro w hSw; (try dsimp only at hSw); go_simp)⟩
  case hS14x444 => assumption
  (try simp only [Act.put, List.setIfInBounds_toArray, List.set_cons_zero, List.set_cons_succ])
  refine' wpAnyH_take (i := 15) (v := .int .i64 n0) ?hi15x445 ?hs15x445 ?hf15x445 ?hr15x445 ?hQ15x445 ?hy15x445 ?hS15x445 ?rest15x445
  case hi15x445 => (simp only [List.getElem?_toArray, List.getElem?_cons_succ, List.getElem?_cons_zero]; try rfl)
  case hs15x445 => kernel_rfl
  case hf15x445 => kernel_rfl
  case hr15x445 => kernel_rfl
  case hQ15x445 => exact fun _ _ _ h => h
  case hy15x445 => exact Or.inl ⟨by rfl, by (intro w hSw; (try dsimp only at hSw); go_simp)⟩
  case hS15x445 => assumption
  (try simp only [Act.put, List.setIfInBounds_toArray, List.set_cons_zero, List.set_cons_succ])
  refine' wpAnyH_take (i := 16) (v := .bool true) ?hi16x446 ?hs16x446 ?hf16x446 ?hr16x446 ?hQ16x446 ?hy16x446 ?hS16x446 ?rest16x446
  case hi16x446 => (simp only [List.getElem?_toArray, List.getElem?_cons_succ, List.getElem?_cons_zero]; try rfl)
  case hs16x446 => kernel_rfl
  case hf16x446 => kernel_rfl
  case hr16x446 => kernel_rfl
  case hQ16x446 => exact fun _ _ _ h => h
  case hy16x446 => exact Or.inl ⟨by rfl, by (intro w hSw; (try dsimp only at hSw); go_simp)⟩
  case hS16x446 => assumption
  (try simp only [Act.put, List.setIfInBounds_toArray, List.set_cons_zero, List.set_cons_succ])
  refine' wpAnyH_take (i := 17) (v := .bool true) ?hi17x447 ?hs17x447 ?hf17x447 ?hr17x447 ?hQ17x447 ?hy17x447 ?hS17x447 ?rest17x447
  case hi17x447 => (simp only [List.getElem?_toArray, List.getElem?_cons_succ, List.getElem?_cons_zero]; try rfl)
  case hs17x447 => kernel_rfl
  case hf17x447 => kernel_rfl
  case hr17x447 => kernel_rfl
  case hQ17x447 => exact fun _ _ _ h => h
  case hy17x447 => exact Or.inl ⟨by rfl, by (intro w hSw; (try dsimp only at hSw); go_simp)⟩
  case hS17x447 => assumption
  (try simp only [Act.put, List.setIfInBounds_toArray, List.set_cons_zero, List.set_cons_succ])
  refine' wpAnyH_take (i := 18) (v := .pointer (some ⟨w.heap.size + 1, 2, none⟩)) ?hi18x448 ?hs18x448 ?hf18x448 ?hr18x448 ?hQ18x448 ?hy18x448 ?hS18x448 ?rest18x448
  case hi18x448 => (simp only [List.getElem?_toArray, List.getElem?_cons_succ, List.getElem?_cons_zero]; try rfl)
  case hs18x448 => kernel_rfl
  case hf18x448 => kernel_rfl
  case hr18x448 => kernel_rfl
  case hQ18x448 => exact fun _ _ _ h => h
  case hy18x448 => exact Or.inl ⟨by rfl, by (intro w hSw; (try dsimp only at hSw); go_simp)⟩
  case hS18x448 => assumption
  (try simp only [Act.put, List.setIfInBounds_toArray, List.set_cons_zero, List.set_cons_succ])
  refine' wpAnyH_take (i := 19) (v := .int .i64 n1) ?hi19x449 ?hs19x449 ?hf19x449 ?hr19x449 ?hQ19x449 ?hy19x449 ?hS19x449 ?rest19x449
  case hi19x449 => (simp only [List.getElem?_toArray, List.getElem?_cons_succ, List.getElem?_cons_zero]; try rfl)
  case hs19x449 => kernel_rfl
  case hf19x449 => kernel_rfl
  case hr19x449 => kernel_rfl
  case hQ19x449 => exact fun _ _ _ h => h
  case hy19x449 => exact Or.inl ⟨by rfl, by (intro w hSw; (try dsimp only at hSw); go_simp)⟩
  case hS19x449 => assumption
  (try simp only [Act.put, List.setIfInBounds_toArray, List.set_cons_zero, List.set_cons_succ])
  refine' wpAnyH_take (i := 20) (v := .bool false) ?hi20x450 ?hs20x450 ?hf20x450 ?hr20x450 ?hQ20x450 ?hy20x450 ?hS20x450 ?rest20x450
  case hi20x450 => (simp only [List.getElem?_toArray, List.getElem?_cons_succ, List.getElem?_cons_zero]; try rfl)
  case hs20x450 => kernel_rfl
  case hf20x450 => kernel_rfl
  case hr20x450 => kernel_rfl
  case hQ20x450 => exact fun _ _ _ h => h
  case hy20x450 => exact Or.inl ⟨by rfl, by (intro w hSw; (try dsimp only at hSw); go_simp)⟩
  case hS20x450 => assumption
  (try simp only [Act.put, List.setIfInBounds_toArray, List.set_cons_zero, List.set_cons_succ])
  refine' wpAnyH_take (i := 21) (v := .bool false) ?hi21x451 ?hs21x451 ?hf21x451 ?hr21x451 ?hQ21x451 ?hy21x451 ?hS21x451 ?rest21x451
  case hi21x451 => (simp only [List.getElem?_toArray, List.getElem?_cons_succ, List.getElem?_cons_zero]; try rfl)
  case hs21x451 => kernel_rfl
  case hf21x451 => kernel_rfl
  case hr21x451 => kernel_rfl
  case hQ21x451 => exact fun _ _ _ h => h
  case hy21x451 => exact Or.inl ⟨by rfl, by (intro w hSw; (try dsimp only at hSw); go_simp)⟩
  case hS21x451 => assumption
  (try simp only [Act.put, List.setIfInBounds_toArray, List.set_cons_zero, List.set_cons_succ])
  refine' wpAnyH_take (i := 22) (v := .bool false) ?hi22x452 ?hs22x452 ?hf22x452 ?hr22x452 ?hQ22x452 ?hy22x452 ?hS22x452 ?rest22x452
  case hi22x452 => (simp only [List.getElem?_toArray, List.getElem?_cons_succ, List.getElem?_cons_zero]; try rfl)
  case hs22x452 => kernel_rfl
  case hf22x452 => kernel_rfl
  case hr22x452 => kernel_rfl
  case hQ22x452 => exact fun _ _ _ h => h
  case hy22x452 => exact Or.inl ⟨by rfl, by (intro w hSw; (try dsimp only at hSw); go_simp)⟩
  case hS22x452 => assumption
  (try simp only [Act.put, List.setIfInBounds_toArray, List.set_cons_zero, List.set_cons_succ])
  refine' wpAnyH_take (i := 23) (v := undef) ?hi23x453 ?hs23x453 ?hf23x453 ?hr23x453 ?hQ23x453 ?hy23x453 ?hS23x453 ?rest23x453
  case hi23x453 => (simp only [List.getElem?_toArray, List.getElem?_cons_succ, List.getElem?_cons_zero]; try rfl)
  case hs23x453 => kernel_rfl
  case hf23x453 => kernel_rfl
  case hr23x453 => kernel_rfl
  case hQ23x453 => exact fun _ _ _ h => h
  case hy23x453 => exact Or.inr ⟨by rfl, rfl⟩
  case hS23x453 => assumption
  (try simp only [Act.put, List.setIfInBounds_toArray, List.set_cons_zero, List.set_cons_succ])
  refine' wpAnyH_take (i := 24) (v := undef) ?hi24x454 ?hs24x454 ?hf24x454 ?hr24x454 ?hQ24x454 ?hy24x454 ?hS24x454 ?rest24x454
  case hi24x454 => (simp only [List.getElem?_toArray, List.getElem?_cons_succ, List.getElem?_cons_zero]; try rfl)
  case hs24x454 => kernel_rfl
  case hf24x454 => kernel_rfl
  case hr24x454 => kernel_rfl
  case hQ24x454 => exact fun _ _ _ h => h
  case hy24x454 => exact Or.inr ⟨by rfl, rfl⟩
  case hS24x454 => assumption
  (try simp only [Act.put, List.setIfInBounds_toArray, List.set_cons_zero, List.set_cons_succ])
  refine' wpAnyH_take (i := 25) (v := .bool false) ?hi25x455 ?hs25x455 ?hf25x455 ?hr25x455 ?hQ25x455 ?hy25x455 ?hS25x455 ?rest25x455
  case hi25x455 => (simp only [List.getElem?_toArray, List.getElem?_cons_succ, List.getElem?_cons_zero]; try rfl)
  case hs25x455 => kernel_rfl
  case hf25x455 => kernel_rfl
  case hr25x455 => kernel_rfl
  case hQ25x455 => exact fun _ _ _ h => h
  case hy25x455 => exact Or.inl ⟨by rfl, by (intro w hSw; (try dsimp only at hSw); go_simp)⟩
  case hS25x455 => assumption
  (try simp only [Act.put, List.setIfInBounds_toArray, List.set_cons_zero, List.set_cons_succ])
  refine' wpAnyH_take (i := 26) (v := .bool false) ?hi26x456 ?hs26x456 ?hf26x456 ?hr26x456 ?hQ26x456 ?hy26x456 ?hS26x456 ?rest26x456
  case hi26x456 => (simp only [List.getElem?_toArray, List.getElem?_cons_succ, List.getElem?_cons_zero]; try rfl)
  case hs26x456 => kernel_rfl
  case hf26x456 => kernel_rfl
  case hr26x456 => kernel_rfl
  case hQ26x456 => exact fun _ _ _ h => h
  case hy26x456 => exact Or.inl ⟨by rfl, by (intro w hSw; (try dsimp only at hSw); go_simp)⟩
  case hS26x456 => assumption
  (try simp only [Act.put, List.setIfInBounds_toArray, List.set_cons_zero, List.set_cons_succ])
  refine' wpAnyH_take (i := 28) (v := .agg #[.int .u8 k0, .bool b0, .int .i64 n0, .string s0]) ?hi28x457 ?hs28x457 ?hf28x457 ?hr28x457 ?hQ28x457 ?hy28x457 ?hS28x457 ?rest28x457
  case hi28x457 => (simp only [List.getElem?_toArray, List.getElem?_cons_succ, List.getElem?_cons_zero]; try rfl)
  case hs28x457 => kernel_rfl
  case hf28x457 => kernel_rfl
  case hr28x457 => kernel_rfl
  case hQ28x457 => exact fun _ _ _ h => h
  case hy28x457 => exact Or.inl ⟨by rfl, by (intro w hSw; (try dsimp only at hSw); go_simp)⟩
  case hS28x457 => assumption
  (try simp only [Act.put, List.setIfInBounds_toArray, List.set_cons_zero, List.set_cons_succ])
  refine' wpAnyH_take (i := 29) (v := .agg #[.int .u8 k1, .bool b1, .int .i64 n1, .string s1]) ?hi29x458 ?hs29x458 ?hf29x458 ?hr29x458 ?hQ29x458 ?hy29x458 ?hS29x458 ?rest29x458
  case hi29x458 => (simp only [List.getElem?_toArray, List.getElem?_cons_succ, List.getElem?_cons_zero]; try rfl)
  case hs29x458 => kernel_rfl
  case hf29x458 => kernel_rfl
  case hr29x458 => kernel_rfl
  case hQ29x458 => exact fun _ _ _ h => h
  case hy29x458 => exact Or.inl ⟨by rfl, by (intro w hSw; (try dsimp only at hSw); go_simp)⟩
  case hS29x458 => assumption
  (try simp only [Act.put, List.setIfInBounds_toArray, List.set_cons_zero, List.set_cons_succ])
  refine wpAnyH_ready (rs := [27, 30]) (by kernel_rfl) (by simp) ?_
  refine' AllReadyH.cons (i := 27) ?ho27x459 (fun K hK => ?st27x459) (AllReadyH.cons (i := 30) ?ho30x460 (fun K hK => ?st30x460) AllReadyH.nil)
  case ho27x459 => (simp only [List.getElem?_toArray, List.getElem?_cons_succ, List.getElem?_cons_zero]; try rfl)
  case ho30x460 => (simp only [List.getElem?_toArray, List.getElem?_cons_succ, List.getElem?_cons_zero]; try rfl)
  case st27x459 =>
    go_simp
    refine (refOver_any _ _).mono ?_
    rintro e w' ⟨rfl, rfl⟩
    go_wp2_with fail
    refine hK.out _ _ ?_ (fun hHeld => ?_)
    · (first | exact ⟨a0_, a1_, a2_, a3_, b0_, b1_, b2_, b3_⟩ | go_keep)
    clear hK K
    (try simp only [Act.put, List.setIfInBounds_toArray, List.set_cons_zero, List.set_cons_succ])
    refine wpAnyH_ready (rs := [30]) (by kernel_rfl) (by simp) ?_
    refine' AllReadyH.cons (i := 30) ?ho30x461 (fun K hK => ?st30x461) AllReadyH.nil
    case ho30x461 => (simp only [List.getElem?_toArray, List.getElem?_cons_succ, List.getElem?_cons_zero]; try rfl)
    go_simp
    refine hK.out _ _ ?_ (fun hHeld => ?_)
    · (first | exact ⟨a0_, a1_, a2_, a3_, b0_, b1_, b2_, b3_⟩ | go_keep)
    clear hK K
    (try simp only [Act.put, List.setIfInBounds_toArray, List.set_cons_zero, List.set_cons_succ])
    refine wpAnyH_ready (rs := [31]) (by kernel_rfl) (by simp) ?_
    refine' AllReadyH.cons (i := 31) ?ho31x462 (fun K hK => ?st31x462) AllReadyH.nil
    case ho31x462 => (simp only [List.getElem?_toArray, List.getElem?_cons_succ, List.getElem?_cons_zero]; try rfl)
    go_simp
    refine (refNum2_any _ _ k0 b0 n0 s0 k1 b1 n1 s1 _ _ _ (by exact heap_at _ _ _ (by first | rfl | simp)) hs0H.out hs1H.out).mono ?_
    rw [hrH.out, refVm]
    rintro e w' ⟨rfl, hb'⟩
    replace hb := chainB (B := W0.heap.size) (a := W0) (by go_grown) hb' (by have := hb.size; first | omega | (simp; done) | (simp; omega))
    clear hb' a0_ a1_ a2_ a3_ b0_ b1_ b2_ b3_ r0_ r1_ r2_ r3_ f0_ f1_ f2_ f3_ hz hs
    obtain ⟨a0_, a1_, a2_, a3_⟩ := (hAH.out.below hb).cells; obtain ⟨b0_, b1_, b2_, b3_⟩ := (hBH.out.below hb).cells; obtain ⟨r0_, r1_, r2_, r3_⟩ := (hRH.out.below hb).cells; obtain ⟨f0_, f1_, f2_, f3_⟩ := (hRH.out.below hb).free; have hz := Nat.lt_of_lt_of_le hz0.out hb.size; have hs := hb.size
    go_wp2_with fail
    refine hK.out _ _ ?_ (fun hHeld => ?_)
    · (first | exact ⟨a0_, a1_, a2_, a3_, b0_, b1_, b2_, b3_⟩ | go_keep)
    clear hK K
    (try simp only [Act.put, List.setIfInBounds_toArray, List.set_cons_zero, List.set_cons_succ])
    refine' wpAnyH_take (i := 32) (v := .agg #[.int .u8 k', .bool b', .int .i64 n', .string s']) ?hi32x463 ?hs32x463 ?hf32x463 ?hr32x463 ?hQ32x463 ?hy32x463 ?hS32x463 ?rest32x463
    case hi32x463 => (simp only [List.getElem?_toArray, List.getElem?_cons_succ, List.getElem?_cons_zero]; try rfl)
    case hs32x463 => kernel_rfl
    case hf32x463 => kernel_rfl
    case hr32x463 => kernel_rfl
    case hQ32x463 => exact fun _ _ _ h => h
    case hy32x463 => exact Or.inl ⟨by rfl, by (intro w hSw; (try dsimp only at hSw); go_simp)⟩
    case hS32x463 => assumption
    (try simp only [Act.put, List.setIfInBounds_toArray, List.set_cons_zero, List.set_cons_succ])
    refine' wpAnyH_take (i := 33) (v := .int .i64 x) ?hi33x464 ?hs33x464 ?hf33x464 ?hr33x464 ?hQ33x464 ?hy33x464 ?hS33x464 ?rest33x464
    case hi33x464 => (simp only [List.getElem?_toArray, List.getElem?_cons_succ, List.getElem?_cons_zero]; try rfl)
    case hs33x464 => kernel_rfl
    case hf33x464 => kernel_rfl
    case hr33x464 => kernel_rfl
    case hQ33x464 => exact fun _ _ _ h => h
    case hy33x464 => exact Or.inl ⟨by rfl, by (intro w hSw; (try dsimp only at hSw); go_simp)⟩
    case hS33x464 => assumption
    (try simp only [Act.put, List.setIfInBounds_toArray, List.set_cons_zero, List.set_cons_succ])
    have hne1 : ¬ (w.heap.size + 1 + 1 = w.heap.size) := by omega
    have hne2 : ¬ (w.heap.size = w.heap.size + 1 + 1) := by omega
    refine wpAnyH_ready (rs := [34]) (by kernel_rfl) (by simp) ?_
    refine' AllReadyH.cons (i := 34) ?ho34x465 (fun K hK => ?st34x465) AllReadyH.nil
    case ho34x465 => (simp only [List.getElem?_toArray, List.getElem?_cons_succ, List.getElem?_cons_zero]; try rfl)
    go_simp
    refine hK.out _ _ ?_ (fun hHeld => ?_)
    · (first | exact ⟨a0_, a1_, a2_, a3_, b0_, b1_, b2_, b3_⟩ | go_keep)
    clear hK K
    (try simp only [Act.put, List.setIfInBounds_toArray, List.set_cons_zero, List.set_cons_succ])
    refine' wpAnyH_take (i := 35) (v := .int .i64 x) ?hi35x466 ?hs35x466 ?hf35x466 ?hr35x466 ?hQ35x466 ?hy35x466 ?hS35x466 ?rest35x466
    case hi35x466 => (simp only [List.getElem?_toArray, List.getElem?_cons_succ, List.getElem?_cons_zero]; try rfl)
    case hs35x466 => kernel_rfl
    case hf35x466 => kernel_rfl
    case hr35x466 => kernel_rfl
    case hQ35x466 => exact fun _ _ _ h => h
    case hy35x466 => exact Or.inl ⟨by rfl, by (intro w hSw; (try dsimp only at hSw); go_simp)⟩
    case hS35x466 => assumption
    (try simp only [Act.put, List.setIfInBounds_toArray, List.set_cons_zero, List.set_cons_succ])
    refine wpAnyH_done (by kernel_rfl) ?_ _
    refine NoPanic.normal ?_
    clear hne1 hne2
    go_wp2
    refine bodyPost_ret (v := .tuple #[.agg #[.int .u8 k', .bool b', .int .i64 n', .string s'], .int .i64 x]) (by simp [results, Tryd.results33, go_sem, r0_, r1_, r2_, r3_, hz]) rfl ⟨rfl, ?_⟩
    have hbw := hwWH.out.trans (hb.mono hwWH.out.size)
    clear hb
    go_grown
  case st30x460 =>
    go_simp
    refine hK.out _ _ ?_ (fun hHeld => ?_)
    · (first | exact ⟨a0_, a1_, a2_, a3_, b0_, b1_, b2_, b3_⟩ | go_keep)
    clear hK K
    (try simp only [Act.put, List.setIfInBounds_toArray, List.set_cons_zero, List.set_cons_succ])
    refine wpAnyH_ready (rs := [27]) (by kernel_rfl) (by simp) ?_
    refine' AllReadyH.cons (i := 27) ?ho27x467 (fun K hK => ?st27x467) AllReadyH.nil
    case ho27x467 => (simp only [List.getElem?_toArray, List.getElem?_cons_succ, List.getElem?_cons_zero]; try rfl)
    go_simp
    refine (refOver_any _ _).mono ?_
    rintro e w' ⟨rfl, rfl⟩
    go_wp2_with fail
    refine hK.out _ _ ?_ (fun hHeld => ?_)
    · (first | exact ⟨a0_, a1_, a2_, a3_, b0_, b1_, b2_, b3_⟩ | go_keep)
    clear hK K
    (try simp only [Act.put, List.setIfInBounds_toArray, List.set_cons_zero, List.set_cons_succ])
    refine wpAnyH_ready (rs := [31]) (by kernel_rfl) (by simp) ?_
    refine' AllReadyH.cons (i := 31) ?ho31x468 (fun K hK => ?st31x468) AllReadyH.nil
    case ho31x468 => (simp only [List.getElem?_toArray, List.getElem?_cons_succ, List.getElem?_cons_zero]; try rfl)
    go_simp
    refine (refNum2_any _ _ k0 b0 n0 s0 k1 b1 n1 s1 _ _ _ (by exact heap_at _ _ _ (by first | rfl | simp)) hs0H.out hs1H.out).mono ?_
    rw [hrH.out, refVm]
    rintro e w' ⟨rfl, hb'⟩
    replace hb := chainB (B := W0.heap.size) (a := W0) (by go_grown) hb' (by have := hb.size; first | omega | (simp; done) | (simp; omega))
    clear hb' a0_ a1_ a2_ a3_ b0_ b1_ b2_ b3_ r0_ r1_ r2_ r3_ f0_ f1_ f2_ f3_ hz hs
    obtain ⟨a0_, a1_, a2_, a3_⟩ := (hAH.out.below hb).cells; obtain ⟨b0_, b1_, b2_, b3_⟩ := (hBH.out.below hb).cells; obtain ⟨r0_, r1_, r2_, r3_⟩ := (hRH.out.below hb).cells; obtain ⟨f0_, f1_, f2_, f3_⟩ := (hRH.out.below hb).free; have hz := Nat.lt_of_lt_of_le hz0.out hb.size; have hs := hb.size
    go_wp2_with fail
    refine hK.out _ _ ?_ (fun hHeld => ?_)
    · (first | exact ⟨a0_, a1_, a2_, a3_, b0_, b1_, b2_, b3_⟩ | go_keep)
    clear hK K
    (try simp only [Act.put, List.setIfInBounds_toArray, List.set_cons_zero, List.set_cons_succ])
    refine' wpAnyH_take (i := 32) (v := .agg #[.int .u8 k', .bool b', .int .i64 n', .string s']) ?hi32x469 ?hs32x469 ?hf32x469 ?hr32x469 ?hQ32x469 ?hy32x469 ?hS32x469 ?rest32x469
    case hi32x469 => (simp only [List.getElem?_toArray, List.getElem?_cons_succ, List.getElem?_cons_zero]; try rfl)
    case hs32x469 => kernel_rfl
    case hf32x469 => kernel_rfl
    case hr32x469 => kernel_rfl
    case hQ32x469 => exact fun _ _ _ h => h
    case hy32x469 => exact Or.inl ⟨by rfl, by (intro w hSw; (try dsimp only at hSw); go_simp)⟩
    case hS32x469 => assumption
    (try simp only [Act.put, List.setIfInBounds_toArray, List.set_cons_zero, List.set_cons_succ])
    refine' wpAnyH_take (i := 33) (v := .int .i64 x) ?hi33x470 ?hs33x470 ?hf33x470 ?hr33x470 ?hQ33x470 ?hy33x470 ?hS33x470 ?rest33x470
    case hi33x470 => (simp only [List.getElem?_toArray, List.getElem?_cons_succ, List.getElem?_cons_zero]; try rfl)
    case hs33x470 => kernel_rfl
    case hf33x470 => kernel_rfl
    case hr33x470 => kernel_rfl
    case hQ33x470 => exact fun _ _ _ h => h
    case hy33x470 => exact Or.inl ⟨by rfl, by (intro w hSw; (try dsimp only at hSw); go_simp)⟩
    case hS33x470 => assumption
    (try simp only [Act.put, List.setIfInBounds_toArray, List.set_cons_zero, List.set_cons_succ])
    have hne1 : ¬ (w.heap.size + 1 + 1 = w.heap.size) := by omega
    have hne2 : ¬ (w.heap.size = w.heap.size + 1 + 1) := by omega
    refine wpAnyH_ready (rs := [34]) (by kernel_rfl) (by simp) ?_
    refine' AllReadyH.cons (i := 34) ?ho34x471 (fun K hK => ?st34x471) AllReadyH.nil
    case ho34x471 => (simp only [List.getElem?_toArray, List.getElem?_cons_succ, List.getElem?_cons_zero]; try rfl)
    go_simp
    refine hK.out _ _ ?_ (fun hHeld => ?_)
    · (first | exact ⟨a0_, a1_, a2_, a3_, b0_, b1_, b2_, b3_⟩ | go_keep)
    clear hK K
    (try simp only [Act.put, List.setIfInBounds_toArray, List.set_cons_zero, List.set_cons_succ])
    refine' wpAnyH_take (i := 35) (v := .int .i64 x) ?hi35x472 ?hs35x472 ?hf35x472 ?hr35x472 ?hQ35x472 ?hy35x472 ?hS35x472 ?rest35x472
    case hi35x472 => (simp only [List.getElem?_toArray, List.getElem?_cons_succ, List.getElem?_cons_zero]; try rfl)
    case hs35x472 => kernel_rfl
    case hf35x472 => kernel_rfl
    case hr35x472 => kernel_rfl
    case hQ35x472 => exact fun _ _ _ h => h
    case hy35x472 => exact Or.inl ⟨by rfl, by (intro w hSw; (try dsimp only at hSw); go_simp)⟩
    case hS35x472 => assumption
    (try simp only [Act.put, List.setIfInBounds_toArray, List.set_cons_zero, List.set_cons_succ])
    refine wpAnyH_done (by kernel_rfl) ?_ _
    refine NoPanic.normal ?_
    clear hne1 hne2
    go_wp2
    refine bodyPost_ret (v := .tuple #[.agg #[.int .u8 k', .bool b', .int .i64 n', .string s'], .int .i64 x]) (by simp [results, Tryd.results33, go_sem, r0_, r1_, r2_, r3_, hz]) rfl ⟨rfl, ?_⟩
    have hbw := hwWH.out.trans (hb.mono hwWH.out.size)
    clear hb
    go_grown

end Go.Proofs.YtoolojfbjpnllaaDoor
