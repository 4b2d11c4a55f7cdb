/-
  What the document's own Sub answers, at this program, part 0. Condition: the texts have at most 2^47 bytes, the numbers are 64-bit numbers.
-/
import Derived.Test.YtoolojfbjpnllaaDoorRefNeg
import Derived.Test.YtoolojfbjpnllaaDoorOps
import Derived.Deep.RegionHeld3
set_option linter.unusedVariables false
set_option linter.unusedSimpArgs false
namespace Go.Proofs.YtoolojfbjpnllaaDoor
open Go.RowKit Go.Lib

set_option maxRecDepth 100000 in
set_option maxHeartbeats 8000000 in
theorem refSub_pnp (k0 : Int) (b0 : Bool) (n0 : Int) (s0 : ByteArray) (k1 : Int) (b1 : Bool) (n1 : Int) (s1 : ByteArray) (w : World) (hs0 : s0.size ≤ 140737488355328) (hs1 : s1.size ≤ 140737488355328) (ha : 0 ≤ n0) (hb1 : n1 < 0) (hc : 0 ≤ wrap64 (n0 - n1)) :
    Calls Tryd.prog 33 #[.agg #[.int .u8 k0, .bool b0, .int .i64 n0, .string s0], .agg #[.int .u8 k1, .bool b1, .int .i64 n1, .string s1]] w fun e w' => e = .returned (refV (numS ⟨k0, b0, n0, s0⟩ ⟨k1, b1, n1, s1⟩ (wrap64 (n0 - n1), 0))) ∧ Below w.heap.size w w' := by
  obtain ⟨r, hr⟩ : ∃ r, numS ⟨k0, b0, n0, s0⟩ ⟨k1, b1, n1, s1⟩ (wrap64 (n0 - n1), 0) = r := ⟨_, rfl⟩
  rw [hr]
  obtain ⟨⟨k', b', n', s'⟩, x⟩ := r
  rw [refVm]
  have hrH := Lib.hid hr
  clear hr
  have hs0H := Lib.hid hs0; have hs1H := Lib.hid hs1
  obtain ⟨m, hm⟩ : ∃ m, wrap64 (n0 - n1) = m := ⟨_, rfl⟩
  have hm' : IntKind.i64.wrap (n0 - n1) = m := by rw [wrap_is, hm]
  rw [hm] at hrH
  rw [hm] at hc
  have d1 : decide (n0 ≥ 0) = true := by simp; omega
  have d2 : decide (n0 < 0) = false := by simp; omega
  have d3 : decide (n1 < 0) = true := by simp; omega
  have d4 : decide (m < 0) = false := by simp; omega
  have d5 : decide (m ≥ 0) = true := by simp; omega
  obtain ⟨W0, hW0, hwW, hA, hB, hR, hzz⟩ := boxes2 w k0 b0 n0 s0 k1 b1 n1 s1
  have hAH := Lib.hid hA; have hBH := Lib.hid hB; have hRH := Lib.hid hR; have hz0 := Lib.hid hzz; have hwWH := Lib.hid hwW
  clear hA hB hR hzz hwW hs0 hs1
  have hb := Below.refl W0.heap.size W0
  obtain ⟨a0_, a1_, a2_, a3_⟩ := (hAH.out.below hb).cells; obtain ⟨b0_, b1_, b2_, b3_⟩ := (hBH.out.below hb).cells; obtain ⟨r0_, r1_, r2_, r3_⟩ := (hRH.out.below hb).cells; obtain ⟨f0_, f1_, f2_, f3_⟩ := (hRH.out.below hb).free; have hz := Nat.lt_of_lt_of_le hz0.out hb.size; have hs := hb.size
  go_enter Tryd.func33, Tryd.ntmps33
  go_wp2_with fail
  refine wp_region_noPanic ?_
  refine wp_region_held_drew (S := (fun w' => w'.cell? ⟨w.heap.size, 0, none⟩ = some (.int .u8 k0) ∧ w'.cell? ⟨w.heap.size, 1, none⟩ = some (.bool b0) ∧ w'.cell? ⟨w.heap.size, 2, none⟩ = some (.int .i64 n0) ∧ w'.cell? ⟨w.heap.size, 3, none⟩ = some (.string s0) ∧ w'.cell? ⟨w.heap.size + 1, 0, none⟩ = some (.int .u8 k1) ∧ w'.cell? ⟨w.heap.size + 1, 1, none⟩ = some (.bool b1) ∧ w'.cell? ⟨w.heap.size + 1, 2, none⟩ = some (.int .i64 n1) ∧ w'.cell? ⟨w.heap.size + 1, 3, none⟩ = some (.string s1))) (by kernel_rfl) (by first | exact ⟨a0_, a1_, a2_, a3_, b0_, b1_, b2_, b3_⟩ | go_keep) (fun hHeld => ?_)
  refine' wpAnyH_take (i := 0) (v := .int .i64 m) ?hi0x301 ?hs0x301 ?hf0x301 ?hr0x301 ?hQ0x301 ?hy0x301 ?hS0x301 ?rest0x301
  case hi0x301 => (simp only [List.getElem?_toArray, List.getElem?_cons_succ, List.getElem?_cons_zero]; try rfl)
  case hs0x301 => kernel_rfl
  case hf0x301 => kernel_rfl
  case hr0x301 => kernel_rfl
  case hQ0x301 => exact fun _ _ _ h => h
  case hy0x301 => exact Or.inl ⟨by rfl, by (intro w hSw; (try dsimp only at hSw); go_simp)⟩
  case hS0x301 => assumption
  (try simp only [Act.put, List.setIfInBounds_toArray, List.set_cons_zero, List.set_cons_succ])
  refine' wpAnyH_take (i := 1) (v := .pointer (some ⟨w.heap.size, 2, none⟩)) ?hi1x302 ?hs1x302 ?hf1x302 ?hr1x302 ?hQ1x302 ?hy1x302 ?hS1x302 ?rest1x302
  case hi1x302 => (simp only [List.getElem?_toArray, List.getElem?_cons_succ, List.getElem?_cons_zero]; try rfl)
  case hs1x302 => kernel_rfl
  case hf1x302 => kernel_rfl
  case hr1x302 => kernel_rfl
  case hQ1x302 => exact fun _ _ _ h => h
  case hy1x302 => exact Or.inl ⟨by rfl, by (intro w hSw; (try dsimp only at hSw); go_simp)⟩
  case hS1x302 => assumption
  (try simp only [Act.put, List.setIfInBounds_toArray, List.set_cons_zero, List.set_cons_succ])
  refine' wpAnyH_take (i := 2) (v := .int .i64 n0) ?hi2x303 ?hs2x303 ?hf2x303 ?hr2x303 ?hQ2x303 ?hy2x303 ?hS2x303 ?rest2x303
  case hi2x303 => (simp only [List.getElem?_toArray, List.getElem?_cons_succ, List.getElem?_cons_zero]; try rfl)
  case hs2x303 => kernel_rfl
  case hf2x303 => kernel_rfl
  case hr2x303 => kernel_rfl
  case hQ2x303 => exact fun _ _ _ h => h
  case hy2x303 => exact Or.inl ⟨by rfl, by (intro w hSw; (try dsimp only at hSw); go_simp)⟩
  case hS2x303 => assumption
  (try simp only [Act.put, List.setIfInBounds_toArray, List.set_cons_zero, List.set_cons_succ])
  refine' wpAnyH_take (i := 3) (v := .bool true) ?hi3x304 ?hs3x304 ?hf3x304 ?hr3x304 ?hQ3x304 ?hy3x304 ?hS3x304 ?rest3x304
  case hi3x304 => (simp only [List.getElem?_toArray, List.getElem?_cons_succ, List.getElem?_cons_zero]; try rfl)
  case hs3x304 => kernel_rfl
  case hf3x304 => kernel_rfl
  case hr3x304 => kernel_rfl
  case hQ3x304 => exact fun _ _ _ h => h
  case hy3x304 => exact Or.inl ⟨by rfl, by (intro w hSw; (try dsimp only at hSw); go_simp)⟩
  case hS3x304 => assumption
  (try simp only [Act.put, List.setIfInBounds_toArray, List.set_cons_zero, List.set_cons_succ])
  refine' wpAnyH_take (i := 4) (v := .bool true) ?hi4x305 ?hs4x305 ?hf4x305 ?hr4x305 ?hQ4x305 ?hy4x305 ?hS4x305 ?rest4x305
  case hi4x305 => (simp only [List.getElem?_toArray, List.getElem?_cons_succ, List.getElem?_cons_zero]; try rfl)
  case hs4x305 => kernel_rfl
  case hf4x305 => kernel_rfl
  case hr4x305 => kernel_rfl
  case hQ4x305 => exact fun _ _ _ h => h
  case hy4x305 => exact Or.inl ⟨by rfl, by (intro w hSw; (try dsimp only at hSw); go_simp)⟩
  case hS4x305 => assumption
  (try simp only [Act.put, List.setIfInBounds_toArray, List.set_cons_zero, List.set_cons_succ])
  refine' wpAnyH_take (i := 5) (v := .pointer (some ⟨w.heap.size + 1, 2, none⟩)) ?hi5x306 ?hs5x306 ?hf5x306 ?hr5x306 ?hQ5x306 ?hy5x306 ?hS5x306 ?rest5x306
  case hi5x306 => (simp only [List.getElem?_toArray, List.getElem?_cons_succ, List.getElem?_cons_zero]; try rfl)
  case hs5x306 => kernel_rfl
  case hf5x306 => kernel_rfl
  case hr5x306 => kernel_rfl
  case hQ5x306 => exact fun _ _ _ h => h
  case hy5x306 => exact Or.inl ⟨by rfl, by (intro w hSw; (try dsimp only at hSw); go_simp)⟩
  case hS5x306 => assumption
  (try simp only [Act.put, List.setIfInBounds_toArray, List.set_cons_zero, List.set_cons_succ])
  refine' wpAnyH_take (i := 6) (v := .int .i64 n1) ?hi6x307 ?hs6x307 ?hf6x307 ?hr6x307 ?hQ6x307 ?hy6x307 ?hS6x307 ?rest6x307
  case hi6x307 => (simp only [List.getElem?_toArray, List.getElem?_cons_succ, List.getElem?_cons_zero]; try rfl)
  case hs6x307 => kernel_rfl
  case hf6x307 => kernel_rfl
  case hr6x307 => kernel_rfl
  case hQ6x307 => exact fun _ _ _ h => h
  case hy6x307 => exact Or.inl ⟨by rfl, by (intro w hSw; (try dsimp only at hSw); go_simp)⟩
  case hS6x307 => assumption
  (try simp only [Act.put, List.setIfInBounds_toArray, List.set_cons_zero, List.set_cons_succ])
  refine' wpAnyH_take (i := 7) (v := .bool true) ?hi7x308 ?hs7x308 ?hf7x308 ?hr7x308 ?hQ7x308 ?hy7x308 ?hS7x308 ?rest7x308
  case hi7x308 => (simp only [List.getElem?_toArray, List.getElem?_cons_succ, List.getElem?_cons_zero]; try rfl)
  case hs7x308 => kernel_rfl
  case hf7x308 => kernel_rfl
  case hr7x308 => kernel_rfl
  case hQ7x308 => exact fun _ _ _ h => h
  case hy7x308 => exact Or.inl ⟨by rfl, by (intro w hSw; (try dsimp only at hSw); go_simp)⟩
  case hS7x308 => assumption
  (try simp only [Act.put, List.setIfInBounds_toArray, List.set_cons_zero, List.set_cons_succ])
  refine' wpAnyH_take (i := 8) (v := .bool true) ?hi8x309 ?hs8x309 ?hf8x309 ?hr8x309 ?hQ8x309 ?hy8x309 ?hS8x309 ?rest8x309
  case hi8x309 => (simp only [List.getElem?_toArray, List.getElem?_cons_succ, List.getElem?_cons_zero]; try rfl)
  case hs8x309 => kernel_rfl
  case hf8x309 => kernel_rfl
  case hr8x309 => kernel_rfl
  case hQ8x309 => exact fun _ _ _ h => h
  case hy8x309 => exact Or.inl ⟨by rfl, by (intro w hSw; (try dsimp only at hSw); go_simp)⟩
  case hS8x309 => assumption
  (try simp only [Act.put, List.setIfInBounds_toArray, List.set_cons_zero, List.set_cons_succ])
  refine' wpAnyH_take (i := 9) (v := .bool true) ?hi9x310 ?hs9x310 ?hf9x310 ?hr9x310 ?hQ9x310 ?hy9x310 ?hS9x310 ?rest9x310
  case hi9x310 => (simp only [List.getElem?_toArray, List.getElem?_cons_succ, List.getElem?_cons_zero]; try rfl)
  case hs9x310 => kernel_rfl
  case hf9x310 => kernel_rfl
  case hr9x310 => kernel_rfl
  case hQ9x310 => exact fun _ _ _ h => h
  case hy9x310 => exact Or.inl ⟨by rfl, by (intro w hSw; (try dsimp only at hSw); go_simp)⟩
  case hS9x310 => assumption
  (try simp only [Act.put, List.setIfInBounds_toArray, List.set_cons_zero, List.set_cons_succ])
  refine' wpAnyH_take (i := 10) (v := .int .i64 m) ?hi10x311 ?hs10x311 ?hf10x311 ?hr10x311 ?hQ10x311 ?hy10x311 ?hS10x311 ?rest10x311
  case hi10x311 => (simp only [List.getElem?_toArray, List.getElem?_cons_succ, List.getElem?_cons_zero]; try rfl)
  case hs10x311 => kernel_rfl
  case hf10x311 => kernel_rfl
  case hr10x311 => kernel_rfl
  case hQ10x311 => exact fun _ _ _ h => h
  case hy10x311 => exact Or.inl ⟨by rfl, by (intro w hSw; (try dsimp only at hSw); go_simp)⟩
  case hS10x311 => assumption
  (try simp only [Act.put, List.setIfInBounds_toArray, List.set_cons_zero, List.set_cons_succ])
  refine' wpAnyH_take (i := 11) (v := .bool false) ?hi11x312 ?hs11x312 ?hf11x312 ?hr11x312 ?hQ11x312 ?hy11x312 ?hS11x312 ?rest11x312
  case hi11x312 => (simp only [List.getElem?_toArray, List.getElem?_cons_succ, List.getElem?_cons_zero]; try rfl)
  case hs11x312 => kernel_rfl
  case hf11x312 => kernel_rfl
  case hr11x312 => kernel_rfl
  case hQ11x312 => exact fun _ _ _ h => h
  case hy11x312 => exact Or.inl ⟨by rfl, by (intro w hSw; (try dsimp only at hSw); go_simp)⟩
  case hS11x312 => assumption
  (try simp only [Act.put, List.setIfInBounds_toArray, List.set_cons_zero, List.set_cons_succ])
  refine' wpAnyH_take (i := 12) (v := .bool false) ?hi12x313 ?hs12x313 ?hf12x313 ?hr12x313 ?hQ12x313 ?hy12x313 ?hS12x313 ?rest12x313
  case hi12x313 => (simp only [List.getElem?_toArray, List.getElem?_cons_succ, List.getElem?_cons_zero]; try rfl)
  case hs12x313 => kernel_rfl
  case hf12x313 => kernel_rfl
  case hr12x313 => kernel_rfl
  case hQ12x313 => exact fun _ _ _ h => h
  case hy12x313 => exact Or.inl ⟨by rfl, by (intro w hSw; (try dsimp only at hSw); go_simp)⟩
  case hS12x313 => assumption
  (try simp only [Act.put, List.setIfInBounds_toArray, List.set_cons_zero, List.set_cons_succ])
  refine' wpAnyH_take (i := 13) (v := .bool false) ?hi13x314 ?hs13x314 ?hf13x314 ?hr13x314 ?hQ13x314 ?hy13x314 ?hS13x314 ?rest13x314
  case hi13x314 => (simp only [List.getElem?_toArray, List.getElem?_cons_succ, List.getElem?_cons_zero]; try rfl)
  case hs13x314 => kernel_rfl
  case hf13x314 => kernel_rfl
  case hr13x314 => kernel_rfl
  case hQ13x314 => exact fun _ _ _ h => h
  case hy13x314 => exact Or.inl ⟨by rfl, by (intro w hSw; (try dsimp only at hSw); go_simp)⟩
  case hS13x314 => assumption
  (try simp only [Act.put, List.setIfInBounds_toArray, List.set_cons_zero, List.set_cons_succ])
  refine' wpAnyH_take (i := 14) (v := .pointer (some ⟨w.heap.size, 2, none⟩)) ?hi14x315 ?hs14x315 ?hf14x315 ?hr14x315 ?hQ14x315 ?hy14x315 ?hS14x315 ?rest14x315
  case hi14x315 => (simp only [List.getElem?_toArray, List.getElem?_cons_succ, List.getElem?_cons_zero]; try rfl)
  case hs14x315 => kernel_rfl
  case hf14x315 => kernel_rfl
  case hr14x315 => kernel_rfl
  case hQ14x315 => exact fun _ _ _ h => h
  case hy14x315 => exact Or.inl ⟨by rfl, by (intro w hSw; (try dsimp only at hSw); go_simp)⟩
  case hS14x315 => assumption
  (try simp only [Act.put, List.setIfInBounds_toArray, List.set_cons_zero, List.set_cons_succ])
  refine' wpAnyH_take (i := 15) (v := .int .i64 n0) ?hi15x316 ?hs15x316 ?hf15x316 ?hr15x316 ?hQ15x316 ?hy15x316 ?hS15x316 ?rest15x316
  case hi15x316 => (simp only [List.getElem?_toArray, List.getElem?_cons_succ, List.getElem?_cons_zero]; try rfl)
  case hs15x316 => kernel_rfl
  case hf15x316 => kernel_rfl
  case hr15x316 => kernel_rfl
  case hQ15x316 => exact fun _ _ _ h => h
  case hy15x316 => exact Or.inl ⟨by rfl, by (intro w hSw; (try dsimp only at hSw); go_simp)⟩
  case hS15x316 => assumption
  (try simp only [Act.put, List.setIfInBounds_toArray, List.set_cons_zero, List.set_cons_succ])
  refine' wpAnyH_take (i := 16) (v := .bool false) ?hi16x317 ?hs16x317 ?hf16x317 ?hr16x317 ?hQ16x317 ?hy16x317 ?hS16x317 ?rest16x317
  case hi16x317 => (simp only [List.getElem?_toArray, List.getElem?_cons_succ, List.getElem?_cons_zero]; try rfl)
  case hs16x317 => kernel_rfl
  case hf16x317 => kernel_rfl
  case hr16x317 => kernel_rfl
  case hQ16x317 => exact fun _ _ _ h => h
  case hy16x317 => exact Or.inl ⟨by rfl, by (intro w hSw; (try dsimp only at hSw); go_simp)⟩
  case hS16x317 => assumption
  (try simp only [Act.put, List.setIfInBounds_toArray, List.set_cons_zero, List.set_cons_succ])
  refine' wpAnyH_take (i := 17) (v := .bool false) ?hi17x318 ?hs17x318 ?hf17x318 ?hr17x318 ?hQ17x318 ?hy17x318 ?hS17x318 ?rest17x318
  case hi17x318 => (simp only [List.getElem?_toArray, List.getElem?_cons_succ, List.getElem?_cons_zero]; try rfl)
  case hs17x318 => kernel_rfl
  case hf17x318 => kernel_rfl
  case hr17x318 => kernel_rfl
  case hQ17x318 => exact fun _ _ _ h => h
  case hy17x318 => exact Or.inl ⟨by rfl, by (intro w hSw; (try dsimp only at hSw); go_simp)⟩
  case hS17x318 => assumption
  (try simp only [Act.put, List.setIfInBounds_toArray, List.set_cons_zero, List.set_cons_succ])
  refine' wpAnyH_take (i := 18) (v := undef) ?hi18x319 ?hs18x319 ?hf18x319 ?hr18x319 ?hQ18x319 ?hy18x319 ?hS18x319 ?rest18x319
  case hi18x319 => (simp only [List.getElem?_toArray, List.getElem?_cons_succ, List.getElem?_cons_zero]; try rfl)
  case hs18x319 => kernel_rfl
  case hf18x319 => kernel_rfl
  case hr18x319 => kernel_rfl
  case hQ18x319 => exact fun _ _ _ h => h
  case hy18x319 => exact Or.inr ⟨by rfl, rfl⟩
  case hS18x319 => assumption
  (try simp only [Act.put, List.setIfInBounds_toArray, List.set_cons_zero, List.set_cons_succ])
  refine' wpAnyH_take (i := 19) (v := undef) ?hi19x320 ?hs19x320 ?hf19x320 ?hr19x320 ?hQ19x320 ?hy19x320 ?hS19x320 ?rest19x320
  case hi19x320 => (simp only [List.getElem?_toArray, List.getElem?_cons_succ, List.getElem?_cons_zero]; try rfl)
  case hs19x320 => kernel_rfl
  case hf19x320 => kernel_rfl
  case hr19x320 => kernel_rfl
  case hQ19x320 => exact fun _ _ _ h => h
  case hy19x320 => exact Or.inr ⟨by rfl, rfl⟩
  case hS19x320 => assumption
  (try simp only [Act.put, List.setIfInBounds_toArray, List.set_cons_zero, List.set_cons_succ])
  refine' wpAnyH_take (i := 20) (v := undef) ?hi20x321 ?hs20x321 ?hf20x321 ?hr20x321 ?hQ20x321 ?hy20x321 ?hS20x321 ?rest20x321
  case hi20x321 => (simp only [List.getElem?_toArray, List.getElem?_cons_succ, List.getElem?_cons_zero]; try rfl)
  case hs20x321 => kernel_rfl
  case hf20x321 => kernel_rfl
  case hr20x321 => kernel_rfl
  case hQ20x321 => exact fun _ _ _ h => h
  case hy20x321 => exact Or.inr ⟨by rfl, rfl⟩
  case hS20x321 => assumption
  (try simp only [Act.put, List.setIfInBounds_toArray, List.set_cons_zero, List.set_cons_succ])
  refine' wpAnyH_take (i := 21) (v := .bool false) ?hi21x322 ?hs21x322 ?hf21x322 ?hr21x322 ?hQ21x322 ?hy21x322 ?hS21x322 ?rest21x322
  case hi21x322 => (simp only [List.getElem?_toArray, List.getElem?_cons_succ, List.getElem?_cons_zero]; try rfl)
  case hs21x322 => kernel_rfl
  case hf21x322 => kernel_rfl
  case hr21x322 => kernel_rfl
  case hQ21x322 => exact fun _ _ _ h => h
  case hy21x322 => exact Or.inl ⟨by rfl, by (intro w hSw; (try dsimp only at hSw); go_simp)⟩
  case hS21x322 => assumption
  (try simp only [Act.put, List.setIfInBounds_toArray, List.set_cons_zero, List.set_cons_succ])
  refine' wpAnyH_take (i := 22) (v := .bool false) ?hi22x323 ?hs22x323 ?hf22x323 ?hr22x323 ?hQ22x323 ?hy22x323 ?hS22x323 ?rest22x323
  case hi22x323 => (simp only [List.getElem?_toArray, List.getElem?_cons_succ, List.getElem?_cons_zero]; try rfl)
  case hs22x323 => kernel_rfl
  case hf22x323 => kernel_rfl
  case hr22x323 => kernel_rfl
  case hQ22x323 => exact fun _ _ _ h => h
  case hy22x323 => exact Or.inl ⟨by rfl, by (intro w hSw; (try dsimp only at hSw); go_simp)⟩
  case hS22x323 => assumption
  (try simp only [Act.put, List.setIfInBounds_toArray, List.set_cons_zero, List.set_cons_succ])
  refine' wpAnyH_take (i := 23) (v := undef) ?hi23x324 ?hs23x324 ?hf23x324 ?hr23x324 ?hQ23x324 ?hy23x324 ?hS23x324 ?rest23x324
  case hi23x324 => (simp only [List.getElem?_toArray, List.getElem?_cons_succ, List.getElem?_cons_zero]; try rfl)
  case hs23x324 => kernel_rfl
  case hf23x324 => kernel_rfl
  case hr23x324 => kernel_rfl
  case hQ23x324 => exact fun _ _ _ h => h
  case hy23x324 => exact Or.inr ⟨by rfl, rfl⟩
  case hS23x324 => assumption
  (try simp only [Act.put, List.setIfInBounds_toArray, List.set_cons_zero, List.set_cons_succ])
  refine' wpAnyH_take (i := 24) (v := undef) ?hi24x325 ?hs24x325 ?hf24x325 ?hr24x325 ?hQ24x325 ?hy24x325 ?hS24x325 ?rest24x325
  case hi24x325 => (simp only [List.getElem?_toArray, List.getElem?_cons_succ, List.getElem?_cons_zero]; try rfl)
  case hs24x325 => kernel_rfl
  case hf24x325 => kernel_rfl
  case hr24x325 => kernel_rfl
  case hQ24x325 => exact fun _ _ _ h => h
  case hy24x325 => exact Or.inr ⟨by rfl, rfl⟩
  case hS24x325 => assumption
  (try simp only [Act.put, List.setIfInBounds_toArray, List.set_cons_zero, List.set_cons_succ])
  refine' wpAnyH_take (i := 25) (v := .bool false) ?hi25x326 ?hs25x326 ?hf25x326 ?hr25x326 ?hQ25x326 ?hy25x326 ?hS25x326 ?rest25x326
  case hi25x326 => (simp only [List.getElem?_toArray, List.getElem?_cons_succ, List.getElem?_cons_zero]; try rfl)
  case hs25x326 => kernel_rfl
  case hf25x326 => kernel_rfl
  case hr25x326 => kernel_rfl
  case hQ25x326 => exact fun _ _ _ h => h
  case hy25x326 => exact Or.inl ⟨by rfl, by (intro w hSw; (try dsimp only at hSw); go_simp)⟩
  case hS25x326 => assumption
  (try simp only [Act.put, List.setIfInBounds_toArray, List.set_cons_zero, List.set_cons_succ])
  refine' wpAnyH_take (i := 26) (v := .bool false) ?hi26x327 ?hs26x327 ?hf26x327 ?hr26x327 ?hQ26x327 ?hy26x327 ?hS26x327 ?rest26x327
  case hi26x327 => (simp only [List.getElem?_toArray, List.getElem?_cons_succ, List.getElem?_cons_zero]; try rfl)
  case hs26x327 => kernel_rfl
  case hf26x327 => kernel_rfl
  case hr26x327 => kernel_rfl
  case hQ26x327 => exact fun _ _ _ h => h
  case hy26x327 => exact Or.inl ⟨by rfl, by (intro w hSw; (try dsimp only at hSw); go_simp)⟩
  case hS26x327 => assumption
  (try simp only [Act.put, List.setIfInBounds_toArray, List.set_cons_zero, List.set_cons_succ])
  refine' wpAnyH_take (i := 28) (v := .agg #[.int .u8 k0, .bool b0, .int .i64 n0, .string s0]) ?hi28x328 ?hs28x328 ?hf28x328 ?hr28x328 ?hQ28x328 ?hy28x328 ?hS28x328 ?rest28x328
  case hi28x328 => (simp only [List.getElem?_toArray, List.getElem?_cons_succ, List.getElem?_cons_zero]; try rfl)
  case hs28x328 => kernel_rfl
  case hf28x328 => kernel_rfl
  case hr28x328 => kernel_rfl
  case hQ28x328 => exact fun _ _ _ h => h
  case hy28x328 => exact Or.inl ⟨by rfl, by (intro w hSw; (try dsimp only at hSw); go_simp)⟩
  case hS28x328 => assumption
  (try simp only [Act.put, List.setIfInBounds_toArray, List.set_cons_zero, List.set_cons_succ])
  refine' wpAnyH_take (i := 29) (v := .agg #[.int .u8 k1, .bool b1, .int .i64 n1, .string s1]) ?hi29x329 ?hs29x329 ?hf29x329 ?hr29x329 ?hQ29x329 ?hy29x329 ?hS29x329 ?rest29x329
  case hi29x329 => (simp only [List.getElem?_toArray, List.getElem?_cons_succ, List.getElem?_cons_zero]; try rfl)
  case hs29x329 => kernel_rfl
  case hf29x329 => kernel_rfl
  case hr29x329 => kernel_rfl
  case hQ29x329 => exact fun _ _ _ h => h
  case hy29x329 => exact Or.inl ⟨by rfl, by (intro w hSw; (try dsimp only at hSw); go_simp)⟩
  case hS29x329 => assumption
  (try simp only [Act.put, List.setIfInBounds_toArray, List.set_cons_zero, List.set_cons_succ])
  refine wpAnyH_ready (rs := [27, 30]) (by kernel_rfl) (by simp) ?_
  refine' AllReadyH.cons (i := 27) ?ho27x330 (fun K hK => ?st27x330) (AllReadyH.cons (i := 30) ?ho30x331 (fun K hK => ?st30x331) AllReadyH.nil)
  case ho27x330 => (simp only [List.getElem?_toArray, List.getElem?_cons_succ, List.getElem?_cons_zero]; try rfl)
  case ho30x331 => (simp only [List.getElem?_toArray, List.getElem?_cons_succ, List.getElem?_cons_zero]; try rfl)
  case st27x330 =>
    go_simp
    refine (refOver_any _ _).mono ?_
    rintro e w' ⟨rfl, rfl⟩
    go_wp2_with fail
    refine hK.out _ _ ?_ (fun hHeld => ?_)
    · (first | exact ⟨a0_, a1_, a2_, a3_, b0_, b1_, b2_, b3_⟩ | go_keep)
    clear hK K
    (try simp only [Act.put, List.setIfInBounds_toArray, List.set_cons_zero, List.set_cons_succ])
    refine wpAnyH_ready (rs := [30]) (by kernel_rfl) (by simp) ?_
    refine' AllReadyH.cons (i := 30) ?ho30x332 (fun K hK => ?st30x332) AllReadyH.nil
    case ho30x332 => (simp only [List.getElem?_toArray, List.getElem?_cons_succ, List.getElem?_cons_zero]; try rfl)
    go_simp
    refine hK.out _ _ ?_ (fun hHeld => ?_)
    · (first | exact ⟨a0_, a1_, a2_, a3_, b0_, b1_, b2_, b3_⟩ | go_keep)
    clear hK K
    (try simp only [Act.put, List.setIfInBounds_toArray, List.set_cons_zero, List.set_cons_succ])
    refine wpAnyH_ready (rs := [31]) (by kernel_rfl) (by simp) ?_
    refine' AllReadyH.cons (i := 31) ?ho31x333 (fun K hK => ?st31x333) AllReadyH.nil
    case ho31x333 => (simp only [List.getElem?_toArray, List.getElem?_cons_succ, List.getElem?_cons_zero]; try rfl)
    go_simp
    refine (refNum2_any _ _ k0 b0 n0 s0 k1 b1 n1 s1 _ _ _ (by exact heap_at _ _ _ (by first | rfl | simp)) hs0H.out hs1H.out).mono ?_
    rw [hrH.out, refVm]
    rintro e w' ⟨rfl, hb'⟩
    replace hb := chainB (B := W0.heap.size) (a := W0) (by go_grown) hb' (by have := hb.size; first | omega | (simp; done) | (simp; omega))
    clear hb' a0_ a1_ a2_ a3_ b0_ b1_ b2_ b3_ r0_ r1_ r2_ r3_ f0_ f1_ f2_ f3_ hz hs
    obtain ⟨a0_, a1_, a2_, a3_⟩ := (hAH.out.below hb).cells; obtain ⟨b0_, b1_, b2_, b3_⟩ := (hBH.out.below hb).cells; obtain ⟨r0_, r1_, r2_, r3_⟩ := (hRH.out.below hb).cells; obtain ⟨f0_, f1_, f2_, f3_⟩ := (hRH.out.below hb).free; have hz := Nat.lt_of_lt_of_le hz0.out hb.size; have hs := hb.size
    go_wp2_with fail
    refine hK.out _ _ ?_ (fun hHeld => ?_)
    · (first | exact ⟨a0_, a1_, a2_, a3_, b0_, b1_, b2_, b3_⟩ | go_keep)
    clear hK K
    (try simp only [Act.put, List.setIfInBounds_toArray, List.set_cons_zero, List.set_cons_succ])
    refine' wpAnyH_take (i := 32) (v := .agg #[.int .u8 k', .bool b', .int .i64 n', .string s']) ?hi32x334 ?hs32x334 ?hf32x334 ?hr32x334 ?hQ32x334 ?hy32x334 ?hS32x334 ?rest32x334
    case hi32x334 => (simp only [List.getElem?_toArray, List.getElem?_cons_succ, List.getElem?_cons_zero]; try rfl)
    case hs32x334 => kernel_rfl
    case hf32x334 => kernel_rfl
    case hr32x334 => kernel_rfl
    case hQ32x334 => exact fun _ _ _ h => h
    case hy32x334 => exact Or.inl ⟨by rfl, by (intro w hSw; (try dsimp only at hSw); go_simp)⟩
    case hS32x334 => assumption
    (try simp only [Act.put, List.setIfInBounds_toArray, List.set_cons_zero, List.set_cons_succ])
    refine' wpAnyH_take (i := 33) (v := .int .i64 x) ?hi33x335 ?hs33x335 ?hf33x335 ?hr33x335 ?hQ33x335 ?hy33x335 ?hS33x335 ?rest33x335
    case hi33x335 => (simp only [List.getElem?_toArray, List.getElem?_cons_succ, List.getElem?_cons_zero]; try rfl)
    case hs33x335 => kernel_rfl
    case hf33x335 => kernel_rfl
    case hr33x335 => kernel_rfl
    case hQ33x335 => exact fun _ _ _ h => h
    case hy33x335 => exact Or.inl ⟨by rfl, by (intro w hSw; (try dsimp only at hSw); go_simp)⟩
    case hS33x335 => assumption
    (try simp only [Act.put, List.setIfInBounds_toArray, List.set_cons_zero, List.set_cons_succ])
    have hne1 : ¬ (w.heap.size + 1 + 1 = w.heap.size) := by omega
    have hne2 : ¬ (w.heap.size = w.heap.size + 1 + 1) := by omega
    refine wpAnyH_ready (rs := [34]) (by kernel_rfl) (by simp) ?_
    refine' AllReadyH.cons (i := 34) ?ho34x336 (fun K hK => ?st34x336) AllReadyH.nil
    case ho34x336 => (simp only [List.getElem?_toArray, List.getElem?_cons_succ, List.getElem?_cons_zero]; try rfl)
    go_simp
    refine hK.out _ _ ?_ (fun hHeld => ?_)
    · (first | exact ⟨a0_, a1_, a2_, a3_, b0_, b1_, b2_, b3_⟩ | go_keep)
    clear hK K
    (try simp only [Act.put, List.setIfInBounds_toArray, List.set_cons_zero, List.set_cons_succ])
    refine' wpAnyH_take (i := 35) (v := .int .i64 x) ?hi35x337 ?hs35x337 ?hf35x337 ?hr35x337 ?hQ35x337 ?hy35x337 ?hS35x337 ?rest35x337
    case hi35x337 => (simp only [List.getElem?_toArray, List.getElem?_cons_succ, List.getElem?_cons_zero]; try rfl)
    case hs35x337 => kernel_rfl
    case hf35x337 => kernel_rfl
    case hr35x337 => kernel_rfl
    case hQ35x337 => exact fun _ _ _ h => h
    case hy35x337 => exact Or.inl ⟨by rfl, by (intro w hSw; (try dsimp only at hSw); go_simp)⟩
    case hS35x337 => assumption
    (try simp only [Act.put, List.setIfInBounds_toArray, List.set_cons_zero, List.set_cons_succ])
    refine wpAnyH_done (by kernel_rfl) ?_ _
    refine NoPanic.normal ?_
    clear hne1 hne2
    go_wp2
    refine bodyPost_ret (v := .tuple #[.agg #[.int .u8 k', .bool b', .int .i64 n', .string s'], .int .i64 x]) (by simp [results, Tryd.results33, go_sem, r0_, r1_, r2_, r3_, hz]) rfl ⟨rfl, ?_⟩
    have hbw := hwWH.out.trans (hb.mono hwWH.out.size)
    clear hb
    go_grown
  case st30x331 =>
    go_simp
    refine hK.out _ _ ?_ (fun hHeld => ?_)
    · (first | exact ⟨a0_, a1_, a2_, a3_, b0_, b1_, b2_, b3_⟩ | go_keep)
    clear hK K
    (try simp only [Act.put, List.setIfInBounds_toArray, List.set_cons_zero, List.set_cons_succ])
    refine wpAnyH_ready (rs := [27]) (by kernel_rfl) (by simp) ?_
    refine' AllReadyH.cons (i := 27) ?ho27x338 (fun K hK => ?st27x338) AllReadyH.nil
    case ho27x338 => (simp only [List.getElem?_toArray, List.getElem?_cons_succ, List.getElem?_cons_zero]; try rfl)
    go_simp
    refine (refOver_any _ _).mono ?_
    rintro e w' ⟨rfl, rfl⟩
    go_wp2_with fail
    refine hK.out _ _ ?_ (fun hHeld => ?_)
    · (first | exact ⟨a0_, a1_, a2_, a3_, b0_, b1_, b2_, b3_⟩ | go_keep)
    clear hK K
    (try simp only [Act.put, List.setIfInBounds_toArray, List.set_cons_zero, List.set_cons_succ])
    refine wpAnyH_ready (rs := [31]) (by kernel_rfl) (by simp) ?_
    refine' AllReadyH.cons (i := 31) ?ho31x339 (fun K hK => ?st31x339) AllReadyH.nil
    case ho31x339 => (simp only [List.getElem?_toArray, List.getElem?_cons_succ, List.getElem?_cons_zero]; try rfl)
    go_simp
    refine (refNum2_any _ _ k0 b0 n0 s0 k1 b1 n1 s1 _ _ _ (by exact heap_at _ _ _ (by first | rfl | simp)) hs0H.out hs1H.out).mono ?_
    rw [hrH.out, refVm]
    rintro e w' ⟨rfl, hb'⟩
    replace hb := chainB (B := W0.heap.size) (a := W0) (by go_grown) hb' (by have := hb.size; first | omega | (simp; done) | (simp; omega))
    clear hb' a0_ a1_ a2_ a3_ b0_ b1_ b2_ b3_ r0_ r1_ r2_ r3_ f0_ f1_ f2_ f3_ hz hs
    obtain ⟨a0_, a1_, a2_, a3_⟩ := (hAH.out.below hb).cells; obtain ⟨b0_, b1_, b2_, b3_⟩ := (hBH.out.below hb).cells; obtain ⟨r0_, r1_, r2_, r3_⟩ := (hRH.out.below hb).cells; obtain ⟨f0_, f1_, f2_, f3_⟩ := (hRH.out.below hb).free; have hz := Nat.lt_of_lt_of_le hz0.out hb.size; have hs := hb.size
    go_wp2_with fail
    refine hK.out _ _ ?_ (fun hHeld => ?_)
    · (first | exact ⟨a0_, a1_, a2_, a3_, b0_, b1_, b2_, b3_⟩ | go_keep)
    clear hK K
    (try simp only [Act.put, List.setIfInBounds_toArray, List.set_cons_zero, List.set_cons_succ])
    refine' wpAnyH_take (i := 32) (v := .agg #[.int .u8 k', .bool b', .int .i64 n', .string s']) ?hi32x340 ?hs32x340 ?hf32x340 ?hr32x340 ?hQ32x340 ?hy32x340 ?hS32x340 ?rest32x340
    case hi32x340 => (simp only [List.getElem?_toArray, List.getElem?_cons_succ, List.getElem?_cons_zero]; try rfl)
    case hs32x340 => kernel_rfl
    case hf32x340 => kernel_rfl
    case hr32x340 => kernel_rfl
    case hQ32x340 => exact fun _ _ _ h => h
    case hy32x340 => exact Or.inl ⟨by rfl, by (intro w hSw; (try dsimp only at hSw); go_simp)⟩
    case hS32x340 => assumption
    (try simp only [Act.put, List.setIfInBounds_toArray, List.set_cons_zero, List.set_cons_succ])
    refine' wpAnyH_take (i := 33) (v := .int .i64 x) ?hi33x341 ?hs33x341 ?hf33x341 ?hr33x341 ?hQ33x341 ?hy33x341 ?hS33x341 ?rest33x341
    case hi33x341 => (simp only [List.getElem?_toArray, List.getElem?_cons_succ, List.getElem?_cons_zero]; try rfl)
    case hs33x341 => kernel_rfl
    case hf33x341 => kernel_rfl
    case hr33x341 => kernel_rfl
    case hQ33x341 => exact fun _ _ _ h => h
    case hy33x341 => exact Or.inl ⟨by rfl, by (intro w hSw; (try dsimp only at hSw); go_simp)⟩
    case hS33x341 => assumption
    (try simp only [Act.put, List.setIfInBounds_toArray, List.set_cons_zero, List.set_cons_succ])
    have hne1 : ¬ (w.heap.size + 1 + 1 = w.heap.size) := by omega
    have hne2 : ¬ (w.heap.size = w.heap.size + 1 + 1) := by omega
    refine wpAnyH_ready (rs := [34]) (by kernel_rfl) (by simp) ?_
    refine' AllReadyH.cons (i := 34) ?ho34x342 (fun K hK => ?st34x342) AllReadyH.nil
    case ho34x342 => (simp only [List.getElem?_toArray, List.getElem?_cons_succ, List.getElem?_cons_zero]; try rfl)
    go_simp
    refine hK.out _ _ ?_ (fun hHeld => ?_)
    · (first | exact ⟨a0_, a1_, a2_, a3_, b0_, b1_, b2_, b3_⟩ | go_keep)
    clear hK K
    (try simp only [Act.put, List.setIfInBounds_toArray, List.set_cons_zero, List.set_cons_succ])
    refine' wpAnyH_take (i := 35) (v := .int .i64 x) ?hi35x343 ?hs35x343 ?hf35x343 ?hr35x343 ?hQ35x343 ?hy35x343 ?hS35x343 ?rest35x343
    case hi35x343 => (simp only [List.getElem?_toArray, List.getElem?_cons_succ, List.getElem?_cons_zero]; try rfl)
    case hs35x343 => kernel_rfl
    case hf35x343 => kernel_rfl
    case hr35x343 => kernel_rfl
    case hQ35x343 => exact fun _ _ _ h => h
    case hy35x343 => exact Or.inl ⟨by rfl, by (intro w hSw; (try dsimp only at hSw); go_simp)⟩
    case hS35x343 => assumption
    (try simp only [Act.put, List.setIfInBounds_toArray, List.set_cons_zero, List.set_cons_succ])
    refine wpAnyH_done (by kernel_rfl) ?_ _
    refine NoPanic.normal ?_
    clear hne1 hne2
    go_wp2
    refine bodyPost_ret (v := .tuple #[.agg #[.int .u8 k', .bool b', .int .i64 n', .string s'], .int .i64 x]) (by simp [results, Tryd.results33, go_sem, r0_, r1_, r2_, r3_, hz]) rfl ⟨rfl, ?_⟩
    have hbw := hwWH.out.trans (hb.mono hwWH.out.size)
    clear hb
    go_grown

set_option maxRecDepth 100000 in
set_option maxHeartbeats 8000000 in
theorem refSub_pnn (k0 : Int) (b0 : Bool) (n0 : Int) (s0 : ByteArray) (k1 : Int) (b1 : Bool) (n1 : Int) (s1 : ByteArray) (w : World) (hs0 : s0.size ≤ 140737488355328) (hs1 : s1.size ≤ 140737488355328) (ha : 0 ≤ n0) (hb1 : n1 < 0) (hc : wrap64 (n0 - n1) < 0) :
    Calls Tryd.prog 33 #[.agg #[.int .u8 k0, .bool b0, .int .i64 n0, .string s0], .agg #[.int .u8 k1, .bool b1, .int .i64 n1, .string s1]] w fun e w' => e = .returned (refV (numS ⟨k0, b0, n0, s0⟩ ⟨k1, b1, n1, s1⟩ (wrap64 (n0 - n1), 10))) ∧ Below w.heap.size w w' := by
  obtain ⟨r, hr⟩ : ∃ r, numS ⟨k0, b0, n0, s0⟩ ⟨k1, b1, n1, s1⟩ (wrap64 (n0 - n1), 10) = r := ⟨_, rfl⟩
  rw [hr]
  obtain ⟨⟨k', b', n', s'⟩, x⟩ := r
  rw [refVm]
  have hrH := Lib.hid hr
  clear hr
  have hs0H := Lib.hid hs0; have hs1H := Lib.hid hs1
  obtain ⟨m, hm⟩ : ∃ m, wrap64 (n0 - n1) = m := ⟨_, rfl⟩
  have hm' : IntKind.i64.wrap (n0 - n1) = m := by rw [wrap_is, hm]
  rw [hm] at hrH
  rw [hm] at hc
  have d1 : decide (n0 ≥ 0) = true := by simp; omega
  have d2 : decide (n0 < 0) = false := by simp; omega
  have d3 : decide (n1 < 0) = true := by simp; omega
  have d4 : decide (m < 0) = true := by simp; omega
  have d5 : decide (m ≥ 0) = false := by simp; omega
  obtain ⟨W0, hW0, hwW, hA, hB, hR, hzz⟩ := boxes2 w k0 b0 n0 s0 k1 b1 n1 s1
  have hAH := Lib.hid hA; have hBH := Lib.hid hB; have hRH := Lib.hid hR; have hz0 := Lib.hid hzz; have hwWH := Lib.hid hwW
  clear hA hB hR hzz hwW hs0 hs1
  have hb := Below.refl W0.heap.size W0
  obtain ⟨a0_, a1_, a2_, a3_⟩ := (hAH.out.below hb).cells; obtain ⟨b0_, b1_, b2_, b3_⟩ := (hBH.out.below hb).cells; obtain ⟨r0_, r1_, r2_, r3_⟩ := (hRH.out.below hb).cells; obtain ⟨f0_, f1_, f2_, f3_⟩ := (hRH.out.below hb).free; have hz := Nat.lt_of_lt_of_le hz0.out hb.size; have hs := hb.size
  go_enter Tryd.func33, Tryd.ntmps33
  go_wp2_with fail
  refine wp_region_noPanic ?_
  refine wp_region_held_drew (S := (fun w' => w'.cell? ⟨w.heap.size, 0, none⟩ = some (.int .u8 k0) ∧ w'.cell? ⟨w.heap.size, 1, none⟩ = some (.bool b0) ∧ w'.cell? ⟨w.heap.size, 2, none⟩ = some (.int .i64 n0) ∧ w'.cell? ⟨w.heap.size, 3, none⟩ = some (.string s0) ∧ w'.cell? ⟨w.heap.size + 1, 0, none⟩ = some (.int .u8 k1) ∧ w'.cell? ⟨w.heap.size + 1, 1, none⟩ = some (.bool b1) ∧ w'.cell? ⟨w.heap.size + 1, 2, none⟩ = some (.int .i64 n1) ∧ w'.cell? ⟨w.heap.size + 1, 3, none⟩ = some (.string s1))) (by kernel_rfl) (by first | exact ⟨a0_, a1_, a2_, a3_, b0_, b1_, b2_, b3_⟩ | go_keep) (fun hHeld => ?_)
  refine' wpAnyH_take (i := 0) (v := .int .i64 m) ?hi0x344 ?hs0x344 ?hf0x344 ?hr0x344 ?hQ0x344 ?hy0x344 ?hS0x344 ?rest0x344
  case hi0x344 => (simp only [List.getElem?_toArray, List.getElem?_cons_succ, List.getElem?_cons_zero]; try rfl)
  case hs0x344 => kernel_rfl
  case hf0x344 => kernel_rfl
  case hr0x344 => kernel_rfl
  case hQ0x344 => exact fun _ _ _ h => h
  case hy0x344 => exact Or.inl ⟨by rfl, by (intro w hSw; (try dsimp only at hSw); go_simp)⟩
  case hS0x344 => assumption
  (try simp only [Act.put, List.setIfInBounds_toArray, List.set_cons_zero, List.set_cons_succ])
  refine' wpAnyH_take (i := 1) (v := .pointer (some ⟨w.heap.size, 2, none⟩)) ?hi1x345 ?hs1x345 ?hf1x345 ?hr1x345 ?hQ1x345 ?hy1x345 ?hS1x345 ?rest1x345
  case hi1x345 => (simp only [List.getElem?_toArray, List.getElem?_cons_succ, List.getElem?_cons_zero]; try rfl)
  case hs1x345 => kernel_rfl
  case hf1x345 => kernel_rfl
  case hr1x345 => kernel_rfl
  case hQ1x345 => exact fun _ _ _ h => h
  case hy1x345 => exact Or.inl ⟨by rfl, by (intro w hSw; (try dsimp only at hSw); go_simp)⟩
  case hS1x345 => assumption
  (try simp only [Act.put, List.setIfInBounds_toArray, List.set_cons_zero, List.set_cons_succ])
  refine' wpAnyH_take (i := 2) (v := .int .i64 n0) ?hi2x346 ?hs2x346 ?hf2x346 ?hr2x346 ?hQ2x346 ?hy2x346 ?hS2x346 ?rest2x346
  case hi2x346 => (simp only [List.getElem?_toArray, List.getElem?_cons_succ, List.getElem?_cons_zero]; try rfl)
  case hs2x346 => kernel_rfl
  case hf2x346 => kernel_rfl
  case hr2x346 => kernel_rfl
  case hQ2x346 => exact fun _ _ _ h => h
  case hy2x346 => exact Or.inl ⟨by rfl, by (intro w hSw; (try dsimp only at hSw); go_simp)⟩
  case hS2x346 => assumption
  (try simp only [Act.put, List.setIfInBounds_toArray, List.set_cons_zero, List.set_cons_succ])
  refine' wpAnyH_take (i := 3) (v := .bool true) ?hi3x347 ?hs3x347 ?hf3x347 ?hr3x347 ?hQ3x347 ?hy3x347 ?hS3x347 ?rest3x347
  case hi3x347 => (simp only [List.getElem?_toArray, List.getElem?_cons_succ, List.getElem?_cons_zero]; try rfl)
  case hs3x347 => kernel_rfl
  case hf3x347 => kernel_rfl
  case hr3x347 => kernel_rfl
  case hQ3x347 => exact fun _ _ _ h => h
  case hy3x347 => exact Or.inl ⟨by rfl, by (intro w hSw; (try dsimp only at hSw); go_simp)⟩
  case hS3x347 => assumption
  (try simp only [Act.put, List.setIfInBounds_toArray, List.set_cons_zero, List.set_cons_succ])
  refine' wpAnyH_take (i := 4) (v := .bool true) ?hi4x348 ?hs4x348 ?hf4x348 ?hr4x348 ?hQ4x348 ?hy4x348 ?hS4x348 ?rest4x348
  case hi4x348 => (simp only [List.getElem?_toArray, List.getElem?_cons_succ, List.getElem?_cons_zero]; try rfl)
  case hs4x348 => kernel_rfl
  case hf4x348 => kernel_rfl
  case hr4x348 => kernel_rfl
  case hQ4x348 => exact fun _ _ _ h => h
  case hy4x348 => exact Or.inl ⟨by rfl, by (intro w hSw; (try dsimp only at hSw); go_simp)⟩
  case hS4x348 => assumption
  (try simp only [Act.put, List.setIfInBounds_toArray, List.set_cons_zero, List.set_cons_succ])
  refine' wpAnyH_take (i := 5) (v := .pointer (some ⟨w.heap.size + 1, 2, none⟩)) ?hi5x349 ?hs5x349 ?hf5x349 ?hr5x349 ?hQ5x349 ?hy5x349 ?hS5x349 ?rest5x349
  case hi5x349 => (simp only [List.getElem?_toArray, List.getElem?_cons_succ, List.getElem?_cons_zero]; try rfl)
  case hs5x349 => kernel_rfl
  case hf5x349 => kernel_rfl
  case hr5x349 => kernel_rfl
  case hQ5x349 => exact fun _ _ _ h => h
  case hy5x349 => exact Or.inl ⟨by rfl, by (intro w hSw; (try dsimp only at hSw); go_simp)⟩
  case hS5x349 => assumption
  (try simp only [Act.put, List.setIfInBounds_toArray, List.set_cons_zero, List.set_cons_succ])
  refine' wpAnyH_take (i := 6) (v := .int .i64 n1) ?hi6x350 ?hs6x350 ?hf6x350 ?hr6x350 ?hQ6x350 ?hy6x350 ?hS6x350 ?rest6x350
  case hi6x350 => (simp only [List.getElem?_toArray, List.getElem?_cons_succ, List.getElem?_cons_zero]; try rfl)
  case hs6x350 => kernel_rfl
  case hf6x350 => kernel_rfl
  case hr6x350 => kernel_rfl
  case hQ6x350 => exact fun _ _ _ h => h
  case hy6x350 => exact Or.inl ⟨by rfl, by (intro w hSw; (try dsimp only at hSw); go_simp)⟩
  case hS6x350 => assumption
  (try simp only [Act.put, List.setIfInBounds_toArray, List.set_cons_zero, List.set_cons_succ])
  refine' wpAnyH_take (i := 7) (v := .bool true) ?hi7x351 ?hs7x351 ?hf7x351 ?hr7x351 ?hQ7x351 ?hy7x351 ?hS7x351 ?rest7x351
  case hi7x351 => (simp only [List.getElem?_toArray, List.getElem?_cons_succ, List.getElem?_cons_zero]; try rfl)
  case hs7x351 => kernel_rfl
  case hf7x351 => kernel_rfl
  case hr7x351 => kernel_rfl
  case hQ7x351 => exact fun _ _ _ h => h
  case hy7x351 => exact Or.inl ⟨by rfl, by (intro w hSw; (try dsimp only at hSw); go_simp)⟩
  case hS7x351 => assumption
  (try simp only [Act.put, List.setIfInBounds_toArray, List.set_cons_zero, List.set_cons_succ])
  refine' wpAnyH_take (i := 8) (v := .bool true) ?hi8x352 ?hs8x352 ?hf8x352 ?hr8x352 ?hQ8x352 ?hy8x352 ?hS8x352 ?rest8x352
  case hi8x352 => (simp only [List.getElem?_toArray, List.getElem?_cons_succ, List.getElem?_cons_zero]; try rfl)
  case hs8x352 => kernel_rfl
  case hf8x352 => kernel_rfl
  case hr8x352 => kernel_rfl
  case hQ8x352 => exact fun _ _ _ h => h
  case hy8x352 => exact Or.inl ⟨by rfl, by (intro w hSw; (try dsimp only at hSw); go_simp)⟩
  case hS8x352 => assumption
  (try simp only [Act.put, List.setIfInBounds_toArray, List.set_cons_zero, List.set_cons_succ])
  refine' wpAnyH_take (i := 9) (v := .bool true) ?hi9x353 ?hs9x353 ?hf9x353 ?hr9x353 ?hQ9x353 ?hy9x353 ?hS9x353 ?rest9x353
  case hi9x353 => (simp only [List.getElem?_toArray, List.getElem?_cons_succ, List.getElem?_cons_zero]; try rfl)
  case hs9x353 => kernel_rfl
  case hf9x353 => kernel_rfl
  case hr9x353 => kernel_rfl
  case hQ9x353 => exact fun _ _ _ h => h
  case hy9x353 => exact Or.inl ⟨by rfl, by (intro w hSw; (try dsimp only at hSw); go_simp)⟩
  case hS9x353 => assumption
  (try simp only [Act.put, List.setIfInBounds_toArray, List.set_cons_zero, List.set_cons_succ])
  refine' wpAnyH_take (i := 10) (v := .int .i64 m) ?hi10x354 ?hs10x354 ?hf10x354 ?hr10x354 ?hQ10x354 ?hy10x354 ?hS10x354 ?rest10x354
  case hi10x354 => (simp only [List.getElem?_toArray, List.getElem?_cons_succ, List.getElem?_cons_zero]; try rfl)
  case hs10x354 => kernel_rfl
  case hf10x354 => kernel_rfl
  case hr10x354 => kernel_rfl
  case hQ10x354 => exact fun _ _ _ h => h
  case hy10x354 => exact Or.inl ⟨by rfl, by (intro w hSw; (try dsimp only at hSw); go_simp)⟩
  case hS10x354 => assumption
  (try simp only [Act.put, List.setIfInBounds_toArray, List.set_cons_zero, List.set_cons_succ])
  refine' wpAnyH_take (i := 11) (v := .bool true) ?hi11x355 ?hs11x355 ?hf11x355 ?hr11x355 ?hQ11x355 ?hy11x355 ?hS11x355 ?rest11x355
  case hi11x355 => (simp only [List.getElem?_toArray, List.getElem?_cons_succ, List.getElem?_cons_zero]; try rfl)
  case hs11x355 => kernel_rfl
  case hf11x355 => kernel_rfl
  case hr11x355 => kernel_rfl
  case hQ11x355 => exact fun _ _ _ h => h
  case hy11x355 => exact Or.inl ⟨by rfl, by (intro w hSw; (try dsimp only at hSw); go_simp)⟩
  case hS11x355 => assumption
  (try simp only [Act.put, List.setIfInBounds_toArray, List.set_cons_zero, List.set_cons_succ])
  refine' wpAnyH_take (i := 12) (v := .bool true) ?hi12x356 ?hs12x356 ?hf12x356 ?hr12x356 ?hQ12x356 ?hy12x356 ?hS12x356 ?rest12x356
  case hi12x356 => (simp only [List.getElem?_toArray, List.getElem?_cons_succ, List.getElem?_cons_zero]; try rfl)
  case hs12x356 => kernel_rfl
  case hf12x356 => kernel_rfl
  case hr12x356 => kernel_rfl
  case hQ12x356 => exact fun _ _ _ h => h
  case hy12x356 => exact Or.inl ⟨by rfl, by (intro w hSw; (try dsimp only at hSw); go_simp)⟩
  case hS12x356 => assumption
  (try simp only [Act.put, List.setIfInBounds_toArray, List.set_cons_zero, List.set_cons_succ])
  refine' wpAnyH_take (i := 13) (v := .bool true) ?hi13x357 ?hs13x357 ?hf13x357 ?hr13x357 ?hQ13x357 ?hy13x357 ?hS13x357 ?rest13x357
  case hi13x357 => (simp only [List.getElem?_toArray, List.getElem?_cons_succ, List.getElem?_cons_zero]; try rfl)
  case hs13x357 => kernel_rfl
  case hf13x357 => kernel_rfl
  case hr13x357 => kernel_rfl
  case hQ13x357 => exact fun _ _ _ h => h
  case hy13x357 => exact Or.inl ⟨by rfl, by (intro w hSw; (try dsimp only at hSw); go_simp)⟩
  case hS13x357 => assumption
  (try simp only [Act.put, List.setIfInBounds_toArray, List.set_cons_zero, List.set_cons_succ])
  refine' wpAnyH_take (i := 14) (v := undef) ?hi14x358 ?hs14x358 ?hf14x358 ?hr14x358 ?hQ14x358 ?hy14x358 ?hS14x358 ?rest14x358
  case hi14x358 => (simp only [List.getElem?_toArray, List.getElem?_cons_succ, List.getElem?_cons_zero]; try rfl)
  case hs14x358 => kernel_rfl
  case hf14x358 => kernel_rfl
  case hr14x358 => kernel_rfl
  case hQ14x358 => exact fun _ _ _ h => h
  case hy14x358 => exact Or.inr ⟨by rfl, rfl⟩
  case hS14x358 => assumption
  (try simp only [Act.put, List.setIfInBounds_toArray, List.set_cons_zero, List.set_cons_succ])
  refine' wpAnyH_take (i := 15) (v := undef) ?hi15x359 ?hs15x359 ?hf15x359 ?hr15x359 ?hQ15x359 ?hy15x359 ?hS15x359 ?rest15x359
  case hi15x359 => (simp only [List.getElem?_toArray, List.getElem?_cons_succ, List.getElem?_cons_zero]; try rfl)
  case hs15x359 => kernel_rfl
  case hf15x359 => kernel_rfl
  case hr15x359 => kernel_rfl
  case hQ15x359 => exact fun _ _ _ h => h
  case hy15x359 => exact Or.inr ⟨by rfl, rfl⟩
  case hS15x359 => assumption
  (try simp only [Act.put, List.setIfInBounds_toArray, List.set_cons_zero, List.set_cons_succ])
  refine' wpAnyH_take (i := 16) (v := undef) ?hi16x360 ?hs16x360 ?hf16x360 ?hr16x360 ?hQ16x360 ?hy16x360 ?hS16x360 ?rest16x360
  case hi16x360 => (simp only [List.getElem?_toArray, List.getElem?_cons_succ, List.getElem?_cons_zero]; try rfl)
  case hs16x360 => kernel_rfl
  case hf16x360 => kernel_rfl
  case hr16x360 => kernel_rfl
  case hQ16x360 => exact fun _ _ _ h => h
  case hy16x360 => exact Or.inr ⟨by rfl, rfl⟩
  case hS16x360 => assumption
  (try simp only [Act.put, List.setIfInBounds_toArray, List.set_cons_zero, List.set_cons_succ])
  refine' wpAnyH_take (i := 17) (v := undef) ?hi17x361 ?hs17x361 ?hf17x361 ?hr17x361 ?hQ17x361 ?hy17x361 ?hS17x361 ?rest17x361
  case hi17x361 => (simp only [List.getElem?_toArray, List.getElem?_cons_succ, List.getElem?_cons_zero]; try rfl)
  case hs17x361 => kernel_rfl
  case hf17x361 => kernel_rfl
  case hr17x361 => kernel_rfl
  case hQ17x361 => exact fun _ _ _ h => h
  case hy17x361 => exact Or.inr ⟨by rfl, rfl⟩
  case hS17x361 => assumption
  (try simp only [Act.put, List.setIfInBounds_toArray, List.set_cons_zero, List.set_cons_succ])
  refine' wpAnyH_take (i := 18) (v := undef) ?hi18x362 ?hs18x362 ?hf18x362 ?hr18x362 ?hQ18x362 ?hy18x362 ?hS18x362 ?rest18x362
  case hi18x362 => (simp only [List.getElem?_toArray, List.getElem?_cons_succ, List.getElem?_cons_zero]; try rfl)
  case hs18x362 => kernel_rfl
  case hf18x362 => kernel_rfl
  case hr18x362 => kernel_rfl
  case hQ18x362 => exact fun _ _ _ h => h
  case hy18x362 => exact Or.inr ⟨by rfl, rfl⟩
  case hS18x362 => assumption
  (try simp only [Act.put, List.setIfInBounds_toArray, List.set_cons_zero, List.set_cons_succ])
  refine' wpAnyH_take (i := 19) (v := undef) ?hi19x363 ?hs19x363 ?hf19x363 ?hr19x363 ?hQ19x363 ?hy19x363 ?hS19x363 ?rest19x363
  case hi19x363 => (simp only [List.getElem?_toArray, List.getElem?_cons_succ, List.getElem?_cons_zero]; try rfl)
  case hs19x363 => kernel_rfl
  case hf19x363 => kernel_rfl
  case hr19x363 => kernel_rfl
  case hQ19x363 => exact fun _ _ _ h => h
  case hy19x363 => exact Or.inr ⟨by rfl, rfl⟩
  case hS19x363 => assumption
  (try simp only [Act.put, List.setIfInBounds_toArray, List.set_cons_zero, List.set_cons_succ])
  refine' wpAnyH_take (i := 20) (v := undef) ?hi20x364 ?hs20x364 ?hf20x364 ?hr20x364 ?hQ20x364 ?hy20x364 ?hS20x364 ?rest20x364
  case hi20x364 => (simp only [List.getElem?_toArray, List.getElem?_cons_succ, List.getElem?_cons_zero]; try rfl)
  case hs20x364 => kernel_rfl
  case hf20x364 => kernel_rfl
  case hr20x364 => kernel_rfl
  case hQ20x364 => exact fun _ _ _ h => h
  case hy20x364 => exact Or.inr ⟨by rfl, rfl⟩
  case hS20x364 => assumption
  (try simp only [Act.put, List.setIfInBounds_toArray, List.set_cons_zero, List.set_cons_succ])
  refine' wpAnyH_take (i := 21) (v := undef) ?hi21x365 ?hs21x365 ?hf21x365 ?hr21x365 ?hQ21x365 ?hy21x365 ?hS21x365 ?rest21x365
  case hi21x365 => (simp only [List.getElem?_toArray, List.getElem?_cons_succ, List.getElem?_cons_zero]; try rfl)
  case hs21x365 => kernel_rfl
  case hf21x365 => kernel_rfl
  case hr21x365 => kernel_rfl
  case hQ21x365 => exact fun _ _ _ h => h
  case hy21x365 => exact Or.inr ⟨by rfl, rfl⟩
  case hS21x365 => assumption
  (try simp only [Act.put, List.setIfInBounds_toArray, List.set_cons_zero, List.set_cons_succ])
  refine' wpAnyH_take (i := 22) (v := undef) ?hi22x366 ?hs22x366 ?hf22x366 ?hr22x366 ?hQ22x366 ?hy22x366 ?hS22x366 ?rest22x366
  case hi22x366 => (simp only [List.getElem?_toArray, List.getElem?_cons_succ, List.getElem?_cons_zero]; try rfl)
  case hs22x366 => kernel_rfl
  case hf22x366 => kernel_rfl
  case hr22x366 => kernel_rfl
  case hQ22x366 => exact fun _ _ _ h => h
  case hy22x366 => exact Or.inr ⟨by rfl, rfl⟩
  case hS22x366 => assumption
  (try simp only [Act.put, List.setIfInBounds_toArray, List.set_cons_zero, List.set_cons_succ])
  refine' wpAnyH_take (i := 23) (v := undef) ?hi23x367 ?hs23x367 ?hf23x367 ?hr23x367 ?hQ23x367 ?hy23x367 ?hS23x367 ?rest23x367
  case hi23x367 => (simp only [List.getElem?_toArray, List.getElem?_cons_succ, List.getElem?_cons_zero]; try rfl)
  case hs23x367 => kernel_rfl
  case hf23x367 => kernel_rfl
  case hr23x367 => kernel_rfl
  case hQ23x367 => exact fun _ _ _ h => h
  case hy23x367 => exact Or.inr ⟨by rfl, rfl⟩
  case hS23x367 => assumption
  (try simp only [Act.put, List.setIfInBounds_toArray, List.set_cons_zero, List.set_cons_succ])
  refine' wpAnyH_take (i := 24) (v := undef) ?hi24x368 ?hs24x368 ?hf24x368 ?hr24x368 ?hQ24x368 ?hy24x368 ?hS24x368 ?rest24x368
  case hi24x368 => (simp only [List.getElem?_toArray, List.getElem?_cons_succ, List.getElem?_cons_zero]; try rfl)
  case hs24x368 => kernel_rfl
  case hf24x368 => kernel_rfl
  case hr24x368 => kernel_rfl
  case hQ24x368 => exact fun _ _ _ h => h
  case hy24x368 => exact Or.inr ⟨by rfl, rfl⟩
  case hS24x368 => assumption
  (try simp only [Act.put, List.setIfInBounds_toArray, List.set_cons_zero, List.set_cons_succ])
  refine' wpAnyH_take (i := 25) (v := undef) ?hi25x369 ?hs25x369 ?hf25x369 ?hr25x369 ?hQ25x369 ?hy25x369 ?hS25x369 ?rest25x369
  case hi25x369 => (simp only [List.getElem?_toArray, List.getElem?_cons_succ, List.getElem?_cons_zero]; try rfl)
  case hs25x369 => kernel_rfl
  case hf25x369 => kernel_rfl
  case hr25x369 => kernel_rfl
  case hQ25x369 => exact fun _ _ _ h => h
  case hy25x369 => exact Or.inr ⟨by rfl, rfl⟩
  case hS25x369 => assumption
  (try simp only [Act.put, List.setIfInBounds_toArray, List.set_cons_zero, List.set_cons_succ])
  refine' wpAnyH_take (i := 26) (v := .bool true) ?hi26x370 ?hs26x370 ?hf26x370 ?hr26x370 ?hQ26x370 ?hy26x370 ?hS26x370 ?rest26x370
  case hi26x370 => (simp only [List.getElem?_toArray, List.getElem?_cons_succ, List.getElem?_cons_zero]; try rfl)
  case hs26x370 => kernel_rfl
  case hf26x370 => kernel_rfl
  case hr26x370 => kernel_rfl
  case hQ26x370 => exact fun _ _ _ h => h
  case hy26x370 => exact Or.inl ⟨by rfl, by (intro w hSw; (try dsimp only at hSw); go_simp)⟩
  case hS26x370 => assumption
  (try simp only [Act.put, List.setIfInBounds_toArray, List.set_cons_zero, List.set_cons_succ])
  refine' wpAnyH_take (i := 28) (v := .agg #[.int .u8 k0, .bool b0, .int .i64 n0, .string s0]) ?hi28x371 ?hs28x371 ?hf28x371 ?hr28x371 ?hQ28x371 ?hy28x371 ?hS28x371 ?rest28x371
  case hi28x371 => (simp only [List.getElem?_toArray, List.getElem?_cons_succ, List.getElem?_cons_zero]; try rfl)
  case hs28x371 => kernel_rfl
  case hf28x371 => kernel_rfl
  case hr28x371 => kernel_rfl
  case hQ28x371 => exact fun _ _ _ h => h
  case hy28x371 => exact Or.inl ⟨by rfl, by (intro w hSw; (try dsimp only at hSw); go_simp)⟩
  case hS28x371 => assumption
  (try simp only [Act.put, List.setIfInBounds_toArray, List.set_cons_zero, List.set_cons_succ])
  refine' wpAnyH_take (i := 29) (v := .agg #[.int .u8 k1, .bool b1, .int .i64 n1, .string s1]) ?hi29x372 ?hs29x372 ?hf29x372 ?hr29x372 ?hQ29x372 ?hy29x372 ?hS29x372 ?rest29x372
  case hi29x372 => (simp only [List.getElem?_toArray, List.getElem?_cons_succ, List.getElem?_cons_zero]; try rfl)
  case hs29x372 => kernel_rfl
  case hf29x372 => kernel_rfl
  case hr29x372 => kernel_rfl
  case hQ29x372 => exact fun _ _ _ h => h
  case hy29x372 => exact Or.inl ⟨by rfl, by (intro w hSw; (try dsimp only at hSw); go_simp)⟩
  case hS29x372 => assumption
  (try simp only [Act.put, List.setIfInBounds_toArray, List.set_cons_zero, List.set_cons_succ])
  refine wpAnyH_ready (rs := [27, 30]) (by kernel_rfl) (by simp) ?_
  refine' AllReadyH.cons (i := 27) ?ho27x373 (fun K hK => ?st27x373) (AllReadyH.cons (i := 30) ?ho30x374 (fun K hK => ?st30x374) AllReadyH.nil)
  case ho27x373 => (simp only [List.getElem?_toArray, List.getElem?_cons_succ, List.getElem?_cons_zero]; try rfl)
  case ho30x374 => (simp only [List.getElem?_toArray, List.getElem?_cons_succ, List.getElem?_cons_zero]; try rfl)
  case st27x373 =>
    go_simp
    refine (refOver_any _ _).mono ?_
    rintro e w' ⟨rfl, rfl⟩
    go_wp2_with fail
    refine hK.out _ _ ?_ (fun hHeld => ?_)
    · (first | exact ⟨a0_, a1_, a2_, a3_, b0_, b1_, b2_, b3_⟩ | go_keep)
    clear hK K
    (try simp only [Act.put, List.setIfInBounds_toArray, List.set_cons_zero, List.set_cons_succ])
    refine wpAnyH_ready (rs := [30]) (by kernel_rfl) (by simp) ?_
    refine' AllReadyH.cons (i := 30) ?ho30x375 (fun K hK => ?st30x375) AllReadyH.nil
    case ho30x375 => (simp only [List.getElem?_toArray, List.getElem?_cons_succ, List.getElem?_cons_zero]; try rfl)
    go_simp
    refine hK.out _ _ ?_ (fun hHeld => ?_)
    · (first | exact ⟨a0_, a1_, a2_, a3_, b0_, b1_, b2_, b3_⟩ | go_keep)
    clear hK K
    (try simp only [Act.put, List.setIfInBounds_toArray, List.set_cons_zero, List.set_cons_succ])
    refine wpAnyH_ready (rs := [31]) (by kernel_rfl) (by simp) ?_
    refine' AllReadyH.cons (i := 31) ?ho31x376 (fun K hK => ?st31x376) AllReadyH.nil
    case ho31x376 => (simp only [List.getElem?_toArray, List.getElem?_cons_succ, List.getElem?_cons_zero]; try rfl)
    go_simp
    refine (refNum2_any _ _ k0 b0 n0 s0 k1 b1 n1 s1 _ _ _ (by exact heap_at _ _ _ (by first | rfl | simp)) hs0H.out hs1H.out).mono ?_
    rw [hrH.out, refVm]
    rintro e w' ⟨rfl, hb'⟩
    replace hb := chainB (B := W0.heap.size) (a := W0) (by go_grown) hb' (by have := hb.size; first | omega | (simp; done) | (simp; omega))
    clear hb' a0_ a1_ a2_ a3_ b0_ b1_ b2_ b3_ r0_ r1_ r2_ r3_ f0_ f1_ f2_ f3_ hz hs
    obtain ⟨a0_, a1_, a2_, a3_⟩ := (hAH.out.below hb).cells; obtain ⟨b0_, b1_, b2_, b3_⟩ := (hBH.out.below hb).cells; obtain ⟨r0_, r1_, r2_, r3_⟩ := (hRH.out.below hb).cells; obtain ⟨f0_, f1_, f2_, f3_⟩ := (hRH.out.below hb).free; have hz := Nat.lt_of_lt_of_le hz0.out hb.size; have hs := hb.size
    go_wp2_with fail
    refine hK.out _ _ ?_ (fun hHeld => ?_)
    · (first | exact ⟨a0_, a1_, a2_, a3_, b0_, b1_, b2_, b3_⟩ | go_keep)
    clear hK K
    (try simp only [Act.put, List.setIfInBounds_toArray, List.set_cons_zero, List.set_cons_succ])
    refine' wpAnyH_take (i := 32) (v := .agg #[.int .u8 k', .bool b', .int .i64 n', .string s']) ?hi32x377 ?hs32x377 ?hf32x377 ?hr32x377 ?hQ32x377 ?hy32x377 ?hS32x377 ?rest32x377
    case hi32x377 => (simp only [List.getElem?_toArray, List.getElem?_cons_succ, List.getElem?_cons_zero]; try rfl)
    case hs32x377 => kernel_rfl
    case hf32x377 => kernel_rfl
    case hr32x377 => kernel_rfl
    case hQ32x377 => exact fun _ _ _ h => h
    case hy32x377 => exact Or.inl ⟨by rfl, by (intro w hSw; (try dsimp only at hSw); go_simp)⟩
    case hS32x377 => assumption
    (try simp only [Act.put, List.setIfInBounds_toArray, List.set_cons_zero, List.set_cons_succ])
    refine' wpAnyH_take (i := 33) (v := .int .i64 x) ?hi33x378 ?hs33x378 ?hf33x378 ?hr33x378 ?hQ33x378 ?hy33x378 ?hS33x378 ?rest33x378
    case hi33x378 => (simp only [List.getElem?_toArray, List.getElem?_cons_succ, List.getElem?_cons_zero]; try rfl)
    case hs33x378 => kernel_rfl
    case hf33x378 => kernel_rfl
    case hr33x378 => kernel_rfl
    case hQ33x378 => exact fun _ _ _ h => h
    case hy33x378 => exact Or.inl ⟨by rfl, by (intro w hSw; (try dsimp only at hSw); go_simp)⟩
    case hS33x378 => assumption
    (try simp only [Act.put, List.setIfInBounds_toArray, List.set_cons_zero, List.set_cons_succ])
    have hne1 : ¬ (w.heap.size + 1 + 1 = w.heap.size) := by omega
    have hne2 : ¬ (w.heap.size = w.heap.size + 1 + 1) := by omega
    refine wpAnyH_ready (rs := [34]) (by kernel_rfl) (by simp) ?_
    refine' AllReadyH.cons (i := 34) ?ho34x379 (fun K hK => ?st34x379) AllReadyH.nil
    case ho34x379 => (simp only [List.getElem?_toArray, List.getElem?_cons_succ, List.getElem?_cons_zero]; try rfl)
    go_simp
    refine hK.out _ _ ?_ (fun hHeld => ?_)
    · (first | exact ⟨a0_, a1_, a2_, a3_, b0_, b1_, b2_, b3_⟩ | go_keep)
    clear hK K
    (try simp only [Act.put, List.setIfInBounds_toArray, List.set_cons_zero, List.set_cons_succ])
    refine' wpAnyH_take (i := 35) (v := .int .i64 x) ?hi35x380 ?hs35x380 ?hf35x380 ?hr35x380 ?hQ35x380 ?hy35x380 ?hS35x380 ?rest35x380
    case hi35x380 => (simp only [List.getElem?_toArray, List.getElem?_cons_succ, List.getElem?_cons_zero]; try rfl)
    case hs35x380 => kernel_rfl
    case hf35x380 => kernel_rfl
    case hr35x380 => kernel_rfl
    case hQ35x380 => exact fun _ _ _ h => h
    case hy35x380 => exact Or.inl ⟨by rfl, by (intro w hSw; (try dsimp only at hSw); go_simp)⟩
    case hS35x380 => assumption
    (try simp only [Act.put, List.setIfInBounds_toArray, List.set_cons_zero, List.set_cons_succ])
    refine wpAnyH_done (by kernel_rfl) ?_ _
    refine NoPanic.normal ?_
    clear hne1 hne2
    go_wp2
    refine bodyPost_ret (v := .tuple #[.agg #[.int .u8 k', .bool b', .int .i64 n', .string s'], .int .i64 x]) (by simp [results, Tryd.results33, go_sem, r0_, r1_, r2_, r3_, hz]) rfl ⟨rfl, ?_⟩
    have hbw := hwWH.out.trans (hb.mono hwWH.out.size)
    clear hb
    go_grown
  case st30x374 =>
    go_simp
    refine hK.out _ _ ?_ (fun hHeld => ?_)
    · (first | exact ⟨a0_, a1_, a2_, a3_, b0_, b1_, b2_, b3_⟩ | go_keep)
    clear hK K
    (try simp only [Act.put, List.setIfInBounds_toArray, List.set_cons_zero, List.set_cons_succ])
    refine wpAnyH_ready (rs := [27]) (by kernel_rfl) (by simp) ?_
    refine' AllReadyH.cons (i := 27) ?ho27x381 (fun K hK => ?st27x381) AllReadyH.nil
    case ho27x381 => (simp only [List.getElem?_toArray, List.getElem?_cons_succ, List.getElem?_cons_zero]; try rfl)
    go_simp
    refine (refOver_any _ _).mono ?_
    rintro e w' ⟨rfl, rfl⟩
    go_wp2_with fail
    refine hK.out _ _ ?_ (fun hHeld => ?_)
    · (first | exact ⟨a0_, a1_, a2_, a3_, b0_, b1_, b2_, b3_⟩ | go_keep)
    clear hK K
    (try simp only [Act.put, List.setIfInBounds_toArray, List.set_cons_zero, List.set_cons_succ])
    refine wpAnyH_ready (rs := [31]) (by kernel_rfl) (by simp) ?_
    refine' AllReadyH.cons (i := 31) ?ho31x382 (fun K hK => ?st31x382) AllReadyH.nil
    case ho31x382 => (simp only [List.getElem?_toArray, List.getElem?_cons_succ, List.getElem?_cons_zero]; try rfl)
    go_simp
    refine (refNum2_any _ _ k0 b0 n0 s0 k1 b1 n1 s1 _ _ _ (by exact heap_at _ _ _ (by first | rfl | simp)) hs0H.out hs1H.out).mono ?_
    rw [hrH.out, refVm]
    rintro e w' ⟨rfl, hb'⟩
    replace hb := chainB (B := W0.heap.size) (a := W0) (by go_grown) hb' (by have := hb.size; first | omega | (simp; done) | (simp; omega))
    clear hb' a0_ a1_ a2_ a3_ b0_ b1_ b2_ b3_ r0_ r1_ r2_ r3_ f0_ f1_ f2_ f3_ hz hs
    obtain ⟨a0_, a1_, a2_, a3_⟩ := (hAH.out.below hb).cells; obtain ⟨b0_, b1_, b2_, b3_⟩ := (hBH.out.below hb).cells; obtain ⟨r0_, r1_, r2_, r3_⟩ := (hRH.out.below hb).cells; obtain ⟨f0_, f1_, f2_, f3_⟩ := (hRH.out.below hb).free; have hz := Nat.lt_of_lt_of_le hz0.out hb.size; have hs := hb.size
    go_wp2_with fail
    refine hK.out _ _ ?_ (fun hHeld => ?_)
    · (first | exact ⟨a0_, a1_, a2_, a3_, b0_, b1_, b2_, b3_⟩ | go_keep)
    clear hK K
    (try simp only [Act.put, List.setIfInBounds_toArray, List.set_cons_zero, List.set_cons_succ])
    refine' wpAnyH_take (i := 32) (v := .agg #[.int .u8 k', .bool b', .int .i64 n', .string s']) ?hi32x383 ?hs32x383 ?hf32x383 ?hr32x383 ?hQ32x383 ?hy32x383 ?hS32x383 ?rest32x383
    case hi32x383 => (simp only [List.getElem?_toArray, List.getElem?_cons_succ, List.getElem?_cons_zero]; try rfl)
    case hs32x383 => kernel_rfl
    case hf32x383 => kernel_rfl
    case hr32x383 => kernel_rfl
    case hQ32x383 => exact fun _ _ _ h => h
    case hy32x383 => exact Or.inl ⟨by rfl, by (intro w hSw; (try dsimp only at hSw); go_simp)⟩
    case hS32x383 => assumption
    (try simp only [Act.put, List.setIfInBounds_toArray, List.set_cons_zero, List.set_cons_succ])
    refine' wpAnyH_take (i := 33) (v := .int .i64 x) ?hi33x384 ?hs33x384 ?hf33x384 ?hr33x384 ?hQ33x384 ?hy33x384 ?hS33x384 ?rest33x384
    case hi33x384 => (simp only [List.getElem?_toArray, List.getElem?_cons_succ, List.getElem?_cons_zero]; try rfl)
    case hs33x384 => kernel_rfl
    case hf33x384 => kernel_rfl
    case hr33x384 => kernel_rfl
    case hQ33x384 => exact fun _ _ _ h => h
    case hy33x384 => exact Or.inl ⟨by rfl, by (intro w hSw; (try dsimp only at hSw); go_simp)⟩
    case hS33x384 => assumption
    (try simp only [Act.put, List.setIfInBounds_toArray, List.set_cons_zero, List.set_cons_succ])
    have hne1 : ¬ (w.heap.size + 1 + 1 = w.heap.size) := by omega
    have hne2 : ¬ (w.heap.size = w.heap.size + 1 + 1) := by omega
    refine wpAnyH_ready (rs := [34]) (by kernel_rfl) (by simp) ?_
    refine' AllReadyH.cons (i := 34) ?ho34x385 (fun K hK => ?st34x385) AllReadyH.nil
    case ho34x385 => (simp only [List.getElem?_toArray, List.getElem?_cons_succ, List.getElem?_cons_zero]; try rfl)
    go_simp
    refine hK.out _ _ ?_ (fun hHeld => ?_)
    · (first | exact ⟨a0_, a1_, a2_, a3_, b0_, b1_, b2_, b3_⟩ | go_keep)
    clear hK K
    (try simp only [Act.put, List.setIfInBounds_toArray, List.set_cons_zero, List.set_cons_succ])
    refine' wpAnyH_take (i := 35) (v := .int .i64 x) ?hi35x386 ?hs35x386 ?hf35x386 ?hr35x386 ?hQ35x386 ?hy35x386 ?hS35x386 ?rest35x386
    case hi35x386 => (simp only [List.getElem?_toArray, List.getElem?_cons_succ, List.getElem?_cons_zero]; try rfl)
    case hs35x386 => kernel_rfl
    case hf35x386 => kernel_rfl
    case hr35x386 => kernel_rfl
    case hQ35x386 => exact fun _ _ _ h => h
    case hy35x386 => exact Or.inl ⟨by rfl, by (intro w hSw; (try dsimp only at hSw); go_simp)⟩
    case hS35x386 => assumption
    (try simp only [Act.put, List.setIfInBounds_toArray, List.set_cons_zero, List.set_cons_succ])
    refine wpAnyH_done (by kernel_rfl) ?_ _
    refine NoPanic.normal ?_
    clear hne1 hne2
    go_wp2
    refine bodyPost_ret (v := .tuple #[.agg #[.int .u8 k', .bool b', .int .i64 n', .string s'], .int .i64 x]) (by simp [results, Tryd.results33, go_sem, r0_, r1_, r2_, r3_, hz]) rfl ⟨rfl, ?_⟩
    have hbw := hwWH.out.trans (hb.mono hwWH.out.size)
    clear hb
    go_grown

end Go.Proofs.YtoolojfbjpnllaaDoor
