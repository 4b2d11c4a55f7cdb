/-
  What the document's own Add answers, at this program, part 2. Condition: the texts have at most 2^47 bytes, the numbers are 64-bit numbers.
-/
import Derived.Test.YtoolojfbjpnllaaDoorRefNeg
import Derived.Test.YtoolojfbjpnllaaDoorOps
import Derived.Deep.RegionHeld3
set_option linter.unusedVariables false
set_option linter.unusedSimpArgs false
namespace Go.Proofs.YtoolojfbjpnllaaDoor
open Go.RowKit Go.Lib

set_option maxRecDepth 100000 in
set_option maxHeartbeats 8000000 in
theorem refAdd_nnn (k0 : Int) (b0 : Bool) (n0 : Int) (s0 : ByteArray) (k1 : Int) (b1 : Bool) (n1 : Int) (s1 : ByteArray) (w : World) (hs0 : s0.size ≤ 140737488355328) (hs1 : s1.size ≤ 140737488355328) (ha : n0 < 0) (hb1 : n1 < 0) (hc : wrap64 (n0 + n1) < 0) :
    Calls Tryd.prog 32 #[.agg #[.int .u8 k0, .bool b0, .int .i64 n0, .string s0], .agg #[.int .u8 k1, .bool b1, .int .i64 n1, .string s1]] w fun e w' => e = .returned (refV (numS ⟨k0, b0, n0, s0⟩ ⟨k1, b1, n1, s1⟩ (wrap64 (n0 + n1), 0))) ∧ Below w.heap.size w w' := by
  obtain ⟨r, hr⟩ : ∃ r, numS ⟨k0, b0, n0, s0⟩ ⟨k1, b1, n1, s1⟩ (wrap64 (n0 + n1), 0) = r := ⟨_, rfl⟩
  rw [hr]
  obtain ⟨⟨k', b', n', s'⟩, x⟩ := r
  rw [refVm]
  have hrH := Lib.hid hr
  clear hr
  have hs0H := Lib.hid hs0; have hs1H := Lib.hid hs1
  obtain ⟨m, hm⟩ : ∃ m, wrap64 (n0 + n1) = m := ⟨_, rfl⟩
  have hm' : IntKind.i64.wrap (n0 + n1) = m := by rw [wrap_is, hm]
  rw [hm] at hrH
  rw [hm] at hc
  have d1 : decide (n0 ≥ 0) = false := by simp; omega
  have d2 : decide (n0 < 0) = true := by simp; omega
  have d3 : decide (n1 < 0) = true := by simp; omega
  have d4 : decide (m < 0) = true := by simp; omega
  have d5 : decide (m ≥ 0) = false := by simp; omega
  obtain ⟨W0, hW0, hwW, hA, hB, hR, hzz⟩ := boxes2 w k0 b0 n0 s0 k1 b1 n1 s1
  have hAH := Lib.hid hA; have hBH := Lib.hid hB; have hRH := Lib.hid hR; have hz0 := Lib.hid hzz; have hwWH := Lib.hid hwW
  clear hA hB hR hzz hwW hs0 hs1
  have hb := Below.refl W0.heap.size W0
  obtain ⟨a0_, a1_, a2_, a3_⟩ := (hAH.out.below hb).cells; obtain ⟨b0_, b1_, b2_, b3_⟩ := (hBH.out.below hb).cells; obtain ⟨r0_, r1_, r2_, r3_⟩ := (hRH.out.below hb).cells; obtain ⟨f0_, f1_, f2_, f3_⟩ := (hRH.out.below hb).free; have hz := Nat.lt_of_lt_of_le hz0.out hb.size; have hs := hb.size
  go_enter Tryd.func32, Tryd.ntmps32
  go_wp2_with fail
  refine wp_region_noPanic ?_
  refine wp_region_held_drew (S := (fun w' => w'.cell? ⟨w.heap.size, 0, none⟩ = some (.int .u8 k0) ∧ w'.cell? ⟨w.heap.size, 1, none⟩ = some (.bool b0) ∧ w'.cell? ⟨w.heap.size, 2, none⟩ = some (.int .i64 n0) ∧ w'.cell? ⟨w.heap.size, 3, none⟩ = some (.string s0) ∧ w'.cell? ⟨w.heap.size + 1, 0, none⟩ = some (.int .u8 k1) ∧ w'.cell? ⟨w.heap.size + 1, 1, none⟩ = some (.bool b1) ∧ w'.cell? ⟨w.heap.size + 1, 2, none⟩ = some (.int .i64 n1) ∧ w'.cell? ⟨w.heap.size + 1, 3, none⟩ = some (.string s1))) (by kernel_rfl) (by first | exact ⟨a0_, a1_, a2_, a3_, b0_, b1_, b2_, b3_⟩ | go_keep) (fun hHeld => ?_)
  refine' wpAnyH_take (i := 0) (v := .int .i64 m) ?hi0x215 ?hs0x215 ?hf0x215 ?hr0x215 ?hQ0x215 ?hy0x215 ?hS0x215 ?rest0x215
  case hi0x215 => (simp only [List.getElem?_toArray, List.getElem?_cons_succ, List.getElem?_cons_zero]; try rfl)
  case hs0x215 => kernel_rfl
  case hf0x215 => kernel_rfl
  case hr0x215 => kernel_rfl
  case hQ0x215 => exact fun _ _ _ h => h
  case hy0x215 => exact Or.inl ⟨by rfl, by (intro w hSw; (try dsimp only at hSw); go_simp)⟩
  case hS0x215 => assumption
  (try simp only [Act.put, List.setIfInBounds_toArray, List.set_cons_zero, List.set_cons_succ])
  refine' wpAnyH_take (i := 1) (v := .pointer (some ⟨w.heap.size, 2, none⟩)) ?hi1x216 ?hs1x216 ?hf1x216 ?hr1x216 ?hQ1x216 ?hy1x216 ?hS1x216 ?rest1x216
  case hi1x216 => (simp only [List.getElem?_toArray, List.getElem?_cons_succ, List.getElem?_cons_zero]; try rfl)
  case hs1x216 => kernel_rfl
  case hf1x216 => kernel_rfl
  case hr1x216 => kernel_rfl
  case hQ1x216 => exact fun _ _ _ h => h
  case hy1x216 => exact Or.inl ⟨by rfl, by (intro w hSw; (try dsimp only at hSw); go_simp)⟩
  case hS1x216 => assumption
  (try simp only [Act.put, List.setIfInBounds_toArray, List.set_cons_zero, List.set_cons_succ])
  refine' wpAnyH_take (i := 2) (v := .int .i64 n0) ?hi2x217 ?hs2x217 ?hf2x217 ?hr2x217 ?hQ2x217 ?hy2x217 ?hS2x217 ?rest2x217
  case hi2x217 => (simp only [List.getElem?_toArray, List.getElem?_cons_succ, List.getElem?_cons_zero]; try rfl)
  case hs2x217 => kernel_rfl
  case hf2x217 => kernel_rfl
  case hr2x217 => kernel_rfl
  case hQ2x217 => exact fun _ _ _ h => h
  case hy2x217 => exact Or.inl ⟨by rfl, by (intro w hSw; (try dsimp only at hSw); go_simp)⟩
  case hS2x217 => assumption
  (try simp only [Act.put, List.setIfInBounds_toArray, List.set_cons_zero, List.set_cons_succ])
  refine' wpAnyH_take (i := 3) (v := .bool false) ?hi3x218 ?hs3x218 ?hf3x218 ?hr3x218 ?hQ3x218 ?hy3x218 ?hS3x218 ?rest3x218
  case hi3x218 => (simp only [List.getElem?_toArray, List.getElem?_cons_succ, List.getElem?_cons_zero]; try rfl)
  case hs3x218 => kernel_rfl
  case hf3x218 => kernel_rfl
  case hr3x218 => kernel_rfl
  case hQ3x218 => exact fun _ _ _ h => h
  case hy3x218 => exact Or.inl ⟨by rfl, by (intro w hSw; (try dsimp only at hSw); go_simp)⟩
  case hS3x218 => assumption
  (try simp only [Act.put, List.setIfInBounds_toArray, List.set_cons_zero, List.set_cons_succ])
  refine' wpAnyH_take (i := 4) (v := .bool false) ?hi4x219 ?hs4x219 ?hf4x219 ?hr4x219 ?hQ4x219 ?hy4x219 ?hS4x219 ?rest4x219
  case hi4x219 => (simp only [List.getElem?_toArray, List.getElem?_cons_succ, List.getElem?_cons_zero]; try rfl)
  case hs4x219 => kernel_rfl
  case hf4x219 => kernel_rfl
  case hr4x219 => kernel_rfl
  case hQ4x219 => exact fun _ _ _ h => h
  case hy4x219 => exact Or.inl ⟨by rfl, by (intro w hSw; (try dsimp only at hSw); go_simp)⟩
  case hS4x219 => assumption
  (try simp only [Act.put, List.setIfInBounds_toArray, List.set_cons_zero, List.set_cons_succ])
  refine' wpAnyH_take (i := 5) (v := undef) ?hi5x220 ?hs5x220 ?hf5x220 ?hr5x220 ?hQ5x220 ?hy5x220 ?hS5x220 ?rest5x220
  case hi5x220 => (simp only [List.getElem?_toArray, List.getElem?_cons_succ, List.getElem?_cons_zero]; try rfl)
  case hs5x220 => kernel_rfl
  case hf5x220 => kernel_rfl
  case hr5x220 => kernel_rfl
  case hQ5x220 => exact fun _ _ _ h => h
  case hy5x220 => exact Or.inr ⟨by rfl, rfl⟩
  case hS5x220 => assumption
  (try simp only [Act.put, List.setIfInBounds_toArray, List.set_cons_zero, List.set_cons_succ])
  refine' wpAnyH_take (i := 6) (v := undef) ?hi6x221 ?hs6x221 ?hf6x221 ?hr6x221 ?hQ6x221 ?hy6x221 ?hS6x221 ?rest6x221
  case hi6x221 => (simp only [List.getElem?_toArray, List.getElem?_cons_succ, List.getElem?_cons_zero]; try rfl)
  case hs6x221 => kernel_rfl
  case hf6x221 => kernel_rfl
  case hr6x221 => kernel_rfl
  case hQ6x221 => exact fun _ _ _ h => h
  case hy6x221 => exact Or.inr ⟨by rfl, rfl⟩
  case hS6x221 => assumption
  (try simp only [Act.put, List.setIfInBounds_toArray, List.set_cons_zero, List.set_cons_succ])
  refine' wpAnyH_take (i := 7) (v := undef) ?hi7x222 ?hs7x222 ?hf7x222 ?hr7x222 ?hQ7x222 ?hy7x222 ?hS7x222 ?rest7x222
  case hi7x222 => (simp only [List.getElem?_toArray, List.getElem?_cons_succ, List.getElem?_cons_zero]; try rfl)
  case hs7x222 => kernel_rfl
  case hf7x222 => kernel_rfl
  case hr7x222 => kernel_rfl
  case hQ7x222 => exact fun _ _ _ h => h
  case hy7x222 => exact Or.inr ⟨by rfl, rfl⟩
  case hS7x222 => assumption
  (try simp only [Act.put, List.setIfInBounds_toArray, List.set_cons_zero, List.set_cons_succ])
  refine' wpAnyH_take (i := 8) (v := .bool false) ?hi8x223 ?hs8x223 ?hf8x223 ?hr8x223 ?hQ8x223 ?hy8x223 ?hS8x223 ?rest8x223
  case hi8x223 => (simp only [List.getElem?_toArray, List.getElem?_cons_succ, List.getElem?_cons_zero]; try rfl)
  case hs8x223 => kernel_rfl
  case hf8x223 => kernel_rfl
  case hr8x223 => kernel_rfl
  case hQ8x223 => exact fun _ _ _ h => h
  case hy8x223 => exact Or.inl ⟨by rfl, by (intro w hSw; (try dsimp only at hSw); go_simp)⟩
  case hS8x223 => assumption
  (try simp only [Act.put, List.setIfInBounds_toArray, List.set_cons_zero, List.set_cons_succ])
  refine' wpAnyH_take (i := 9) (v := .bool false) ?hi9x224 ?hs9x224 ?hf9x224 ?hr9x224 ?hQ9x224 ?hy9x224 ?hS9x224 ?rest9x224
  case hi9x224 => (simp only [List.getElem?_toArray, List.getElem?_cons_succ, List.getElem?_cons_zero]; try rfl)
  case hs9x224 => kernel_rfl
  case hf9x224 => kernel_rfl
  case hr9x224 => kernel_rfl
  case hQ9x224 => exact fun _ _ _ h => h
  case hy9x224 => exact Or.inl ⟨by rfl, by (intro w hSw; (try dsimp only at hSw); go_simp)⟩
  case hS9x224 => assumption
  (try simp only [Act.put, List.setIfInBounds_toArray, List.set_cons_zero, List.set_cons_succ])
  refine' wpAnyH_take (i := 10) (v := undef) ?hi10x225 ?hs10x225 ?hf10x225 ?hr10x225 ?hQ10x225 ?hy10x225 ?hS10x225 ?rest10x225
  case hi10x225 => (simp only [List.getElem?_toArray, List.getElem?_cons_succ, List.getElem?_cons_zero]; try rfl)
  case hs10x225 => kernel_rfl
  case hf10x225 => kernel_rfl
  case hr10x225 => kernel_rfl
  case hQ10x225 => exact fun _ _ _ h => h
  case hy10x225 => exact Or.inr ⟨by rfl, rfl⟩
  case hS10x225 => assumption
  (try simp only [Act.put, List.setIfInBounds_toArray, List.set_cons_zero, List.set_cons_succ])
  refine' wpAnyH_take (i := 11) (v := undef) ?hi11x226 ?hs11x226 ?hf11x226 ?hr11x226 ?hQ11x226 ?hy11x226 ?hS11x226 ?rest11x226
  case hi11x226 => (simp only [List.getElem?_toArray, List.getElem?_cons_succ, List.getElem?_cons_zero]; try rfl)
  case hs11x226 => kernel_rfl
  case hf11x226 => kernel_rfl
  case hr11x226 => kernel_rfl
  case hQ11x226 => exact fun _ _ _ h => h
  case hy11x226 => exact Or.inr ⟨by rfl, rfl⟩
  case hS11x226 => assumption
  (try simp only [Act.put, List.setIfInBounds_toArray, List.set_cons_zero, List.set_cons_succ])
  refine' wpAnyH_take (i := 12) (v := .bool false) ?hi12x227 ?hs12x227 ?hf12x227 ?hr12x227 ?hQ12x227 ?hy12x227 ?hS12x227 ?rest12x227
  case hi12x227 => (simp only [List.getElem?_toArray, List.getElem?_cons_succ, List.getElem?_cons_zero]; try rfl)
  case hs12x227 => kernel_rfl
  case hf12x227 => kernel_rfl
  case hr12x227 => kernel_rfl
  case hQ12x227 => exact fun _ _ _ h => h
  case hy12x227 => exact Or.inl ⟨by rfl, by (intro w hSw; (try dsimp only at hSw); go_simp)⟩
  case hS12x227 => assumption
  (try simp only [Act.put, List.setIfInBounds_toArray, List.set_cons_zero, List.set_cons_succ])
  refine' wpAnyH_take (i := 13) (v := .bool false) ?hi13x228 ?hs13x228 ?hf13x228 ?hr13x228 ?hQ13x228 ?hy13x228 ?hS13x228 ?rest13x228
  case hi13x228 => (simp only [List.getElem?_toArray, List.getElem?_cons_succ, List.getElem?_cons_zero]; try rfl)
  case hs13x228 => kernel_rfl
  case hf13x228 => kernel_rfl
  case hr13x228 => kernel_rfl
  case hQ13x228 => exact fun _ _ _ h => h
  case hy13x228 => exact Or.inl ⟨by rfl, by (intro w hSw; (try dsimp only at hSw); go_simp)⟩
  case hS13x228 => assumption
  (try simp only [Act.put, List.setIfInBounds_toArray, List.set_cons_zero, List.set_cons_succ])
  refine' wpAnyH_take (i := 14) (v := .pointer (some ⟨w.heap.size, 2, none⟩)) ?hi14x229 ?hs14x229 ?hf14x229 ?hr14x229 ?hQ14x229 ?hy14x229 ?hS14x229 ?rest14x229
  case hi14x229 => (simp only [List.getElem?_toArray, List.getElem?_cons_succ, List.getElem?_cons_zero]; try rfl)
  case hs14x229 => kernel_rfl
  case hf14x229 => kernel_rfl
  case hr14x229 => kernel_rfl
  case hQ14x229 => exact fun _ _ _ h => h
  case hy14x229 => exact Or.inl ⟨by rfl, by (intro w hSw; (try dsimp only at hSw); go_simp)⟩
  case hS14x229 => assumption
  (try simp only [Act.put, List.setIfInBounds_toArray, List.set_cons_zero, List.set_cons_succ])
  refine' wpAnyH_take (i := 15) (v := .int .i64 n0) ?hi15x230 ?hs15x230 ?hf15x230 ?hr15x230 ?hQ15x230 ?hy15x230 ?hS15x230 ?rest15x230
  case hi15x230 => (simp only [List.getElem?_toArray, List.getElem?_cons_succ, List.getElem?_cons_zero]; try rfl)
  case hs15x230 => kernel_rfl
  case hf15x230 => kernel_rfl
  case hr15x230 => kernel_rfl
  case hQ15x230 => exact fun _ _ _ h => h
  case hy15x230 => exact Or.inl ⟨by rfl, by (intro w hSw; (try dsimp only at hSw); go_simp)⟩
  case hS15x230 => assumption
  (try simp only [Act.put, List.setIfInBounds_toArray, List.set_cons_zero, List.set_cons_succ])
  refine' wpAnyH_take (i := 16) (v := .bool true) ?hi16x231 ?hs16x231 ?hf16x231 ?hr16x231 ?hQ16x231 ?hy16x231 ?hS16x231 ?rest16x231
  case hi16x231 => (simp only [List.getElem?_toArray, List.getElem?_cons_succ, List.getElem?_cons_zero]; try rfl)
  case hs16x231 => kernel_rfl
  case hf16x231 => kernel_rfl
  case hr16x231 => kernel_rfl
  case hQ16x231 => exact fun _ _ _ h => h
  case hy16x231 => exact Or.inl ⟨by rfl, by (intro w hSw; (try dsimp only at hSw); go_simp)⟩
  case hS16x231 => assumption
  (try simp only [Act.put, List.setIfInBounds_toArray, List.set_cons_zero, List.set_cons_succ])
  refine' wpAnyH_take (i := 17) (v := .bool true) ?hi17x232 ?hs17x232 ?hf17x232 ?hr17x232 ?hQ17x232 ?hy17x232 ?hS17x232 ?rest17x232
  case hi17x232 => (simp only [List.getElem?_toArray, List.getElem?_cons_succ, List.getElem?_cons_zero]; try rfl)
  case hs17x232 => kernel_rfl
  case hf17x232 => kernel_rfl
  case hr17x232 => kernel_rfl
  case hQ17x232 => exact fun _ _ _ h => h
  case hy17x232 => exact Or.inl ⟨by rfl, by (intro w hSw; (try dsimp only at hSw); go_simp)⟩
  case hS17x232 => assumption
  (try simp only [Act.put, List.setIfInBounds_toArray, List.set_cons_zero, List.set_cons_succ])
  refine' wpAnyH_take (i := 18) (v := .pointer (some ⟨w.heap.size + 1, 2, none⟩)) ?hi18x233 ?hs18x233 ?hf18x233 ?hr18x233 ?hQ18x233 ?hy18x233 ?hS18x233 ?rest18x233
  case hi18x233 => (simp only [List.getElem?_toArray, List.getElem?_cons_succ, List.getElem?_cons_zero]; try rfl)
  case hs18x233 => kernel_rfl
  case hf18x233 => kernel_rfl
  case hr18x233 => kernel_rfl
  case hQ18x233 => exact fun _ _ _ h => h
  case hy18x233 => exact Or.inl ⟨by rfl, by (intro w hSw; (try dsimp only at hSw); go_simp)⟩
  case hS18x233 => assumption
  (try simp only [Act.put, List.setIfInBounds_toArray, List.set_cons_zero, List.set_cons_succ])
  refine' wpAnyH_take (i := 19) (v := .int .i64 n1) ?hi19x234 ?hs19x234 ?hf19x234 ?hr19x234 ?hQ19x234 ?hy19x234 ?hS19x234 ?rest19x234
  case hi19x234 => (simp only [List.getElem?_toArray, List.getElem?_cons_succ, List.getElem?_cons_zero]; try rfl)
  case hs19x234 => kernel_rfl
  case hf19x234 => kernel_rfl
  case hr19x234 => kernel_rfl
  case hQ19x234 => exact fun _ _ _ h => h
  case hy19x234 => exact Or.inl ⟨by rfl, by (intro w hSw; (try dsimp only at hSw); go_simp)⟩
  case hS19x234 => assumption
  (try simp only [Act.put, List.setIfInBounds_toArray, List.set_cons_zero, List.set_cons_succ])
  refine' wpAnyH_take (i := 20) (v := .bool true) ?hi20x235 ?hs20x235 ?hf20x235 ?hr20x235 ?hQ20x235 ?hy20x235 ?hS20x235 ?rest20x235
  case hi20x235 => (simp only [List.getElem?_toArray, List.getElem?_cons_succ, List.getElem?_cons_zero]; try rfl)
  case hs20x235 => kernel_rfl
  case hf20x235 => kernel_rfl
  case hr20x235 => kernel_rfl
  case hQ20x235 => exact fun _ _ _ h => h
  case hy20x235 => exact Or.inl ⟨by rfl, by (intro w hSw; (try dsimp only at hSw); go_simp)⟩
  case hS20x235 => assumption
  (try simp only [Act.put, List.setIfInBounds_toArray, List.set_cons_zero, List.set_cons_succ])
  refine' wpAnyH_take (i := 21) (v := .bool true) ?hi21x236 ?hs21x236 ?hf21x236 ?hr21x236 ?hQ21x236 ?hy21x236 ?hS21x236 ?rest21x236
  case hi21x236 => (simp only [List.getElem?_toArray, List.getElem?_cons_succ, List.getElem?_cons_zero]; try rfl)
  case hs21x236 => kernel_rfl
  case hf21x236 => kernel_rfl
  case hr21x236 => kernel_rfl
  case hQ21x236 => exact fun _ _ _ h => h
  case hy21x236 => exact Or.inl ⟨by rfl, by (intro w hSw; (try dsimp only at hSw); go_simp)⟩
  case hS21x236 => assumption
  (try simp only [Act.put, List.setIfInBounds_toArray, List.set_cons_zero, List.set_cons_succ])
  refine' wpAnyH_take (i := 22) (v := .bool true) ?hi22x237 ?hs22x237 ?hf22x237 ?hr22x237 ?hQ22x237 ?hy22x237 ?hS22x237 ?rest22x237
  case hi22x237 => (simp only [List.getElem?_toArray, List.getElem?_cons_succ, List.getElem?_cons_zero]; try rfl)
  case hs22x237 => kernel_rfl
  case hf22x237 => kernel_rfl
  case hr22x237 => kernel_rfl
  case hQ22x237 => exact fun _ _ _ h => h
  case hy22x237 => exact Or.inl ⟨by rfl, by (intro w hSw; (try dsimp only at hSw); go_simp)⟩
  case hS22x237 => assumption
  (try simp only [Act.put, List.setIfInBounds_toArray, List.set_cons_zero, List.set_cons_succ])
  refine' wpAnyH_take (i := 23) (v := .int .i64 m) ?hi23x238 ?hs23x238 ?hf23x238 ?hr23x238 ?hQ23x238 ?hy23x238 ?hS23x238 ?rest23x238
  case hi23x238 => (simp only [List.getElem?_toArray, List.getElem?_cons_succ, List.getElem?_cons_zero]; try rfl)
  case hs23x238 => kernel_rfl
  case hf23x238 => kernel_rfl
  case hr23x238 => kernel_rfl
  case hQ23x238 => exact fun _ _ _ h => h
  case hy23x238 => exact Or.inl ⟨by rfl, by (intro w hSw; (try dsimp only at hSw); go_simp)⟩
  case hS23x238 => assumption
  (try simp only [Act.put, List.setIfInBounds_toArray, List.set_cons_zero, List.set_cons_succ])
  refine' wpAnyH_take (i := 24) (v := .bool false) ?hi24x239 ?hs24x239 ?hf24x239 ?hr24x239 ?hQ24x239 ?hy24x239 ?hS24x239 ?rest24x239
  case hi24x239 => (simp only [List.getElem?_toArray, List.getElem?_cons_succ, List.getElem?_cons_zero]; try rfl)
  case hs24x239 => kernel_rfl
  case hf24x239 => kernel_rfl
  case hr24x239 => kernel_rfl
  case hQ24x239 => exact fun _ _ _ h => h
  case hy24x239 => exact Or.inl ⟨by rfl, by (intro w hSw; (try dsimp only at hSw); go_simp)⟩
  case hS24x239 => assumption
  (try simp only [Act.put, List.setIfInBounds_toArray, List.set_cons_zero, List.set_cons_succ])
  refine' wpAnyH_take (i := 25) (v := .bool false) ?hi25x240 ?hs25x240 ?hf25x240 ?hr25x240 ?hQ25x240 ?hy25x240 ?hS25x240 ?rest25x240
  case hi25x240 => (simp only [List.getElem?_toArray, List.getElem?_cons_succ, List.getElem?_cons_zero]; try rfl)
  case hs25x240 => kernel_rfl
  case hf25x240 => kernel_rfl
  case hr25x240 => kernel_rfl
  case hQ25x240 => exact fun _ _ _ h => h
  case hy25x240 => exact Or.inl ⟨by rfl, by (intro w hSw; (try dsimp only at hSw); go_simp)⟩
  case hS25x240 => assumption
  (try simp only [Act.put, List.setIfInBounds_toArray, List.set_cons_zero, List.set_cons_succ])
  refine' wpAnyH_take (i := 26) (v := .bool false) ?hi26x241 ?hs26x241 ?hf26x241 ?hr26x241 ?hQ26x241 ?hy26x241 ?hS26x241 ?rest26x241
  case hi26x241 => (simp only [List.getElem?_toArray, List.getElem?_cons_succ, List.getElem?_cons_zero]; try rfl)
  case hs26x241 => kernel_rfl
  case hf26x241 => kernel_rfl
  case hr26x241 => kernel_rfl
  case hQ26x241 => exact fun _ _ _ h => h
  case hy26x241 => exact Or.inl ⟨by rfl, by (intro w hSw; (try dsimp only at hSw); go_simp)⟩
  case hS26x241 => assumption
  (try simp only [Act.put, List.setIfInBounds_toArray, List.set_cons_zero, List.set_cons_succ])
  refine' wpAnyH_take (i := 28) (v := .agg #[.int .u8 k0, .bool b0, .int .i64 n0, .string s0]) ?hi28x242 ?hs28x242 ?hf28x242 ?hr28x242 ?hQ28x242 ?hy28x242 ?hS28x242 ?rest28x242
  case hi28x242 => (simp only [List.getElem?_toArray, List.getElem?_cons_succ, List.getElem?_cons_zero]; try rfl)
  case hs28x242 => kernel_rfl
  case hf28x242 => kernel_rfl
  case hr28x242 => kernel_rfl
  case hQ28x242 => exact fun _ _ _ h => h
  case hy28x242 => exact Or.inl ⟨by rfl, by (intro w hSw; (try dsimp only at hSw); go_simp)⟩
  case hS28x242 => assumption
  (try simp only [Act.put, List.setIfInBounds_toArray, List.set_cons_zero, List.set_cons_succ])
  refine' wpAnyH_take (i := 29) (v := .agg #[.int .u8 k1, .bool b1, .int .i64 n1, .string s1]) ?hi29x243 ?hs29x243 ?hf29x243 ?hr29x243 ?hQ29x243 ?hy29x243 ?hS29x243 ?rest29x243
  case hi29x243 => (simp only [List.getElem?_toArray, List.getElem?_cons_succ, List.getElem?_cons_zero]; try rfl)
  case hs29x243 => kernel_rfl
  case hf29x243 => kernel_rfl
  case hr29x243 => kernel_rfl
  case hQ29x243 => exact fun _ _ _ h => h
  case hy29x243 => exact Or.inl ⟨by rfl, by (intro w hSw; (try dsimp only at hSw); go_simp)⟩
  case hS29x243 => assumption
  (try simp only [Act.put, List.setIfInBounds_toArray, List.set_cons_zero, List.set_cons_succ])
  refine wpAnyH_ready (rs := [27, 30]) (by kernel_rfl) (by simp) ?_
  refine' AllReadyH.cons (i := 27) ?ho27x244 (fun K hK => ?st27x244) (AllReadyH.cons (i := 30) ?ho30x245 (fun K hK => ?st30x245) AllReadyH.nil)
  case ho27x244 => (simp only [List.getElem?_toArray, List.getElem?_cons_succ, List.getElem?_cons_zero]; try rfl)
  case ho30x245 => (simp only [List.getElem?_toArray, List.getElem?_cons_succ, List.getElem?_cons_zero]; try rfl)
  case st27x244 =>
    go_simp
    refine (refOver_any _ _).mono ?_
    rintro e w' ⟨rfl, rfl⟩
    go_wp2_with fail
    refine hK.out _ _ ?_ (fun hHeld => ?_)
    · (first | exact ⟨a0_, a1_, a2_, a3_, b0_, b1_, b2_, b3_⟩ | go_keep)
    clear hK K
    (try simp only [Act.put, List.setIfInBounds_toArray, List.set_cons_zero, List.set_cons_succ])
    refine wpAnyH_ready (rs := [30]) (by kernel_rfl) (by simp) ?_
    refine' AllReadyH.cons (i := 30) ?ho30x246 (fun K hK => ?st30x246) AllReadyH.nil
    case ho30x246 => (simp only [List.getElem?_toArray, List.getElem?_cons_succ, List.getElem?_cons_zero]; try rfl)
    go_simp
    refine hK.out _ _ ?_ (fun hHeld => ?_)
    · (first | exact ⟨a0_, a1_, a2_, a3_, b0_, b1_, b2_, b3_⟩ | go_keep)
    clear hK K
    (try simp only [Act.put, List.setIfInBounds_toArray, List.set_cons_zero, List.set_cons_succ])
    refine wpAnyH_ready (rs := [31]) (by kernel_rfl) (by simp) ?_
    refine' AllReadyH.cons (i := 31) ?ho31x247 (fun K hK => ?st31x247) AllReadyH.nil
    case ho31x247 => (simp only [List.getElem?_toArray, List.getElem?_cons_succ, List.getElem?_cons_zero]; try rfl)
    go_simp
    refine (refNum2_any _ _ k0 b0 n0 s0 k1 b1 n1 s1 _ _ _ (by exact heap_at _ _ _ (by first | rfl | simp)) hs0H.out hs1H.out).mono ?_
    rw [hrH.out, refVm]
    rintro e w' ⟨rfl, hb'⟩
    replace hb := chainB (B := W0.heap.size) (a := W0) (by go_grown) hb' (by have := hb.size; first | omega | (simp; done) | (simp; omega))
    clear hb' a0_ a1_ a2_ a3_ b0_ b1_ b2_ b3_ r0_ r1_ r2_ r3_ f0_ f1_ f2_ f3_ hz hs
    obtain ⟨a0_, a1_, a2_, a3_⟩ := (hAH.out.below hb).cells; obtain ⟨b0_, b1_, b2_, b3_⟩ := (hBH.out.below hb).cells; obtain ⟨r0_, r1_, r2_, r3_⟩ := (hRH.out.below hb).cells; obtain ⟨f0_, f1_, f2_, f3_⟩ := (hRH.out.below hb).free; have hz := Nat.lt_of_lt_of_le hz0.out hb.size; have hs := hb.size
    go_wp2_with fail
    refine hK.out _ _ ?_ (fun hHeld => ?_)
    · (first | exact ⟨a0_, a1_, a2_, a3_, b0_, b1_, b2_, b3_⟩ | go_keep)
    clear hK K
    (try simp only [Act.put, List.setIfInBounds_toArray, List.set_cons_zero, List.set_cons_succ])
    refine' wpAnyH_take (i := 32) (v := .agg #[.int .u8 k', .bool b', .int .i64 n', .string s']) ?hi32x248 ?hs32x248 ?hf32x248 ?hr32x248 ?hQ32x248 ?hy32x248 ?hS32x248 ?rest32x248
    case hi32x248 => (simp only [List.getElem?_toArray, List.getElem?_cons_succ, List.getElem?_cons_zero]; try rfl)
    case hs32x248 => kernel_rfl
    case hf32x248 => kernel_rfl
    case hr32x248 => kernel_rfl
    case hQ32x248 => exact fun _ _ _ h => h
    case hy32x248 => exact Or.inl ⟨by rfl, by (intro w hSw; (try dsimp only at hSw); go_simp)⟩
    case hS32x248 => assumption
    (try simp only [Act.put, List.setIfInBounds_toArray, List.set_cons_zero, List.set_cons_succ])
    refine' wpAnyH_take (i := 33) (v := .int .i64 x) ?hi33x249 ?hs33x249 ?hf33x249 ?hr33x249 ?hQ33x249 ?hy33x249 ?hS33x249 ?rest33x249
    case hi33x249 => (simp only [List.getElem?_toArray, List.getElem?_cons_succ, List.getElem?_cons_zero]; try rfl)
    case hs33x249 => kernel_rfl
    case hf33x249 => kernel_rfl
    case hr33x249 => kernel_rfl
    case hQ33x249 => exact fun _ _ _ h => h
    case hy33x249 => exact Or.inl ⟨by rfl, by (intro w hSw; (try dsimp only at hSw); go_simp)⟩
    case hS33x249 => assumption
    (try simp only [Act.put, List.setIfInBounds_toArray, List.set_cons_zero, List.set_cons_succ])
    have hne1 : ¬ (w.heap.size + 1 + 1 = w.heap.size) := by omega
    have hne2 : ¬ (w.heap.size = w.heap.size + 1 + 1) := by omega
    refine wpAnyH_ready (rs := [34]) (by kernel_rfl) (by simp) ?_
    refine' AllReadyH.cons (i := 34) ?ho34x250 (fun K hK => ?st34x250) AllReadyH.nil
    case ho34x250 => (simp only [List.getElem?_toArray, List.getElem?_cons_succ, List.getElem?_cons_zero]; try rfl)
    go_simp
    refine hK.out _ _ ?_ (fun hHeld => ?_)
    · (first | exact ⟨a0_, a1_, a2_, a3_, b0_, b1_, b2_, b3_⟩ | go_keep)
    clear hK K
    (try simp only [Act.put, List.setIfInBounds_toArray, List.set_cons_zero, List.set_cons_succ])
    refine' wpAnyH_take (i := 35) (v := .int .i64 x) ?hi35x251 ?hs35x251 ?hf35x251 ?hr35x251 ?hQ35x251 ?hy35x251 ?hS35x251 ?rest35x251
    case hi35x251 => (simp only [List.getElem?_toArray, List.getElem?_cons_succ, List.getElem?_cons_zero]; try rfl)
    case hs35x251 => kernel_rfl
    case hf35x251 => kernel_rfl
    case hr35x251 => kernel_rfl
    case hQ35x251 => exact fun _ _ _ h => h
    case hy35x251 => exact Or.inl ⟨by rfl, by (intro w hSw; (try dsimp only at hSw); go_simp)⟩
    case hS35x251 => assumption
    (try simp only [Act.put, List.setIfInBounds_toArray, List.set_cons_zero, List.set_cons_succ])
    refine wpAnyH_done (by kernel_rfl) ?_ _
    refine NoPanic.normal ?_
    clear hne1 hne2
    go_wp2
    refine bodyPost_ret (v := .tuple #[.agg #[.int .u8 k', .bool b', .int .i64 n', .string s'], .int .i64 x]) (by simp [results, Tryd.results32, go_sem, r0_, r1_, r2_, r3_, hz]) rfl ⟨rfl, ?_⟩
    have hbw := hwWH.out.trans (hb.mono hwWH.out.size)
    clear hb
    go_grown
  case st30x245 =>
    go_simp
    refine hK.out _ _ ?_ (fun hHeld => ?_)
    · (first | exact ⟨a0_, a1_, a2_, a3_, b0_, b1_, b2_, b3_⟩ | go_keep)
    clear hK K
    (try simp only [Act.put, List.setIfInBounds_toArray, List.set_cons_zero, List.set_cons_succ])
    refine wpAnyH_ready (rs := [27]) (by kernel_rfl) (by simp) ?_
    refine' AllReadyH.cons (i := 27) ?ho27x252 (fun K hK => ?st27x252) AllReadyH.nil
    case ho27x252 => (simp only [List.getElem?_toArray, List.getElem?_cons_succ, List.getElem?_cons_zero]; try rfl)
    go_simp
    refine (refOver_any _ _).mono ?_
    rintro e w' ⟨rfl, rfl⟩
    go_wp2_with fail
    refine hK.out _ _ ?_ (fun hHeld => ?_)
    · (first | exact ⟨a0_, a1_, a2_, a3_, b0_, b1_, b2_, b3_⟩ | go_keep)
    clear hK K
    (try simp only [Act.put, List.setIfInBounds_toArray, List.set_cons_zero, List.set_cons_succ])
    refine wpAnyH_ready (rs := [31]) (by kernel_rfl) (by simp) ?_
    refine' AllReadyH.cons (i := 31) ?ho31x253 (fun K hK => ?st31x253) AllReadyH.nil
    case ho31x253 => (simp only [List.getElem?_toArray, List.getElem?_cons_succ, List.getElem?_cons_zero]; try rfl)
    go_simp
    refine (refNum2_any _ _ k0 b0 n0 s0 k1 b1 n1 s1 _ _ _ (by exact heap_at _ _ _ (by first | rfl | simp)) hs0H.out hs1H.out).mono ?_
    rw [hrH.out, refVm]
    rintro e w' ⟨rfl, hb'⟩
    replace hb := chainB (B := W0.heap.size) (a := W0) (by go_grown) hb' (by have := hb.size; first | omega | (simp; done) | (simp; omega))
    clear hb' a0_ a1_ a2_ a3_ b0_ b1_ b2_ b3_ r0_ r1_ r2_ r3_ f0_ f1_ f2_ f3_ hz hs
    obtain ⟨a0_, a1_, a2_, a3_⟩ := (hAH.out.below hb).cells; obtain ⟨b0_, b1_, b2_, b3_⟩ := (hBH.out.below hb).cells; obtain ⟨r0_, r1_, r2_, r3_⟩ := (hRH.out.below hb).cells; obtain ⟨f0_, f1_, f2_, f3_⟩ := (hRH.out.below hb).free; have hz := Nat.lt_of_lt_of_le hz0.out hb.size; have hs := hb.size
    go_wp2_with fail
    refine hK.out _ _ ?_ (fun hHeld => ?_)
    · (first | exact ⟨a0_, a1_, a2_, a3_, b0_, b1_, b2_, b3_⟩ | go_keep)
    clear hK K
    (try simp only [Act.put, List.setIfInBounds_toArray, List.set_cons_zero, List.set_cons_succ])
    refine' wpAnyH_take (i := 32) (v := .agg #[.int .u8 k', .bool b', .int .i64 n', .string s']) ?hi32x254 ?hs32x254 ?hf32x254 ?hr32x254 ?hQ32x254 ?hy32x254 ?hS32x254 ?rest32x254
    case hi32x254 => (simp only [List.getElem?_toArray, List.getElem?_cons_succ, List.getElem?_cons_zero]; try rfl)
    case hs32x254 => kernel_rfl
    case hf32x254 => kernel_rfl
    case hr32x254 => kernel_rfl
    case hQ32x254 => exact fun _ _ _ h => h
    case hy32x254 => exact Or.inl ⟨by rfl, by (intro w hSw; (try dsimp only at hSw); go_simp)⟩
    case hS32x254 => assumption
    (try simp only [Act.put, List.setIfInBounds_toArray, List.set_cons_zero, List.set_cons_succ])
    refine' wpAnyH_take (i := 33) (v := .int .i64 x) ?hi33x255 ?hs33x255 ?hf33x255 ?hr33x255 ?hQ33x255 ?hy33x255 ?hS33x255 ?rest33x255
    case hi33x255 => (simp only [List.getElem?_toArray, List.getElem?_cons_succ, List.getElem?_cons_zero]; try rfl)
    case hs33x255 => kernel_rfl
    case hf33x255 => kernel_rfl
    case hr33x255 => kernel_rfl
    case hQ33x255 => exact fun _ _ _ h => h
    case hy33x255 => exact Or.inl ⟨by rfl, by (intro w hSw; (try dsimp only at hSw); go_simp)⟩
    case hS33x255 => assumption
    (try simp only [Act.put, List.setIfInBounds_toArray, List.set_cons_zero, List.set_cons_succ])
    have hne1 : ¬ (w.heap.size + 1 + 1 = w.heap.size) := by omega
    have hne2 : ¬ (w.heap.size = w.heap.size + 1 + 1) := by omega
    refine wpAnyH_ready (rs := [34]) (by kernel_rfl) (by simp) ?_
    refine' AllReadyH.cons (i := 34) ?ho34x256 (fun K hK => ?st34x256) AllReadyH.nil
    case ho34x256 => (simp only [List.getElem?_toArray, List.getElem?_cons_succ, List.getElem?_cons_zero]; try rfl)
    go_simp
    refine hK.out _ _ ?_ (fun hHeld => ?_)
    · (first | exact ⟨a0_, a1_, a2_, a3_, b0_, b1_, b2_, b3_⟩ | go_keep)
    clear hK K
    (try simp only [Act.put, List.setIfInBounds_toArray, List.set_cons_zero, List.set_cons_succ])
    refine' wpAnyH_take (i := 35) (v := .int .i64 x) ?hi35x257 ?hs35x257 ?hf35x257 ?hr35x257 ?hQ35x257 ?hy35x257 ?hS35x257 ?rest35x257
    case hi35x257 => (simp only [List.getElem?_toArray, List.getElem?_cons_succ, List.getElem?_cons_zero]; try rfl)
    case hs35x257 => kernel_rfl
    case hf35x257 => kernel_rfl
    case hr35x257 => kernel_rfl
    case hQ35x257 => exact fun _ _ _ h => h
    case hy35x257 => exact Or.inl ⟨by rfl, by (intro w hSw; (try dsimp only at hSw); go_simp)⟩
    case hS35x257 => assumption
    (try simp only [Act.put, List.setIfInBounds_toArray, List.set_cons_zero, List.set_cons_succ])
    refine wpAnyH_done (by kernel_rfl) ?_ _
    refine NoPanic.normal ?_
    clear hne1 hne2
    go_wp2
    refine bodyPost_ret (v := .tuple #[.agg #[.int .u8 k', .bool b', .int .i64 n', .string s'], .int .i64 x]) (by simp [results, Tryd.results32, go_sem, r0_, r1_, r2_, r3_, hz]) rfl ⟨rfl, ?_⟩
    have hbw := hwWH.out.trans (hb.mono hwWH.out.size)
    clear hb
    go_grown

set_option maxRecDepth 100000 in
set_option maxHeartbeats 8000000 in
theorem refAdd_np (k0 : Int) (b0 : Bool) (n0 : Int) (s0 : ByteArray) (k1 : Int) (b1 : Bool) (n1 : Int) (s1 : ByteArray) (w : World) (hs0 : s0.size ≤ 140737488355328) (hs1 : s1.size ≤ 140737488355328) (ha : n0 < 0) (hb1 : 0 ≤ n1) :
    Calls Tryd.prog 32 #[.agg #[.int .u8 k0, .bool b0, .int .i64 n0, .string s0], .agg #[.int .u8 k1, .bool b1, .int .i64 n1, .string s1]] w fun e w' => e = .returned (refV (numS ⟨k0, b0, n0, s0⟩ ⟨k1, b1, n1, s1⟩ (wrap64 (n0 + n1), 0))) ∧ Below w.heap.size w w' := by
  obtain ⟨r, hr⟩ : ∃ r, numS ⟨k0, b0, n0, s0⟩ ⟨k1, b1, n1, s1⟩ (wrap64 (n0 + n1), 0) = r := ⟨_, rfl⟩
  rw [hr]
  obtain ⟨⟨k', b', n', s'⟩, x⟩ := r
  rw [refVm]
  have hrH := Lib.hid hr
  clear hr
  have hs0H := Lib.hid hs0; have hs1H := Lib.hid hs1
  obtain ⟨m, hm⟩ : ∃ m, wrap64 (n0 + n1) = m := ⟨_, rfl⟩
  have hm' : IntKind.i64.wrap (n0 + n1) = m := by rw [wrap_is, hm]
  rw [hm] at hrH
  have d1 : decide (n0 ≥ 0) = false := by simp; omega
  have d2 : decide (n0 < 0) = true := by simp; omega
  have d3 : decide (n1 < 0) = false := by simp; omega
  obtain ⟨W0, hW0, hwW, hA, hB, hR, hzz⟩ := boxes2 w k0 b0 n0 s0 k1 b1 n1 s1
  have hAH := Lib.hid hA; have hBH := Lib.hid hB; have hRH := Lib.hid hR; have hz0 := Lib.hid hzz; have hwWH := Lib.hid hwW
  clear hA hB hR hzz hwW hs0 hs1
  have hb := Below.refl W0.heap.size W0
  obtain ⟨a0_, a1_, a2_, a3_⟩ := (hAH.out.below hb).cells; obtain ⟨b0_, b1_, b2_, b3_⟩ := (hBH.out.below hb).cells; obtain ⟨r0_, r1_, r2_, r3_⟩ := (hRH.out.below hb).cells; obtain ⟨f0_, f1_, f2_, f3_⟩ := (hRH.out.below hb).free; have hz := Nat.lt_of_lt_of_le hz0.out hb.size; have hs := hb.size
  go_enter Tryd.func32, Tryd.ntmps32
  go_wp2_with fail
  refine wp_region_noPanic ?_
  refine wp_region_held_drew (S := (fun w' => w'.cell? ⟨w.heap.size, 0, none⟩ = some (.int .u8 k0) ∧ w'.cell? ⟨w.heap.size, 1, none⟩ = some (.bool b0) ∧ w'.cell? ⟨w.heap.size, 2, none⟩ = some (.int .i64 n0) ∧ w'.cell? ⟨w.heap.size, 3, none⟩ = some (.string s0) ∧ w'.cell? ⟨w.heap.size + 1, 0, none⟩ = some (.int .u8 k1) ∧ w'.cell? ⟨w.heap.size + 1, 1, none⟩ = some (.bool b1) ∧ w'.cell? ⟨w.heap.size + 1, 2, none⟩ = some (.int .i64 n1) ∧ w'.cell? ⟨w.heap.size + 1, 3, none⟩ = some (.string s1))) (by kernel_rfl) (by first | exact ⟨a0_, a1_, a2_, a3_, b0_, b1_, b2_, b3_⟩ | go_keep) (fun hHeld => ?_)
  refine' wpAnyH_take (i := 0) (v := .int .i64 m) ?hi0x258 ?hs0x258 ?hf0x258 ?hr0x258 ?hQ0x258 ?hy0x258 ?hS0x258 ?rest0x258
  case hi0x258 => (simp only [List.getElem?_toArray, List.getElem?_cons_succ, List.getElem?_cons_zero]; try rfl)
  case hs0x258 => kernel_rfl
  case hf0x258 => kernel_rfl
  case hr0x258 => kernel_rfl
  case hQ0x258 => exact fun _ _ _ h => h
  case hy0x258 => exact Or.inl ⟨by rfl, by (intro w hSw; (try dsimp only at hSw); go_simp)⟩
  case hS0x258 => assumption
  (try simp only [Act.put, List.setIfInBounds_toArray, List.set_cons_zero, List.set_cons_succ])
  refine' wpAnyH_take (i := 1) (v := .pointer (some ⟨w.heap.size, 2, none⟩)) ?hi1x259 ?hs1x259 ?hf1x259 ?hr1x259 ?hQ1x259 ?hy1x259 ?hS1x259 ?rest1x259
  case hi1x259 => (simp only [List.getElem?_toArray, List.getElem?_cons_succ, List.getElem?_cons_zero]; try rfl)
  case hs1x259 => kernel_rfl
  case hf1x259 => kernel_rfl
  case hr1x259 => kernel_rfl
  case hQ1x259 => exact fun _ _ _ h => h
  case hy1x259 => exact Or.inl ⟨by rfl, by (intro w hSw; (try dsimp only at hSw); go_simp)⟩
  case hS1x259 => assumption
  (try simp only [Act.put, List.setIfInBounds_toArray, List.set_cons_zero, List.set_cons_succ])
  refine' wpAnyH_take (i := 2) (v := .int .i64 n0) ?hi2x260 ?hs2x260 ?hf2x260 ?hr2x260 ?hQ2x260 ?hy2x260 ?hS2x260 ?rest2x260
  case hi2x260 => (simp only [List.getElem?_toArray, List.getElem?_cons_succ, List.getElem?_cons_zero]; try rfl)
  case hs2x260 => kernel_rfl
  case hf2x260 => kernel_rfl
  case hr2x260 => kernel_rfl
  case hQ2x260 => exact fun _ _ _ h => h
  case hy2x260 => exact Or.inl ⟨by rfl, by (intro w hSw; (try dsimp only at hSw); go_simp)⟩
  case hS2x260 => assumption
  (try simp only [Act.put, List.setIfInBounds_toArray, List.set_cons_zero, List.set_cons_succ])
  refine' wpAnyH_take (i := 3) (v := .bool false) ?hi3x261 ?hs3x261 ?hf3x261 ?hr3x261 ?hQ3x261 ?hy3x261 ?hS3x261 ?rest3x261
  case hi3x261 => (simp only [List.getElem?_toArray, List.getElem?_cons_succ, List.getElem?_cons_zero]; try rfl)
  case hs3x261 => kernel_rfl
  case hf3x261 => kernel_rfl
  case hr3x261 => kernel_rfl
  case hQ3x261 => exact fun _ _ _ h => h
  case hy3x261 => exact Or.inl ⟨by rfl, by (intro w hSw; (try dsimp only at hSw); go_simp)⟩
  case hS3x261 => assumption
  (try simp only [Act.put, List.setIfInBounds_toArray, List.set_cons_zero, List.set_cons_succ])
  refine' wpAnyH_take (i := 4) (v := .bool false) ?hi4x262 ?hs4x262 ?hf4x262 ?hr4x262 ?hQ4x262 ?hy4x262 ?hS4x262 ?rest4x262
  case hi4x262 => (simp only [List.getElem?_toArray, List.getElem?_cons_succ, List.getElem?_cons_zero]; try rfl)
  case hs4x262 => kernel_rfl
  case hf4x262 => kernel_rfl
  case hr4x262 => kernel_rfl
  case hQ4x262 => exact fun _ _ _ h => h
  case hy4x262 => exact Or.inl ⟨by rfl, by (intro w hSw; (try dsimp only at hSw); go_simp)⟩
  case hS4x262 => assumption
  (try simp only [Act.put, List.setIfInBounds_toArray, List.set_cons_zero, List.set_cons_succ])
  refine' wpAnyH_take (i := 5) (v := undef) ?hi5x263 ?hs5x263 ?hf5x263 ?hr5x263 ?hQ5x263 ?hy5x263 ?hS5x263 ?rest5x263
  case hi5x263 => (simp only [List.getElem?_toArray, List.getElem?_cons_succ, List.getElem?_cons_zero]; try rfl)
  case hs5x263 => kernel_rfl
  case hf5x263 => kernel_rfl
  case hr5x263 => kernel_rfl
  case hQ5x263 => exact fun _ _ _ h => h
  case hy5x263 => exact Or.inr ⟨by rfl, rfl⟩
  case hS5x263 => assumption
  (try simp only [Act.put, List.setIfInBounds_toArray, List.set_cons_zero, List.set_cons_succ])
  refine' wpAnyH_take (i := 6) (v := undef) ?hi6x264 ?hs6x264 ?hf6x264 ?hr6x264 ?hQ6x264 ?hy6x264 ?hS6x264 ?rest6x264
  case hi6x264 => (simp only [List.getElem?_toArray, List.getElem?_cons_succ, List.getElem?_cons_zero]; try rfl)
  case hs6x264 => kernel_rfl
  case hf6x264 => kernel_rfl
  case hr6x264 => kernel_rfl
  case hQ6x264 => exact fun _ _ _ h => h
  case hy6x264 => exact Or.inr ⟨by rfl, rfl⟩
  case hS6x264 => assumption
  (try simp only [Act.put, List.setIfInBounds_toArray, List.set_cons_zero, List.set_cons_succ])
  refine' wpAnyH_take (i := 7) (v := undef) ?hi7x265 ?hs7x265 ?hf7x265 ?hr7x265 ?hQ7x265 ?hy7x265 ?hS7x265 ?rest7x265
  case hi7x265 => (simp only [List.getElem?_toArray, List.getElem?_cons_succ, List.getElem?_cons_zero]; try rfl)
  case hs7x265 => kernel_rfl
  case hf7x265 => kernel_rfl
  case hr7x265 => kernel_rfl
  case hQ7x265 => exact fun _ _ _ h => h
  case hy7x265 => exact Or.inr ⟨by rfl, rfl⟩
  case hS7x265 => assumption
  (try simp only [Act.put, List.setIfInBounds_toArray, List.set_cons_zero, List.set_cons_succ])
  refine' wpAnyH_take (i := 8) (v := .bool false) ?hi8x266 ?hs8x266 ?hf8x266 ?hr8x266 ?hQ8x266 ?hy8x266 ?hS8x266 ?rest8x266
  case hi8x266 => (simp only [List.getElem?_toArray, List.getElem?_cons_succ, List.getElem?_cons_zero]; try rfl)
  case hs8x266 => kernel_rfl
  case hf8x266 => kernel_rfl
  case hr8x266 => kernel_rfl
  case hQ8x266 => exact fun _ _ _ h => h
  case hy8x266 => exact Or.inl ⟨by rfl, by (intro w hSw; (try dsimp only at hSw); go_simp)⟩
  case hS8x266 => assumption
  (try simp only [Act.put, List.setIfInBounds_toArray, List.set_cons_zero, List.set_cons_succ])
  refine' wpAnyH_take (i := 9) (v := .bool false) ?hi9x267 ?hs9x267 ?hf9x267 ?hr9x267 ?hQ9x267 ?hy9x267 ?hS9x267 ?rest9x267
  case hi9x267 => (simp only [List.getElem?_toArray, List.getElem?_cons_succ, List.getElem?_cons_zero]; try rfl)
  case hs9x267 => kernel_rfl
  case hf9x267 => kernel_rfl
  case hr9x267 => kernel_rfl
  case hQ9x267 => exact fun _ _ _ h => h
  case hy9x267 => exact Or.inl ⟨by rfl, by (intro w hSw; (try dsimp only at hSw); go_simp)⟩
  case hS9x267 => assumption
  (try simp only [Act.put, List.setIfInBounds_toArray, List.set_cons_zero, List.set_cons_succ])
  refine' wpAnyH_take (i := 10) (v := undef) ?hi10x268 ?hs10x268 ?hf10x268 ?hr10x268 ?hQ10x268 ?hy10x268 ?hS10x268 ?rest10x268
  case hi10x268 => (simp only [List.getElem?_toArray, List.getElem?_cons_succ, List.getElem?_cons_zero]; try rfl)
  case hs10x268 => kernel_rfl
  case hf10x268 => kernel_rfl
  case hr10x268 => kernel_rfl
  case hQ10x268 => exact fun _ _ _ h => h
  case hy10x268 => exact Or.inr ⟨by rfl, rfl⟩
  case hS10x268 => assumption
  (try simp only [Act.put, List.setIfInBounds_toArray, List.set_cons_zero, List.set_cons_succ])
  refine' wpAnyH_take (i := 11) (v := undef) ?hi11x269 ?hs11x269 ?hf11x269 ?hr11x269 ?hQ11x269 ?hy11x269 ?hS11x269 ?rest11x269
  case hi11x269 => (simp only [List.getElem?_toArray, List.getElem?_cons_succ, List.getElem?_cons_zero]; try rfl)
  case hs11x269 => kernel_rfl
  case hf11x269 => kernel_rfl
  case hr11x269 => kernel_rfl
  case hQ11x269 => exact fun _ _ _ h => h
  case hy11x269 => exact Or.inr ⟨by rfl, rfl⟩
  case hS11x269 => assumption
  (try simp only [Act.put, List.setIfInBounds_toArray, List.set_cons_zero, List.set_cons_succ])
  refine' wpAnyH_take (i := 12) (v := .bool false) ?hi12x270 ?hs12x270 ?hf12x270 ?hr12x270 ?hQ12x270 ?hy12x270 ?hS12x270 ?rest12x270
  case hi12x270 => (simp only [List.getElem?_toArray, List.getElem?_cons_succ, List.getElem?_cons_zero]; try rfl)
  case hs12x270 => kernel_rfl
  case hf12x270 => kernel_rfl
  case hr12x270 => kernel_rfl
  case hQ12x270 => exact fun _ _ _ h => h
  case hy12x270 => exact Or.inl ⟨by rfl, by (intro w hSw; (try dsimp only at hSw); go_simp)⟩
  case hS12x270 => assumption
  (try simp only [Act.put, List.setIfInBounds_toArray, List.set_cons_zero, List.set_cons_succ])
  refine' wpAnyH_take (i := 13) (v := .bool false) ?hi13x271 ?hs13x271 ?hf13x271 ?hr13x271 ?hQ13x271 ?hy13x271 ?hS13x271 ?rest13x271
  case hi13x271 => (simp only [List.getElem?_toArray, List.getElem?_cons_succ, List.getElem?_cons_zero]; try rfl)
  case hs13x271 => kernel_rfl
  case hf13x271 => kernel_rfl
  case hr13x271 => kernel_rfl
  case hQ13x271 => exact fun _ _ _ h => h
  case hy13x271 => exact Or.inl ⟨by rfl, by (intro w hSw; (try dsimp only at hSw); go_simp)⟩
  case hS13x271 => assumption
  (try simp only [Act.put, List.setIfInBounds_toArray, List.set_cons_zero, List.set_cons_succ])
  refine' wpAnyH_take (i := 14) (v := .pointer (some ⟨w.heap.size, 2, none⟩)) ?hi14x272 ?hs14x272 ?hf14x272 ?hr14x272 ?hQ14x272 ?hy14x272 ?hS14x272 ?rest14x272
  case hi14x272 => (simp only [List.getElem?_toArray, List.getElem?_cons_succ, List.getElem?_cons_zero]; try rfl)
  case hs14x272 => kernel_rfl
  case hf14x272 => kernel_rfl
  case hr14x272 => kernel_rfl
  case hQ14x272 => exact fun _ _ _ h => h
  case hy14x272 => exact Or.inl ⟨by rfl, by (intro w hSw; (try dsimp only at hSw); go_simp)⟩
  case hS14x272 => assumption
  (try simp only [Act.put, List.setIfInBounds_toArray, List.set_cons_zero, List.set_cons_succ])
  refine' wpAnyH_take (i := 15) (v := .int .i64 n0) ?hi15x273 ?hs15x273 ?hf15x273 ?hr15x273 ?hQ15x273 ?hy15x273 ?hS15x273 ?rest15x273
  case hi15x273 => (simp only [List.getElem?_toArray, List.getElem?_cons_succ, List.getElem?_cons_zero]; try rfl)
  case hs15x273 => kernel_rfl
  case hf15x273 => kernel_rfl
  case hr15x273 => kernel_rfl
  case hQ15x273 => exact fun _ _ _ h => h
  case hy15x273 => exact Or.inl ⟨by rfl, by (intro w hSw; (try dsimp only at hSw); go_simp)⟩
  case hS15x273 => assumption
  (try simp only [Act.put, List.setIfInBounds_toArray, List.set_cons_zero, List.set_cons_succ])
  refine' wpAnyH_take (i := 16) (v := .bool true) ?hi16x274 ?hs16x274 ?hf16x274 ?hr16x274 ?hQ16x274 ?hy16x274 ?hS16x274 ?rest16x274
  case hi16x274 => (simp only [List.getElem?_toArray, List.getElem?_cons_succ, List.getElem?_cons_zero]; try rfl)
  case hs16x274 => kernel_rfl
  case hf16x274 => kernel_rfl
  case hr16x274 => kernel_rfl
  case hQ16x274 => exact fun _ _ _ h => h
  case hy16x274 => exact Or.inl ⟨by rfl, by (intro w hSw; (try dsimp only at hSw); go_simp)⟩
  case hS16x274 => assumption
  (try simp only [Act.put, List.setIfInBounds_toArray, List.set_cons_zero, List.set_cons_succ])
  refine' wpAnyH_take (i := 17) (v := .bool true) ?hi17x275 ?hs17x275 ?hf17x275 ?hr17x275 ?hQ17x275 ?hy17x275 ?hS17x275 ?rest17x275
  case hi17x275 => (simp only [List.getElem?_toArray, List.getElem?_cons_succ, List.getElem?_cons_zero]; try rfl)
  case hs17x275 => kernel_rfl
  case hf17x275 => kernel_rfl
  case hr17x275 => kernel_rfl
  case hQ17x275 => exact fun _ _ _ h => h
  case hy17x275 => exact Or.inl ⟨by rfl, by (intro w hSw; (try dsimp only at hSw); go_simp)⟩
  case hS17x275 => assumption
  (try simp only [Act.put, List.setIfInBounds_toArray, List.set_cons_zero, List.set_cons_succ])
  refine' wpAnyH_take (i := 18) (v := .pointer (some ⟨w.heap.size + 1, 2, none⟩)) ?hi18x276 ?hs18x276 ?hf18x276 ?hr18x276 ?hQ18x276 ?hy18x276 ?hS18x276 ?rest18x276
  case hi18x276 => (simp only [List.getElem?_toArray, List.getElem?_cons_succ, List.getElem?_cons_zero]; try rfl)
  case hs18x276 => kernel_rfl
  case hf18x276 => kernel_rfl
  case hr18x276 => kernel_rfl
  case hQ18x276 => exact fun _ _ _ h => h
  case hy18x276 => exact Or.inl ⟨by rfl, by (intro w hSw; (try dsimp only at hSw); go_simp)⟩
  case hS18x276 => assumption
  (try simp only [Act.put, List.setIfInBounds_toArray, List.set_cons_zero, List.set_cons_succ])
  refine' wpAnyH_take (i := 19) (v := .int .i64 n1) ?hi19x277 ?hs19x277 ?hf19x277 ?hr19x277 ?hQ19x277 ?hy19x277 ?hS19x277 ?rest19x277
  case hi19x277 => (simp only [List.getElem?_toArray, List.getElem?_cons_succ, List.getElem?_cons_zero]; try rfl)
  case hs19x277 => kernel_rfl
  case hf19x277 => kernel_rfl
  case hr19x277 => kernel_rfl
  case hQ19x277 => exact fun _ _ _ h => h
  case hy19x277 => exact Or.inl ⟨by rfl, by (intro w hSw; (try dsimp only at hSw); go_simp)⟩
  case hS19x277 => assumption
  (try simp only [Act.put, List.setIfInBounds_toArray, List.set_cons_zero, List.set_cons_succ])
  refine' wpAnyH_take (i := 20) (v := .bool false) ?hi20x278 ?hs20x278 ?hf20x278 ?hr20x278 ?hQ20x278 ?hy20x278 ?hS20x278 ?rest20x278
  case hi20x278 => (simp only [List.getElem?_toArray, List.getElem?_cons_succ, List.getElem?_cons_zero]; try rfl)
  case hs20x278 => kernel_rfl
  case hf20x278 => kernel_rfl
  case hr20x278 => kernel_rfl
  case hQ20x278 => exact fun _ _ _ h => h
  case hy20x278 => exact Or.inl ⟨by rfl, by (intro w hSw; (try dsimp only at hSw); go_simp)⟩
  case hS20x278 => assumption
  (try simp only [Act.put, List.setIfInBounds_toArray, List.set_cons_zero, List.set_cons_succ])
  refine' wpAnyH_take (i := 21) (v := .bool false) ?hi21x279 ?hs21x279 ?hf21x279 ?hr21x279 ?hQ21x279 ?hy21x279 ?hS21x279 ?rest21x279
  case hi21x279 => (simp only [List.getElem?_toArray, List.getElem?_cons_succ, List.getElem?_cons_zero]; try rfl)
  case hs21x279 => kernel_rfl
  case hf21x279 => kernel_rfl
  case hr21x279 => kernel_rfl
  case hQ21x279 => exact fun _ _ _ h => h
  case hy21x279 => exact Or.inl ⟨by rfl, by (intro w hSw; (try dsimp only at hSw); go_simp)⟩
  case hS21x279 => assumption
  (try simp only [Act.put, List.setIfInBounds_toArray, List.set_cons_zero, List.set_cons_succ])
  refine' wpAnyH_take (i := 22) (v := .bool false) ?hi22x280 ?hs22x280 ?hf22x280 ?hr22x280 ?hQ22x280 ?hy22x280 ?hS22x280 ?rest22x280
  case hi22x280 => (simp only [List.getElem?_toArray, List.getElem?_cons_succ, List.getElem?_cons_zero]; try rfl)
  case hs22x280 => kernel_rfl
  case hf22x280 => kernel_rfl
  case hr22x280 => kernel_rfl
  case hQ22x280 => exact fun _ _ _ h => h
  case hy22x280 => exact Or.inl ⟨by rfl, by (intro w hSw; (try dsimp only at hSw); go_simp)⟩
  case hS22x280 => assumption
  (try simp only [Act.put, List.setIfInBounds_toArray, List.set_cons_zero, List.set_cons_succ])
  refine' wpAnyH_take (i := 23) (v := undef) ?hi23x281 ?hs23x281 ?hf23x281 ?hr23x281 ?hQ23x281 ?hy23x281 ?hS23x281 ?rest23x281
  case hi23x281 => (simp only [List.getElem?_toArray, List.getElem?_cons_succ, List.getElem?_cons_zero]; try rfl)
  case hs23x281 => kernel_rfl
  case hf23x281 => kernel_rfl
  case hr23x281 => kernel_rfl
  case hQ23x281 => exact fun _ _ _ h => h
  case hy23x281 => exact Or.inr ⟨by rfl, rfl⟩
  case hS23x281 => assumption
  (try simp only [Act.put, List.setIfInBounds_toArray, List.set_cons_zero, List.set_cons_succ])
  refine' wpAnyH_take (i := 24) (v := undef) ?hi24x282 ?hs24x282 ?hf24x282 ?hr24x282 ?hQ24x282 ?hy24x282 ?hS24x282 ?rest24x282
  case hi24x282 => (simp only [List.getElem?_toArray, List.getElem?_cons_succ, List.getElem?_cons_zero]; try rfl)
  case hs24x282 => kernel_rfl
  case hf24x282 => kernel_rfl
  case hr24x282 => kernel_rfl
  case hQ24x282 => exact fun _ _ _ h => h
  case hy24x282 => exact Or.inr ⟨by rfl, rfl⟩
  case hS24x282 => assumption
  (try simp only [Act.put, List.setIfInBounds_toArray, List.set_cons_zero, List.set_cons_succ])
  refine' wpAnyH_take (i := 25) (v := .bool false) ?hi25x283 ?hs25x283 ?hf25x283 ?hr25x283 ?hQ25x283 ?hy25x283 ?hS25x283 ?rest25x283
  case hi25x283 => (simp only [List.getElem?_toArray, List.getElem?_cons_succ, List.getElem?_cons_zero]; try rfl)
  case hs25x283 => kernel_rfl
  case hf25x283 => kernel_rfl
  case hr25x283 => kernel_rfl
  case hQ25x283 => exact fun _ _ _ h => h
  case hy25x283 => exact Or.inl ⟨by rfl, by (intro w hSw; (try dsimp only at hSw); go_simp)⟩
  case hS25x283 => assumption
  (try simp only [Act.put, List.setIfInBounds_toArray, List.set_cons_zero, List.set_cons_succ])
  refine' wpAnyH_take (i := 26) (v := .bool false) ?hi26x284 ?hs26x284 ?hf26x284 ?hr26x284 ?hQ26x284 ?hy26x284 ?hS26x284 ?rest26x284
  case hi26x284 => (simp only [List.getElem?_toArray, List.getElem?_cons_succ, List.getElem?_cons_zero]; try rfl)
  case hs26x284 => kernel_rfl
  case hf26x284 => kernel_rfl
  case hr26x284 => kernel_rfl
  case hQ26x284 => exact fun _ _ _ h => h
  case hy26x284 => exact Or.inl ⟨by rfl, by (intro w hSw; (try dsimp only at hSw); go_simp)⟩
  case hS26x284 => assumption
  (try simp only [Act.put, List.setIfInBounds_toArray, List.set_cons_zero, List.set_cons_succ])
  refine' wpAnyH_take (i := 28) (v := .agg #[.int .u8 k0, .bool b0, .int .i64 n0, .string s0]) ?hi28x285 ?hs28x285 ?hf28x285 ?hr28x285 ?hQ28x285 ?hy28x285 ?hS28x285 ?rest28x285
  case hi28x285 => (simp only [List.getElem?_toArray, List.getElem?_cons_succ, List.getElem?_cons_zero]; try rfl)
  case hs28x285 => kernel_rfl
  case hf28x285 => kernel_rfl
  case hr28x285 => kernel_rfl
  case hQ28x285 => exact fun _ _ _ h => h
  case hy28x285 => exact Or.inl ⟨by rfl, by (intro w hSw; (try dsimp only at hSw); go_simp)⟩
  case hS28x285 => assumption
  (try simp only [Act.put, List.setIfInBounds_toArray, List.set_cons_zero, List.set_cons_succ])
  refine' wpAnyH_take (i := 29) (v := .agg #[.int .u8 k1, .bool b1, .int .i64 n1, .string s1]) ?hi29x286 ?hs29x286 ?hf29x286 ?hr29x286 ?hQ29x286 ?hy29x286 ?hS29x286 ?rest29x286
  case hi29x286 => (simp only [List.getElem?_toArray, List.getElem?_cons_succ, List.getElem?_cons_zero]; try rfl)
  case hs29x286 => kernel_rfl
  case hf29x286 => kernel_rfl
  case hr29x286 => kernel_rfl
  case hQ29x286 => exact fun _ _ _ h => h
  case hy29x286 => exact Or.inl ⟨by rfl, by (intro w hSw; (try dsimp only at hSw); go_simp)⟩
  case hS29x286 => assumption
  (try simp only [Act.put, List.setIfInBounds_toArray, List.set_cons_zero, List.set_cons_succ])
  refine wpAnyH_ready (rs := [27, 30]) (by kernel_rfl) (by simp) ?_
  refine' AllReadyH.cons (i := 27) ?ho27x287 (fun K hK => ?st27x287) (AllReadyH.cons (i := 30) ?ho30x288 (fun K hK => ?st30x288) AllReadyH.nil)
  case ho27x287 => (simp only [List.getElem?_toArray, List.getElem?_cons_succ, List.getElem?_cons_zero]; try rfl)
  case ho30x288 => (simp only [List.getElem?_toArray, List.getElem?_cons_succ, List.getElem?_cons_zero]; try rfl)
  case st27x287 =>
    go_simp
    refine (refOver_any _ _).mono ?_
    rintro e w' ⟨rfl, rfl⟩
    go_wp2_with fail
    refine hK.out _ _ ?_ (fun hHeld => ?_)
    · (first | exact ⟨a0_, a1_, a2_, a3_, b0_, b1_, b2_, b3_⟩ | go_keep)
    clear hK K
    (try simp only [Act.put, List.setIfInBounds_toArray, List.set_cons_zero, List.set_cons_succ])
    refine wpAnyH_ready (rs := [30]) (by kernel_rfl) (by simp) ?_
    refine' AllReadyH.cons (i := 30) ?ho30x289 (fun K hK => ?st30x289) AllReadyH.nil
    case ho30x289 => (simp only [List.getElem?_toArray, List.getElem?_cons_succ, List.getElem?_cons_zero]; try rfl)
    go_simp
    refine hK.out _ _ ?_ (fun hHeld => ?_)
    · (first | exact ⟨a0_, a1_, a2_, a3_, b0_, b1_, b2_, b3_⟩ | go_keep)
    clear hK K
    (try simp only [Act.put, List.setIfInBounds_toArray, List.set_cons_zero, List.set_cons_succ])
    refine wpAnyH_ready (rs := [31]) (by kernel_rfl) (by simp) ?_
    refine' AllReadyH.cons (i := 31) ?ho31x290 (fun K hK => ?st31x290) AllReadyH.nil
    case ho31x290 => (simp only [List.getElem?_toArray, List.getElem?_cons_succ, List.getElem?_cons_zero]; try rfl)
    go_simp
    refine (refNum2_any _ _ k0 b0 n0 s0 k1 b1 n1 s1 _ _ _ (by exact heap_at _ _ _ (by first | rfl | simp)) hs0H.out hs1H.out).mono ?_
    rw [hrH.out, refVm]
    rintro e w' ⟨rfl, hb'⟩
    replace hb := chainB (B := W0.heap.size) (a := W0) (by go_grown) hb' (by have := hb.size; first | omega | (simp; done) | (simp; omega))
    clear hb' a0_ a1_ a2_ a3_ b0_ b1_ b2_ b3_ r0_ r1_ r2_ r3_ f0_ f1_ f2_ f3_ hz hs
    obtain ⟨a0_, a1_, a2_, a3_⟩ := (hAH.out.below hb).cells; obtain ⟨b0_, b1_, b2_, b3_⟩ := (hBH.out.below hb).cells; obtain ⟨r0_, r1_, r2_, r3_⟩ := (hRH.out.below hb).cells; obtain ⟨f0_, f1_, f2_, f3_⟩ := (hRH.out.below hb).free; have hz := Nat.lt_of_lt_of_le hz0.out hb.size; have hs := hb.size
    go_wp2_with fail
    refine hK.out _ _ ?_ (fun hHeld => ?_)
    · (first | exact ⟨a0_, a1_, a2_, a3_, b0_, b1_, b2_, b3_⟩ | go_keep)
    clear hK K
    (try simp only [Act.put, List.setIfInBounds_toArray, List.set_cons_zero, List.set_cons_succ])
    refine' wpAnyH_take (i := 32) (v := .agg #[.int .u8 k', .bool b', .int .i64 n', .string s']) ?hi32x291 ?hs32x291 ?hf32x291 ?hr32x291 ?hQ32x291 ?hy32x291 ?hS32x291 ?rest32x291
    case hi32x291 => (simp only [List.getElem?_toArray, List.getElem?_cons_succ, List.getElem?_cons_zero]; try rfl)
    case hs32x291 => kernel_rfl
    case hf32x291 => kernel_rfl
    case hr32x291 => kernel_rfl
    case hQ32x291 => exact fun _ _ _ h => h
    case hy32x291 => exact Or.inl ⟨by rfl, by (intro w hSw; (try dsimp only at hSw); go_simp)⟩
    case hS32x291 => assumption
    (try simp only [Act.put, List.setIfInBounds_toArray, List.set_cons_zero, List.set_cons_succ])
    refine' wpAnyH_take (i := 33) (v := .int .i64 x) ?hi33x292 ?hs33x292 ?hf33x292 ?hr33x292 ?hQ33x292 ?hy33x292 ?hS33x292 ?rest33x292
    case hi33x292 => (simp only [List.getElem?_toArray, List.getElem?_cons_succ, List.getElem?_cons_zero]; try rfl)
    case hs33x292 => kernel_rfl
    case hf33x292 => kernel_rfl
    case hr33x292 => kernel_rfl
    case hQ33x292 => exact fun _ _ _ h => h
    case hy33x292 => exact Or.inl ⟨by rfl, by (intro w hSw; (try dsimp only at hSw); go_simp)⟩
    case hS33x292 => assumption
    (try simp only [Act.put, List.setIfInBounds_toArray, List.set_cons_zero, List.set_cons_succ])
    have hne1 : ¬ (w.heap.size + 1 + 1 = w.heap.size) := by omega
    have hne2 : ¬ (w.heap.size = w.heap.size + 1 + 1) := by omega
    refine wpAnyH_ready (rs := [34]) (by kernel_rfl) (by simp) ?_
    refine' AllReadyH.cons (i := 34) ?ho34x293 (fun K hK => ?st34x293) AllReadyH.nil
    case ho34x293 => (simp only [List.getElem?_toArray, List.getElem?_cons_succ, List.getElem?_cons_zero]; try rfl)
    go_simp
    refine hK.out _ _ ?_ (fun hHeld => ?_)
    · (first | exact ⟨a0_, a1_, a2_, a3_, b0_, b1_, b2_, b3_⟩ | go_keep)
    clear hK K
    (try simp only [Act.put, List.setIfInBounds_toArray, List.set_cons_zero, List.set_cons_succ])
    refine' wpAnyH_take (i := 35) (v := .int .i64 x) ?hi35x294 ?hs35x294 ?hf35x294 ?hr35x294 ?hQ35x294 ?hy35x294 ?hS35x294 ?rest35x294
    case hi35x294 => (simp only [List.getElem?_toArray, List.getElem?_cons_succ, List.getElem?_cons_zero]; try rfl)
    case hs35x294 => kernel_rfl
    case hf35x294 => kernel_rfl
    case hr35x294 => kernel_rfl
    case hQ35x294 => exact fun _ _ _ h => h
    case hy35x294 => exact Or.inl ⟨by rfl, by (intro w hSw; (try dsimp only at hSw); go_simp)⟩
    case hS35x294 => assumption
    (try simp only [Act.put, List.setIfInBounds_toArray, List.set_cons_zero, List.set_cons_succ])
    refine wpAnyH_done (by kernel_rfl) ?_ _
    refine NoPanic.normal ?_
    clear hne1 hne2
    go_wp2
    refine bodyPost_ret (v := .tuple #[.agg #[.int .u8 k', .bool b', .int .i64 n', .string s'], .int .i64 x]) (by simp [results, Tryd.results32, go_sem, r0_, r1_, r2_, r3_, hz]) rfl ⟨rfl, ?_⟩
    have hbw := hwWH.out.trans (hb.mono hwWH.out.size)
    clear hb
    go_grown
  case st30x288 =>
    go_simp
    refine hK.out _ _ ?_ (fun hHeld => ?_)
    · (first | exact ⟨a0_, a1_, a2_, a3_, b0_, b1_, b2_, b3_⟩ | go_keep)
    clear hK K
    (try simp only [Act.put, List.setIfInBounds_toArray, List.set_cons_zero, List.set_cons_succ])
    refine wpAnyH_ready (rs := [27]) (by kernel_rfl) (by simp) ?_
    refine' AllReadyH.cons (i := 27) ?ho27x295 (fun K hK => ?st27x295) AllReadyH.nil
    case ho27x295 => (simp only [List.getElem?_toArray, List.getElem?_cons_succ, List.getElem?_cons_zero]; try rfl)
    go_simp
    refine (refOver_any _ _).mono ?_
    rintro e w' ⟨rfl, rfl⟩
    go_wp2_with fail
    refine hK.out _ _ ?_ (fun hHeld => ?_)
    · (first | exact ⟨a0_, a1_, a2_, a3_, b0_, b1_, b2_, b3_⟩ | go_keep)
    clear hK K
    (try simp only [Act.put, List.setIfInBounds_toArray, List.set_cons_zero, List.set_cons_succ])
    refine wpAnyH_ready (rs := [31]) (by kernel_rfl) (by simp) ?_
    refine' AllReadyH.cons (i := 31) ?ho31x296 (fun K hK => ?st31x296) AllReadyH.nil
    case ho31x296 => (simp only [List.getElem?_toArray, List.getElem?_cons_succ, List.getElem?_cons_zero]; try rfl)
    go_simp
    refine (refNum2_any _ _ k0 b0 n0 s0 k1 b1 n1 s1 _ _ _ (by exact heap_at _ _ _ (by first | rfl | simp)) hs0H.out hs1H.out).mono ?_
    rw [hrH.out, refVm]
    rintro e w' ⟨rfl, hb'⟩
    replace hb := chainB (B := W0.heap.size) (a := W0) (by go_grown) hb' (by have := hb.size; first | omega | (simp; done) | (simp; omega))
    clear hb' a0_ a1_ a2_ a3_ b0_ b1_ b2_ b3_ r0_ r1_ r2_ r3_ f0_ f1_ f2_ f3_ hz hs
    obtain ⟨a0_, a1_, a2_, a3_⟩ := (hAH.out.below hb).cells; obtain ⟨b0_, b1_, b2_, b3_⟩ := (hBH.out.below hb).cells; obtain ⟨r0_, r1_, r2_, r3_⟩ := (hRH.out.below hb).cells; obtain ⟨f0_, f1_, f2_, f3_⟩ := (hRH.out.below hb).free; have hz := Nat.lt_of_lt_of_le hz0.out hb.size; have hs := hb.size
    go_wp2_with fail
    refine hK.out _ _ ?_ (fun hHeld => ?_)
    · (first | exact ⟨a0_, a1_, a2_, a3_, b0_, b1_, b2_, b3_⟩ | go_keep)
    clear hK K
    (try simp only [Act.put, List.setIfInBounds_toArray, List.set_cons_zero, List.set_cons_succ])
    refine' wpAnyH_take (i := 32) (v := .agg #[.int .u8 k', .bool b', .int .i64 n', .string s']) ?hi32x297 ?hs32x297 ?hf32x297 ?hr32x297 ?hQ32x297 ?hy32x297 ?hS32x297 ?rest32x297
    case hi32x297 => (simp only [List.getElem?_toArray, List.getElem?_cons_succ, List.getElem?_cons_zero]; try rfl)
    case hs32x297 => kernel_rfl
    case hf32x297 => kernel_rfl
    case hr32x297 => kernel_rfl
    case hQ32x297 => exact fun _ _ _ h => h
    case hy32x297 => exact Or.inl ⟨by rfl, by (intro w hSw; (try dsimp only at hSw); go_simp)⟩
    case hS32x297 => assumption
    (try simp only [Act.put, List.setIfInBounds_toArray, List.set_cons_zero, List.set_cons_succ])
    refine' wpAnyH_take (i := 33) (v := .int .i64 x) ?hi33x298 ?hs33x298 ?hf33x298 ?hr33x298 ?hQ33x298 ?hy33x298 ?hS33x298 ?rest33x298
    case hi33x298 => (simp only [List.getElem?_toArray, List.getElem?_cons_succ, List.getElem?_cons_zero]; try rfl)
    case hs33x298 => kernel_rfl
    case hf33x298 => kernel_rfl
    case hr33x298 => kernel_rfl
    case hQ33x298 => exact fun _ _ _ h => h
    case hy33x298 => exact Or.inl ⟨by rfl, by (intro w hSw; (try dsimp only at hSw); go_simp)⟩
    case hS33x298 => assumption
    (try simp only [Act.put, List.setIfInBounds_toArray, List.set_cons_zero, List.set_cons_succ])
    have hne1 : ¬ (w.heap.size + 1 + 1 = w.heap.size) := by omega
    have hne2 : ¬ (w.heap.size = w.heap.size + 1 + 1) := by omega
    refine wpAnyH_ready (rs := [34]) (by kernel_rfl) (by simp) ?_
    refine' AllReadyH.cons (i := 34) ?ho34x299 (fun K hK => ?st34x299) AllReadyH.nil
    case ho34x299 => (simp only [List.getElem?_toArray, List.getElem?_cons_succ, List.getElem?_cons_zero]; try rfl)
    go_simp
    refine hK.out _ _ ?_ (fun hHeld => ?_)
    · (first | exact ⟨a0_, a1_, a2_, a3_, b0_, b1_, b2_, b3_⟩ | go_keep)
    clear hK K
    (try simp only [Act.put, List.setIfInBounds_toArray, List.set_cons_zero, List.set_cons_succ])
    refine' wpAnyH_take (i := 35) (v := .int .i64 x) ?hi35x300 ?hs35x300 ?hf35x300 ?hr35x300 ?hQ35x300 ?hy35x300 ?hS35x300 ?rest35x300
    case hi35x300 => (simp only [List.getElem?_toArray, List.getElem?_cons_succ, List.getElem?_cons_zero]; try rfl)
    case hs35x300 => kernel_rfl
    case hf35x300 => kernel_rfl
    case hr35x300 => kernel_rfl
    case hQ35x300 => exact fun _ _ _ h => h
    case hy35x300 => exact Or.inl ⟨by rfl, by (intro w hSw; (try dsimp only at hSw); go_simp)⟩
    case hS35x300 => assumption
    (try simp only [Act.put, List.setIfInBounds_toArray, List.set_cons_zero, List.set_cons_succ])
    refine wpAnyH_done (by kernel_rfl) ?_ _
    refine NoPanic.normal ?_
    clear hne1 hne2
    go_wp2
    refine bodyPost_ret (v := .tuple #[.agg #[.int .u8 k', .bool b', .int .i64 n', .string s'], .int .i64 x]) (by simp [results, Tryd.results32, go_sem, r0_, r1_, r2_, r3_, hz]) rfl ⟨rfl, ?_⟩
    have hbw := hwWH.out.trans (hb.mono hwWH.out.size)
    clear hb
    go_grown

end Go.Proofs.YtoolojfbjpnllaaDoor
