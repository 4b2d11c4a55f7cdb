/-
  What the document's own Add answers, at this program, part 1. Condition: the texts have at most 2^47 bytes, the numbers are 64-bit numbers.
-/
import Derived.Test.YtoolojfbjpnllaaDoorRefNeg
import Derived.Test.YtoolojfbjpnllaaDoorOps
import Derived.Deep.RegionHeld3
set_option linter.unusedVariables false
set_option linter.unusedSimpArgs false
namespace Go.Proofs.YtoolojfbjpnllaaDoor
open Go.RowKit Go.Lib

set_option maxRecDepth 100000 in
set_option maxHeartbeats 8000000 in
theorem refAdd_ppn (k0 : Int) (b0 : Bool) (n0 : Int) (s0 : ByteArray) (k1 : Int) (b1 : Bool) (n1 : Int) (s1 : ByteArray) (w : World) (hs0 : s0.size ≤ 140737488355328) (hs1 : s1.size ≤ 140737488355328) (ha : 0 ≤ n0) (hb1 : 0 ≤ n1) (hc : wrap64 (n0 + n1) < 0) :
    Calls Tryd.prog 32 #[.agg #[.int .u8 k0, .bool b0, .int .i64 n0, .string s0], .agg #[.int .u8 k1, .bool b1, .int .i64 n1, .string s1]] w fun e w' => e = .returned (refV (numS ⟨k0, b0, n0, s0⟩ ⟨k1, b1, n1, s1⟩ (wrap64 (n0 + n1), 10))) ∧ Below w.heap.size w w' := by
  obtain ⟨r, hr⟩ : ∃ r, numS ⟨k0, b0, n0, s0⟩ ⟨k1, b1, n1, s1⟩ (wrap64 (n0 + n1), 10) = r := ⟨_, rfl⟩
  rw [hr]
  obtain ⟨⟨k', b', n', s'⟩, x⟩ := r
  rw [refVm]
  have hrH := Lib.hid hr
  clear hr
  have hs0H := Lib.hid hs0; have hs1H := Lib.hid hs1
  obtain ⟨m, hm⟩ : ∃ m, wrap64 (n0 + n1) = m := ⟨_, rfl⟩
  have hm' : IntKind.i64.wrap (n0 + n1) = m := by rw [wrap_is, hm]
  rw [hm] at hrH
  rw [hm] at hc
  have d1 : decide (n0 ≥ 0) = true := by simp; omega
  have d2 : decide (n0 < 0) = false := by simp; omega
  have d3 : decide (n1 ≥ 0) = true := by simp; omega
  have d4 : decide (m < 0) = true := by simp; omega
  have d5 : decide (m ≥ 0) = false := by simp; omega
  obtain ⟨W0, hW0, hwW, hA, hB, hR, hzz⟩ := boxes2 w k0 b0 n0 s0 k1 b1 n1 s1
  have hAH := Lib.hid hA; have hBH := Lib.hid hB; have hRH := Lib.hid hR; have hz0 := Lib.hid hzz; have hwWH := Lib.hid hwW
  clear hA hB hR hzz hwW hs0 hs1
  have hb := Below.refl W0.heap.size W0
  obtain ⟨a0_, a1_, a2_, a3_⟩ := (hAH.out.below hb).cells; obtain ⟨b0_, b1_, b2_, b3_⟩ := (hBH.out.below hb).cells; obtain ⟨r0_, r1_, r2_, r3_⟩ := (hRH.out.below hb).cells; obtain ⟨f0_, f1_, f2_, f3_⟩ := (hRH.out.below hb).free; have hz := Nat.lt_of_lt_of_le hz0.out hb.size; have hs := hb.size
  go_enter Tryd.func32, Tryd.ntmps32
  go_wp2_with fail
  refine wp_region_noPanic ?_
  refine wp_region_held_drew (S := (fun w' => w'.cell? ⟨w.heap.size, 0, none⟩ = some (.int .u8 k0) ∧ w'.cell? ⟨w.heap.size, 1, none⟩ = some (.bool b0) ∧ w'.cell? ⟨w.heap.size, 2, none⟩ = some (.int .i64 n0) ∧ w'.cell? ⟨w.heap.size, 3, none⟩ = some (.string s0) ∧ w'.cell? ⟨w.heap.size + 1, 0, none⟩ = some (.int .u8 k1) ∧ w'.cell? ⟨w.heap.size + 1, 1, none⟩ = some (.bool b1) ∧ w'.cell? ⟨w.heap.size + 1, 2, none⟩ = some (.int .i64 n1) ∧ w'.cell? ⟨w.heap.size + 1, 3, none⟩ = some (.string s1))) (by kernel_rfl) (by first | exact ⟨a0_, a1_, a2_, a3_, b0_, b1_, b2_, b3_⟩ | go_keep) (fun hHeld => ?_)
  refine' wpAnyH_take (i := 0) (v := .int .i64 m) ?hi0x129 ?hs0x129 ?hf0x129 ?hr0x129 ?hQ0x129 ?hy0x129 ?hS0x129 ?rest0x129
  case hi0x129 => (simp only [List.getElem?_toArray, List.getElem?_cons_succ, List.getElem?_cons_zero]; try rfl)
  case hs0x129 => kernel_rfl
  case hf0x129 => kernel_rfl
  case hr0x129 => kernel_rfl
  case hQ0x129 => exact fun _ _ _ h => h
  case hy0x129 => exact Or.inl ⟨by rfl, by (intro w hSw; (try dsimp only at hSw); go_simp)⟩
  case hS0x129 => assumption
  (try simp only [Act.put, List.setIfInBounds_toArray, List.set_cons_zero, List.set_cons_succ])
  refine' wpAnyH_take (i := 1) (v := .pointer (some ⟨w.heap.size, 2, none⟩)) ?hi1x130 ?hs1x130 ?hf1x130 ?hr1x130 ?hQ1x130 ?hy1x130 ?hS1x130 ?rest1x130
  case hi1x130 => (simp only [List.getElem?_toArray, List.getElem?_cons_succ, List.getElem?_cons_zero]; try rfl)
  case hs1x130 => kernel_rfl
  case hf1x130 => kernel_rfl
  case hr1x130 => kernel_rfl
  case hQ1x130 => exact fun _ _ _ h => h
  case hy1x130 => exact Or.inl ⟨by rfl, by (intro w hSw; (try dsimp only at hSw); go_simp)⟩
  case hS1x130 => assumption
  (try simp only [Act.put, List.setIfInBounds_toArray, List.set_cons_zero, List.set_cons_succ])
  refine' wpAnyH_take (i := 2) (v := .int .i64 n0) ?hi2x131 ?hs2x131 ?hf2x131 ?hr2x131 ?hQ2x131 ?hy2x131 ?hS2x131 ?rest2x131
  case hi2x131 => (simp only [List.getElem?_toArray, List.getElem?_cons_succ, List.getElem?_cons_zero]; try rfl)
  case hs2x131 => kernel_rfl
  case hf2x131 => kernel_rfl
  case hr2x131 => kernel_rfl
  case hQ2x131 => exact fun _ _ _ h => h
  case hy2x131 => exact Or.inl ⟨by rfl, by (intro w hSw; (try dsimp only at hSw); go_simp)⟩
  case hS2x131 => assumption
  (try simp only [Act.put, List.setIfInBounds_toArray, List.set_cons_zero, List.set_cons_succ])
  refine' wpAnyH_take (i := 3) (v := .bool true) ?hi3x132 ?hs3x132 ?hf3x132 ?hr3x132 ?hQ3x132 ?hy3x132 ?hS3x132 ?rest3x132
  case hi3x132 => (simp only [List.getElem?_toArray, List.getElem?_cons_succ, List.getElem?_cons_zero]; try rfl)
  case hs3x132 => kernel_rfl
  case hf3x132 => kernel_rfl
  case hr3x132 => kernel_rfl
  case hQ3x132 => exact fun _ _ _ h => h
  case hy3x132 => exact Or.inl ⟨by rfl, by (intro w hSw; (try dsimp only at hSw); go_simp)⟩
  case hS3x132 => assumption
  (try simp only [Act.put, List.setIfInBounds_toArray, List.set_cons_zero, List.set_cons_succ])
  refine' wpAnyH_take (i := 4) (v := .bool true) ?hi4x133 ?hs4x133 ?hf4x133 ?hr4x133 ?hQ4x133 ?hy4x133 ?hS4x133 ?rest4x133
  case hi4x133 => (simp only [List.getElem?_toArray, List.getElem?_cons_succ, List.getElem?_cons_zero]; try rfl)
  case hs4x133 => kernel_rfl
  case hf4x133 => kernel_rfl
  case hr4x133 => kernel_rfl
  case hQ4x133 => exact fun _ _ _ h => h
  case hy4x133 => exact Or.inl ⟨by rfl, by (intro w hSw; (try dsimp only at hSw); go_simp)⟩
  case hS4x133 => assumption
  (try simp only [Act.put, List.setIfInBounds_toArray, List.set_cons_zero, List.set_cons_succ])
  refine' wpAnyH_take (i := 5) (v := .pointer (some ⟨w.heap.size + 1, 2, none⟩)) ?hi5x134 ?hs5x134 ?hf5x134 ?hr5x134 ?hQ5x134 ?hy5x134 ?hS5x134 ?rest5x134
  case hi5x134 => (simp only [List.getElem?_toArray, List.getElem?_cons_succ, List.getElem?_cons_zero]; try rfl)
  case hs5x134 => kernel_rfl
  case hf5x134 => kernel_rfl
  case hr5x134 => kernel_rfl
  case hQ5x134 => exact fun _ _ _ h => h
  case hy5x134 => exact Or.inl ⟨by rfl, by (intro w hSw; (try dsimp only at hSw); go_simp)⟩
  case hS5x134 => assumption
  (try simp only [Act.put, List.setIfInBounds_toArray, List.set_cons_zero, List.set_cons_succ])
  refine' wpAnyH_take (i := 6) (v := .int .i64 n1) ?hi6x135 ?hs6x135 ?hf6x135 ?hr6x135 ?hQ6x135 ?hy6x135 ?hS6x135 ?rest6x135
  case hi6x135 => (simp only [List.getElem?_toArray, List.getElem?_cons_succ, List.getElem?_cons_zero]; try rfl)
  case hs6x135 => kernel_rfl
  case hf6x135 => kernel_rfl
  case hr6x135 => kernel_rfl
  case hQ6x135 => exact fun _ _ _ h => h
  case hy6x135 => exact Or.inl ⟨by rfl, by (intro w hSw; (try dsimp only at hSw); go_simp)⟩
  case hS6x135 => assumption
  (try simp only [Act.put, List.setIfInBounds_toArray, List.set_cons_zero, List.set_cons_succ])
  refine' wpAnyH_take (i := 7) (v := .bool true) ?hi7x136 ?hs7x136 ?hf7x136 ?hr7x136 ?hQ7x136 ?hy7x136 ?hS7x136 ?rest7x136
  case hi7x136 => (simp only [List.getElem?_toArray, List.getElem?_cons_succ, List.getElem?_cons_zero]; try rfl)
  case hs7x136 => kernel_rfl
  case hf7x136 => kernel_rfl
  case hr7x136 => kernel_rfl
  case hQ7x136 => exact fun _ _ _ h => h
  case hy7x136 => exact Or.inl ⟨by rfl, by (intro w hSw; (try dsimp only at hSw); go_simp)⟩
  case hS7x136 => assumption
  (try simp only [Act.put, List.setIfInBounds_toArray, List.set_cons_zero, List.set_cons_succ])
  refine' wpAnyH_take (i := 8) (v := .bool true) ?hi8x137 ?hs8x137 ?hf8x137 ?hr8x137 ?hQ8x137 ?hy8x137 ?hS8x137 ?rest8x137
  case hi8x137 => (simp only [List.getElem?_toArray, List.getElem?_cons_succ, List.getElem?_cons_zero]; try rfl)
  case hs8x137 => kernel_rfl
  case hf8x137 => kernel_rfl
  case hr8x137 => kernel_rfl
  case hQ8x137 => exact fun _ _ _ h => h
  case hy8x137 => exact Or.inl ⟨by rfl, by (intro w hSw; (try dsimp only at hSw); go_simp)⟩
  case hS8x137 => assumption
  (try simp only [Act.put, List.setIfInBounds_toArray, List.set_cons_zero, List.set_cons_succ])
  refine' wpAnyH_take (i := 9) (v := .bool true) ?hi9x138 ?hs9x138 ?hf9x138 ?hr9x138 ?hQ9x138 ?hy9x138 ?hS9x138 ?rest9x138
  case hi9x138 => (simp only [List.getElem?_toArray, List.getElem?_cons_succ, List.getElem?_cons_zero]; try rfl)
  case hs9x138 => kernel_rfl
  case hf9x138 => kernel_rfl
  case hr9x138 => kernel_rfl
  case hQ9x138 => exact fun _ _ _ h => h
  case hy9x138 => exact Or.inl ⟨by rfl, by (intro w hSw; (try dsimp only at hSw); go_simp)⟩
  case hS9x138 => assumption
  (try simp only [Act.put, List.setIfInBounds_toArray, List.set_cons_zero, List.set_cons_succ])
  refine' wpAnyH_take (i := 10) (v := .int .i64 m) ?hi10x139 ?hs10x139 ?hf10x139 ?hr10x139 ?hQ10x139 ?hy10x139 ?hS10x139 ?rest10x139
  case hi10x139 => (simp only [List.getElem?_toArray, List.getElem?_cons_succ, List.getElem?_cons_zero]; try rfl)
  case hs10x139 => kernel_rfl
  case hf10x139 => kernel_rfl
  case hr10x139 => kernel_rfl
  case hQ10x139 => exact fun _ _ _ h => h
  case hy10x139 => exact Or.inl ⟨by rfl, by (intro w hSw; (try dsimp only at hSw); go_simp)⟩
  case hS10x139 => assumption
  (try simp only [Act.put, List.setIfInBounds_toArray, List.set_cons_zero, List.set_cons_succ])
  refine' wpAnyH_take (i := 11) (v := .bool true) ?hi11x140 ?hs11x140 ?hf11x140 ?hr11x140 ?hQ11x140 ?hy11x140 ?hS11x140 ?rest11x140
  case hi11x140 => (simp only [List.getElem?_toArray, List.getElem?_cons_succ, List.getElem?_cons_zero]; try rfl)
  case hs11x140 => kernel_rfl
  case hf11x140 => kernel_rfl
  case hr11x140 => kernel_rfl
  case hQ11x140 => exact fun _ _ _ h => h
  case hy11x140 => exact Or.inl ⟨by rfl, by (intro w hSw; (try dsimp only at hSw); go_simp)⟩
  case hS11x140 => assumption
  (try simp only [Act.put, List.setIfInBounds_toArray, List.set_cons_zero, List.set_cons_succ])
  refine' wpAnyH_take (i := 12) (v := .bool true) ?hi12x141 ?hs12x141 ?hf12x141 ?hr12x141 ?hQ12x141 ?hy12x141 ?hS12x141 ?rest12x141
  case hi12x141 => (simp only [List.getElem?_toArray, List.getElem?_cons_succ, List.getElem?_cons_zero]; try rfl)
  case hs12x141 => kernel_rfl
  case hf12x141 => kernel_rfl
  case hr12x141 => kernel_rfl
  case hQ12x141 => exact fun _ _ _ h => h
  case hy12x141 => exact Or.inl ⟨by rfl, by (intro w hSw; (try dsimp only at hSw); go_simp)⟩
  case hS12x141 => assumption
  (try simp only [Act.put, List.setIfInBounds_toArray, List.set_cons_zero, List.set_cons_succ])
  refine' wpAnyH_take (i := 13) (v := .bool true) ?hi13x142 ?hs13x142 ?hf13x142 ?hr13x142 ?hQ13x142 ?hy13x142 ?hS13x142 ?rest13x142
  case hi13x142 => (simp only [List.getElem?_toArray, List.getElem?_cons_succ, List.getElem?_cons_zero]; try rfl)
  case hs13x142 => kernel_rfl
  case hf13x142 => kernel_rfl
  case hr13x142 => kernel_rfl
  case hQ13x142 => exact fun _ _ _ h => h
  case hy13x142 => exact Or.inl ⟨by rfl, by (intro w hSw; (try dsimp only at hSw); go_simp)⟩
  case hS13x142 => assumption
  (try simp only [Act.put, List.setIfInBounds_toArray, List.set_cons_zero, List.set_cons_succ])
  refine' wpAnyH_take (i := 14) (v := undef) ?hi14x143 ?hs14x143 ?hf14x143 ?hr14x143 ?hQ14x143 ?hy14x143 ?hS14x143 ?rest14x143
  case hi14x143 => (simp only [List.getElem?_toArray, List.getElem?_cons_succ, List.getElem?_cons_zero]; try rfl)
  case hs14x143 => kernel_rfl
  case hf14x143 => kernel_rfl
  case hr14x143 => kernel_rfl
  case hQ14x143 => exact fun _ _ _ h => h
  case hy14x143 => exact Or.inr ⟨by rfl, rfl⟩
  case hS14x143 => assumption
  (try simp only [Act.put, List.setIfInBounds_toArray, List.set_cons_zero, List.set_cons_succ])
  refine' wpAnyH_take (i := 15) (v := undef) ?hi15x144 ?hs15x144 ?hf15x144 ?hr15x144 ?hQ15x144 ?hy15x144 ?hS15x144 ?rest15x144
  case hi15x144 => (simp only [List.getElem?_toArray, List.getElem?_cons_succ, List.getElem?_cons_zero]; try rfl)
  case hs15x144 => kernel_rfl
  case hf15x144 => kernel_rfl
  case hr15x144 => kernel_rfl
  case hQ15x144 => exact fun _ _ _ h => h
  case hy15x144 => exact Or.inr ⟨by rfl, rfl⟩
  case hS15x144 => assumption
  (try simp only [Act.put, List.setIfInBounds_toArray, List.set_cons_zero, List.set_cons_succ])
  refine' wpAnyH_take (i := 16) (v := undef) ?hi16x145 ?hs16x145 ?hf16x145 ?hr16x145 ?hQ16x145 ?hy16x145 ?hS16x145 ?rest16x145
  case hi16x145 => (simp only [List.getElem?_toArray, List.getElem?_cons_succ, List.getElem?_cons_zero]; try rfl)
  case hs16x145 => kernel_rfl
  case hf16x145 => kernel_rfl
  case hr16x145 => kernel_rfl
  case hQ16x145 => exact fun _ _ _ h => h
  case hy16x145 => exact Or.inr ⟨by rfl, rfl⟩
  case hS16x145 => assumption
  (try simp only [Act.put, List.setIfInBounds_toArray, List.set_cons_zero, List.set_cons_succ])
  refine' wpAnyH_take (i := 17) (v := undef) ?hi17x146 ?hs17x146 ?hf17x146 ?hr17x146 ?hQ17x146 ?hy17x146 ?hS17x146 ?rest17x146
  case hi17x146 => (simp only [List.getElem?_toArray, List.getElem?_cons_succ, List.getElem?_cons_zero]; try rfl)
  case hs17x146 => kernel_rfl
  case hf17x146 => kernel_rfl
  case hr17x146 => kernel_rfl
  case hQ17x146 => exact fun _ _ _ h => h
  case hy17x146 => exact Or.inr ⟨by rfl, rfl⟩
  case hS17x146 => assumption
  (try simp only [Act.put, List.setIfInBounds_toArray, List.set_cons_zero, List.set_cons_succ])
  refine' wpAnyH_take (i := 18) (v := undef) ?hi18x147 ?hs18x147 ?hf18x147 ?hr18x147 ?hQ18x147 ?hy18x147 ?hS18x147 ?rest18x147
  case hi18x147 => (simp only [List.getElem?_toArray, List.getElem?_cons_succ, List.getElem?_cons_zero]; try rfl)
  case hs18x147 => kernel_rfl
  case hf18x147 => kernel_rfl
  case hr18x147 => kernel_rfl
  case hQ18x147 => exact fun _ _ _ h => h
  case hy18x147 => exact Or.inr ⟨by rfl, rfl⟩
  case hS18x147 => assumption
  (try simp only [Act.put, List.setIfInBounds_toArray, List.set_cons_zero, List.set_cons_succ])
  refine' wpAnyH_take (i := 19) (v := undef) ?hi19x148 ?hs19x148 ?hf19x148 ?hr19x148 ?hQ19x148 ?hy19x148 ?hS19x148 ?rest19x148
  case hi19x148 => (simp only [List.getElem?_toArray, List.getElem?_cons_succ, List.getElem?_cons_zero]; try rfl)
  case hs19x148 => kernel_rfl
  case hf19x148 => kernel_rfl
  case hr19x148 => kernel_rfl
  case hQ19x148 => exact fun _ _ _ h => h
  case hy19x148 => exact Or.inr ⟨by rfl, rfl⟩
  case hS19x148 => assumption
  (try simp only [Act.put, List.setIfInBounds_toArray, List.set_cons_zero, List.set_cons_succ])
  refine' wpAnyH_take (i := 20) (v := undef) ?hi20x149 ?hs20x149 ?hf20x149 ?hr20x149 ?hQ20x149 ?hy20x149 ?hS20x149 ?rest20x149
  case hi20x149 => (simp only [List.getElem?_toArray, List.getElem?_cons_succ, List.getElem?_cons_zero]; try rfl)
  case hs20x149 => kernel_rfl
  case hf20x149 => kernel_rfl
  case hr20x149 => kernel_rfl
  case hQ20x149 => exact fun _ _ _ h => h
  case hy20x149 => exact Or.inr ⟨by rfl, rfl⟩
  case hS20x149 => assumption
  (try simp only [Act.put, List.setIfInBounds_toArray, List.set_cons_zero, List.set_cons_succ])
  refine' wpAnyH_take (i := 21) (v := undef) ?hi21x150 ?hs21x150 ?hf21x150 ?hr21x150 ?hQ21x150 ?hy21x150 ?hS21x150 ?rest21x150
  case hi21x150 => (simp only [List.getElem?_toArray, List.getElem?_cons_succ, List.getElem?_cons_zero]; try rfl)
  case hs21x150 => kernel_rfl
  case hf21x150 => kernel_rfl
  case hr21x150 => kernel_rfl
  case hQ21x150 => exact fun _ _ _ h => h
  case hy21x150 => exact Or.inr ⟨by rfl, rfl⟩
  case hS21x150 => assumption
  (try simp only [Act.put, List.setIfInBounds_toArray, List.set_cons_zero, List.set_cons_succ])
  refine' wpAnyH_take (i := 22) (v := undef) ?hi22x151 ?hs22x151 ?hf22x151 ?hr22x151 ?hQ22x151 ?hy22x151 ?hS22x151 ?rest22x151
  case hi22x151 => (simp only [List.getElem?_toArray, List.getElem?_cons_succ, List.getElem?_cons_zero]; try rfl)
  case hs22x151 => kernel_rfl
  case hf22x151 => kernel_rfl
  case hr22x151 => kernel_rfl
  case hQ22x151 => exact fun _ _ _ h => h
  case hy22x151 => exact Or.inr ⟨by rfl, rfl⟩
  case hS22x151 => assumption
  (try simp only [Act.put, List.setIfInBounds_toArray, List.set_cons_zero, List.set_cons_succ])
  refine' wpAnyH_take (i := 23) (v := undef) ?hi23x152 ?hs23x152 ?hf23x152 ?hr23x152 ?hQ23x152 ?hy23x152 ?hS23x152 ?rest23x152
  case hi23x152 => (simp only [List.getElem?_toArray, List.getElem?_cons_succ, List.getElem?_cons_zero]; try rfl)
  case hs23x152 => kernel_rfl
  case hf23x152 => kernel_rfl
  case hr23x152 => kernel_rfl
  case hQ23x152 => exact fun _ _ _ h => h
  case hy23x152 => exact Or.inr ⟨by rfl, rfl⟩
  case hS23x152 => assumption
  (try simp only [Act.put, List.setIfInBounds_toArray, List.set_cons_zero, List.set_cons_succ])
  refine' wpAnyH_take (i := 24) (v := undef) ?hi24x153 ?hs24x153 ?hf24x153 ?hr24x153 ?hQ24x153 ?hy24x153 ?hS24x153 ?rest24x153
  case hi24x153 => (simp only [List.getElem?_toArray, List.getElem?_cons_succ, List.getElem?_cons_zero]; try rfl)
  case hs24x153 => kernel_rfl
  case hf24x153 => kernel_rfl
  case hr24x153 => kernel_rfl
  case hQ24x153 => exact fun _ _ _ h => h
  case hy24x153 => exact Or.inr ⟨by rfl, rfl⟩
  case hS24x153 => assumption
  (try simp only [Act.put, List.setIfInBounds_toArray, List.set_cons_zero, List.set_cons_succ])
  refine' wpAnyH_take (i := 25) (v := undef) ?hi25x154 ?hs25x154 ?hf25x154 ?hr25x154 ?hQ25x154 ?hy25x154 ?hS25x154 ?rest25x154
  case hi25x154 => (simp only [List.getElem?_toArray, List.getElem?_cons_succ, List.getElem?_cons_zero]; try rfl)
  case hs25x154 => kernel_rfl
  case hf25x154 => kernel_rfl
  case hr25x154 => kernel_rfl
  case hQ25x154 => exact fun _ _ _ h => h
  case hy25x154 => exact Or.inr ⟨by rfl, rfl⟩
  case hS25x154 => assumption
  (try simp only [Act.put, List.setIfInBounds_toArray, List.set_cons_zero, List.set_cons_succ])
  refine' wpAnyH_take (i := 26) (v := .bool true) ?hi26x155 ?hs26x155 ?hf26x155 ?hr26x155 ?hQ26x155 ?hy26x155 ?hS26x155 ?rest26x155
  case hi26x155 => (simp only [List.getElem?_toArray, List.getElem?_cons_succ, List.getElem?_cons_zero]; try rfl)
  case hs26x155 => kernel_rfl
  case hf26x155 => kernel_rfl
  case hr26x155 => kernel_rfl
  case hQ26x155 => exact fun _ _ _ h => h
  case hy26x155 => exact Or.inl ⟨by rfl, by (intro w hSw; (try dsimp only at hSw); go_simp)⟩
  case hS26x155 => assumption
  (try simp only [Act.put, List.setIfInBounds_toArray, List.set_cons_zero, List.set_cons_succ])
  refine' wpAnyH_take (i := 28) (v := .agg #[.int .u8 k0, .bool b0, .int .i64 n0, .string s0]) ?hi28x156 ?hs28x156 ?hf28x156 ?hr28x156 ?hQ28x156 ?hy28x156 ?hS28x156 ?rest28x156
  case hi28x156 => (simp only [List.getElem?_toArray, List.getElem?_cons_succ, List.getElem?_cons_zero]; try rfl)
  case hs28x156 => kernel_rfl
  case hf28x156 => kernel_rfl
  case hr28x156 => kernel_rfl
  case hQ28x156 => exact fun _ _ _ h => h
  case hy28x156 => exact Or.inl ⟨by rfl, by (intro w hSw; (try dsimp only at hSw); go_simp)⟩
  case hS28x156 => assumption
  (try simp only [Act.put, List.setIfInBounds_toArray, List.set_cons_zero, List.set_cons_succ])
  refine' wpAnyH_take (i := 29) (v := .agg #[.int .u8 k1, .bool b1, .int .i64 n1, .string s1]) ?hi29x157 ?hs29x157 ?hf29x157 ?hr29x157 ?hQ29x157 ?hy29x157 ?hS29x157 ?rest29x157
  case hi29x157 => (simp only [List.getElem?_toArray, List.getElem?_cons_succ, List.getElem?_cons_zero]; try rfl)
  case hs29x157 => kernel_rfl
  case hf29x157 => kernel_rfl
  case hr29x157 => kernel_rfl
  case hQ29x157 => exact fun _ _ _ h => h
  case hy29x157 => exact Or.inl ⟨by rfl, by (intro w hSw; (try dsimp only at hSw); go_simp)⟩
  case hS29x157 => assumption
  (try simp only [Act.put, List.setIfInBounds_toArray, List.set_cons_zero, List.set_cons_succ])
  refine wpAnyH_ready (rs := [27, 30]) (by kernel_rfl) (by simp) ?_
  refine' AllReadyH.cons (i := 27) ?ho27x158 (fun K hK => ?st27x158) (AllReadyH.cons (i := 30) ?ho30x159 (fun K hK => ?st30x159) AllReadyH.nil)
  case ho27x158 => (simp only [List.getElem?_toArray, List.getElem?_cons_succ, List.getElem?_cons_zero]; try rfl)
  case ho30x159 => (simp only [List.getElem?_toArray, List.getElem?_cons_succ, List.getElem?_cons_zero]; try rfl)
  case st27x158 =>
    go_simp
    refine (refOver_any _ _).mono ?_
    rintro e w' ⟨rfl, rfl⟩
    go_wp2_with fail
    refine hK.out _ _ ?_ (fun hHeld => ?_)
    · (first | exact ⟨a0_, a1_, a2_, a3_, b0_, b1_, b2_, b3_⟩ | go_keep)
    clear hK K
    (try simp only [Act.put, List.setIfInBounds_toArray, List.set_cons_zero, List.set_cons_succ])
    refine wpAnyH_ready (rs := [30]) (by kernel_rfl) (by simp) ?_
    refine' AllReadyH.cons (i := 30) ?ho30x160 (fun K hK => ?st30x160) AllReadyH.nil
    case ho30x160 => (simp only [List.getElem?_toArray, List.getElem?_cons_succ, List.getElem?_cons_zero]; try rfl)
    go_simp
    refine hK.out _ _ ?_ (fun hHeld => ?_)
    · (first | exact ⟨a0_, a1_, a2_, a3_, b0_, b1_, b2_, b3_⟩ | go_keep)
    clear hK K
    (try simp only [Act.put, List.setIfInBounds_toArray, List.set_cons_zero, List.set_cons_succ])
    refine wpAnyH_ready (rs := [31]) (by kernel_rfl) (by simp) ?_
    refine' AllReadyH.cons (i := 31) ?ho31x161 (fun K hK => ?st31x161) AllReadyH.nil
    case ho31x161 => (simp only [List.getElem?_toArray, List.getElem?_cons_succ, List.getElem?_cons_zero]; try rfl)
    go_simp
    refine (refNum2_any _ _ k0 b0 n0 s0 k1 b1 n1 s1 _ _ _ (by exact heap_at _ _ _ (by first | rfl | simp)) hs0H.out hs1H.out).mono ?_
    rw [hrH.out, refVm]
    rintro e w' ⟨rfl, hb'⟩
    replace hb := chainB (B := W0.heap.size) (a := W0) (by go_grown) hb' (by have := hb.size; first | omega | (simp; done) | (simp; omega))
    clear hb' a0_ a1_ a2_ a3_ b0_ b1_ b2_ b3_ r0_ r1_ r2_ r3_ f0_ f1_ f2_ f3_ hz hs
    obtain ⟨a0_, a1_, a2_, a3_⟩ := (hAH.out.below hb).cells; obtain ⟨b0_, b1_, b2_, b3_⟩ := (hBH.out.below hb).cells; obtain ⟨r0_, r1_, r2_, r3_⟩ := (hRH.out.below hb).cells; obtain ⟨f0_, f1_, f2_, f3_⟩ := (hRH.out.below hb).free; have hz := Nat.lt_of_lt_of_le hz0.out hb.size; have hs := hb.size
    go_wp2_with fail
    refine hK.out _ _ ?_ (fun hHeld => ?_)
    · (first | exact ⟨a0_, a1_, a2_, a3_, b0_, b1_, b2_, b3_⟩ | go_keep)
    clear hK K
    (try simp only [Act.put, List.setIfInBounds_toArray, List.set_cons_zero, List.set_cons_succ])
    refine' wpAnyH_take (i := 32) (v := .agg #[.int .u8 k', .bool b', .int .i64 n', .string s']) ?hi32x162 ?hs32x162 ?hf32x162 ?hr32x162 ?hQ32x162 ?hy32x162 ?hS32x162 ?rest32x162
    case hi32x162 => (simp only [List.getElem?_toArray, List.getElem?_cons_succ, List.getElem?_cons_zero]; try rfl)
    case hs32x162 => kernel_rfl
    case hf32x162 => kernel_rfl
    case hr32x162 => kernel_rfl
    case hQ32x162 => exact fun _ _ _ h => h
    case hy32x162 => exact Or.inl ⟨by rfl, by (intro w hSw; (try dsimp only at hSw); go_simp)⟩
    case hS32x162 => assumption
    (try simp only [Act.put, List.setIfInBounds_toArray, List.set_cons_zero, List.set_cons_succ])
    refine' wpAnyH_take (i := 33) (v := .int .i64 x) ?hi33x163 ?hs33x163 ?hf33x163 ?hr33x163 ?hQ33x163 ?hy33x163 ?hS33x163 ?rest33x163
    case hi33x163 => (simp only [List.getElem?_toArray, List.getElem?_cons_succ, List.getElem?_cons_zero]; try rfl)
    case hs33x163 => kernel_rfl
    case hf33x163 => kernel_rfl
    case hr33x163 => kernel_rfl
    case hQ33x163 => exact fun _ _ _ h => h
    case hy33x163 => exact Or.inl ⟨by rfl, by (intro w hSw; (try dsimp only at hSw); go_simp)⟩
    case hS33x163 => assumption
    (try simp only [Act.put, List.setIfInBounds_toArray, List.set_cons_zero, List.set_cons_succ])
    have hne1 : ¬ (w.heap.size + 1 + 1 = w.heap.size) := by omega
    have hne2 : ¬ (w.heap.size = w.heap.size + 1 + 1) := by omega
    refine wpAnyH_ready (rs := [34]) (by kernel_rfl) (by simp) ?_
    refine' AllReadyH.cons (i := 34) ?ho34x164 (fun K hK => ?st34x164) AllReadyH.nil
    case ho34x164 => (simp only [List.getElem?_toArray, List.getElem?_cons_succ, List.getElem?_cons_zero]; try rfl)
    go_simp
    refine hK.out _ _ ?_ (fun hHeld => ?_)
    · (first | exact ⟨a0_, a1_, a2_, a3_, b0_, b1_, b2_, b3_⟩ | go_keep)
    clear hK K
    (try simp only [Act.put, List.setIfInBounds_toArray, List.set_cons_zero, List.set_cons_succ])
    refine' wpAnyH_take (i := 35) (v := .int .i64 x) ?hi35x165 ?hs35x165 ?hf35x165 ?hr35x165 ?hQ35x165 ?hy35x165 ?hS35x165 ?rest35x165
    case hi35x165 => (simp only [List.getElem?_toArray, List.getElem?_cons_succ, List.getElem?_cons_zero]; try rfl)
    case hs35x165 => kernel_rfl
    case hf35x165 => kernel_rfl
    case hr35x165 => kernel_rfl
    case hQ35x165 => exact fun _ _ _ h => h
    case hy35x165 => exact Or.inl ⟨by rfl, by (intro w hSw; (try dsimp only at hSw); go_simp)⟩
    case hS35x165 => assumption
    (try simp only [Act.put, List.setIfInBounds_toArray, List.set_cons_zero, List.set_cons_succ])
    refine wpAnyH_done (by kernel_rfl) ?_ _
    refine NoPanic.normal ?_
    clear hne1 hne2
    go_wp2
    refine bodyPost_ret (v := .tuple #[.agg #[.int .u8 k', .bool b', .int .i64 n', .string s'], .int .i64 x]) (by simp [results, Tryd.results32, go_sem, r0_, r1_, r2_, r3_, hz]) rfl ⟨rfl, ?_⟩
    have hbw := hwWH.out.trans (hb.mono hwWH.out.size)
    clear hb
    go_grown
  case st30x159 =>
    go_simp
    refine hK.out _ _ ?_ (fun hHeld => ?_)
    · (first | exact ⟨a0_, a1_, a2_, a3_, b0_, b1_, b2_, b3_⟩ | go_keep)
    clear hK K
    (try simp only [Act.put, List.setIfInBounds_toArray, List.set_cons_zero, List.set_cons_succ])
    refine wpAnyH_ready (rs := [27]) (by kernel_rfl) (by simp) ?_
    refine' AllReadyH.cons (i := 27) ?ho27x166 (fun K hK => ?st27x166) AllReadyH.nil
    case ho27x166 => (simp only [List.getElem?_toArray, List.getElem?_cons_succ, List.getElem?_cons_zero]; try rfl)
    go_simp
    refine (refOver_any _ _).mono ?_
    rintro e w' ⟨rfl, rfl⟩
    go_wp2_with fail
    refine hK.out _ _ ?_ (fun hHeld => ?_)
    · (first | exact ⟨a0_, a1_, a2_, a3_, b0_, b1_, b2_, b3_⟩ | go_keep)
    clear hK K
    (try simp only [Act.put, List.setIfInBounds_toArray, List.set_cons_zero, List.set_cons_succ])
    refine wpAnyH_ready (rs := [31]) (by kernel_rfl) (by simp) ?_
    refine' AllReadyH.cons (i := 31) ?ho31x167 (fun K hK => ?st31x167) AllReadyH.nil
    case ho31x167 => (simp only [List.getElem?_toArray, List.getElem?_cons_succ, List.getElem?_cons_zero]; try rfl)
    go_simp
    refine (refNum2_any _ _ k0 b0 n0 s0 k1 b1 n1 s1 _ _ _ (by exact heap_at _ _ _ (by first | rfl | simp)) hs0H.out hs1H.out).mono ?_
    rw [hrH.out, refVm]
    rintro e w' ⟨rfl, hb'⟩
    replace hb := chainB (B := W0.heap.size) (a := W0) (by go_grown) hb' (by have := hb.size; first | omega | (simp; done) | (simp; omega))
    clear hb' a0_ a1_ a2_ a3_ b0_ b1_ b2_ b3_ r0_ r1_ r2_ r3_ f0_ f1_ f2_ f3_ hz hs
    obtain ⟨a0_, a1_, a2_, a3_⟩ := (hAH.out.below hb).cells; obtain ⟨b0_, b1_, b2_, b3_⟩ := (hBH.out.below hb).cells; obtain ⟨r0_, r1_, r2_, r3_⟩ := (hRH.out.below hb).cells; obtain ⟨f0_, f1_, f2_, f3_⟩ := (hRH.out.below hb).free; have hz := Nat.lt_of_lt_of_le hz0.out hb.size; have hs := hb.size
    go_wp2_with fail
    refine hK.out _ _ ?_ (fun hHeld => ?_)
    · (first | exact ⟨a0_, a1_, a2_, a3_, b0_, b1_, b2_, b3_⟩ | go_keep)
    clear hK K
    (try simp only [Act.put, List.setIfInBounds_toArray, List.set_cons_zero, List.set_cons_succ])
    refine' wpAnyH_take (i := 32) (v := .agg #[.int .u8 k', .bool b', .int .i64 n', .string s']) ?hi32x168 ?hs32x168 ?hf32x168 ?hr32x168 ?hQ32x168 ?hy32x168 ?hS32x168 ?rest32x168
    case hi32x168 => (simp only [List.getElem?_toArray, List.getElem?_cons_succ, List.getElem?_cons_zero]; try rfl)
    case hs32x168 => kernel_rfl
    case hf32x168 => kernel_rfl
    case hr32x168 => kernel_rfl
    case hQ32x168 => exact fun _ _ _ h => h
    case hy32x168 => exact Or.inl ⟨by rfl, by (intro w hSw; (try dsimp only at hSw); go_simp)⟩
    case hS32x168 => assumption
    (try simp only [Act.put, List.setIfInBounds_toArray, List.set_cons_zero, List.set_cons_succ])
    refine' wpAnyH_take (i := 33) (v := .int .i64 x) ?hi33x169 ?hs33x169 ?hf33x169 ?hr33x169 ?hQ33x169 ?hy33x169 ?hS33x169 ?rest33x169
    case hi33x169 => (simp only [List.getElem?_toArray, List.getElem?_cons_succ, List.getElem?_cons_zero]; try rfl)
    case hs33x169 => kernel_rfl
    case hf33x169 => kernel_rfl
    case hr33x169 => kernel_rfl
    case hQ33x169 => exact fun _ _ _ h => h
    case hy33x169 => exact Or.inl ⟨by rfl, by (intro w hSw; (try dsimp only at hSw); go_simp)⟩
    case hS33x169 => assumption
    (try simp only [Act.put, List.setIfInBounds_toArray, List.set_cons_zero, List.set_cons_succ])
    have hne1 : ¬ (w.heap.size + 1 + 1 = w.heap.size) := by omega
    have hne2 : ¬ (w.heap.size = w.heap.size + 1 + 1) := by omega
    refine wpAnyH_ready (rs := [34]) (by kernel_rfl) (by simp) ?_
    refine' AllReadyH.cons (i := 34) ?ho34x170 (fun K hK => ?st34x170) AllReadyH.nil
    case ho34x170 => (simp only [List.getElem?_toArray, List.getElem?_cons_succ, List.getElem?_cons_zero]; try rfl)
    go_simp
    refine hK.out _ _ ?_ (fun hHeld => ?_)
    · (first | exact ⟨a0_, a1_, a2_, a3_, b0_, b1_, b2_, b3_⟩ | go_keep)
    clear hK K
    (try simp only [Act.put, List.setIfInBounds_toArray, List.set_cons_zero, List.set_cons_succ])
    refine' wpAnyH_take (i := 35) (v := .int .i64 x) ?hi35x171 ?hs35x171 ?hf35x171 ?hr35x171 ?hQ35x171 ?hy35x171 ?hS35x171 ?rest35x171
    case hi35x171 => (simp only [List.getElem?_toArray, List.getElem?_cons_succ, List.getElem?_cons_zero]; try rfl)
    case hs35x171 => kernel_rfl
    case hf35x171 => kernel_rfl
    case hr35x171 => kernel_rfl
    case hQ35x171 => exact fun _ _ _ h => h
    case hy35x171 => exact Or.inl ⟨by rfl, by (intro w hSw; (try dsimp only at hSw); go_simp)⟩
    case hS35x171 => assumption
    (try simp only [Act.put, List.setIfInBounds_toArray, List.set_cons_zero, List.set_cons_succ])
    refine wpAnyH_done (by kernel_rfl) ?_ _
    refine NoPanic.normal ?_
    clear hne1 hne2
    go_wp2
    refine bodyPost_ret (v := .tuple #[.agg #[.int .u8 k', .bool b', .int .i64 n', .string s'], .int .i64 x]) (by simp [results, Tryd.results32, go_sem, r0_, r1_, r2_, r3_, hz]) rfl ⟨rfl, ?_⟩
    have hbw := hwWH.out.trans (hb.mono hwWH.out.size)
    clear hb
    go_grown

set_option maxRecDepth 100000 in
set_option maxHeartbeats 8000000 in
theorem refAdd_nnp (k0 : Int) (b0 : Bool) (n0 : Int) (s0 : ByteArray) (k1 : Int) (b1 : Bool) (n1 : Int) (s1 : ByteArray) (w : World) (hs0 : s0.size ≤ 140737488355328) (hs1 : s1.size ≤ 140737488355328) (ha : n0 < 0) (hb1 : n1 < 0) (hc : 0 ≤ wrap64 (n0 + n1)) :
    Calls Tryd.prog 32 #[.agg #[.int .u8 k0, .bool b0, .int .i64 n0, .string s0], .agg #[.int .u8 k1, .bool b1, .int .i64 n1, .string s1]] w fun e w' => e = .returned (refV (numS ⟨k0, b0, n0, s0⟩ ⟨k1, b1, n1, s1⟩ (wrap64 (n0 + n1), 10))) ∧ Below w.heap.size w w' := by
  obtain ⟨r, hr⟩ : ∃ r, numS ⟨k0, b0, n0, s0⟩ ⟨k1, b1, n1, s1⟩ (wrap64 (n0 + n1), 10) = r := ⟨_, rfl⟩
  rw [hr]
  obtain ⟨⟨k', b', n', s'⟩, x⟩ := r
  rw [refVm]
  have hrH := Lib.hid hr
  clear hr
  have hs0H := Lib.hid hs0; have hs1H := Lib.hid hs1
  obtain ⟨m, hm⟩ : ∃ m, wrap64 (n0 + n1) = m := ⟨_, rfl⟩
  have hm' : IntKind.i64.wrap (n0 + n1) = m := by rw [wrap_is, hm]
  rw [hm] at hrH
  rw [hm] at hc
  have d1 : decide (n0 ≥ 0) = false := by simp; omega
  have d2 : decide (n0 < 0) = true := by simp; omega
  have d3 : decide (n1 < 0) = true := by simp; omega
  have d4 : decide (m < 0) = false := by simp; omega
  have d5 : decide (m ≥ 0) = true := by simp; omega
  obtain ⟨W0, hW0, hwW, hA, hB, hR, hzz⟩ := boxes2 w k0 b0 n0 s0 k1 b1 n1 s1
  have hAH := Lib.hid hA; have hBH := Lib.hid hB; have hRH := Lib.hid hR; have hz0 := Lib.hid hzz; have hwWH := Lib.hid hwW
  clear hA hB hR hzz hwW hs0 hs1
  have hb := Below.refl W0.heap.size W0
  obtain ⟨a0_, a1_, a2_, a3_⟩ := (hAH.out.below hb).cells; obtain ⟨b0_, b1_, b2_, b3_⟩ := (hBH.out.below hb).cells; obtain ⟨r0_, r1_, r2_, r3_⟩ := (hRH.out.below hb).cells; obtain ⟨f0_, f1_, f2_, f3_⟩ := (hRH.out.below hb).free; have hz := Nat.lt_of_lt_of_le hz0.out hb.size; have hs := hb.size
  go_enter Tryd.func32, Tryd.ntmps32
  go_wp2_with fail
  refine wp_region_noPanic ?_
  refine wp_region_held_drew (S := (fun w' => w'.cell? ⟨w.heap.size, 0, none⟩ = some (.int .u8 k0) ∧ w'.cell? ⟨w.heap.size, 1, none⟩ = some (.bool b0) ∧ w'.cell? ⟨w.heap.size, 2, none⟩ = some (.int .i64 n0) ∧ w'.cell? ⟨w.heap.size, 3, none⟩ = some (.string s0) ∧ w'.cell? ⟨w.heap.size + 1, 0, none⟩ = some (.int .u8 k1) ∧ w'.cell? ⟨w.heap.size + 1, 1, none⟩ = some (.bool b1) ∧ w'.cell? ⟨w.heap.size + 1, 2, none⟩ = some (.int .i64 n1) ∧ w'.cell? ⟨w.heap.size + 1, 3, none⟩ = some (.string s1))) (by kernel_rfl) (by first | exact ⟨a0_, a1_, a2_, a3_, b0_, b1_, b2_, b3_⟩ | go_keep) (fun hHeld => ?_)
  refine' wpAnyH_take (i := 0) (v := .int .i64 m) ?hi0x172 ?hs0x172 ?hf0x172 ?hr0x172 ?hQ0x172 ?hy0x172 ?hS0x172 ?rest0x172
  case hi0x172 => (simp only [List.getElem?_toArray, List.getElem?_cons_succ, List.getElem?_cons_zero]; try rfl)
  case hs0x172 => kernel_rfl
  case hf0x172 => kernel_rfl
  case hr0x172 => kernel_rfl
  case hQ0x172 => exact fun _ _ _ h => h
  case hy0x172 => exact Or.inl ⟨by rfl, by (intro w hSw; (try dsimp only at hSw); go_simp)⟩
  case hS0x172 => assumption
  (try simp only [Act.put, List.setIfInBounds_toArray, List.set_cons_zero, List.set_cons_succ])
  refine' wpAnyH_take (i := 1) (v := .pointer (some ⟨w.heap.size, 2, none⟩)) ?hi1x173 ?hs1x173 ?hf1x173 ?hr1x173 ?hQ1x173 ?hy1x173 ?hS1x173 ?rest1x173
  case hi1x173 => (simp only [List.getElem?_toArray, List.getElem?_cons_succ, List.getElem?_cons_zero]; try rfl)
  case hs1x173 => kernel_rfl
  case hf1x173 => kernel_rfl
  case hr1x173 => kernel_rfl
  case hQ1x173 => exact fun _ _ _ h => h
  case hy1x173 => exact Or.inl ⟨by rfl, by (intro w hSw; (try dsimp only at hSw); go_simp)⟩
  case hS1x173 => assumption
  (try simp only [Act.put, List.setIfInBounds_toArray, List.set_cons_zero, List.set_cons_succ])
  refine' wpAnyH_take (i := 2) (v := .int .i64 n0) ?hi2x174 ?hs2x174 ?hf2x174 ?hr2x174 ?hQ2x174 ?hy2x174 ?hS2x174 ?rest2x174
  case hi2x174 => (simp only [List.getElem?_toArray, List.getElem?_cons_succ, List.getElem?_cons_zero]; try rfl)
  case hs2x174 => kernel_rfl
  case hf2x174 => kernel_rfl
  case hr2x174 => kernel_rfl
  case hQ2x174 => exact fun _ _ _ h => h
  case hy2x174 => exact Or.inl ⟨by rfl, by (intro w hSw; (try dsimp only at hSw); go_simp)⟩
  case hS2x174 => assumption
  (try simp only [Act.put, List.setIfInBounds_toArray, List.set_cons_zero, List.set_cons_succ])
  refine' wpAnyH_take (i := 3) (v := .bool false) ?hi3x175 ?hs3x175 ?hf3x175 ?hr3x175 ?hQ3x175 ?hy3x175 ?hS3x175 ?rest3x175
  case hi3x175 => (simp only [List.getElem?_toArray, List.getElem?_cons_succ, List.getElem?_cons_zero]; try rfl)
  case hs3x175 => kernel_rfl
  case hf3x175 => kernel_rfl
  case hr3x175 => kernel_rfl
  case hQ3x175 => exact fun _ _ _ h => h
  case hy3x175 => exact Or.inl ⟨by rfl, by (intro w hSw; (try dsimp only at hSw); go_simp)⟩
  case hS3x175 => assumption
  (try simp only [Act.put, List.setIfInBounds_toArray, List.set_cons_zero, List.set_cons_succ])
  refine' wpAnyH_take (i := 4) (v := .bool false) ?hi4x176 ?hs4x176 ?hf4x176 ?hr4x176 ?hQ4x176 ?hy4x176 ?hS4x176 ?rest4x176
  case hi4x176 => (simp only [List.getElem?_toArray, List.getElem?_cons_succ, List.getElem?_cons_zero]; try rfl)
  case hs4x176 => kernel_rfl
  case hf4x176 => kernel_rfl
  case hr4x176 => kernel_rfl
  case hQ4x176 => exact fun _ _ _ h => h
  case hy4x176 => exact Or.inl ⟨by rfl, by (intro w hSw; (try dsimp only at hSw); go_simp)⟩
  case hS4x176 => assumption
  (try simp only [Act.put, List.setIfInBounds_toArray, List.set_cons_zero, List.set_cons_succ])
  refine' wpAnyH_take (i := 5) (v := undef) ?hi5x177 ?hs5x177 ?hf5x177 ?hr5x177 ?hQ5x177 ?hy5x177 ?hS5x177 ?rest5x177
  case hi5x177 => (simp only [List.getElem?_toArray, List.getElem?_cons_succ, List.getElem?_cons_zero]; try rfl)
  case hs5x177 => kernel_rfl
  case hf5x177 => kernel_rfl
  case hr5x177 => kernel_rfl
  case hQ5x177 => exact fun _ _ _ h => h
  case hy5x177 => exact Or.inr ⟨by rfl, rfl⟩
  case hS5x177 => assumption
  (try simp only [Act.put, List.setIfInBounds_toArray, List.set_cons_zero, List.set_cons_succ])
  refine' wpAnyH_take (i := 6) (v := undef) ?hi6x178 ?hs6x178 ?hf6x178 ?hr6x178 ?hQ6x178 ?hy6x178 ?hS6x178 ?rest6x178
  case hi6x178 => (simp only [List.getElem?_toArray, List.getElem?_cons_succ, List.getElem?_cons_zero]; try rfl)
  case hs6x178 => kernel_rfl
  case hf6x178 => kernel_rfl
  case hr6x178 => kernel_rfl
  case hQ6x178 => exact fun _ _ _ h => h
  case hy6x178 => exact Or.inr ⟨by rfl, rfl⟩
  case hS6x178 => assumption
  (try simp only [Act.put, List.setIfInBounds_toArray, List.set_cons_zero, List.set_cons_succ])
  refine' wpAnyH_take (i := 7) (v := undef) ?hi7x179 ?hs7x179 ?hf7x179 ?hr7x179 ?hQ7x179 ?hy7x179 ?hS7x179 ?rest7x179
  case hi7x179 => (simp only [List.getElem?_toArray, List.getElem?_cons_succ, List.getElem?_cons_zero]; try rfl)
  case hs7x179 => kernel_rfl
  case hf7x179 => kernel_rfl
  case hr7x179 => kernel_rfl
  case hQ7x179 => exact fun _ _ _ h => h
  case hy7x179 => exact Or.inr ⟨by rfl, rfl⟩
  case hS7x179 => assumption
  (try simp only [Act.put, List.setIfInBounds_toArray, List.set_cons_zero, List.set_cons_succ])
  refine' wpAnyH_take (i := 8) (v := .bool false) ?hi8x180 ?hs8x180 ?hf8x180 ?hr8x180 ?hQ8x180 ?hy8x180 ?hS8x180 ?rest8x180
  case hi8x180 => (simp only [List.getElem?_toArray, List.getElem?_cons_succ, List.getElem?_cons_zero]; try rfl)
  case hs8x180 => kernel_rfl
  case hf8x180 => kernel_rfl
  case hr8x180 => kernel_rfl
  case hQ8x180 => exact fun _ _ _ h => h
  case hy8x180 => exact Or.inl ⟨by rfl, by (intro w hSw; (try dsimp only at hSw); go_simp)⟩
  case hS8x180 => assumption
  (try simp only [Act.put, List.setIfInBounds_toArray, List.set_cons_zero, List.set_cons_succ])
  refine' wpAnyH_take (i := 9) (v := .bool false) ?hi9x181 ?hs9x181 ?hf9x181 ?hr9x181 ?hQ9x181 ?hy9x181 ?hS9x181 ?rest9x181
  case hi9x181 => (simp only [List.getElem?_toArray, List.getElem?_cons_succ, List.getElem?_cons_zero]; try rfl)
  case hs9x181 => kernel_rfl
  case hf9x181 => kernel_rfl
  case hr9x181 => kernel_rfl
  case hQ9x181 => exact fun _ _ _ h => h
  case hy9x181 => exact Or.inl ⟨by rfl, by (intro w hSw; (try dsimp only at hSw); go_simp)⟩
  case hS9x181 => assumption
  (try simp only [Act.put, List.setIfInBounds_toArray, List.set_cons_zero, List.set_cons_succ])
  refine' wpAnyH_take (i := 10) (v := undef) ?hi10x182 ?hs10x182 ?hf10x182 ?hr10x182 ?hQ10x182 ?hy10x182 ?hS10x182 ?rest10x182
  case hi10x182 => (simp only [List.getElem?_toArray, List.getElem?_cons_succ, List.getElem?_cons_zero]; try rfl)
  case hs10x182 => kernel_rfl
  case hf10x182 => kernel_rfl
  case hr10x182 => kernel_rfl
  case hQ10x182 => exact fun _ _ _ h => h
  case hy10x182 => exact Or.inr ⟨by rfl, rfl⟩
  case hS10x182 => assumption
  (try simp only [Act.put, List.setIfInBounds_toArray, List.set_cons_zero, List.set_cons_succ])
  refine' wpAnyH_take (i := 11) (v := undef) ?hi11x183 ?hs11x183 ?hf11x183 ?hr11x183 ?hQ11x183 ?hy11x183 ?hS11x183 ?rest11x183
  case hi11x183 => (simp only [List.getElem?_toArray, List.getElem?_cons_succ, List.getElem?_cons_zero]; try rfl)
  case hs11x183 => kernel_rfl
  case hf11x183 => kernel_rfl
  case hr11x183 => kernel_rfl
  case hQ11x183 => exact fun _ _ _ h => h
  case hy11x183 => exact Or.inr ⟨by rfl, rfl⟩
  case hS11x183 => assumption
  (try simp only [Act.put, List.setIfInBounds_toArray, List.set_cons_zero, List.set_cons_succ])
  refine' wpAnyH_take (i := 12) (v := .bool false) ?hi12x184 ?hs12x184 ?hf12x184 ?hr12x184 ?hQ12x184 ?hy12x184 ?hS12x184 ?rest12x184
  case hi12x184 => (simp only [List.getElem?_toArray, List.getElem?_cons_succ, List.getElem?_cons_zero]; try rfl)
  case hs12x184 => kernel_rfl
  case hf12x184 => kernel_rfl
  case hr12x184 => kernel_rfl
  case hQ12x184 => exact fun _ _ _ h => h
  case hy12x184 => exact Or.inl ⟨by rfl, by (intro w hSw; (try dsimp only at hSw); go_simp)⟩
  case hS12x184 => assumption
  (try simp only [Act.put, List.setIfInBounds_toArray, List.set_cons_zero, List.set_cons_succ])
  refine' wpAnyH_take (i := 13) (v := .bool false) ?hi13x185 ?hs13x185 ?hf13x185 ?hr13x185 ?hQ13x185 ?hy13x185 ?hS13x185 ?rest13x185
  case hi13x185 => (simp only [List.getElem?_toArray, List.getElem?_cons_succ, List.getElem?_cons_zero]; try rfl)
  case hs13x185 => kernel_rfl
  case hf13x185 => kernel_rfl
  case hr13x185 => kernel_rfl
  case hQ13x185 => exact fun _ _ _ h => h
  case hy13x185 => exact Or.inl ⟨by rfl, by (intro w hSw; (try dsimp only at hSw); go_simp)⟩
  case hS13x185 => assumption
  (try simp only [Act.put, List.setIfInBounds_toArray, List.set_cons_zero, List.set_cons_succ])
  refine' wpAnyH_take (i := 14) (v := .pointer (some ⟨w.heap.size, 2, none⟩)) ?hi14x186 ?hs14x186 ?hf14x186 ?hr14x186 ?hQ14x186 ?hy14x186 ?hS14x186 ?rest14x186
  case hi14x186 => (simp only [List.getElem?_toArray, List.getElem?_cons_succ, List.getElem?_cons_zero]; try rfl)
  case hs14x186 => kernel_rfl
  case hf14x186 => kernel_rfl
  case hr14x186 => kernel_rfl
  case hQ14x186 => exact fun _ _ _ h => h
  case hy14x186 => exact Or.inl ⟨by rfl, by (intro w hSw; (try dsimp only at hSw); go_simp)⟩
  case hS14x186 => assumption
  (try simp only [Act.put, List.setIfInBounds_toArray, List.set_cons_zero, List.set_cons_succ])
  refine' wpAnyH_take (i := 15) (v := .int .i64 n0) ?hi15x187 ?hs15x187 ?hf15x187 ?hr15x187 ?hQ15x187 ?hy15x187 ?hS15x187 ?rest15x187
  case hi15x187 => (simp only [List.getElem?_toArray, List.getElem?_cons_succ, List.getElem?_cons_zero]; try rfl)
  case hs15x187 => kernel_rfl
  case hf15x187 => kernel_rfl
  case hr15x187 => kernel_rfl
  case hQ15x187 => exact fun _ _ _ h => h
  case hy15x187 => exact Or.inl ⟨by rfl, by (intro w hSw; (try dsimp only at hSw); go_simp)⟩
  case hS15x187 => assumption
  (try simp only [Act.put, List.setIfInBounds_toArray, List.set_cons_zero, List.set_cons_succ])
  refine' wpAnyH_take (i := 16) (v := .bool true) ?hi16x188 ?hs16x188 ?hf16x188 ?hr16x188 ?hQ16x188 ?hy16x188 ?hS16x188 ?rest16x188
  case hi16x188 => (simp only [List.getElem?_toArray, List.getElem?_cons_succ, List.getElem?_cons_zero]; try rfl)
  case hs16x188 => kernel_rfl
  case hf16x188 => kernel_rfl
  case hr16x188 => kernel_rfl
  case hQ16x188 => exact fun _ _ _ h => h
  case hy16x188 => exact Or.inl ⟨by rfl, by (intro w hSw; (try dsimp only at hSw); go_simp)⟩
  case hS16x188 => assumption
  (try simp only [Act.put, List.setIfInBounds_toArray, List.set_cons_zero, List.set_cons_succ])
  refine' wpAnyH_take (i := 17) (v := .bool true) ?hi17x189 ?hs17x189 ?hf17x189 ?hr17x189 ?hQ17x189 ?hy17x189 ?hS17x189 ?rest17x189
  case hi17x189 => (simp only [List.getElem?_toArray, List.getElem?_cons_succ, List.getElem?_cons_zero]; try rfl)
  case hs17x189 => kernel_rfl
  case hf17x189 => kernel_rfl
  case hr17x189 => kernel_rfl
  case hQ17x189 => exact fun _ _ _ h => h
  case hy17x189 => exact Or.inl ⟨by rfl, by (intro w hSw; (try dsimp only at hSw); go_simp)⟩
  case hS17x189 => assumption
  (try simp only [Act.put, List.setIfInBounds_toArray, List.set_cons_zero, List.set_cons_succ])
  refine' wpAnyH_take (i := 18) (v := .pointer (some ⟨w.heap.size + 1, 2, none⟩)) ?hi18x190 ?hs18x190 ?hf18x190 ?hr18x190 ?hQ18x190 ?hy18x190 ?hS18x190 ?rest18x190
  case hi18x190 => (simp only [List.getElem?_toArray, List.getElem?_cons_succ, List.getElem?_cons_zero]; try rfl)
  case hs18x190 => kernel_rfl
  case hf18x190 => kernel_rfl
  case hr18x190 => kernel_rfl
  case hQ18x190 => exact fun _ _ _ h => h
  case hy18x190 => exact Or.inl ⟨by rfl, by (intro w hSw; (try dsimp only at hSw); go_simp)⟩
  case hS18x190 => assumption
  (try simp only [Act.put, List.setIfInBounds_toArray, List.set_cons_zero, List.set_cons_succ])
  refine' wpAnyH_take (i := 19) (v := .int .i64 n1) ?hi19x191 ?hs19x191 ?hf19x191 ?hr19x191 ?hQ19x191 ?hy19x191 ?hS19x191 ?rest19x191
  case hi19x191 => (simp only [List.getElem?_toArray, List.getElem?_cons_succ, List.getElem?_cons_zero]; try rfl)
  case hs19x191 => kernel_rfl
  case hf19x191 => kernel_rfl
  case hr19x191 => kernel_rfl
  case hQ19x191 => exact fun _ _ _ h => h
  case hy19x191 => exact Or.inl ⟨by rfl, by (intro w hSw; (try dsimp only at hSw); go_simp)⟩
  case hS19x191 => assumption
  (try simp only [Act.put, List.setIfInBounds_toArray, List.set_cons_zero, List.set_cons_succ])
  refine' wpAnyH_take (i := 20) (v := .bool true) ?hi20x192 ?hs20x192 ?hf20x192 ?hr20x192 ?hQ20x192 ?hy20x192 ?hS20x192 ?rest20x192
  case hi20x192 => (simp only [List.getElem?_toArray, List.getElem?_cons_succ, List.getElem?_cons_zero]; try rfl)
  case hs20x192 => kernel_rfl
  case hf20x192 => kernel_rfl
  case hr20x192 => kernel_rfl
  case hQ20x192 => exact fun _ _ _ h => h
  case hy20x192 => exact Or.inl ⟨by rfl, by (intro w hSw; (try dsimp only at hSw); go_simp)⟩
  case hS20x192 => assumption
  (try simp only [Act.put, List.setIfInBounds_toArray, List.set_cons_zero, List.set_cons_succ])
  refine' wpAnyH_take (i := 21) (v := .bool true) ?hi21x193 ?hs21x193 ?hf21x193 ?hr21x193 ?hQ21x193 ?hy21x193 ?hS21x193 ?rest21x193
  case hi21x193 => (simp only [List.getElem?_toArray, List.getElem?_cons_succ, List.getElem?_cons_zero]; try rfl)
  case hs21x193 => kernel_rfl
  case hf21x193 => kernel_rfl
  case hr21x193 => kernel_rfl
  case hQ21x193 => exact fun _ _ _ h => h
  case hy21x193 => exact Or.inl ⟨by rfl, by (intro w hSw; (try dsimp only at hSw); go_simp)⟩
  case hS21x193 => assumption
  (try simp only [Act.put, List.setIfInBounds_toArray, List.set_cons_zero, List.set_cons_succ])
  refine' wpAnyH_take (i := 22) (v := .bool true) ?hi22x194 ?hs22x194 ?hf22x194 ?hr22x194 ?hQ22x194 ?hy22x194 ?hS22x194 ?rest22x194
  case hi22x194 => (simp only [List.getElem?_toArray, List.getElem?_cons_succ, List.getElem?_cons_zero]; try rfl)
  case hs22x194 => kernel_rfl
  case hf22x194 => kernel_rfl
  case hr22x194 => kernel_rfl
  case hQ22x194 => exact fun _ _ _ h => h
  case hy22x194 => exact Or.inl ⟨by rfl, by (intro w hSw; (try dsimp only at hSw); go_simp)⟩
  case hS22x194 => assumption
  (try simp only [Act.put, List.setIfInBounds_toArray, List.set_cons_zero, List.set_cons_succ])
  refine' wpAnyH_take (i := 23) (v := .int .i64 m) ?hi23x195 ?hs23x195 ?hf23x195 ?hr23x195 ?hQ23x195 ?hy23x195 ?hS23x195 ?rest23x195
  case hi23x195 => (simp only [List.getElem?_toArray, List.getElem?_cons_succ, List.getElem?_cons_zero]; try rfl)
  case hs23x195 => kernel_rfl
  case hf23x195 => kernel_rfl
  case hr23x195 => kernel_rfl
  case hQ23x195 => exact fun _ _ _ h => h
  case hy23x195 => exact Or.inl ⟨by rfl, by (intro w hSw; (try dsimp only at hSw); go_simp)⟩
  case hS23x195 => assumption
  (try simp only [Act.put, List.setIfInBounds_toArray, List.set_cons_zero, List.set_cons_succ])
  refine' wpAnyH_take (i := 24) (v := .bool true) ?hi24x196 ?hs24x196 ?hf24x196 ?hr24x196 ?hQ24x196 ?hy24x196 ?hS24x196 ?rest24x196
  case hi24x196 => (simp only [List.getElem?_toArray, List.getElem?_cons_succ, List.getElem?_cons_zero]; try rfl)
  case hs24x196 => kernel_rfl
  case hf24x196 => kernel_rfl
  case hr24x196 => kernel_rfl
  case hQ24x196 => exact fun _ _ _ h => h
  case hy24x196 => exact Or.inl ⟨by rfl, by (intro w hSw; (try dsimp only at hSw); go_simp)⟩
  case hS24x196 => assumption
  (try simp only [Act.put, List.setIfInBounds_toArray, List.set_cons_zero, List.set_cons_succ])
  refine' wpAnyH_take (i := 25) (v := .bool true) ?hi25x197 ?hs25x197 ?hf25x197 ?hr25x197 ?hQ25x197 ?hy25x197 ?hS25x197 ?rest25x197
  case hi25x197 => (simp only [List.getElem?_toArray, List.getElem?_cons_succ, List.getElem?_cons_zero]; try rfl)
  case hs25x197 => kernel_rfl
  case hf25x197 => kernel_rfl
  case hr25x197 => kernel_rfl
  case hQ25x197 => exact fun _ _ _ h => h
  case hy25x197 => exact Or.inl ⟨by rfl, by (intro w hSw; (try dsimp only at hSw); go_simp)⟩
  case hS25x197 => assumption
  (try simp only [Act.put, List.setIfInBounds_toArray, List.set_cons_zero, List.set_cons_succ])
  refine' wpAnyH_take (i := 26) (v := .bool true) ?hi26x198 ?hs26x198 ?hf26x198 ?hr26x198 ?hQ26x198 ?hy26x198 ?hS26x198 ?rest26x198
  case hi26x198 => (simp only [List.getElem?_toArray, List.getElem?_cons_succ, List.getElem?_cons_zero]; try rfl)
  case hs26x198 => kernel_rfl
  case hf26x198 => kernel_rfl
  case hr26x198 => kernel_rfl
  case hQ26x198 => exact fun _ _ _ h => h
  case hy26x198 => exact Or.inl ⟨by rfl, by (intro w hSw; (try dsimp only at hSw); go_simp)⟩
  case hS26x198 => assumption
  (try simp only [Act.put, List.setIfInBounds_toArray, List.set_cons_zero, List.set_cons_succ])
  refine' wpAnyH_take (i := 28) (v := .agg #[.int .u8 k0, .bool b0, .int .i64 n0, .string s0]) ?hi28x199 ?hs28x199 ?hf28x199 ?hr28x199 ?hQ28x199 ?hy28x199 ?hS28x199 ?rest28x199
  case hi28x199 => (simp only [List.getElem?_toArray, List.getElem?_cons_succ, List.getElem?_cons_zero]; try rfl)
  case hs28x199 => kernel_rfl
  case hf28x199 => kernel_rfl
  case hr28x199 => kernel_rfl
  case hQ28x199 => exact fun _ _ _ h => h
  case hy28x199 => exact Or.inl ⟨by rfl, by (intro w hSw; (try dsimp only at hSw); go_simp)⟩
  case hS28x199 => assumption
  (try simp only [Act.put, List.setIfInBounds_toArray, List.set_cons_zero, List.set_cons_succ])
  refine' wpAnyH_take (i := 29) (v := .agg #[.int .u8 k1, .bool b1, .int .i64 n1, .string s1]) ?hi29x200 ?hs29x200 ?hf29x200 ?hr29x200 ?hQ29x200 ?hy29x200 ?hS29x200 ?rest29x200
  case hi29x200 => (simp only [List.getElem?_toArray, List.getElem?_cons_succ, List.getElem?_cons_zero]; try rfl)
  case hs29x200 => kernel_rfl
  case hf29x200 => kernel_rfl
  case hr29x200 => kernel_rfl
  case hQ29x200 => exact fun _ _ _ h => h
  case hy29x200 => exact Or.inl ⟨by rfl, by (intro w hSw; (try dsimp only at hSw); go_simp)⟩
  case hS29x200 => assumption
  (try simp only [Act.put, List.setIfInBounds_toArray, List.set_cons_zero, List.set_cons_succ])
  refine wpAnyH_ready (rs := [27, 30]) (by kernel_rfl) (by simp) ?_
  refine' AllReadyH.cons (i := 27) ?ho27x201 (fun K hK => ?st27x201) (AllReadyH.cons (i := 30) ?ho30x202 (fun K hK => ?st30x202) AllReadyH.nil)
  case ho27x201 => (simp only [List.getElem?_toArray, List.getElem?_cons_succ, List.getElem?_cons_zero]; try rfl)
  case ho30x202 => (simp only [List.getElem?_toArray, List.getElem?_cons_succ, List.getElem?_cons_zero]; try rfl)
  case st27x201 =>
    go_simp
    refine (refOver_any _ _).mono ?_
    rintro e w' ⟨rfl, rfl⟩
    go_wp2_with fail
    refine hK.out _ _ ?_ (fun hHeld => ?_)
    · (first | exact ⟨a0_, a1_, a2_, a3_, b0_, b1_, b2_, b3_⟩ | go_keep)
    clear hK K
    (try simp only [Act.put, List.setIfInBounds_toArray, List.set_cons_zero, List.set_cons_succ])
    refine wpAnyH_ready (rs := [30]) (by kernel_rfl) (by simp) ?_
    refine' AllReadyH.cons (i := 30) ?ho30x203 (fun K hK => ?st30x203) AllReadyH.nil
    case ho30x203 => (simp only [List.getElem?_toArray, List.getElem?_cons_succ, List.getElem?_cons_zero]; try rfl)
    go_simp
    refine hK.out _ _ ?_ (fun hHeld => ?_)
    · (first | exact ⟨a0_, a1_, a2_, a3_, b0_, b1_, b2_, b3_⟩ | go_keep)
    clear hK K
    (try simp only [Act.put, List.setIfInBounds_toArray, List.set_cons_zero, List.set_cons_succ])
    refine wpAnyH_ready (rs := [31]) (by kernel_rfl) (by simp) ?_
    refine' AllReadyH.cons (i := 31) ?ho31x204 (fun K hK => ?st31x204) AllReadyH.nil
    case ho31x204 => (simp only [List.getElem?_toArray, List.getElem?_cons_succ, List.getElem?_cons_zero]; try rfl)
    go_simp
    refine (refNum2_any _ _ k0 b0 n0 s0 k1 b1 n1 s1 _ _ _ (by exact heap_at _ _ _ (by first | rfl | simp)) hs0H.out hs1H.out).mono ?_
    rw [hrH.out, refVm]
    rintro e w' ⟨rfl, hb'⟩
    replace hb := chainB (B := W0.heap.size) (a := W0) (by go_grown) hb' (by have := hb.size; first | omega | (simp; done) | (simp; omega))
    clear hb' a0_ a1_ a2_ a3_ b0_ b1_ b2_ b3_ r0_ r1_ r2_ r3_ f0_ f1_ f2_ f3_ hz hs
    obtain ⟨a0_, a1_, a2_, a3_⟩ := (hAH.out.below hb).cells; obtain ⟨b0_, b1_, b2_, b3_⟩ := (hBH.out.below hb).cells; obtain ⟨r0_, r1_, r2_, r3_⟩ := (hRH.out.below hb).cells; obtain ⟨f0_, f1_, f2_, f3_⟩ := (hRH.out.below hb).free; have hz := Nat.lt_of_lt_of_le hz0.out hb.size; have hs := hb.size
    go_wp2_with fail
    refine hK.out _ _ ?_ (fun hHeld => ?_)
    · (first | exact ⟨a0_, a1_, a2_, a3_, b0_, b1_, b2_, b3_⟩ | go_keep)
    clear hK K
    (try simp only [Act.put, List.setIfInBounds_toArray, List.set_cons_zero, List.set_cons_succ])
    refine' wpAnyH_take (i := 32) (v := .agg #[.int .u8 k', .bool b', .int .i64 n', .string s']) ?hi32x205 ?hs32x205 ?hf32x205 ?hr32x205 ?hQ32x205 ?hy32x205 ?hS32x205 ?rest32x205
    case hi32x205 => (simp only [List.getElem?_toArray, List.getElem?_cons_succ, List.getElem?_cons_zero]; try rfl)
    case hs32x205 => kernel_rfl
    case hf32x205 => kernel_rfl
    case hr32x205 => kernel_rfl
    case hQ32x205 => exact fun _ _ _ h => h
    case hy32x205 => exact Or.inl ⟨by rfl, by (intro w hSw; (try dsimp only at hSw); go_simp)⟩
    case hS32x205 => assumption
    (try simp only [Act.put, List.setIfInBounds_toArray, List.set_cons_zero, List.set_cons_succ])
    refine' wpAnyH_take (i := 33) (v := .int .i64 x) ?hi33x206 ?hs33x206 ?hf33x206 ?hr33x206 ?hQ33x206 ?hy33x206 ?hS33x206 ?rest33x206
    case hi33x206 => (simp only [List.getElem?_toArray, List.getElem?_cons_succ, List.getElem?_cons_zero]; try rfl)
    case hs33x206 => kernel_rfl
    case hf33x206 => kernel_rfl
    case hr33x206 => kernel_rfl
    case hQ33x206 => exact fun _ _ _ h => h
    case hy33x206 => exact Or.inl ⟨by rfl, by (intro w hSw; (try dsimp only at hSw); go_simp)⟩
    case hS33x206 => assumption
    (try simp only [Act.put, List.setIfInBounds_toArray, List.set_cons_zero, List.set_cons_succ])
    have hne1 : ¬ (w.heap.size + 1 + 1 = w.heap.size) := by omega
    have hne2 : ¬ (w.heap.size = w.heap.size + 1 + 1) := by omega
    refine wpAnyH_ready (rs := [34]) (by kernel_rfl) (by simp) ?_
    refine' AllReadyH.cons (i := 34) ?ho34x207 (fun K hK => ?st34x207) AllReadyH.nil
    case ho34x207 => (simp only [List.getElem?_toArray, List.getElem?_cons_succ, List.getElem?_cons_zero]; try rfl)
    go_simp
    refine hK.out _ _ ?_ (fun hHeld => ?_)
    · (first | exact ⟨a0_, a1_, a2_, a3_, b0_, b1_, b2_, b3_⟩ | go_keep)
    clear hK K
    (try simp only [Act.put, List.setIfInBounds_toArray, List.set_cons_zero, List.set_cons_succ])
    refine' wpAnyH_take (i := 35) (v := .int .i64 x) ?hi35x208 ?hs35x208 ?hf35x208 ?hr35x208 ?hQ35x208 ?hy35x208 ?hS35x208 ?rest35x208
    case hi35x208 => (simp only [List.getElem?_toArray, List.getElem?_cons_succ, List.getElem?_cons_zero]; try rfl)
    case hs35x208 => kernel_rfl
    case hf35x208 => kernel_rfl
    case hr35x208 => kernel_rfl
    case hQ35x208 => exact fun _ _ _ h => h
    case hy35x208 => exact Or.inl ⟨by rfl, by (intro w hSw; (try dsimp only at hSw); go_simp)⟩
    case hS35x208 => assumption
    (try simp only [Act.put, List.setIfInBounds_toArray, List.set_cons_zero, List.set_cons_succ])
    refine wpAnyH_done (by kernel_rfl) ?_ _
    refine NoPanic.normal ?_
    clear hne1 hne2
    go_wp2
    refine bodyPost_ret (v := .tuple #[.agg #[.int .u8 k', .bool b', .int .i64 n', .string s'], .int .i64 x]) (by simp [results, Tryd.results32, go_sem, r0_, r1_, r2_, r3_, hz]) rfl ⟨rfl, ?_⟩
    have hbw := hwWH.out.trans (hb.mono hwWH.out.size)
    clear hb
    go_grown
  case st30x202 =>
    go_simp
    refine hK.out _ _ ?_ (fun hHeld => ?_)
    · (first | exact ⟨a0_, a1_, a2_, a3_, b0_, b1_, b2_, b3_⟩ | go_keep)
    clear hK K
    (try simp only [Act.put, List.setIfInBounds_toArray, List.set_cons_zero, List.set_cons_succ])
    refine wpAnyH_ready (rs := [27]) (by kernel_rfl) (by simp) ?_
    refine' AllReadyH.cons (i := 27) ?ho27x209 (fun K hK => ?st27x209) AllReadyH.nil
    case ho27x209 => (simp only [List.getElem?_toArray, List.getElem?_cons_succ, List.getElem?_cons_zero]; try rfl)
    go_simp
    refine (refOver_any _ _).mono ?_
    rintro e w' ⟨rfl, rfl⟩
    go_wp2_with fail
    refine hK.out _ _ ?_ (fun hHeld => ?_)
    · (first | exact ⟨a0_, a1_, a2_, a3_, b0_, b1_, b2_, b3_⟩ | go_keep)
    clear hK K
    (try simp only [Act.put, List.setIfInBounds_toArray, List.set_cons_zero, List.set_cons_succ])
    refine wpAnyH_ready (rs := [31]) (by kernel_rfl) (by simp) ?_
    refine' AllReadyH.cons (i := 31) ?ho31x210 (fun K hK => ?st31x210) AllReadyH.nil
    case ho31x210 => (simp only [List.getElem?_toArray, List.getElem?_cons_succ, List.getElem?_cons_zero]; try rfl)
    go_simp
    refine (refNum2_any _ _ k0 b0 n0 s0 k1 b1 n1 s1 _ _ _ (by exact heap_at _ _ _ (by first | rfl | simp)) hs0H.out hs1H.out).mono ?_
    rw [hrH.out, refVm]
    rintro e w' ⟨rfl, hb'⟩
    replace hb := chainB (B := W0.heap.size) (a := W0) (by go_grown) hb' (by have := hb.size; first | omega | (simp; done) | (simp; omega))
    clear hb' a0_ a1_ a2_ a3_ b0_ b1_ b2_ b3_ r0_ r1_ r2_ r3_ f0_ f1_ f2_ f3_ hz hs
    obtain ⟨a0_, a1_, a2_, a3_⟩ := (hAH.out.below hb).cells; obtain ⟨b0_, b1_, b2_, b3_⟩ := (hBH.out.below hb).cells; obtain ⟨r0_, r1_, r2_, r3_⟩ := (hRH.out.below hb).cells; obtain ⟨f0_, f1_, f2_, f3_⟩ := (hRH.out.below hb).free; have hz := Nat.lt_of_lt_of_le hz0.out hb.size; have hs := hb.size
    go_wp2_with fail
    refine hK.out _ _ ?_ (fun hHeld => ?_)
    · (first | exact ⟨a0_, a1_, a2_, a3_, b0_, b1_, b2_, b3_⟩ | go_keep)
    clear hK K
    (try simp only [Act.put, List.setIfInBounds_toArray, List.set_cons_zero, List.set_cons_succ])
    refine' wpAnyH_take (i := 32) (v := .agg #[.int .u8 k', .bool b', .int .i64 n', .string s']) ?hi32x211 ?hs32x211 ?hf32x211 ?hr32x211 ?hQ32x211 ?hy32x211 ?hS32x211 ?rest32x211
    case hi32x211 => (simp only [List.getElem?_toArray, List.getElem?_cons_succ, List.getElem?_cons_zero]; try rfl)
    case hs32x211 => kernel_rfl
    case hf32x211 => kernel_rfl
    case hr32x211 => kernel_rfl
    case hQ32x211 => exact fun _ _ _ h => h
    case hy32x211 => exact Or.inl ⟨by rfl, by (intro w hSw; (try dsimp only at hSw); go_simp)⟩
    case hS32x211 => assumption
    (try simp only [Act.put, List.setIfInBounds_toArray, List.set_cons_zero, List.set_cons_succ])
    refine' wpAnyH_take (i := 33) (v := .int .i64 x) ?hi33x212 ?hs33x212 ?hf33x212 ?hr33x212 ?hQ33x212 ?hy33x212 ?hS33x212 ?rest33x212
    case hi33x212 => (simp only [List.getElem?_toArray, List.getElem?_cons_succ, List.getElem?_cons_zero]; try rfl)
    case hs33x212 => kernel_rfl
    case hf33x212 => kernel_rfl
    case hr33x212 => kernel_rfl
    case hQ33x212 => exact fun _ _ _ h => h
    case hy33x212 => exact Or.inl ⟨by rfl, by (intro w hSw; (try dsimp only at hSw); go_simp)⟩
    case hS33x212 => assumption
    (try simp only [Act.put, List.setIfInBounds_toArray, List.set_cons_zero, List.set_cons_succ])
    have hne1 : ¬ (w.heap.size + 1 + 1 = w.heap.size) := by omega
    have hne2 : ¬ (w.heap.size = w.heap.size + 1 + 1) := by omega
    refine wpAnyH_ready (rs := [34]) (by kernel_rfl) (by simp) ?_
    refine' AllReadyH.cons (i := 34) ?ho34x213 (fun K hK => ?st34x213) AllReadyH.nil
    case ho34x213 => (simp only [List.getElem?_toArray, List.getElem?_cons_succ, List.getElem?_cons_zero]; try rfl)
    go_simp
    refine hK.out _ _ ?_ (fun hHeld => ?_)
    · (first | exact ⟨a0_, a1_, a2_, a3_, b0_, b1_, b2_, b3_⟩ | go_keep)
    clear hK K
    (try simp only [Act.put, List.setIfInBounds_toArray, List.set_cons_zero, List.set_cons_succ])
    refine' wpAnyH_take (i := 35) (v := .int .i64 x) ?hi35x214 ?hs35x214 ?hf35x214 ?hr35x214 ?hQ35x214 ?hy35x214 ?hS35x214 ?rest35x214
    case hi35x214 => (simp only [List.getElem?_toArray, List.getElem?_cons_succ, List.getElem?_cons_zero]; try rfl)
    case hs35x214 => kernel_rfl
    case hf35x214 => kernel_rfl
    case hr35x214 => kernel_rfl
    case hQ35x214 => exact fun _ _ _ h => h
    case hy35x214 => exact Or.inl ⟨by rfl, by (intro w hSw; (try dsimp only at hSw); go_simp)⟩
    case hS35x214 => assumption
    (try simp only [Act.put, List.setIfInBounds_toArray, List.set_cons_zero, List.set_cons_succ])
    refine wpAnyH_done (by kernel_rfl) ?_ _
    refine NoPanic.normal ?_
    clear hne1 hne2
    go_wp2
    refine bodyPost_ret (v := .tuple #[.agg #[.int .u8 k', .bool b', .int .i64 n', .string s'], .int .i64 x]) (by simp [results, Tryd.results32, go_sem, r0_, r1_, r2_, r3_, hz]) rfl ⟨rfl, ?_⟩
    have hbw := hwWH.out.trans (hb.mono hwWH.out.size)
    clear hb
    go_grown

end Go.Proofs.YtoolojfbjpnllaaDoor
