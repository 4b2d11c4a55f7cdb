/-
  What the document's own Mod answers, at this program. Condition: the texts have at most 2^47 bytes, the numbers are 64-bit numbers.
-/
import Derived.Test.YtoolojfbjpnllaaDoorRefNeg
import Derived.Test.YtoolojfbjpnllaaDoorOps
import Derived.Deep.RegionHeld3
set_option linter.unusedVariables false
set_option linter.unusedSimpArgs false
namespace Go.Proofs.YtoolojfbjpnllaaDoor
open Go.RowKit Go.Lib

set_option maxRecDepth 100000 in
set_option maxHeartbeats 8000000 in
theorem refMod_zero (k0 : Int) (b0 : Bool) (n0 : Int) (s0 : ByteArray) (k1 : Int) (b1 : Bool) (n1 : Int) (s1 : ByteArray) (w : World) (hs0 : s0.size ≤ 140737488355328) (hs1 : s1.size ≤ 140737488355328) (hc : n1 = 0) :
    Calls Tryd.prog 36 #[.agg #[.int .u8 k0, .bool b0, .int .i64 n0, .string s0], .agg #[.int .u8 k1, .bool b1, .int .i64 n1, .string s1]] w fun e w' => e = .returned (refV (numS ⟨k0, b0, n0, s0⟩ ⟨k1, b1, n1, s1⟩ (0, 11))) ∧ Below w.heap.size w w' := by
  obtain ⟨r, hr⟩ : ∃ r, numS ⟨k0, b0, n0, s0⟩ ⟨k1, b1, n1, s1⟩ (0, 11) = r := ⟨_, rfl⟩
  rw [hr]
  obtain ⟨⟨k', b', n', s'⟩, x⟩ := r
  rw [refVm]
  have hrH := Lib.hid hr
  clear hr
  have hs0H := Lib.hid hs0; have hs1H := Lib.hid hs1
  have dz : (n1 == 0) = true := by simp; omega
  have dzn : (n1 != 0) = false := by simp; omega
  have dzd : decide (n1 = 0) = true := by simp; omega
  clear hc
  obtain ⟨W0, hW0, hwW, hA, hB, hR, hzz⟩ := boxes2 w k0 b0 n0 s0 k1 b1 n1 s1
  have hAH := Lib.hid hA; have hBH := Lib.hid hB; have hRH := Lib.hid hR; have hz0 := Lib.hid hzz; have hwWH := Lib.hid hwW
  clear hA hB hR hzz hwW hs0 hs1
  have hb := Below.refl W0.heap.size W0
  obtain ⟨a0_, a1_, a2_, a3_⟩ := (hAH.out.below hb).cells; obtain ⟨b0_, b1_, b2_, b3_⟩ := (hBH.out.below hb).cells; obtain ⟨r0_, r1_, r2_, r3_⟩ := (hRH.out.below hb).cells; obtain ⟨f0_, f1_, f2_, f3_⟩ := (hRH.out.below hb).free; have hz := Nat.lt_of_lt_of_le hz0.out hb.size; have hs := hb.size
  go_enter Tryd.func36, Tryd.ntmps36
  go_wp2_with (go_at_call 76; go_must (refine (refNum2_any _ _ k0 b0 n0 s0 k1 b1 n1 s1 _ _ _ (by exact heap_at _ _ _ (by first | rfl | simp)) hs0H.out hs1H.out).mono ?_; rw [hrH.out, refVm]; rintro e w' ⟨rfl, hb'⟩; replace hb := chainB (B := W0.heap.size) (a := W0) (by go_grown) hb' (by have := hb.size; first | omega | (simp; done) | (simp; omega)); clear hb' a0_ a1_ a2_ a3_ b0_ b1_ b2_ b3_ r0_ r1_ r2_ r3_ f0_ f1_ f2_ f3_ hz hs; obtain ⟨a0_, a1_, a2_, a3_⟩ := (hAH.out.below hb).cells; obtain ⟨b0_, b1_, b2_, b3_⟩ := (hBH.out.below hb).cells; obtain ⟨r0_, r1_, r2_, r3_⟩ := (hRH.out.below hb).cells; obtain ⟨f0_, f1_, f2_, f3_⟩ := (hRH.out.below hb).free; have hz := Nat.lt_of_lt_of_le hz0.out hb.size; have hs := hb.size))
  refine bodyPost_ret (v := .tuple #[.agg #[.int .u8 k', .bool b', .int .i64 n', .string s'], .int .i64 x]) (by simp [results, Tryd.results36, go_sem, r0_, r1_, r2_, r3_, hz]) rfl ⟨rfl, ?_⟩
  have hbw := hwWH.out.trans (hb.mono hwWH.out.size)
  clear hb
  go_grown

set_option maxRecDepth 100000 in
set_option maxHeartbeats 8000000 in
theorem refMod_one (k0 : Int) (b0 : Bool) (n0 : Int) (s0 : ByteArray) (k1 : Int) (b1 : Bool) (n1 : Int) (s1 : ByteArray) (w : World) (hs0 : s0.size ≤ 140737488355328) (hs1 : s1.size ≤ 140737488355328) (hc : n1 = -1) :
    Calls Tryd.prog 36 #[.agg #[.int .u8 k0, .bool b0, .int .i64 n0, .string s0], .agg #[.int .u8 k1, .bool b1, .int .i64 n1, .string s1]] w fun e w' => e = .returned (refV (numS ⟨k0, b0, n0, s0⟩ ⟨k1, b1, n1, s1⟩ (0, 0))) ∧ Below w.heap.size w w' := by
  obtain ⟨r, hr⟩ : ∃ r, numS ⟨k0, b0, n0, s0⟩ ⟨k1, b1, n1, s1⟩ (0, 0) = r := ⟨_, rfl⟩
  rw [hr]
  obtain ⟨⟨k', b', n', s'⟩, x⟩ := r
  rw [refVm]
  have hrH := Lib.hid hr
  clear hr
  have hs0H := Lib.hid hs0; have hs1H := Lib.hid hs1
  have dz : (n1 == 0) = false := by simp; omega
  have dzn : (n1 != 0) = true := by simp; omega
  have dzd : decide (n1 = 0) = false := by simp; omega
  have dC : (n1 == -1) = true := by simp; omega
  have dCn : (n1 != -1) = false := by simp; omega
  have dCd : decide (n1 = -1) = true := by simp; omega
  clear hc
  obtain ⟨W0, hW0, hwW, hA, hB, hR, hzz⟩ := boxes2 w k0 b0 n0 s0 k1 b1 n1 s1
  have hAH := Lib.hid hA; have hBH := Lib.hid hB; have hRH := Lib.hid hR; have hz0 := Lib.hid hzz; have hwWH := Lib.hid hwW
  clear hA hB hR hzz hwW hs0 hs1
  have hb := Below.refl W0.heap.size W0
  obtain ⟨a0_, a1_, a2_, a3_⟩ := (hAH.out.below hb).cells; obtain ⟨b0_, b1_, b2_, b3_⟩ := (hBH.out.below hb).cells; obtain ⟨r0_, r1_, r2_, r3_⟩ := (hRH.out.below hb).cells; obtain ⟨f0_, f1_, f2_, f3_⟩ := (hRH.out.below hb).free; have hz := Nat.lt_of_lt_of_le hz0.out hb.size; have hs := hb.size
  go_enter Tryd.func36, Tryd.ntmps36
  go_wp2_with (go_at_call 76; go_must (refine (refNum2_any _ _ k0 b0 n0 s0 k1 b1 n1 s1 _ _ _ (by exact heap_at _ _ _ (by first | rfl | simp)) hs0H.out hs1H.out).mono ?_; rw [hrH.out, refVm]; rintro e w' ⟨rfl, hb'⟩; replace hb := chainB (B := W0.heap.size) (a := W0) (by go_grown) hb' (by have := hb.size; first | omega | (simp; done) | (simp; omega)); clear hb' a0_ a1_ a2_ a3_ b0_ b1_ b2_ b3_ r0_ r1_ r2_ r3_ f0_ f1_ f2_ f3_ hz hs; obtain ⟨a0_, a1_, a2_, a3_⟩ := (hAH.out.below hb).cells; obtain ⟨b0_, b1_, b2_, b3_⟩ := (hBH.out.below hb).cells; obtain ⟨r0_, r1_, r2_, r3_⟩ := (hRH.out.below hb).cells; obtain ⟨f0_, f1_, f2_, f3_⟩ := (hRH.out.below hb).free; have hz := Nat.lt_of_lt_of_le hz0.out hb.size; have hs := hb.size))
  refine bodyPost_ret (v := .tuple #[.agg #[.int .u8 k', .bool b', .int .i64 n', .string s'], .int .i64 x]) (by simp [results, Tryd.results36, go_sem, r0_, r1_, r2_, r3_, hz]) rfl ⟨rfl, ?_⟩
  have hbw := hwWH.out.trans (hb.mono hwWH.out.size)
  clear hb
  go_grown

set_option maxRecDepth 100000 in
set_option maxHeartbeats 8000000 in
theorem refMod_go (k0 : Int) (b0 : Bool) (n0 : Int) (s0 : ByteArray) (k1 : Int) (b1 : Bool) (n1 : Int) (s1 : ByteArray) (w : World) (hs0 : s0.size ≤ 140737488355328) (hs1 : s1.size ≤ 140737488355328) (hc : n1 ≠ 0 ∧ n1 ≠ -1) (hw : wrap64 (n0.tmod n1) = n0.tmod n1) :
    Calls Tryd.prog 36 #[.agg #[.int .u8 k0, .bool b0, .int .i64 n0, .string s0], .agg #[.int .u8 k1, .bool b1, .int .i64 n1, .string s1]] w fun e w' => e = .returned (refV (numS ⟨k0, b0, n0, s0⟩ ⟨k1, b1, n1, s1⟩ (n0.tmod n1, 0))) ∧ Below w.heap.size w w' := by
  obtain ⟨r, hr⟩ : ∃ r, numS ⟨k0, b0, n0, s0⟩ ⟨k1, b1, n1, s1⟩ (n0.tmod n1, 0) = r := ⟨_, rfl⟩
  rw [hr]
  obtain ⟨⟨k', b', n', s'⟩, x⟩ := r
  rw [refVm]
  have hrH := Lib.hid hr
  clear hr
  have hs0H := Lib.hid hs0; have hs1H := Lib.hid hs1
  have dz : (n1 == 0) = false := by simp; omega
  have dzn : (n1 != 0) = true := by simp; omega
  have dzd : decide (n1 = 0) = false := by simp; omega
  have dC : (n1 == -1) = false := by simp; omega
  have dCn : (n1 != -1) = true := by simp; omega
  have dCd : decide (n1 = -1) = false := by simp; omega
  have hz0' : ¬ n1 = 0 := by omega
  clear hc
  obtain ⟨m, hm⟩ : ∃ m, n0.tmod n1 = m := ⟨_, rfl⟩
  rw [hm] at hrH hw
  have hm' : IntKind.i64.wrap m = m := by rw [wrap_is, hw]
  clear hw
  obtain ⟨W0, hW0, hwW, hA, hB, hR, hzz⟩ := boxes2 w k0 b0 n0 s0 k1 b1 n1 s1
  have hAH := Lib.hid hA; have hBH := Lib.hid hB; have hRH := Lib.hid hR; have hz0 := Lib.hid hzz; have hwWH := Lib.hid hwW
  clear hA hB hR hzz hwW hs0 hs1
  have hb := Below.refl W0.heap.size W0
  obtain ⟨a0_, a1_, a2_, a3_⟩ := (hAH.out.below hb).cells; obtain ⟨b0_, b1_, b2_, b3_⟩ := (hBH.out.below hb).cells; obtain ⟨r0_, r1_, r2_, r3_⟩ := (hRH.out.below hb).cells; obtain ⟨f0_, f1_, f2_, f3_⟩ := (hRH.out.below hb).free; have hz := Nat.lt_of_lt_of_le hz0.out hb.size; have hs := hb.size
  go_enter Tryd.func36, Tryd.ntmps36
  go_wp2_with fail
  refine wp_region_noPanic ?_
  refine wp_region_held_drew (S := (fun w' => w'.cell? ⟨w.heap.size, 0, none⟩ = some (.int .u8 k0) ∧ w'.cell? ⟨w.heap.size, 1, none⟩ = some (.bool b0) ∧ w'.cell? ⟨w.heap.size, 2, none⟩ = some (.int .i64 n0) ∧ w'.cell? ⟨w.heap.size, 3, none⟩ = some (.string s0) ∧ w'.cell? ⟨w.heap.size + 1, 0, none⟩ = some (.int .u8 k1) ∧ w'.cell? ⟨w.heap.size + 1, 1, none⟩ = some (.bool b1) ∧ w'.cell? ⟨w.heap.size + 1, 2, none⟩ = some (.int .i64 n1) ∧ w'.cell? ⟨w.heap.size + 1, 3, none⟩ = some (.string s1))) (by kernel_rfl) (by first | exact ⟨a0_, a1_, a2_, a3_, b0_, b1_, b2_, b3_⟩ | go_keep) (fun hHeld => ?_)
  refine' wpAnyH_take (i := 0) (v := .pointer (some ⟨w.heap.size, 2, none⟩)) ?hi0x1176 ?hs0x1176 ?hf0x1176 ?hr0x1176 ?hQ0x1176 ?hy0x1176 ?hS0x1176 ?rest0x1176
  case hi0x1176 => (simp only [List.getElem?_toArray, List.getElem?_cons_succ, List.getElem?_cons_zero]; try rfl)
  case hs0x1176 => kernel_rfl
  case hf0x1176 => kernel_rfl
  case hr0x1176 => kernel_rfl
  case hQ0x1176 => exact fun _ _ _ h => h
  case hy0x1176 => exact Or.inl ⟨by rfl, by (intro w hSw; (try dsimp only at hSw); go_simp)⟩
  case hS0x1176 => assumption
  (try simp only [Act.put, List.setIfInBounds_toArray, List.set_cons_zero, List.set_cons_succ])
  refine' wpAnyH_take (i := 1) (v := .int .i64 n0) ?hi1x1177 ?hs1x1177 ?hf1x1177 ?hr1x1177 ?hQ1x1177 ?hy1x1177 ?hS1x1177 ?rest1x1177
  case hi1x1177 => (simp only [List.getElem?_toArray, List.getElem?_cons_succ, List.getElem?_cons_zero]; try rfl)
  case hs1x1177 => kernel_rfl
  case hf1x1177 => kernel_rfl
  case hr1x1177 => kernel_rfl
  case hQ1x1177 => exact fun _ _ _ h => h
  case hy1x1177 => exact Or.inl ⟨by rfl, by (intro w hSw; (try dsimp only at hSw); go_simp)⟩
  case hS1x1177 => assumption
  (try simp only [Act.put, List.setIfInBounds_toArray, List.set_cons_zero, List.set_cons_succ])
  refine' wpAnyH_take (i := 2) (v := .pointer (some ⟨w.heap.size + 1, 2, none⟩)) ?hi2x1178 ?hs2x1178 ?hf2x1178 ?hr2x1178 ?hQ2x1178 ?hy2x1178 ?hS2x1178 ?rest2x1178
  case hi2x1178 => (simp only [List.getElem?_toArray, List.getElem?_cons_succ, List.getElem?_cons_zero]; try rfl)
  case hs2x1178 => kernel_rfl
  case hf2x1178 => kernel_rfl
  case hr2x1178 => kernel_rfl
  case hQ2x1178 => exact fun _ _ _ h => h
  case hy2x1178 => exact Or.inl ⟨by rfl, by (intro w hSw; (try dsimp only at hSw); go_simp)⟩
  case hS2x1178 => assumption
  (try simp only [Act.put, List.setIfInBounds_toArray, List.set_cons_zero, List.set_cons_succ])
  refine' wpAnyH_take (i := 3) (v := .int .i64 n1) ?hi3x1179 ?hs3x1179 ?hf3x1179 ?hr3x1179 ?hQ3x1179 ?hy3x1179 ?hS3x1179 ?rest3x1179
  case hi3x1179 => (simp only [List.getElem?_toArray, List.getElem?_cons_succ, List.getElem?_cons_zero]; try rfl)
  case hs3x1179 => kernel_rfl
  case hf3x1179 => kernel_rfl
  case hr3x1179 => kernel_rfl
  case hQ3x1179 => exact fun _ _ _ h => h
  case hy3x1179 => exact Or.inl ⟨by rfl, by (intro w hSw; (try dsimp only at hSw); go_simp)⟩
  case hS3x1179 => assumption
  (try simp only [Act.put, List.setIfInBounds_toArray, List.set_cons_zero, List.set_cons_succ])
  refine' wpAnyH_take (i := 4) (v := .int .i64 m) ?hi4x1180 ?hs4x1180 ?hf4x1180 ?hr4x1180 ?hQ4x1180 ?hy4x1180 ?hS4x1180 ?rest4x1180
  case hi4x1180 => (simp only [List.getElem?_toArray, List.getElem?_cons_succ, List.getElem?_cons_zero]; try rfl)
  case hs4x1180 => kernel_rfl
  case hf4x1180 => kernel_rfl
  case hr4x1180 => kernel_rfl
  case hQ4x1180 => exact fun _ _ _ h => h
  case hy4x1180 => exact Or.inl ⟨by rfl, by (intro w hSw; (try dsimp only at hSw); go_simp)⟩
  case hS4x1180 => assumption
  (try simp only [Act.put, List.setIfInBounds_toArray, List.set_cons_zero, List.set_cons_succ])
  refine' wpAnyH_take (i := 5) (v := .agg #[.int .u8 k0, .bool b0, .int .i64 n0, .string s0]) ?hi5x1181 ?hs5x1181 ?hf5x1181 ?hr5x1181 ?hQ5x1181 ?hy5x1181 ?hS5x1181 ?rest5x1181
  case hi5x1181 => (simp only [List.getElem?_toArray, List.getElem?_cons_succ, List.getElem?_cons_zero]; try rfl)
  case hs5x1181 => kernel_rfl
  case hf5x1181 => kernel_rfl
  case hr5x1181 => kernel_rfl
  case hQ5x1181 => exact fun _ _ _ h => h
  case hy5x1181 => exact Or.inl ⟨by rfl, by (intro w hSw; (try dsimp only at hSw); go_simp)⟩
  case hS5x1181 => assumption
  (try simp only [Act.put, List.setIfInBounds_toArray, List.set_cons_zero, List.set_cons_succ])
  refine' wpAnyH_take (i := 6) (v := .agg #[.int .u8 k1, .bool b1, .int .i64 n1, .string s1]) ?hi6x1182 ?hs6x1182 ?hf6x1182 ?hr6x1182 ?hQ6x1182 ?hy6x1182 ?hS6x1182 ?rest6x1182
  case hi6x1182 => (simp only [List.getElem?_toArray, List.getElem?_cons_succ, List.getElem?_cons_zero]; try rfl)
  case hs6x1182 => kernel_rfl
  case hf6x1182 => kernel_rfl
  case hr6x1182 => kernel_rfl
  case hQ6x1182 => exact fun _ _ _ h => h
  case hy6x1182 => exact Or.inl ⟨by rfl, by (intro w hSw; (try dsimp only at hSw); go_simp)⟩
  case hS6x1182 => assumption
  (try simp only [Act.put, List.setIfInBounds_toArray, List.set_cons_zero, List.set_cons_succ])
  refine wpAnyH_ready (rs := [7]) (by kernel_rfl) (by simp) ?_
  refine' AllReadyH.cons (i := 7) ?ho7x1183 (fun K hK => ?st7x1183) AllReadyH.nil
  case ho7x1183 => (simp only [List.getElem?_toArray, List.getElem?_cons_succ, List.getElem?_cons_zero]; try rfl)
  go_simp
  refine hK.out _ _ ?_ (fun hHeld => ?_)
  · (first | exact ⟨a0_, a1_, a2_, a3_, b0_, b1_, b2_, b3_⟩ | go_keep)
  clear hK K
  (try simp only [Act.put, List.setIfInBounds_toArray, List.set_cons_zero, List.set_cons_succ])
  refine wpAnyH_ready (rs := [8]) (by kernel_rfl) (by simp) ?_
  refine' AllReadyH.cons (i := 8) ?ho8x1184 (fun K hK => ?st8x1184) AllReadyH.nil
  case ho8x1184 => (simp only [List.getElem?_toArray, List.getElem?_cons_succ, List.getElem?_cons_zero]; try rfl)
  go_simp
  refine (refNum2_any _ _ k0 b0 n0 s0 k1 b1 n1 s1 _ _ _ (by exact heap_at _ _ _ (by first | rfl | simp)) hs0H.out hs1H.out).mono ?_
  rw [hrH.out, refVm]
  rintro e w' ⟨rfl, hb'⟩
  replace hb := chainB (B := W0.heap.size) (a := W0) (by go_grown) hb' (by have := hb.size; first | omega | (simp; done) | (simp; omega))
  clear hb' a0_ a1_ a2_ a3_ b0_ b1_ b2_ b3_ r0_ r1_ r2_ r3_ f0_ f1_ f2_ f3_ hz hs
  obtain ⟨a0_, a1_, a2_, a3_⟩ := (hAH.out.below hb).cells; obtain ⟨b0_, b1_, b2_, b3_⟩ := (hBH.out.below hb).cells; obtain ⟨r0_, r1_, r2_, r3_⟩ := (hRH.out.below hb).cells; obtain ⟨f0_, f1_, f2_, f3_⟩ := (hRH.out.below hb).free; have hz := Nat.lt_of_lt_of_le hz0.out hb.size; have hs := hb.size
  go_wp2_with fail
  refine hK.out _ _ ?_ (fun hHeld => ?_)
  · (first | exact ⟨a0_, a1_, a2_, a3_, b0_, b1_, b2_, b3_⟩ | go_keep)
  clear hK K
  (try simp only [Act.put, List.setIfInBounds_toArray, List.set_cons_zero, List.set_cons_succ])
  refine' wpAnyH_take (i := 9) (v := .agg #[.int .u8 k', .bool b', .int .i64 n', .string s']) ?hi9x1185 ?hs9x1185 ?hf9x1185 ?hr9x1185 ?hQ9x1185 ?hy9x1185 ?hS9x1185 ?rest9x1185
  case hi9x1185 => (simp only [List.getElem?_toArray, List.getElem?_cons_succ, List.getElem?_cons_zero]; try rfl)
  case hs9x1185 => kernel_rfl
  case hf9x1185 => kernel_rfl
  case hr9x1185 => kernel_rfl
  case hQ9x1185 => exact fun _ _ _ h => h
  case hy9x1185 => exact Or.inl ⟨by rfl, by (intro w hSw; (try dsimp only at hSw); go_simp)⟩
  case hS9x1185 => assumption
  (try simp only [Act.put, List.setIfInBounds_toArray, List.set_cons_zero, List.set_cons_succ])
  refine' wpAnyH_take (i := 10) (v := .int .i64 x) ?hi10x1186 ?hs10x1186 ?hf10x1186 ?hr10x1186 ?hQ10x1186 ?hy10x1186 ?hS10x1186 ?rest10x1186
  case hi10x1186 => (simp only [List.getElem?_toArray, List.getElem?_cons_succ, List.getElem?_cons_zero]; try rfl)
  case hs10x1186 => kernel_rfl
  case hf10x1186 => kernel_rfl
  case hr10x1186 => kernel_rfl
  case hQ10x1186 => exact fun _ _ _ h => h
  case hy10x1186 => exact Or.inl ⟨by rfl, by (intro w hSw; (try dsimp only at hSw); go_simp)⟩
  case hS10x1186 => assumption
  (try simp only [Act.put, List.setIfInBounds_toArray, List.set_cons_zero, List.set_cons_succ])
  have hne1 : ¬ (w.heap.size + 1 + 1 = w.heap.size) := by omega
  have hne2 : ¬ (w.heap.size = w.heap.size + 1 + 1) := by omega
  refine wpAnyH_ready (rs := [11]) (by kernel_rfl) (by simp) ?_
  refine' AllReadyH.cons (i := 11) ?ho11x1187 (fun K hK => ?st11x1187) AllReadyH.nil
  case ho11x1187 => (simp only [List.getElem?_toArray, List.getElem?_cons_succ, List.getElem?_cons_zero]; try rfl)
  go_simp
  refine hK.out _ _ ?_ (fun hHeld => ?_)
  · (first | exact ⟨a0_, a1_, a2_, a3_, b0_, b1_, b2_, b3_⟩ | go_keep)
  clear hK K
  (try simp only [Act.put, List.setIfInBounds_toArray, List.set_cons_zero, List.set_cons_succ])
  refine' wpAnyH_take (i := 12) (v := .int .i64 x) ?hi12x1188 ?hs12x1188 ?hf12x1188 ?hr12x1188 ?hQ12x1188 ?hy12x1188 ?hS12x1188 ?rest12x1188
  case hi12x1188 => (simp only [List.getElem?_toArray, List.getElem?_cons_succ, List.getElem?_cons_zero]; try rfl)
  case hs12x1188 => kernel_rfl
  case hf12x1188 => kernel_rfl
  case hr12x1188 => kernel_rfl
  case hQ12x1188 => exact fun _ _ _ h => h
  case hy12x1188 => exact Or.inl ⟨by rfl, by (intro w hSw; (try dsimp only at hSw); go_simp)⟩
  case hS12x1188 => assumption
  (try simp only [Act.put, List.setIfInBounds_toArray, List.set_cons_zero, List.set_cons_succ])
  refine wpAnyH_done (by kernel_rfl) ?_ _
  refine NoPanic.normal ?_
  clear hne1 hne2
  go_wp2
  refine bodyPost_ret (v := .tuple #[.agg #[.int .u8 k', .bool b', .int .i64 n', .string s'], .int .i64 x]) (by simp [results, Tryd.results36, go_sem, r0_, r1_, r2_, r3_, hz]) rfl ⟨rfl, ?_⟩
  have hbw := hwWH.out.trans (hb.mono hwWH.out.size)
  clear hb
  go_grown

/-- Mod, of all data. -/
theorem refMod_any (k0 : Int) (b0 : Bool) (n0 : Int) (s0 : ByteArray) (k1 : Int) (b1 : Bool) (n1 : Int) (s1 : ByteArray) (w : World) (hs0 : s0.size ≤ 140737488355328) (hs1 : s1.size ≤ 140737488355328) (hn0 : I64 n0) (hn1 : I64 n1) :
    Calls Tryd.prog 36 #[.agg #[.int .u8 k0, .bool b0, .int .i64 n0, .string s0], .agg #[.int .u8 k1, .bool b1, .int .i64 n1, .string s1]] w fun e w' => e = .returned (refV (numS ⟨k0, b0, n0, s0⟩ ⟨k1, b1, n1, s1⟩ (remS n0 n1))) ∧ Below w.heap.size w w' := by
  by_cases hz : n1 = 0
  · rw [show remS n0 n1 = (0, 11) by unfold remS; rw [if_pos hz]]
    exact refMod_zero k0 b0 n0 s0 k1 b1 n1 s1 w hs0 hs1 hz
  rw [show remS n0 n1 = (n0.tmod n1, 0) by unfold remS; rw [if_neg hz]]
  by_cases hC : n1 = -1
  · rw [show n0.tmod n1 = 0 by rw [hC, Int.tmod_neg, Int.tmod_one]]
    exact refMod_one k0 b0 n0 s0 k1 b1 n1 s1 w hs0 hs1 hC
  · exact refMod_go k0 b0 n0 s0 k1 b1 n1 s1 w hs0 hs1 ⟨hz, hC⟩ (wrap64_of (rem_fits hn0 hn1 hz))
end Go.Proofs.YtoolojfbjpnllaaDoor
