/-
  What the document's own Div answers, at this program, part 1. Condition: the texts have at most 2^47 bytes, the numbers are 64-bit numbers.
-/
import Derived.Test.YtoolojfbjpnllaaDoorRefNeg
import Derived.Test.YtoolojfbjpnllaaDoorOps
import Derived.Deep.RegionHeld3
set_option linter.unusedVariables false
set_option linter.unusedSimpArgs false
namespace Go.Proofs.YtoolojfbjpnllaaDoor
open Go.RowKit Go.Lib

set_option maxRecDepth 100000 in
set_option maxHeartbeats 8000000 in
theorem refDiv_other (k0 : Int) (b0 : Bool) (n0 : Int) (s0 : ByteArray) (k1 : Int) (b1 : Bool) (n1 : Int) (s1 : ByteArray) (w : World) (hs0 : s0.size ≤ 140737488355328) (hs1 : s1.size ≤ 140737488355328) (hc : n1 = -1 ∧ ¬ n0 = -9223372036854775808) :
    Calls Tryd.prog 35 #[.agg #[.int .u8 k0, .bool b0, .int .i64 n0, .string s0], .agg #[.int .u8 k1, .bool b1, .int .i64 n1, .string s1]] w fun e w' => e = .returned (refV (numS ⟨k0, b0, n0, s0⟩ ⟨k1, b1, n1, s1⟩ (wrap64 (-n0), 0))) ∧ Below w.heap.size w w' := by
  obtain ⟨r, hr⟩ : ∃ r, numS ⟨k0, b0, n0, s0⟩ ⟨k1, b1, n1, s1⟩ (wrap64 (-n0), 0) = r := ⟨_, rfl⟩
  rw [hr]
  obtain ⟨⟨k', b', n', s'⟩, x⟩ := r
  rw [refVm]
  have hrH := Lib.hid hr
  clear hr
  have hs0H := Lib.hid hs0; have hs1H := Lib.hid hs1
  have dz : (n1 == 0) = false := by simp; omega
  have dzn : (n1 != 0) = true := by simp; omega
  have dzd : decide (n1 = 0) = false := by simp; omega
  have dC : (n1 == -1) = true := by simp; omega
  have dCn : (n1 != -1) = false := by simp; omega
  have dCd : decide (n1 = -1) = true := by simp; omega
  have dL : (n0 == -9223372036854775808) = false := by simp; omega
  have dLn : (n0 != -9223372036854775808) = true := by simp; omega
  have dLd : decide (n0 = -9223372036854775808) = false := by simp; omega
  clear hc
  obtain ⟨m, hm⟩ : ∃ m, wrap64 (-n0) = m := ⟨_, rfl⟩
  have hm' : IntKind.i64.wrap (-n0) = m := by rw [wrap_is, hm]
  rw [hm] at hrH
  obtain ⟨W0, hW0, hwW, hA, hB, hR, hzz⟩ := boxes2 w k0 b0 n0 s0 k1 b1 n1 s1
  have hAH := Lib.hid hA; have hBH := Lib.hid hB; have hRH := Lib.hid hR; have hz0 := Lib.hid hzz; have hwWH := Lib.hid hwW
  clear hA hB hR hzz hwW hs0 hs1
  have hb := Below.refl W0.heap.size W0
  obtain ⟨a0_, a1_, a2_, a3_⟩ := (hAH.out.below hb).cells; obtain ⟨b0_, b1_, b2_, b3_⟩ := (hBH.out.below hb).cells; obtain ⟨r0_, r1_, r2_, r3_⟩ := (hRH.out.below hb).cells; obtain ⟨f0_, f1_, f2_, f3_⟩ := (hRH.out.below hb).free; have hz := Nat.lt_of_lt_of_le hz0.out hb.size; have hs := hb.size
  go_enter Tryd.func35, Tryd.ntmps35
  go_wp2_with fail
  refine wp_region_noPanic ?_
  refine wp_region_held_drew (S := (fun w' => w'.cell? ⟨w.heap.size, 0, none⟩ = some (.int .u8 k0) ∧ w'.cell? ⟨w.heap.size, 1, none⟩ = some (.bool b0) ∧ w'.cell? ⟨w.heap.size, 2, none⟩ = some (.int .i64 n0) ∧ w'.cell? ⟨w.heap.size, 3, none⟩ = some (.string s0) ∧ w'.cell? ⟨w.heap.size + 1, 0, none⟩ = some (.int .u8 k1) ∧ w'.cell? ⟨w.heap.size + 1, 1, none⟩ = some (.bool b1) ∧ w'.cell? ⟨w.heap.size + 1, 2, none⟩ = some (.int .i64 n1) ∧ w'.cell? ⟨w.heap.size + 1, 3, none⟩ = some (.string s1))) (by kernel_rfl) (by first | exact ⟨a0_, a1_, a2_, a3_, b0_, b1_, b2_, b3_⟩ | go_keep) (fun hHeld => ?_)
  refine' wpAnyH_take (i := 0) (v := .pointer (some ⟨w.heap.size, 2, none⟩)) ?hi0x1141 ?hs0x1141 ?hf0x1141 ?hr0x1141 ?hQ0x1141 ?hy0x1141 ?hS0x1141 ?rest0x1141
  case hi0x1141 => (simp only [List.getElem?_toArray, List.getElem?_cons_succ, List.getElem?_cons_zero]; try rfl)
  case hs0x1141 => kernel_rfl
  case hf0x1141 => kernel_rfl
  case hr0x1141 => kernel_rfl
  case hQ0x1141 => exact fun _ _ _ h => h
  case hy0x1141 => exact Or.inl ⟨by rfl, by (intro w hSw; (try dsimp only at hSw); go_simp)⟩
  case hS0x1141 => assumption
  (try simp only [Act.put, List.setIfInBounds_toArray, List.set_cons_zero, List.set_cons_succ])
  refine' wpAnyH_take (i := 1) (v := .int .i64 n0) ?hi1x1142 ?hs1x1142 ?hf1x1142 ?hr1x1142 ?hQ1x1142 ?hy1x1142 ?hS1x1142 ?rest1x1142
  case hi1x1142 => (simp only [List.getElem?_toArray, List.getElem?_cons_succ, List.getElem?_cons_zero]; try rfl)
  case hs1x1142 => kernel_rfl
  case hf1x1142 => kernel_rfl
  case hr1x1142 => kernel_rfl
  case hQ1x1142 => exact fun _ _ _ h => h
  case hy1x1142 => exact Or.inl ⟨by rfl, by (intro w hSw; (try dsimp only at hSw); go_simp)⟩
  case hS1x1142 => assumption
  (try simp only [Act.put, List.setIfInBounds_toArray, List.set_cons_zero, List.set_cons_succ])
  refine' wpAnyH_take (i := 2) (v := .int .i64 m) ?hi2x1143 ?hs2x1143 ?hf2x1143 ?hr2x1143 ?hQ2x1143 ?hy2x1143 ?hS2x1143 ?rest2x1143
  case hi2x1143 => (simp only [List.getElem?_toArray, List.getElem?_cons_succ, List.getElem?_cons_zero]; try rfl)
  case hs2x1143 => kernel_rfl
  case hf2x1143 => kernel_rfl
  case hr2x1143 => kernel_rfl
  case hQ2x1143 => exact fun _ _ _ h => h
  case hy2x1143 => exact Or.inl ⟨by rfl, by (intro w hSw; (try dsimp only at hSw); go_simp)⟩
  case hS2x1143 => assumption
  (try simp only [Act.put, List.setIfInBounds_toArray, List.set_cons_zero, List.set_cons_succ])
  refine' wpAnyH_take (i := 3) (v := .pointer (some ⟨w.heap.size, 2, none⟩)) ?hi3x1144 ?hs3x1144 ?hf3x1144 ?hr3x1144 ?hQ3x1144 ?hy3x1144 ?hS3x1144 ?rest3x1144
  case hi3x1144 => (simp only [List.getElem?_toArray, List.getElem?_cons_succ, List.getElem?_cons_zero]; try rfl)
  case hs3x1144 => kernel_rfl
  case hf3x1144 => kernel_rfl
  case hr3x1144 => kernel_rfl
  case hQ3x1144 => exact fun _ _ _ h => h
  case hy3x1144 => exact Or.inl ⟨by rfl, by (intro w hSw; (try dsimp only at hSw); go_simp)⟩
  case hS3x1144 => assumption
  (try simp only [Act.put, List.setIfInBounds_toArray, List.set_cons_zero, List.set_cons_succ])
  refine' wpAnyH_take (i := 4) (v := .int .i64 n0) ?hi4x1145 ?hs4x1145 ?hf4x1145 ?hr4x1145 ?hQ4x1145 ?hy4x1145 ?hS4x1145 ?rest4x1145
  case hi4x1145 => (simp only [List.getElem?_toArray, List.getElem?_cons_succ, List.getElem?_cons_zero]; try rfl)
  case hs4x1145 => kernel_rfl
  case hf4x1145 => kernel_rfl
  case hr4x1145 => kernel_rfl
  case hQ4x1145 => exact fun _ _ _ h => h
  case hy4x1145 => exact Or.inl ⟨by rfl, by (intro w hSw; (try dsimp only at hSw); go_simp)⟩
  case hS4x1145 => assumption
  (try simp only [Act.put, List.setIfInBounds_toArray, List.set_cons_zero, List.set_cons_succ])
  refine' wpAnyH_take (i := 5) (v := .bool false) ?hi5x1146 ?hs5x1146 ?hf5x1146 ?hr5x1146 ?hQ5x1146 ?hy5x1146 ?hS5x1146 ?rest5x1146
  case hi5x1146 => (simp only [List.getElem?_toArray, List.getElem?_cons_succ, List.getElem?_cons_zero]; try rfl)
  case hs5x1146 => kernel_rfl
  case hf5x1146 => kernel_rfl
  case hr5x1146 => kernel_rfl
  case hQ5x1146 => exact fun _ _ _ h => h
  case hy5x1146 => exact Or.inl ⟨by rfl, by (intro w hSw; (try dsimp only at hSw); go_simp)⟩
  case hS5x1146 => assumption
  (try simp only [Act.put, List.setIfInBounds_toArray, List.set_cons_zero, List.set_cons_succ])
  refine' wpAnyH_take (i := 7) (v := .agg #[.int .u8 k0, .bool b0, .int .i64 n0, .string s0]) ?hi7x1147 ?hs7x1147 ?hf7x1147 ?hr7x1147 ?hQ7x1147 ?hy7x1147 ?hS7x1147 ?rest7x1147
  case hi7x1147 => (simp only [List.getElem?_toArray, List.getElem?_cons_succ, List.getElem?_cons_zero]; try rfl)
  case hs7x1147 => kernel_rfl
  case hf7x1147 => kernel_rfl
  case hr7x1147 => kernel_rfl
  case hQ7x1147 => exact fun _ _ _ h => h
  case hy7x1147 => exact Or.inl ⟨by rfl, by (intro w hSw; (try dsimp only at hSw); go_simp)⟩
  case hS7x1147 => assumption
  (try simp only [Act.put, List.setIfInBounds_toArray, List.set_cons_zero, List.set_cons_succ])
  refine' wpAnyH_take (i := 8) (v := .agg #[.int .u8 k1, .bool b1, .int .i64 n1, .string s1]) ?hi8x1148 ?hs8x1148 ?hf8x1148 ?hr8x1148 ?hQ8x1148 ?hy8x1148 ?hS8x1148 ?rest8x1148
  case hi8x1148 => (simp only [List.getElem?_toArray, List.getElem?_cons_succ, List.getElem?_cons_zero]; try rfl)
  case hs8x1148 => kernel_rfl
  case hf8x1148 => kernel_rfl
  case hr8x1148 => kernel_rfl
  case hQ8x1148 => exact fun _ _ _ h => h
  case hy8x1148 => exact Or.inl ⟨by rfl, by (intro w hSw; (try dsimp only at hSw); go_simp)⟩
  case hS8x1148 => assumption
  (try simp only [Act.put, List.setIfInBounds_toArray, List.set_cons_zero, List.set_cons_succ])
  refine wpAnyH_ready (rs := [6, 9]) (by kernel_rfl) (by simp) ?_
  refine' AllReadyH.cons (i := 6) ?ho6x1149 (fun K hK => ?st6x1149) (AllReadyH.cons (i := 9) ?ho9x1150 (fun K hK => ?st9x1150) AllReadyH.nil)
  case ho6x1149 => (simp only [List.getElem?_toArray, List.getElem?_cons_succ, List.getElem?_cons_zero]; try rfl)
  case ho9x1150 => (simp only [List.getElem?_toArray, List.getElem?_cons_succ, List.getElem?_cons_zero]; try rfl)
  case st6x1149 =>
    go_simp
    refine (refOver_any _ _).mono ?_
    rintro e w' ⟨rfl, rfl⟩
    go_wp2_with fail
    refine hK.out _ _ ?_ (fun hHeld => ?_)
    · (first | exact ⟨a0_, a1_, a2_, a3_, b0_, b1_, b2_, b3_⟩ | go_keep)
    clear hK K
    (try simp only [Act.put, List.setIfInBounds_toArray, List.set_cons_zero, List.set_cons_succ])
    refine wpAnyH_ready (rs := [9]) (by kernel_rfl) (by simp) ?_
    refine' AllReadyH.cons (i := 9) ?ho9x1151 (fun K hK => ?st9x1151) AllReadyH.nil
    case ho9x1151 => (simp only [List.getElem?_toArray, List.getElem?_cons_succ, List.getElem?_cons_zero]; try rfl)
    go_simp
    refine hK.out _ _ ?_ (fun hHeld => ?_)
    · (first | exact ⟨a0_, a1_, a2_, a3_, b0_, b1_, b2_, b3_⟩ | go_keep)
    clear hK K
    (try simp only [Act.put, List.setIfInBounds_toArray, List.set_cons_zero, List.set_cons_succ])
    refine wpAnyH_ready (rs := [10]) (by kernel_rfl) (by simp) ?_
    refine' AllReadyH.cons (i := 10) ?ho10x1152 (fun K hK => ?st10x1152) AllReadyH.nil
    case ho10x1152 => (simp only [List.getElem?_toArray, List.getElem?_cons_succ, List.getElem?_cons_zero]; try rfl)
    go_simp
    refine (refNum2_any _ _ k0 b0 n0 s0 k1 b1 n1 s1 _ _ _ (by exact heap_at _ _ _ (by first | rfl | simp)) hs0H.out hs1H.out).mono ?_
    rw [hrH.out, refVm]
    rintro e w' ⟨rfl, hb'⟩
    replace hb := chainB (B := W0.heap.size) (a := W0) (by go_grown) hb' (by have := hb.size; first | omega | (simp; done) | (simp; omega))
    clear hb' a0_ a1_ a2_ a3_ b0_ b1_ b2_ b3_ r0_ r1_ r2_ r3_ f0_ f1_ f2_ f3_ hz hs
    obtain ⟨a0_, a1_, a2_, a3_⟩ := (hAH.out.below hb).cells; obtain ⟨b0_, b1_, b2_, b3_⟩ := (hBH.out.below hb).cells; obtain ⟨r0_, r1_, r2_, r3_⟩ := (hRH.out.below hb).cells; obtain ⟨f0_, f1_, f2_, f3_⟩ := (hRH.out.below hb).free; have hz := Nat.lt_of_lt_of_le hz0.out hb.size; have hs := hb.size
    go_wp2_with fail
    refine hK.out _ _ ?_ (fun hHeld => ?_)
    · (first | exact ⟨a0_, a1_, a2_, a3_, b0_, b1_, b2_, b3_⟩ | go_keep)
    clear hK K
    (try simp only [Act.put, List.setIfInBounds_toArray, List.set_cons_zero, List.set_cons_succ])
    refine' wpAnyH_take (i := 11) (v := .agg #[.int .u8 k', .bool b', .int .i64 n', .string s']) ?hi11x1153 ?hs11x1153 ?hf11x1153 ?hr11x1153 ?hQ11x1153 ?hy11x1153 ?hS11x1153 ?rest11x1153
    case hi11x1153 => (simp only [List.getElem?_toArray, List.getElem?_cons_succ, List.getElem?_cons_zero]; try rfl)
    case hs11x1153 => kernel_rfl
    case hf11x1153 => kernel_rfl
    case hr11x1153 => kernel_rfl
    case hQ11x1153 => exact fun _ _ _ h => h
    case hy11x1153 => exact Or.inl ⟨by rfl, by (intro w hSw; (try dsimp only at hSw); go_simp)⟩
    case hS11x1153 => assumption
    (try simp only [Act.put, List.setIfInBounds_toArray, List.set_cons_zero, List.set_cons_succ])
    refine' wpAnyH_take (i := 12) (v := .int .i64 x) ?hi12x1154 ?hs12x1154 ?hf12x1154 ?hr12x1154 ?hQ12x1154 ?hy12x1154 ?hS12x1154 ?rest12x1154
    case hi12x1154 => (simp only [List.getElem?_toArray, List.getElem?_cons_succ, List.getElem?_cons_zero]; try rfl)
    case hs12x1154 => kernel_rfl
    case hf12x1154 => kernel_rfl
    case hr12x1154 => kernel_rfl
    case hQ12x1154 => exact fun _ _ _ h => h
    case hy12x1154 => exact Or.inl ⟨by rfl, by (intro w hSw; (try dsimp only at hSw); go_simp)⟩
    case hS12x1154 => assumption
    (try simp only [Act.put, List.setIfInBounds_toArray, List.set_cons_zero, List.set_cons_succ])
    have hne1 : ¬ (w.heap.size + 1 + 1 = w.heap.size) := by omega
    have hne2 : ¬ (w.heap.size = w.heap.size + 1 + 1) := by omega
    refine wpAnyH_ready (rs := [13]) (by kernel_rfl) (by simp) ?_
    refine' AllReadyH.cons (i := 13) ?ho13x1155 (fun K hK => ?st13x1155) AllReadyH.nil
    case ho13x1155 => (simp only [List.getElem?_toArray, List.getElem?_cons_succ, List.getElem?_cons_zero]; try rfl)
    go_simp
    refine hK.out _ _ ?_ (fun hHeld => ?_)
    · (first | exact ⟨a0_, a1_, a2_, a3_, b0_, b1_, b2_, b3_⟩ | go_keep)
    clear hK K
    (try simp only [Act.put, List.setIfInBounds_toArray, List.set_cons_zero, List.set_cons_succ])
    refine' wpAnyH_take (i := 14) (v := .int .i64 x) ?hi14x1156 ?hs14x1156 ?hf14x1156 ?hr14x1156 ?hQ14x1156 ?hy14x1156 ?hS14x1156 ?rest14x1156
    case hi14x1156 => (simp only [List.getElem?_toArray, List.getElem?_cons_succ, List.getElem?_cons_zero]; try rfl)
    case hs14x1156 => kernel_rfl
    case hf14x1156 => kernel_rfl
    case hr14x1156 => kernel_rfl
    case hQ14x1156 => exact fun _ _ _ h => h
    case hy14x1156 => exact Or.inl ⟨by rfl, by (intro w hSw; (try dsimp only at hSw); go_simp)⟩
    case hS14x1156 => assumption
    (try simp only [Act.put, List.setIfInBounds_toArray, List.set_cons_zero, List.set_cons_succ])
    refine wpAnyH_done (by kernel_rfl) ?_ _
    refine NoPanic.normal ?_
    clear hne1 hne2
    go_wp2
    refine bodyPost_ret (v := .tuple #[.agg #[.int .u8 k', .bool b', .int .i64 n', .string s'], .int .i64 x]) (by simp [results, Tryd.results35, go_sem, r0_, r1_, r2_, r3_, hz]) rfl ⟨rfl, ?_⟩
    have hbw := hwWH.out.trans (hb.mono hwWH.out.size)
    clear hb
    go_grown
  case st9x1150 =>
    go_simp
    refine hK.out _ _ ?_ (fun hHeld => ?_)
    · (first | exact ⟨a0_, a1_, a2_, a3_, b0_, b1_, b2_, b3_⟩ | go_keep)
    clear hK K
    (try simp only [Act.put, List.setIfInBounds_toArray, List.set_cons_zero, List.set_cons_succ])
    refine wpAnyH_ready (rs := [6]) (by kernel_rfl) (by simp) ?_
    refine' AllReadyH.cons (i := 6) ?ho6x1157 (fun K hK => ?st6x1157) AllReadyH.nil
    case ho6x1157 => (simp only [List.getElem?_toArray, List.getElem?_cons_succ, List.getElem?_cons_zero]; try rfl)
    go_simp
    refine (refOver_any _ _).mono ?_
    rintro e w' ⟨rfl, rfl⟩
    go_wp2_with fail
    refine hK.out _ _ ?_ (fun hHeld => ?_)
    · (first | exact ⟨a0_, a1_, a2_, a3_, b0_, b1_, b2_, b3_⟩ | go_keep)
    clear hK K
    (try simp only [Act.put, List.setIfInBounds_toArray, List.set_cons_zero, List.set_cons_succ])
    refine wpAnyH_ready (rs := [10]) (by kernel_rfl) (by simp) ?_
    refine' AllReadyH.cons (i := 10) ?ho10x1158 (fun K hK => ?st10x1158) AllReadyH.nil
    case ho10x1158 => (simp only [List.getElem?_toArray, List.getElem?_cons_succ, List.getElem?_cons_zero]; try rfl)
    go_simp
    refine (refNum2_any _ _ k0 b0 n0 s0 k1 b1 n1 s1 _ _ _ (by exact heap_at _ _ _ (by first | rfl | simp)) hs0H.out hs1H.out).mono ?_
    rw [hrH.out, refVm]
    rintro e w' ⟨rfl, hb'⟩
    replace hb := chainB (B := W0.heap.size) (a := W0) (by go_grown) hb' (by have := hb.size; first | omega | (simp; done) | (simp; omega))
    clear hb' a0_ a1_ a2_ a3_ b0_ b1_ b2_ b3_ r0_ r1_ r2_ r3_ f0_ f1_ f2_ f3_ hz hs
    obtain ⟨a0_, a1_, a2_, a3_⟩ := (hAH.out.below hb).cells; obtain ⟨b0_, b1_, b2_, b3_⟩ := (hBH.out.below hb).cells; obtain ⟨r0_, r1_, r2_, r3_⟩ := (hRH.out.below hb).cells; obtain ⟨f0_, f1_, f2_, f3_⟩ := (hRH.out.below hb).free; have hz := Nat.lt_of_lt_of_le hz0.out hb.size; have hs := hb.size
    go_wp2_with fail
    refine hK.out _ _ ?_ (fun hHeld => ?_)
    · (first | exact ⟨a0_, a1_, a2_, a3_, b0_, b1_, b2_, b3_⟩ | go_keep)
    clear hK K
    (try simp only [Act.put, List.setIfInBounds_toArray, List.set_cons_zero, List.set_cons_succ])
    refine' wpAnyH_take (i := 11) (v := .agg #[.int .u8 k', .bool b', .int .i64 n', .string s']) ?hi11x1159 ?hs11x1159 ?hf11x1159 ?hr11x1159 ?hQ11x1159 ?hy11x1159 ?hS11x1159 ?rest11x1159
    case hi11x1159 => (simp only [List.getElem?_toArray, List.getElem?_cons_succ, List.getElem?_cons_zero]; try rfl)
    case hs11x1159 => kernel_rfl
    case hf11x1159 => kernel_rfl
    case hr11x1159 => kernel_rfl
    case hQ11x1159 => exact fun _ _ _ h => h
    case hy11x1159 => exact Or.inl ⟨by rfl, by (intro w hSw; (try dsimp only at hSw); go_simp)⟩
    case hS11x1159 => assumption
    (try simp only [Act.put, List.setIfInBounds_toArray, List.set_cons_zero, List.set_cons_succ])
    refine' wpAnyH_take (i := 12) (v := .int .i64 x) ?hi12x1160 ?hs12x1160 ?hf12x1160 ?hr12x1160 ?hQ12x1160 ?hy12x1160 ?hS12x1160 ?rest12x1160
    case hi12x1160 => (simp only [List.getElem?_toArray, List.getElem?_cons_succ, List.getElem?_cons_zero]; try rfl)
    case hs12x1160 => kernel_rfl
    case hf12x1160 => kernel_rfl
    case hr12x1160 => kernel_rfl
    case hQ12x1160 => exact fun _ _ _ h => h
    case hy12x1160 => exact Or.inl ⟨by rfl, by (intro w hSw; (try dsimp only at hSw); go_simp)⟩
    case hS12x1160 => assumption
    (try simp only [Act.put, List.setIfInBounds_toArray, List.set_cons_zero, List.set_cons_succ])
    have hne1 : ¬ (w.heap.size + 1 + 1 = w.heap.size) := by omega
    have hne2 : ¬ (w.heap.size = w.heap.size + 1 + 1) := by omega
    refine wpAnyH_ready (rs := [13]) (by kernel_rfl) (by simp) ?_
    refine' AllReadyH.cons (i := 13) ?ho13x1161 (fun K hK => ?st13x1161) AllReadyH.nil
    case ho13x1161 => (simp only [List.getElem?_toArray, List.getElem?_cons_succ, List.getElem?_cons_zero]; try rfl)
    go_simp
    refine hK.out _ _ ?_ (fun hHeld => ?_)
    · (first | exact ⟨a0_, a1_, a2_, a3_, b0_, b1_, b2_, b3_⟩ | go_keep)
    clear hK K
    (try simp only [Act.put, List.setIfInBounds_toArray, List.set_cons_zero, List.set_cons_succ])
    refine' wpAnyH_take (i := 14) (v := .int .i64 x) ?hi14x1162 ?hs14x1162 ?hf14x1162 ?hr14x1162 ?hQ14x1162 ?hy14x1162 ?hS14x1162 ?rest14x1162
    case hi14x1162 => (simp only [List.getElem?_toArray, List.getElem?_cons_succ, List.getElem?_cons_zero]; try rfl)
    case hs14x1162 => kernel_rfl
    case hf14x1162 => kernel_rfl
    case hr14x1162 => kernel_rfl
    case hQ14x1162 => exact fun _ _ _ h => h
    case hy14x1162 => exact Or.inl ⟨by rfl, by (intro w hSw; (try dsimp only at hSw); go_simp)⟩
    case hS14x1162 => assumption
    (try simp only [Act.put, List.setIfInBounds_toArray, List.set_cons_zero, List.set_cons_succ])
    refine wpAnyH_done (by kernel_rfl) ?_ _
    refine NoPanic.normal ?_
    clear hne1 hne2
    go_wp2
    refine bodyPost_ret (v := .tuple #[.agg #[.int .u8 k', .bool b', .int .i64 n', .string s'], .int .i64 x]) (by simp [results, Tryd.results35, go_sem, r0_, r1_, r2_, r3_, hz]) rfl ⟨rfl, ?_⟩
    have hbw := hwWH.out.trans (hb.mono hwWH.out.size)
    clear hb
    go_grown

set_option maxRecDepth 100000 in
set_option maxHeartbeats 8000000 in
theorem refDiv_go (k0 : Int) (b0 : Bool) (n0 : Int) (s0 : ByteArray) (k1 : Int) (b1 : Bool) (n1 : Int) (s1 : ByteArray) (w : World) (hs0 : s0.size ≤ 140737488355328) (hs1 : s1.size ≤ 140737488355328) (hc : n1 ≠ 0 ∧ n1 ≠ -1) :
    Calls Tryd.prog 35 #[.agg #[.int .u8 k0, .bool b0, .int .i64 n0, .string s0], .agg #[.int .u8 k1, .bool b1, .int .i64 n1, .string s1]] w fun e w' => e = .returned (refV (numS ⟨k0, b0, n0, s0⟩ ⟨k1, b1, n1, s1⟩ (wrap64 (n0.tdiv n1), 0))) ∧ Below w.heap.size w w' := by
  obtain ⟨r, hr⟩ : ∃ r, numS ⟨k0, b0, n0, s0⟩ ⟨k1, b1, n1, s1⟩ (wrap64 (n0.tdiv n1), 0) = r := ⟨_, rfl⟩
  rw [hr]
  obtain ⟨⟨k', b', n', s'⟩, x⟩ := r
  rw [refVm]
  have hrH := Lib.hid hr
  clear hr
  have hs0H := Lib.hid hs0; have hs1H := Lib.hid hs1
  have dz : (n1 == 0) = false := by simp; omega
  have dzn : (n1 != 0) = true := by simp; omega
  have dzd : decide (n1 = 0) = false := by simp; omega
  have dC : (n1 == -1) = false := by simp; omega
  have dCn : (n1 != -1) = true := by simp; omega
  have dCd : decide (n1 = -1) = false := by simp; omega
  have hz0' : ¬ n1 = 0 := by omega
  clear hc
  obtain ⟨m, hm⟩ : ∃ m, wrap64 (n0.tdiv n1) = m := ⟨_, rfl⟩
  have hm' : IntKind.i64.wrap (n0.tdiv n1) = m := by rw [wrap_is, hm]
  rw [hm] at hrH
  obtain ⟨W0, hW0, hwW, hA, hB, hR, hzz⟩ := boxes2 w k0 b0 n0 s0 k1 b1 n1 s1
  have hAH := Lib.hid hA; have hBH := Lib.hid hB; have hRH := Lib.hid hR; have hz0 := Lib.hid hzz; have hwWH := Lib.hid hwW
  clear hA hB hR hzz hwW hs0 hs1
  have hb := Below.refl W0.heap.size W0
  obtain ⟨a0_, a1_, a2_, a3_⟩ := (hAH.out.below hb).cells; obtain ⟨b0_, b1_, b2_, b3_⟩ := (hBH.out.below hb).cells; obtain ⟨r0_, r1_, r2_, r3_⟩ := (hRH.out.below hb).cells; obtain ⟨f0_, f1_, f2_, f3_⟩ := (hRH.out.below hb).free; have hz := Nat.lt_of_lt_of_le hz0.out hb.size; have hs := hb.size
  go_enter Tryd.func35, Tryd.ntmps35
  go_wp2_with fail
  refine wp_region_noPanic ?_
  refine wp_region_held_drew (S := (fun w' => w'.cell? ⟨w.heap.size, 0, none⟩ = some (.int .u8 k0) ∧ w'.cell? ⟨w.heap.size, 1, none⟩ = some (.bool b0) ∧ w'.cell? ⟨w.heap.size, 2, none⟩ = some (.int .i64 n0) ∧ w'.cell? ⟨w.heap.size, 3, none⟩ = some (.string s0) ∧ w'.cell? ⟨w.heap.size + 1, 0, none⟩ = some (.int .u8 k1) ∧ w'.cell? ⟨w.heap.size + 1, 1, none⟩ = some (.bool b1) ∧ w'.cell? ⟨w.heap.size + 1, 2, none⟩ = some (.int .i64 n1) ∧ w'.cell? ⟨w.heap.size + 1, 3, none⟩ = some (.string s1))) (by kernel_rfl) (by first | exact ⟨a0_, a1_, a2_, a3_, b0_, b1_, b2_, b3_⟩ | go_keep) (fun hHeld => ?_)
  refine' wpAnyH_take (i := 0) (v := .pointer (some ⟨w.heap.size, 2, none⟩)) ?hi0x1163 ?hs0x1163 ?hf0x1163 ?hr0x1163 ?hQ0x1163 ?hy0x1163 ?hS0x1163 ?rest0x1163
  case hi0x1163 => (simp only [List.getElem?_toArray, List.getElem?_cons_succ, List.getElem?_cons_zero]; try rfl)
  case hs0x1163 => kernel_rfl
  case hf0x1163 => kernel_rfl
  case hr0x1163 => kernel_rfl
  case hQ0x1163 => exact fun _ _ _ h => h
  case hy0x1163 => exact Or.inl ⟨by rfl, by (intro w hSw; (try dsimp only at hSw); go_simp)⟩
  case hS0x1163 => assumption
  (try simp only [Act.put, List.setIfInBounds_toArray, List.set_cons_zero, List.set_cons_succ])
  refine' wpAnyH_take (i := 1) (v := .int .i64 n0) ?hi1x1164 ?hs1x1164 ?hf1x1164 ?hr1x1164 ?hQ1x1164 ?hy1x1164 ?hS1x1164 ?rest1x1164
  case hi1x1164 => (simp only [List.getElem?_toArray, List.getElem?_cons_succ, List.getElem?_cons_zero]; try rfl)
  case hs1x1164 => kernel_rfl
  case hf1x1164 => kernel_rfl
  case hr1x1164 => kernel_rfl
  case hQ1x1164 => exact fun _ _ _ h => h
  case hy1x1164 => exact Or.inl ⟨by rfl, by (intro w hSw; (try dsimp only at hSw); go_simp)⟩
  case hS1x1164 => assumption
  (try simp only [Act.put, List.setIfInBounds_toArray, List.set_cons_zero, List.set_cons_succ])
  refine' wpAnyH_take (i := 2) (v := .pointer (some ⟨w.heap.size + 1, 2, none⟩)) ?hi2x1165 ?hs2x1165 ?hf2x1165 ?hr2x1165 ?hQ2x1165 ?hy2x1165 ?hS2x1165 ?rest2x1165
  case hi2x1165 => (simp only [List.getElem?_toArray, List.getElem?_cons_succ, List.getElem?_cons_zero]; try rfl)
  case hs2x1165 => kernel_rfl
  case hf2x1165 => kernel_rfl
  case hr2x1165 => kernel_rfl
  case hQ2x1165 => exact fun _ _ _ h => h
  case hy2x1165 => exact Or.inl ⟨by rfl, by (intro w hSw; (try dsimp only at hSw); go_simp)⟩
  case hS2x1165 => assumption
  (try simp only [Act.put, List.setIfInBounds_toArray, List.set_cons_zero, List.set_cons_succ])
  refine' wpAnyH_take (i := 3) (v := .int .i64 n1) ?hi3x1166 ?hs3x1166 ?hf3x1166 ?hr3x1166 ?hQ3x1166 ?hy3x1166 ?hS3x1166 ?rest3x1166
  case hi3x1166 => (simp only [List.getElem?_toArray, List.getElem?_cons_succ, List.getElem?_cons_zero]; try rfl)
  case hs3x1166 => kernel_rfl
  case hf3x1166 => kernel_rfl
  case hr3x1166 => kernel_rfl
  case hQ3x1166 => exact fun _ _ _ h => h
  case hy3x1166 => exact Or.inl ⟨by rfl, by (intro w hSw; (try dsimp only at hSw); go_simp)⟩
  case hS3x1166 => assumption
  (try simp only [Act.put, List.setIfInBounds_toArray, List.set_cons_zero, List.set_cons_succ])
  refine' wpAnyH_take (i := 4) (v := .int .i64 m) ?hi4x1167 ?hs4x1167 ?hf4x1167 ?hr4x1167 ?hQ4x1167 ?hy4x1167 ?hS4x1167 ?rest4x1167
  case hi4x1167 => (simp only [List.getElem?_toArray, List.getElem?_cons_succ, List.getElem?_cons_zero]; try rfl)
  case hs4x1167 => kernel_rfl
  case hf4x1167 => kernel_rfl
  case hr4x1167 => kernel_rfl
  case hQ4x1167 => exact fun _ _ _ h => h
  case hy4x1167 => exact Or.inl ⟨by rfl, by (intro w hSw; (try dsimp only at hSw); go_simp)⟩
  case hS4x1167 => assumption
  (try simp only [Act.put, List.setIfInBounds_toArray, List.set_cons_zero, List.set_cons_succ])
  refine' wpAnyH_take (i := 5) (v := .agg #[.int .u8 k0, .bool b0, .int .i64 n0, .string s0]) ?hi5x1168 ?hs5x1168 ?hf5x1168 ?hr5x1168 ?hQ5x1168 ?hy5x1168 ?hS5x1168 ?rest5x1168
  case hi5x1168 => (simp only [List.getElem?_toArray, List.getElem?_cons_succ, List.getElem?_cons_zero]; try rfl)
  case hs5x1168 => kernel_rfl
  case hf5x1168 => kernel_rfl
  case hr5x1168 => kernel_rfl
  case hQ5x1168 => exact fun _ _ _ h => h
  case hy5x1168 => exact Or.inl ⟨by rfl, by (intro w hSw; (try dsimp only at hSw); go_simp)⟩
  case hS5x1168 => assumption
  (try simp only [Act.put, List.setIfInBounds_toArray, List.set_cons_zero, List.set_cons_succ])
  refine' wpAnyH_take (i := 6) (v := .agg #[.int .u8 k1, .bool b1, .int .i64 n1, .string s1]) ?hi6x1169 ?hs6x1169 ?hf6x1169 ?hr6x1169 ?hQ6x1169 ?hy6x1169 ?hS6x1169 ?rest6x1169
  case hi6x1169 => (simp only [List.getElem?_toArray, List.getElem?_cons_succ, List.getElem?_cons_zero]; try rfl)
  case hs6x1169 => kernel_rfl
  case hf6x1169 => kernel_rfl
  case hr6x1169 => kernel_rfl
  case hQ6x1169 => exact fun _ _ _ h => h
  case hy6x1169 => exact Or.inl ⟨by rfl, by (intro w hSw; (try dsimp only at hSw); go_simp)⟩
  case hS6x1169 => assumption
  (try simp only [Act.put, List.setIfInBounds_toArray, List.set_cons_zero, List.set_cons_succ])
  refine wpAnyH_ready (rs := [7]) (by kernel_rfl) (by simp) ?_
  refine' AllReadyH.cons (i := 7) ?ho7x1170 (fun K hK => ?st7x1170) AllReadyH.nil
  case ho7x1170 => (simp only [List.getElem?_toArray, List.getElem?_cons_succ, List.getElem?_cons_zero]; try rfl)
  go_simp
  refine hK.out _ _ ?_ (fun hHeld => ?_)
  · (first | exact ⟨a0_, a1_, a2_, a3_, b0_, b1_, b2_, b3_⟩ | go_keep)
  clear hK K
  (try simp only [Act.put, List.setIfInBounds_toArray, List.set_cons_zero, List.set_cons_succ])
  refine wpAnyH_ready (rs := [8]) (by kernel_rfl) (by simp) ?_
  refine' AllReadyH.cons (i := 8) ?ho8x1171 (fun K hK => ?st8x1171) AllReadyH.nil
  case ho8x1171 => (simp only [List.getElem?_toArray, List.getElem?_cons_succ, List.getElem?_cons_zero]; try rfl)
  go_simp
  refine (refNum2_any _ _ k0 b0 n0 s0 k1 b1 n1 s1 _ _ _ (by exact heap_at _ _ _ (by first | rfl | simp)) hs0H.out hs1H.out).mono ?_
  rw [hrH.out, refVm]
  rintro e w' ⟨rfl, hb'⟩
  replace hb := chainB (B := W0.heap.size) (a := W0) (by go_grown) hb' (by have := hb.size; first | omega | (simp; done) | (simp; omega))
  clear hb' a0_ a1_ a2_ a3_ b0_ b1_ b2_ b3_ r0_ r1_ r2_ r3_ f0_ f1_ f2_ f3_ hz hs
  obtain ⟨a0_, a1_, a2_, a3_⟩ := (hAH.out.below hb).cells; obtain ⟨b0_, b1_, b2_, b3_⟩ := (hBH.out.below hb).cells; obtain ⟨r0_, r1_, r2_, r3_⟩ := (hRH.out.below hb).cells; obtain ⟨f0_, f1_, f2_, f3_⟩ := (hRH.out.below hb).free; have hz := Nat.lt_of_lt_of_le hz0.out hb.size; have hs := hb.size
  go_wp2_with fail
  refine hK.out _ _ ?_ (fun hHeld => ?_)
  · (first | exact ⟨a0_, a1_, a2_, a3_, b0_, b1_, b2_, b3_⟩ | go_keep)
  clear hK K
  (try simp only [Act.put, List.setIfInBounds_toArray, List.set_cons_zero, List.set_cons_succ])
  refine' wpAnyH_take (i := 9) (v := .agg #[.int .u8 k', .bool b', .int .i64 n', .string s']) ?hi9x1172 ?hs9x1172 ?hf9x1172 ?hr9x1172 ?hQ9x1172 ?hy9x1172 ?hS9x1172 ?rest9x1172
  case hi9x1172 => (simp only [List.getElem?_toArray, List.getElem?_cons_succ, List.getElem?_cons_zero]; try rfl)
  case hs9x1172 => kernel_rfl
  case hf9x1172 => kernel_rfl
  case hr9x1172 => kernel_rfl
  case hQ9x1172 => exact fun _ _ _ h => h
  case hy9x1172 => exact Or.inl ⟨by rfl, by (intro w hSw; (try dsimp only at hSw); go_simp)⟩
  case hS9x1172 => assumption
  (try simp only [Act.put, List.setIfInBounds_toArray, List.set_cons_zero, List.set_cons_succ])
  refine' wpAnyH_take (i := 10) (v := .int .i64 x) ?hi10x1173 ?hs10x1173 ?hf10x1173 ?hr10x1173 ?hQ10x1173 ?hy10x1173 ?hS10x1173 ?rest10x1173
  case hi10x1173 => (simp only [List.getElem?_toArray, List.getElem?_cons_succ, List.getElem?_cons_zero]; try rfl)
  case hs10x1173 => kernel_rfl
  case hf10x1173 => kernel_rfl
  case hr10x1173 => kernel_rfl
  case hQ10x1173 => exact fun _ _ _ h => h
  case hy10x1173 => exact Or.inl ⟨by rfl, by (intro w hSw; (try dsimp only at hSw); go_simp)⟩
  case hS10x1173 => assumption
  (try simp only [Act.put, List.setIfInBounds_toArray, List.set_cons_zero, List.set_cons_succ])
  have hne1 : ¬ (w.heap.size + 1 + 1 = w.heap.size) := by omega
  have hne2 : ¬ (w.heap.size = w.heap.size + 1 + 1) := by omega
  refine wpAnyH_ready (rs := [11]) (by kernel_rfl) (by simp) ?_
  refine' AllReadyH.cons (i := 11) ?ho11x1174 (fun K hK => ?st11x1174) AllReadyH.nil
  case ho11x1174 => (simp only [List.getElem?_toArray, List.getElem?_cons_succ, List.getElem?_cons_zero]; try rfl)
  go_simp
  refine hK.out _ _ ?_ (fun hHeld => ?_)
  · (first | exact ⟨a0_, a1_, a2_, a3_, b0_, b1_, b2_, b3_⟩ | go_keep)
  clear hK K
  (try simp only [Act.put, List.setIfInBounds_toArray, List.set_cons_zero, List.set_cons_succ])
  refine' wpAnyH_take (i := 12) (v := .int .i64 x) ?hi12x1175 ?hs12x1175 ?hf12x1175 ?hr12x1175 ?hQ12x1175 ?hy12x1175 ?hS12x1175 ?rest12x1175
  case hi12x1175 => (simp only [List.getElem?_toArray, List.getElem?_cons_succ, List.getElem?_cons_zero]; try rfl)
  case hs12x1175 => kernel_rfl
  case hf12x1175 => kernel_rfl
  case hr12x1175 => kernel_rfl
  case hQ12x1175 => exact fun _ _ _ h => h
  case hy12x1175 => exact Or.inl ⟨by rfl, by (intro w hSw; (try dsimp only at hSw); go_simp)⟩
  case hS12x1175 => assumption
  (try simp only [Act.put, List.setIfInBounds_toArray, List.set_cons_zero, List.set_cons_succ])
  refine wpAnyH_done (by kernel_rfl) ?_ _
  refine NoPanic.normal ?_
  clear hne1 hne2
  go_wp2
  refine bodyPost_ret (v := .tuple #[.agg #[.int .u8 k', .bool b', .int .i64 n', .string s'], .int .i64 x]) (by simp [results, Tryd.results35, go_sem, r0_, r1_, r2_, r3_, hz]) rfl ⟨rfl, ?_⟩
  have hbw := hwWH.out.trans (hb.mono hwWH.out.size)
  clear hb
  go_grown

end Go.Proofs.YtoolojfbjpnllaaDoor
