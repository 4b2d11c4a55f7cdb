/-
  What the document's own Neg answers, at this program. Condition: the texts have at most 2^47 bytes, the numbers are 64-bit numbers.
-/
import Derived.Test.YtoolojfbjpnllaaDoorRefNum
import Derived.Test.YtoolojfbjpnllaaDoorOps
import Derived.Deep.RegionHeld3
set_option linter.unusedVariables false
set_option linter.unusedSimpArgs false
namespace Go.Proofs.YtoolojfbjpnllaaDoor
open Go.RowKit Go.Lib

theorem refVm {k : Int} {b : Bool} {n : Int} {s : ByteArray} {x : Int} : refV (⟨k, b, n, s⟩, x) = .tuple #[.agg #[.int .u8 k, .bool b, .int .i64 n, .string s], .int .i64 x] := rfl
theorem numS_congr {a b : Dat} {r r' : Int × Int} (h2 : r.2 = r'.2) (h1 : r.2 = 0 → r.1 = r'.1) : numS a b r = numS a b r' := by
  unfold numS
  rw [← h2]
  by_cases h : r.2 = 0
  · rw [h1 h]
  · simp [h]
theorem wrap_is (x : Int) : IntKind.i64.wrap x = wrap64 x := by unfold wrap64; rw [IntKind.wrap_i64]
set_option maxRecDepth 100000 in
set_option maxHeartbeats 8000000 in
theorem refNeg_least (k0 : Int) (b0 : Bool) (n0 : Int) (s0 : ByteArray) (w : World) (hs0 : s0.size ≤ 140737488355328) (h : n0 = -9223372036854775808) :
    Calls Tryd.prog 31 #[.agg #[.int .u8 k0, .bool b0, .int .i64 n0, .string s0]] w fun e w' => e = .returned (refV (numS (intD 0) ⟨k0, b0, n0, s0⟩ (wrap64 (-n0), 10))) ∧ Below w.heap.size w w' := by
  obtain ⟨r, hr⟩ : ∃ r, numS (intD 0) ⟨k0, b0, n0, s0⟩ (wrap64 (-n0), 10) = r := ⟨_, rfl⟩
  rw [hr]
  obtain ⟨⟨k', b', n', s'⟩, x⟩ := r
  rw [refVm]
  have hrH := Lib.hid hr
  clear hr
  have hs0H := Lib.hid hs0
  have d1 : (n0 == -9223372036854775808) = true := by simpa using h
  have d2 : decide (n0 = -9223372036854775808) = true := by simpa using h
  clear h
  obtain ⟨m, hm⟩ : ∃ m, wrap64 (-n0) = m := ⟨_, rfl⟩
  have hm' : IntKind.i64.wrap (-n0) = m := by rw [wrap_is, hm]
  rw [hm] at hrH
  obtain ⟨W0, hW0, hwW, hA, hR, hzz⟩ := boxes1 w k0 b0 n0 s0
  have hAH := Lib.hid hA; have hRH := Lib.hid hR; have hz0 := Lib.hid hzz; have hwWH := Lib.hid hwW
  clear hA hR hzz hwW hs0
  have hb := Below.refl W0.heap.size W0
  obtain ⟨a0_, a1_, a2_, a3_⟩ := (hAH.out.below hb).cells; obtain ⟨r0_, r1_, r2_, r3_⟩ := (hRH.out.below hb).cells; obtain ⟨f0_, f1_, f2_, f3_⟩ := (hRH.out.below hb).free; have hz := Nat.lt_of_lt_of_le hz0.out hb.size; have hs := hb.size
  go_enter Tryd.func31, Tryd.ntmps31
  go_wp2_with fail
  refine wp_region_noPanic ?_
  refine wp_region_held_drew (S := (fun w' => w'.cell? ⟨w.heap.size, 0, none⟩ = some (.int .u8 k0) ∧ w'.cell? ⟨w.heap.size, 1, none⟩ = some (.bool b0) ∧ w'.cell? ⟨w.heap.size, 2, none⟩ = some (.int .i64 n0) ∧ w'.cell? ⟨w.heap.size, 3, none⟩ = some (.string s0))) (by kernel_rfl) (by first | exact ⟨a0_, a1_, a2_, a3_⟩ | go_keep) (fun hHeld => ?_)
  refine' wpAnyH_take (i := 0) (v := .pointer (some ⟨w.heap.size, 2, none⟩)) ?hi0x1 ?hs0x1 ?hf0x1 ?hr0x1 ?hQ0x1 ?hy0x1 ?hS0x1 ?rest0x1
  case hi0x1 => (simp only [List.getElem?_toArray, List.getElem?_cons_succ, List.getElem?_cons_zero]; try rfl)
  case hs0x1 => kernel_rfl
  case hf0x1 => kernel_rfl
  case hr0x1 => kernel_rfl
  case hQ0x1 => exact fun _ _ _ h => h
  case hy0x1 => exact Or.inl ⟨by rfl, by (intro w hSw; (try dsimp only at hSw); go_simp)⟩
  case hS0x1 => assumption
  (try simp only [Act.put, List.setIfInBounds_toArray, List.set_cons_zero, List.set_cons_succ])
  refine' wpAnyH_take (i := 1) (v := .int .i64 n0) ?hi1x2 ?hs1x2 ?hf1x2 ?hr1x2 ?hQ1x2 ?hy1x2 ?hS1x2 ?rest1x2
  case hi1x2 => (simp only [List.getElem?_toArray, List.getElem?_cons_succ, List.getElem?_cons_zero]; try rfl)
  case hs1x2 => kernel_rfl
  case hf1x2 => kernel_rfl
  case hr1x2 => kernel_rfl
  case hQ1x2 => exact fun _ _ _ h => h
  case hy1x2 => exact Or.inl ⟨by rfl, by (intro w hSw; (try dsimp only at hSw); go_simp)⟩
  case hS1x2 => assumption
  (try simp only [Act.put, List.setIfInBounds_toArray, List.set_cons_zero, List.set_cons_succ])
  refine' wpAnyH_take (i := 2) (v := .int .i64 m) ?hi2x3 ?hs2x3 ?hf2x3 ?hr2x3 ?hQ2x3 ?hy2x3 ?hS2x3 ?rest2x3
  case hi2x3 => (simp only [List.getElem?_toArray, List.getElem?_cons_succ, List.getElem?_cons_zero]; try rfl)
  case hs2x3 => kernel_rfl
  case hf2x3 => kernel_rfl
  case hr2x3 => kernel_rfl
  case hQ2x3 => exact fun _ _ _ h => h
  case hy2x3 => exact Or.inl ⟨by rfl, by (intro w hSw; (try dsimp only at hSw); go_simp)⟩
  case hS2x3 => assumption
  (try simp only [Act.put, List.setIfInBounds_toArray, List.set_cons_zero, List.set_cons_succ])
  refine' wpAnyH_take (i := 3) (v := .pointer (some ⟨w.heap.size, 2, none⟩)) ?hi3x4 ?hs3x4 ?hf3x4 ?hr3x4 ?hQ3x4 ?hy3x4 ?hS3x4 ?rest3x4
  case hi3x4 => (simp only [List.getElem?_toArray, List.getElem?_cons_succ, List.getElem?_cons_zero]; try rfl)
  case hs3x4 => kernel_rfl
  case hf3x4 => kernel_rfl
  case hr3x4 => kernel_rfl
  case hQ3x4 => exact fun _ _ _ h => h
  case hy3x4 => exact Or.inl ⟨by rfl, by (intro w hSw; (try dsimp only at hSw); go_simp)⟩
  case hS3x4 => assumption
  (try simp only [Act.put, List.setIfInBounds_toArray, List.set_cons_zero, List.set_cons_succ])
  refine' wpAnyH_take (i := 4) (v := .int .i64 n0) ?hi4x5 ?hs4x5 ?hf4x5 ?hr4x5 ?hQ4x5 ?hy4x5 ?hS4x5 ?rest4x5
  case hi4x5 => (simp only [List.getElem?_toArray, List.getElem?_cons_succ, List.getElem?_cons_zero]; try rfl)
  case hs4x5 => kernel_rfl
  case hf4x5 => kernel_rfl
  case hr4x5 => kernel_rfl
  case hQ4x5 => exact fun _ _ _ h => h
  case hy4x5 => exact Or.inl ⟨by rfl, by (intro w hSw; (try dsimp only at hSw); go_simp)⟩
  case hS4x5 => assumption
  (try simp only [Act.put, List.setIfInBounds_toArray, List.set_cons_zero, List.set_cons_succ])
  refine' wpAnyH_take (i := 5) (v := .bool true) ?hi5x6 ?hs5x6 ?hf5x6 ?hr5x6 ?hQ5x6 ?hy5x6 ?hS5x6 ?rest5x6
  case hi5x6 => (simp only [List.getElem?_toArray, List.getElem?_cons_succ, List.getElem?_cons_zero]; try rfl)
  case hs5x6 => kernel_rfl
  case hf5x6 => kernel_rfl
  case hr5x6 => kernel_rfl
  case hQ5x6 => exact fun _ _ _ h => h
  case hy5x6 => exact Or.inl ⟨by rfl, by (intro w hSw; (try dsimp only at hSw); go_simp)⟩
  case hS5x6 => assumption
  (try simp only [Act.put, List.setIfInBounds_toArray, List.set_cons_zero, List.set_cons_succ])
  refine' wpAnyH_take (i := 7) (v := .agg #[.int .u8 k0, .bool b0, .int .i64 n0, .string s0]) ?hi7x7 ?hs7x7 ?hf7x7 ?hr7x7 ?hQ7x7 ?hy7x7 ?hS7x7 ?rest7x7
  case hi7x7 => (simp only [List.getElem?_toArray, List.getElem?_cons_succ, List.getElem?_cons_zero]; try rfl)
  case hs7x7 => kernel_rfl
  case hf7x7 => kernel_rfl
  case hr7x7 => kernel_rfl
  case hQ7x7 => exact fun _ _ _ h => h
  case hy7x7 => exact Or.inl ⟨by rfl, by (intro w hSw; (try dsimp only at hSw); go_simp)⟩
  case hS7x7 => assumption
  (try simp only [Act.put, List.setIfInBounds_toArray, List.set_cons_zero, List.set_cons_succ])
  refine wpAnyH_ready (rs := [6, 8]) (by kernel_rfl) (by simp) ?_
  refine' AllReadyH.cons (i := 6) ?ho6x8 (fun K hK => ?st6x8) (AllReadyH.cons (i := 8) ?ho8x9 (fun K hK => ?st8x9) AllReadyH.nil)
  case ho6x8 => (simp only [List.getElem?_toArray, List.getElem?_cons_succ, List.getElem?_cons_zero]; try rfl)
  case ho8x9 => (simp only [List.getElem?_toArray, List.getElem?_cons_succ, List.getElem?_cons_zero]; try rfl)
  case st6x8 =>
    go_simp
    refine (refOver_any _ _).mono ?_
    rintro e w' ⟨rfl, rfl⟩
    go_wp2_with fail
    refine hK.out _ _ ?_ (fun hHeld => ?_)
    · (first | exact ⟨a0_, a1_, a2_, a3_⟩ | go_keep)
    clear hK K
    (try simp only [Act.put, List.setIfInBounds_toArray, List.set_cons_zero, List.set_cons_succ])
    refine wpAnyH_ready (rs := [8]) (by kernel_rfl) (by simp) ?_
    refine' AllReadyH.cons (i := 8) ?ho8x10 (fun K hK => ?st8x10) AllReadyH.nil
    case ho8x10 => (simp only [List.getElem?_toArray, List.getElem?_cons_succ, List.getElem?_cons_zero]; try rfl)
    go_simp
    refine hK.out _ _ ?_ (fun hHeld => ?_)
    · (first | exact ⟨a0_, a1_, a2_, a3_⟩ | go_keep)
    clear hK K
    (try simp only [Act.put, List.setIfInBounds_toArray, List.set_cons_zero, List.set_cons_succ])
    refine wpAnyH_ready (rs := [9]) (by kernel_rfl) (by simp) ?_
    refine' AllReadyH.cons (i := 9) ?ho9x11 (fun K hK => ?st9x11) AllReadyH.nil
    case ho9x11 => (simp only [List.getElem?_toArray, List.getElem?_cons_succ, List.getElem?_cons_zero]; try rfl)
    go_simp
    refine (refNum1_any _ _ k0 b0 n0 s0 _ _ _ (by exact heap_at _ _ _ (by first | rfl | simp)) hs0H.out).mono ?_
    rw [hrH.out, refVm]
    rintro e w' ⟨rfl, hb'⟩
    replace hb := chainB (B := W0.heap.size) (a := W0) (by go_grown) hb' (by have := hb.size; first | omega | (simp; done) | (simp; omega))
    clear hb' a0_ a1_ a2_ a3_ r0_ r1_ r2_ r3_ f0_ f1_ f2_ f3_ hz hs
    obtain ⟨a0_, a1_, a2_, a3_⟩ := (hAH.out.below hb).cells; obtain ⟨r0_, r1_, r2_, r3_⟩ := (hRH.out.below hb).cells; obtain ⟨f0_, f1_, f2_, f3_⟩ := (hRH.out.below hb).free; have hz := Nat.lt_of_lt_of_le hz0.out hb.size; have hs := hb.size
    go_wp2_with fail
    refine hK.out _ _ ?_ (fun hHeld => ?_)
    · (first | exact ⟨a0_, a1_, a2_, a3_⟩ | go_keep)
    clear hK K
    (try simp only [Act.put, List.setIfInBounds_toArray, List.set_cons_zero, List.set_cons_succ])
    refine' wpAnyH_take (i := 10) (v := .agg #[.int .u8 k', .bool b', .int .i64 n', .string s']) ?hi10x12 ?hs10x12 ?hf10x12 ?hr10x12 ?hQ10x12 ?hy10x12 ?hS10x12 ?rest10x12
    case hi10x12 => (simp only [List.getElem?_toArray, List.getElem?_cons_succ, List.getElem?_cons_zero]; try rfl)
    case hs10x12 => kernel_rfl
    case hf10x12 => kernel_rfl
    case hr10x12 => kernel_rfl
    case hQ10x12 => exact fun _ _ _ h => h
    case hy10x12 => exact Or.inl ⟨by rfl, by (intro w hSw; (try dsimp only at hSw); go_simp)⟩
    case hS10x12 => assumption
    (try simp only [Act.put, List.setIfInBounds_toArray, List.set_cons_zero, List.set_cons_succ])
    refine' wpAnyH_take (i := 11) (v := .int .i64 x) ?hi11x13 ?hs11x13 ?hf11x13 ?hr11x13 ?hQ11x13 ?hy11x13 ?hS11x13 ?rest11x13
    case hi11x13 => (simp only [List.getElem?_toArray, List.getElem?_cons_succ, List.getElem?_cons_zero]; try rfl)
    case hs11x13 => kernel_rfl
    case hf11x13 => kernel_rfl
    case hr11x13 => kernel_rfl
    case hQ11x13 => exact fun _ _ _ h => h
    case hy11x13 => exact Or.inl ⟨by rfl, by (intro w hSw; (try dsimp only at hSw); go_simp)⟩
    case hS11x13 => assumption
    (try simp only [Act.put, List.setIfInBounds_toArray, List.set_cons_zero, List.set_cons_succ])
    have hne1 : ¬ (w.heap.size + 1 = w.heap.size) := by omega
    have hne2 : ¬ (w.heap.size = w.heap.size + 1) := by omega
    refine wpAnyH_ready (rs := [12]) (by kernel_rfl) (by simp) ?_
    refine' AllReadyH.cons (i := 12) ?ho12x14 (fun K hK => ?st12x14) AllReadyH.nil
    case ho12x14 => (simp only [List.getElem?_toArray, List.getElem?_cons_succ, List.getElem?_cons_zero]; try rfl)
    go_simp
    refine hK.out _ _ ?_ (fun hHeld => ?_)
    · (first | exact ⟨a0_, a1_, a2_, a3_⟩ | go_keep)
    clear hK K
    (try simp only [Act.put, List.setIfInBounds_toArray, List.set_cons_zero, List.set_cons_succ])
    refine' wpAnyH_take (i := 13) (v := .int .i64 x) ?hi13x15 ?hs13x15 ?hf13x15 ?hr13x15 ?hQ13x15 ?hy13x15 ?hS13x15 ?rest13x15
    case hi13x15 => (simp only [List.getElem?_toArray, List.getElem?_cons_succ, List.getElem?_cons_zero]; try rfl)
    case hs13x15 => kernel_rfl
    case hf13x15 => kernel_rfl
    case hr13x15 => kernel_rfl
    case hQ13x15 => exact fun _ _ _ h => h
    case hy13x15 => exact Or.inl ⟨by rfl, by (intro w hSw; (try dsimp only at hSw); go_simp)⟩
    case hS13x15 => assumption
    (try simp only [Act.put, List.setIfInBounds_toArray, List.set_cons_zero, List.set_cons_succ])
    refine wpAnyH_done (by kernel_rfl) ?_ _
    refine NoPanic.normal ?_
    clear hne1 hne2
    go_wp2
    refine bodyPost_ret (v := .tuple #[.agg #[.int .u8 k', .bool b', .int .i64 n', .string s'], .int .i64 x]) (by simp [results, Tryd.results31, go_sem, r0_, r1_, r2_, r3_, hz]) rfl ⟨rfl, ?_⟩
    have hbw := hwWH.out.trans (hb.mono hwWH.out.size)
    clear hb
    go_grown
  case st8x9 =>
    go_simp
    refine hK.out _ _ ?_ (fun hHeld => ?_)
    · (first | exact ⟨a0_, a1_, a2_, a3_⟩ | go_keep)
    clear hK K
    (try simp only [Act.put, List.setIfInBounds_toArray, List.set_cons_zero, List.set_cons_succ])
    refine wpAnyH_ready (rs := [6]) (by kernel_rfl) (by simp) ?_
    refine' AllReadyH.cons (i := 6) ?ho6x16 (fun K hK => ?st6x16) AllReadyH.nil
    case ho6x16 => (simp only [List.getElem?_toArray, List.getElem?_cons_succ, List.getElem?_cons_zero]; try rfl)
    go_simp
    refine (refOver_any _ _).mono ?_
    rintro e w' ⟨rfl, rfl⟩
    go_wp2_with fail
    refine hK.out _ _ ?_ (fun hHeld => ?_)
    · (first | exact ⟨a0_, a1_, a2_, a3_⟩ | go_keep)
    clear hK K
    (try simp only [Act.put, List.setIfInBounds_toArray, List.set_cons_zero, List.set_cons_succ])
    refine wpAnyH_ready (rs := [9]) (by kernel_rfl) (by simp) ?_
    refine' AllReadyH.cons (i := 9) ?ho9x17 (fun K hK => ?st9x17) AllReadyH.nil
    case ho9x17 => (simp only [List.getElem?_toArray, List.getElem?_cons_succ, List.getElem?_cons_zero]; try rfl)
    go_simp
    refine (refNum1_any _ _ k0 b0 n0 s0 _ _ _ (by exact heap_at _ _ _ (by first | rfl | simp)) hs0H.out).mono ?_
    rw [hrH.out, refVm]
    rintro e w' ⟨rfl, hb'⟩
    replace hb := chainB (B := W0.heap.size) (a := W0) (by go_grown) hb' (by have := hb.size; first | omega | (simp; done) | (simp; omega))
    clear hb' a0_ a1_ a2_ a3_ r0_ r1_ r2_ r3_ f0_ f1_ f2_ f3_ hz hs
    obtain ⟨a0_, a1_, a2_, a3_⟩ := (hAH.out.below hb).cells; obtain ⟨r0_, r1_, r2_, r3_⟩ := (hRH.out.below hb).cells; obtain ⟨f0_, f1_, f2_, f3_⟩ := (hRH.out.below hb).free; have hz := Nat.lt_of_lt_of_le hz0.out hb.size; have hs := hb.size
    go_wp2_with fail
    refine hK.out _ _ ?_ (fun hHeld => ?_)
    · (first | exact ⟨a0_, a1_, a2_, a3_⟩ | go_keep)
    clear hK K
    (try simp only [Act.put, List.setIfInBounds_toArray, List.set_cons_zero, List.set_cons_succ])
    refine' wpAnyH_take (i := 10) (v := .agg #[.int .u8 k', .bool b', .int .i64 n', .string s']) ?hi10x18 ?hs10x18 ?hf10x18 ?hr10x18 ?hQ10x18 ?hy10x18 ?hS10x18 ?rest10x18
    case hi10x18 => (simp only [List.getElem?_toArray, List.getElem?_cons_succ, List.getElem?_cons_zero]; try rfl)
    case hs10x18 => kernel_rfl
    case hf10x18 => kernel_rfl
    case hr10x18 => kernel_rfl
    case hQ10x18 => exact fun _ _ _ h => h
    case hy10x18 => exact Or.inl ⟨by rfl, by (intro w hSw; (try dsimp only at hSw); go_simp)⟩
    case hS10x18 => assumption
    (try simp only [Act.put, List.setIfInBounds_toArray, List.set_cons_zero, List.set_cons_succ])
    refine' wpAnyH_take (i := 11) (v := .int .i64 x) ?hi11x19 ?hs11x19 ?hf11x19 ?hr11x19 ?hQ11x19 ?hy11x19 ?hS11x19 ?rest11x19
    case hi11x19 => (simp only [List.getElem?_toArray, List.getElem?_cons_succ, List.getElem?_cons_zero]; try rfl)
    case hs11x19 => kernel_rfl
    case hf11x19 => kernel_rfl
    case hr11x19 => kernel_rfl
    case hQ11x19 => exact fun _ _ _ h => h
    case hy11x19 => exact Or.inl ⟨by rfl, by (intro w hSw; (try dsimp only at hSw); go_simp)⟩
    case hS11x19 => assumption
    (try simp only [Act.put, List.setIfInBounds_toArray, List.set_cons_zero, List.set_cons_succ])
    have hne1 : ¬ (w.heap.size + 1 = w.heap.size) := by omega
    have hne2 : ¬ (w.heap.size = w.heap.size + 1) := by omega
    refine wpAnyH_ready (rs := [12]) (by kernel_rfl) (by simp) ?_
    refine' AllReadyH.cons (i := 12) ?ho12x20 (fun K hK => ?st12x20) AllReadyH.nil
    case ho12x20 => (simp only [List.getElem?_toArray, List.getElem?_cons_succ, List.getElem?_cons_zero]; try rfl)
    go_simp
    refine hK.out _ _ ?_ (fun hHeld => ?_)
    · (first | exact ⟨a0_, a1_, a2_, a3_⟩ | go_keep)
    clear hK K
    (try simp only [Act.put, List.setIfInBounds_toArray, List.set_cons_zero, List.set_cons_succ])
    refine' wpAnyH_take (i := 13) (v := .int .i64 x) ?hi13x21 ?hs13x21 ?hf13x21 ?hr13x21 ?hQ13x21 ?hy13x21 ?hS13x21 ?rest13x21
    case hi13x21 => (simp only [List.getElem?_toArray, List.getElem?_cons_succ, List.getElem?_cons_zero]; try rfl)
    case hs13x21 => kernel_rfl
    case hf13x21 => kernel_rfl
    case hr13x21 => kernel_rfl
    case hQ13x21 => exact fun _ _ _ h => h
    case hy13x21 => exact Or.inl ⟨by rfl, by (intro w hSw; (try dsimp only at hSw); go_simp)⟩
    case hS13x21 => assumption
    (try simp only [Act.put, List.setIfInBounds_toArray, List.set_cons_zero, List.set_cons_succ])
    refine wpAnyH_done (by kernel_rfl) ?_ _
    refine NoPanic.normal ?_
    clear hne1 hne2
    go_wp2
    refine bodyPost_ret (v := .tuple #[.agg #[.int .u8 k', .bool b', .int .i64 n', .string s'], .int .i64 x]) (by simp [results, Tryd.results31, go_sem, r0_, r1_, r2_, r3_, hz]) rfl ⟨rfl, ?_⟩
    have hbw := hwWH.out.trans (hb.mono hwWH.out.size)
    clear hb
    go_grown

set_option maxRecDepth 100000 in
set_option maxHeartbeats 8000000 in
theorem refNeg_other (k0 : Int) (b0 : Bool) (n0 : Int) (s0 : ByteArray) (w : World) (hs0 : s0.size ≤ 140737488355328) (h : ¬ n0 = -9223372036854775808) :
    Calls Tryd.prog 31 #[.agg #[.int .u8 k0, .bool b0, .int .i64 n0, .string s0]] w fun e w' => e = .returned (refV (numS (intD 0) ⟨k0, b0, n0, s0⟩ (wrap64 (-n0), 0))) ∧ Below w.heap.size w w' := by
  obtain ⟨r, hr⟩ : ∃ r, numS (intD 0) ⟨k0, b0, n0, s0⟩ (wrap64 (-n0), 0) = r := ⟨_, rfl⟩
  rw [hr]
  obtain ⟨⟨k', b', n', s'⟩, x⟩ := r
  rw [refVm]
  have hrH := Lib.hid hr
  clear hr
  have hs0H := Lib.hid hs0
  have d1 : (n0 == -9223372036854775808) = false := by simpa using h
  have d2 : decide (n0 = -9223372036854775808) = false := by simpa using h
  clear h
  obtain ⟨m, hm⟩ : ∃ m, wrap64 (-n0) = m := ⟨_, rfl⟩
  have hm' : IntKind.i64.wrap (-n0) = m := by rw [wrap_is, hm]
  rw [hm] at hrH
  obtain ⟨W0, hW0, hwW, hA, hR, hzz⟩ := boxes1 w k0 b0 n0 s0
  have hAH := Lib.hid hA; have hRH := Lib.hid hR; have hz0 := Lib.hid hzz; have hwWH := Lib.hid hwW
  clear hA hR hzz hwW hs0
  have hb := Below.refl W0.heap.size W0
  obtain ⟨a0_, a1_, a2_, a3_⟩ := (hAH.out.below hb).cells; obtain ⟨r0_, r1_, r2_, r3_⟩ := (hRH.out.below hb).cells; obtain ⟨f0_, f1_, f2_, f3_⟩ := (hRH.out.below hb).free; have hz := Nat.lt_of_lt_of_le hz0.out hb.size; have hs := hb.size
  go_enter Tryd.func31, Tryd.ntmps31
  go_wp2_with fail
  refine wp_region_noPanic ?_
  refine wp_region_held_drew (S := (fun w' => w'.cell? ⟨w.heap.size, 0, none⟩ = some (.int .u8 k0) ∧ w'.cell? ⟨w.heap.size, 1, none⟩ = some (.bool b0) ∧ w'.cell? ⟨w.heap.size, 2, none⟩ = some (.int .i64 n0) ∧ w'.cell? ⟨w.heap.size, 3, none⟩ = some (.string s0))) (by kernel_rfl) (by first | exact ⟨a0_, a1_, a2_, a3_⟩ | go_keep) (fun hHeld => ?_)
  refine' wpAnyH_take (i := 0) (v := .pointer (some ⟨w.heap.size, 2, none⟩)) ?hi0x22 ?hs0x22 ?hf0x22 ?hr0x22 ?hQ0x22 ?hy0x22 ?hS0x22 ?rest0x22
  case hi0x22 => (simp only [List.getElem?_toArray, List.getElem?_cons_succ, List.getElem?_cons_zero]; try rfl)
  case hs0x22 => kernel_rfl
  case hf0x22 => kernel_rfl
  case hr0x22 => kernel_rfl
  case hQ0x22 => exact fun _ _ _ h => h
  case hy0x22 => exact Or.inl ⟨by rfl, by (intro w hSw; (try dsimp only at hSw); go_simp)⟩
  case hS0x22 => assumption
  (try simp only [Act.put, List.setIfInBounds_toArray, List.set_cons_zero, List.set_cons_succ])
  refine' wpAnyH_take (i := 1) (v := .int .i64 n0) ?hi1x23 ?hs1x23 ?hf1x23 ?hr1x23 ?hQ1x23 ?hy1x23 ?hS1x23 ?rest1x23
  case hi1x23 => (simp only [List.getElem?_toArray, List.getElem?_cons_succ, List.getElem?_cons_zero]; try rfl)
  case hs1x23 => kernel_rfl
  case hf1x23 => kernel_rfl
  case hr1x23 => kernel_rfl
  case hQ1x23 => exact fun _ _ _ h => h
  case hy1x23 => exact Or.inl ⟨by rfl, by (intro w hSw; (try dsimp only at hSw); go_simp)⟩
  case hS1x23 => assumption
  (try simp only [Act.put, List.setIfInBounds_toArray, List.set_cons_zero, List.set_cons_succ])
  refine' wpAnyH_take (i := 2) (v := .int .i64 m) ?hi2x24 ?hs2x24 ?hf2x24 ?hr2x24 ?hQ2x24 ?hy2x24 ?hS2x24 ?rest2x24
  case hi2x24 => (simp only [List.getElem?_toArray, List.getElem?_cons_succ, List.getElem?_cons_zero]; try rfl)
  case hs2x24 => kernel_rfl
  case hf2x24 => kernel_rfl
  case hr2x24 => kernel_rfl
  case hQ2x24 => exact fun _ _ _ h => h
  case hy2x24 => exact Or.inl ⟨by rfl, by (intro w hSw; (try dsimp only at hSw); go_simp)⟩
  case hS2x24 => assumption
  (try simp only [Act.put, List.setIfInBounds_toArray, List.set_cons_zero, List.set_cons_succ])
  refine' wpAnyH_take (i := 3) (v := .pointer (some ⟨w.heap.size, 2, none⟩)) ?hi3x25 ?hs3x25 ?hf3x25 ?hr3x25 ?hQ3x25 ?hy3x25 ?hS3x25 ?rest3x25
  case hi3x25 => (simp only [List.getElem?_toArray, List.getElem?_cons_succ, List.getElem?_cons_zero]; try rfl)
  case hs3x25 => kernel_rfl
  case hf3x25 => kernel_rfl
  case hr3x25 => kernel_rfl
  case hQ3x25 => exact fun _ _ _ h => h
  case hy3x25 => exact Or.inl ⟨by rfl, by (intro w hSw; (try dsimp only at hSw); go_simp)⟩
  case hS3x25 => assumption
  (try simp only [Act.put, List.setIfInBounds_toArray, List.set_cons_zero, List.set_cons_succ])
  refine' wpAnyH_take (i := 4) (v := .int .i64 n0) ?hi4x26 ?hs4x26 ?hf4x26 ?hr4x26 ?hQ4x26 ?hy4x26 ?hS4x26 ?rest4x26
  case hi4x26 => (simp only [List.getElem?_toArray, List.getElem?_cons_succ, List.getElem?_cons_zero]; try rfl)
  case hs4x26 => kernel_rfl
  case hf4x26 => kernel_rfl
  case hr4x26 => kernel_rfl
  case hQ4x26 => exact fun _ _ _ h => h
  case hy4x26 => exact Or.inl ⟨by rfl, by (intro w hSw; (try dsimp only at hSw); go_simp)⟩
  case hS4x26 => assumption
  (try simp only [Act.put, List.setIfInBounds_toArray, List.set_cons_zero, List.set_cons_succ])
  refine' wpAnyH_take (i := 5) (v := .bool false) ?hi5x27 ?hs5x27 ?hf5x27 ?hr5x27 ?hQ5x27 ?hy5x27 ?hS5x27 ?rest5x27
  case hi5x27 => (simp only [List.getElem?_toArray, List.getElem?_cons_succ, List.getElem?_cons_zero]; try rfl)
  case hs5x27 => kernel_rfl
  case hf5x27 => kernel_rfl
  case hr5x27 => kernel_rfl
  case hQ5x27 => exact fun _ _ _ h => h
  case hy5x27 => exact Or.inl ⟨by rfl, by (intro w hSw; (try dsimp only at hSw); go_simp)⟩
  case hS5x27 => assumption
  (try simp only [Act.put, List.setIfInBounds_toArray, List.set_cons_zero, List.set_cons_succ])
  refine' wpAnyH_take (i := 7) (v := .agg #[.int .u8 k0, .bool b0, .int .i64 n0, .string s0]) ?hi7x28 ?hs7x28 ?hf7x28 ?hr7x28 ?hQ7x28 ?hy7x28 ?hS7x28 ?rest7x28
  case hi7x28 => (simp only [List.getElem?_toArray, List.getElem?_cons_succ, List.getElem?_cons_zero]; try rfl)
  case hs7x28 => kernel_rfl
  case hf7x28 => kernel_rfl
  case hr7x28 => kernel_rfl
  case hQ7x28 => exact fun _ _ _ h => h
  case hy7x28 => exact Or.inl ⟨by rfl, by (intro w hSw; (try dsimp only at hSw); go_simp)⟩
  case hS7x28 => assumption
  (try simp only [Act.put, List.setIfInBounds_toArray, List.set_cons_zero, List.set_cons_succ])
  refine wpAnyH_ready (rs := [6, 8]) (by kernel_rfl) (by simp) ?_
  refine' AllReadyH.cons (i := 6) ?ho6x29 (fun K hK => ?st6x29) (AllReadyH.cons (i := 8) ?ho8x30 (fun K hK => ?st8x30) AllReadyH.nil)
  case ho6x29 => (simp only [List.getElem?_toArray, List.getElem?_cons_succ, List.getElem?_cons_zero]; try rfl)
  case ho8x30 => (simp only [List.getElem?_toArray, List.getElem?_cons_succ, List.getElem?_cons_zero]; try rfl)
  case st6x29 =>
    go_simp
    refine (refOver_any _ _).mono ?_
    rintro e w' ⟨rfl, rfl⟩
    go_wp2_with fail
    refine hK.out _ _ ?_ (fun hHeld => ?_)
    · (first | exact ⟨a0_, a1_, a2_, a3_⟩ | go_keep)
    clear hK K
    (try simp only [Act.put, List.setIfInBounds_toArray, List.set_cons_zero, List.set_cons_succ])
    refine wpAnyH_ready (rs := [8]) (by kernel_rfl) (by simp) ?_
    refine' AllReadyH.cons (i := 8) ?ho8x31 (fun K hK => ?st8x31) AllReadyH.nil
    case ho8x31 => (simp only [List.getElem?_toArray, List.getElem?_cons_succ, List.getElem?_cons_zero]; try rfl)
    go_simp
    refine hK.out _ _ ?_ (fun hHeld => ?_)
    · (first | exact ⟨a0_, a1_, a2_, a3_⟩ | go_keep)
    clear hK K
    (try simp only [Act.put, List.setIfInBounds_toArray, List.set_cons_zero, List.set_cons_succ])
    refine wpAnyH_ready (rs := [9]) (by kernel_rfl) (by simp) ?_
    refine' AllReadyH.cons (i := 9) ?ho9x32 (fun K hK => ?st9x32) AllReadyH.nil
    case ho9x32 => (simp only [List.getElem?_toArray, List.getElem?_cons_succ, List.getElem?_cons_zero]; try rfl)
    go_simp
    refine (refNum1_any _ _ k0 b0 n0 s0 _ _ _ (by exact heap_at _ _ _ (by first | rfl | simp)) hs0H.out).mono ?_
    rw [hrH.out, refVm]
    rintro e w' ⟨rfl, hb'⟩
    replace hb := chainB (B := W0.heap.size) (a := W0) (by go_grown) hb' (by have := hb.size; first | omega | (simp; done) | (simp; omega))
    clear hb' a0_ a1_ a2_ a3_ r0_ r1_ r2_ r3_ f0_ f1_ f2_ f3_ hz hs
    obtain ⟨a0_, a1_, a2_, a3_⟩ := (hAH.out.below hb).cells; obtain ⟨r0_, r1_, r2_, r3_⟩ := (hRH.out.below hb).cells; obtain ⟨f0_, f1_, f2_, f3_⟩ := (hRH.out.below hb).free; have hz := Nat.lt_of_lt_of_le hz0.out hb.size; have hs := hb.size
    go_wp2_with fail
    refine hK.out _ _ ?_ (fun hHeld => ?_)
    · (first | exact ⟨a0_, a1_, a2_, a3_⟩ | go_keep)
    clear hK K
    (try simp only [Act.put, List.setIfInBounds_toArray, List.set_cons_zero, List.set_cons_succ])
    refine' wpAnyH_take (i := 10) (v := .agg #[.int .u8 k', .bool b', .int .i64 n', .string s']) ?hi10x33 ?hs10x33 ?hf10x33 ?hr10x33 ?hQ10x33 ?hy10x33 ?hS10x33 ?rest10x33
    case hi10x33 => (simp only [List.getElem?_toArray, List.getElem?_cons_succ, List.getElem?_cons_zero]; try rfl)
    case hs10x33 => kernel_rfl
    case hf10x33 => kernel_rfl
    case hr10x33 => kernel_rfl
    case hQ10x33 => exact fun _ _ _ h => h
    case hy10x33 => exact Or.inl ⟨by rfl, by (intro w hSw; (try dsimp only at hSw); go_simp)⟩
    case hS10x33 => assumption
    (try simp only [Act.put, List.setIfInBounds_toArray, List.set_cons_zero, List.set_cons_succ])
    refine' wpAnyH_take (i := 11) (v := .int .i64 x) ?hi11x34 ?hs11x34 ?hf11x34 ?hr11x34 ?hQ11x34 ?hy11x34 ?hS11x34 ?rest11x34
    case hi11x34 => (simp only [List.getElem?_toArray, List.getElem?_cons_succ, List.getElem?_cons_zero]; try rfl)
    case hs11x34 => kernel_rfl
    case hf11x34 => kernel_rfl
    case hr11x34 => kernel_rfl
    case hQ11x34 => exact fun _ _ _ h => h
    case hy11x34 => exact Or.inl ⟨by rfl, by (intro w hSw; (try dsimp only at hSw); go_simp)⟩
    case hS11x34 => assumption
    (try simp only [Act.put, List.setIfInBounds_toArray, List.set_cons_zero, List.set_cons_succ])
    have hne1 : ¬ (w.heap.size + 1 = w.heap.size) := by omega
    have hne2 : ¬ (w.heap.size = w.heap.size + 1) := by omega
    refine wpAnyH_ready (rs := [12]) (by kernel_rfl) (by simp) ?_
    refine' AllReadyH.cons (i := 12) ?ho12x35 (fun K hK => ?st12x35) AllReadyH.nil
    case ho12x35 => (simp only [List.getElem?_toArray, List.getElem?_cons_succ, List.getElem?_cons_zero]; try rfl)
    go_simp
    refine hK.out _ _ ?_ (fun hHeld => ?_)
    · (first | exact ⟨a0_, a1_, a2_, a3_⟩ | go_keep)
    clear hK K
    (try simp only [Act.put, List.setIfInBounds_toArray, List.set_cons_zero, List.set_cons_succ])
    refine' wpAnyH_take (i := 13) (v := .int .i64 x) ?hi13x36 ?hs13x36 ?hf13x36 ?hr13x36 ?hQ13x36 ?hy13x36 ?hS13x36 ?rest13x36
    case hi13x36 => (simp only [List.getElem?_toArray, List.getElem?_cons_succ, List.getElem?_cons_zero]; try rfl)
    case hs13x36 => kernel_rfl
    case hf13x36 => kernel_rfl
    case hr13x36 => kernel_rfl
    case hQ13x36 => exact fun _ _ _ h => h
    case hy13x36 => exact Or.inl ⟨by rfl, by (intro w hSw; (try dsimp only at hSw); go_simp)⟩
    case hS13x36 => assumption
    (try simp only [Act.put, List.setIfInBounds_toArray, List.set_cons_zero, List.set_cons_succ])
    refine wpAnyH_done (by kernel_rfl) ?_ _
    refine NoPanic.normal ?_
    clear hne1 hne2
    go_wp2
    refine bodyPost_ret (v := .tuple #[.agg #[.int .u8 k', .bool b', .int .i64 n', .string s'], .int .i64 x]) (by simp [results, Tryd.results31, go_sem, r0_, r1_, r2_, r3_, hz]) rfl ⟨rfl, ?_⟩
    have hbw := hwWH.out.trans (hb.mono hwWH.out.size)
    clear hb
    go_grown
  case st8x30 =>
    go_simp
    refine hK.out _ _ ?_ (fun hHeld => ?_)
    · (first | exact ⟨a0_, a1_, a2_, a3_⟩ | go_keep)
    clear hK K
    (try simp only [Act.put, List.setIfInBounds_toArray, List.set_cons_zero, List.set_cons_succ])
    refine wpAnyH_ready (rs := [6]) (by kernel_rfl) (by simp) ?_
    refine' AllReadyH.cons (i := 6) ?ho6x37 (fun K hK => ?st6x37) AllReadyH.nil
    case ho6x37 => (simp only [List.getElem?_toArray, List.getElem?_cons_succ, List.getElem?_cons_zero]; try rfl)
    go_simp
    refine (refOver_any _ _).mono ?_
    rintro e w' ⟨rfl, rfl⟩
    go_wp2_with fail
    refine hK.out _ _ ?_ (fun hHeld => ?_)
    · (first | exact ⟨a0_, a1_, a2_, a3_⟩ | go_keep)
    clear hK K
    (try simp only [Act.put, List.setIfInBounds_toArray, List.set_cons_zero, List.set_cons_succ])
    refine wpAnyH_ready (rs := [9]) (by kernel_rfl) (by simp) ?_
    refine' AllReadyH.cons (i := 9) ?ho9x38 (fun K hK => ?st9x38) AllReadyH.nil
    case ho9x38 => (simp only [List.getElem?_toArray, List.getElem?_cons_succ, List.getElem?_cons_zero]; try rfl)
    go_simp
    refine (refNum1_any _ _ k0 b0 n0 s0 _ _ _ (by exact heap_at _ _ _ (by first | rfl | simp)) hs0H.out).mono ?_
    rw [hrH.out, refVm]
    rintro e w' ⟨rfl, hb'⟩
    replace hb := chainB (B := W0.heap.size) (a := W0) (by go_grown) hb' (by have := hb.size; first | omega | (simp; done) | (simp; omega))
    clear hb' a0_ a1_ a2_ a3_ r0_ r1_ r2_ r3_ f0_ f1_ f2_ f3_ hz hs
    obtain ⟨a0_, a1_, a2_, a3_⟩ := (hAH.out.below hb).cells; obtain ⟨r0_, r1_, r2_, r3_⟩ := (hRH.out.below hb).cells; obtain ⟨f0_, f1_, f2_, f3_⟩ := (hRH.out.below hb).free; have hz := Nat.lt_of_lt_of_le hz0.out hb.size; have hs := hb.size
    go_wp2_with fail
    refine hK.out _ _ ?_ (fun hHeld => ?_)
    · (first | exact ⟨a0_, a1_, a2_, a3_⟩ | go_keep)
    clear hK K
    (try simp only [Act.put, List.setIfInBounds_toArray, List.set_cons_zero, List.set_cons_succ])
    refine' wpAnyH_take (i := 10) (v := .agg #[.int .u8 k', .bool b', .int .i64 n', .string s']) ?hi10x39 ?hs10x39 ?hf10x39 ?hr10x39 ?hQ10x39 ?hy10x39 ?hS10x39 ?rest10x39
    case hi10x39 => (simp only [List.getElem?_toArray, List.getElem?_cons_succ, List.getElem?_cons_zero]; try rfl)
    case hs10x39 => kernel_rfl
    case hf10x39 => kernel_rfl
    case hr10x39 => kernel_rfl
    case hQ10x39 => exact fun _ _ _ h => h
    case hy10x39 => exact Or.inl ⟨by rfl, by (intro w hSw; (try dsimp only at hSw); go_simp)⟩
    case hS10x39 => assumption
    (try simp only [Act.put, List.setIfInBounds_toArray, List.set_cons_zero, List.set_cons_succ])
    refine' wpAnyH_take (i := 11) (v := .int .i64 x) ?hi11x40 ?hs11x40 ?hf11x40 ?hr11x40 ?hQ11x40 ?hy11x40 ?hS11x40 ?rest11x40
    case hi11x40 => (simp only [List.getElem?_toArray, List.getElem?_cons_succ, List.getElem?_cons_zero]; try rfl)
    case hs11x40 => kernel_rfl
    case hf11x40 => kernel_rfl
    case hr11x40 => kernel_rfl
    case hQ11x40 => exact fun _ _ _ h => h
    case hy11x40 => exact Or.inl ⟨by rfl, by (intro w hSw; (try dsimp only at hSw); go_simp)⟩
    case hS11x40 => assumption
    (try simp only [Act.put, List.setIfInBounds_toArray, List.set_cons_zero, List.set_cons_succ])
    have hne1 : ¬ (w.heap.size + 1 = w.heap.size) := by omega
    have hne2 : ¬ (w.heap.size = w.heap.size + 1) := by omega
    refine wpAnyH_ready (rs := [12]) (by kernel_rfl) (by simp) ?_
    refine' AllReadyH.cons (i := 12) ?ho12x41 (fun K hK => ?st12x41) AllReadyH.nil
    case ho12x41 => (simp only [List.getElem?_toArray, List.getElem?_cons_succ, List.getElem?_cons_zero]; try rfl)
    go_simp
    refine hK.out _ _ ?_ (fun hHeld => ?_)
    · (first | exact ⟨a0_, a1_, a2_, a3_⟩ | go_keep)
    clear hK K
    (try simp only [Act.put, List.setIfInBounds_toArray, List.set_cons_zero, List.set_cons_succ])
    refine' wpAnyH_take (i := 13) (v := .int .i64 x) ?hi13x42 ?hs13x42 ?hf13x42 ?hr13x42 ?hQ13x42 ?hy13x42 ?hS13x42 ?rest13x42
    case hi13x42 => (simp only [List.getElem?_toArray, List.getElem?_cons_succ, List.getElem?_cons_zero]; try rfl)
    case hs13x42 => kernel_rfl
    case hf13x42 => kernel_rfl
    case hr13x42 => kernel_rfl
    case hQ13x42 => exact fun _ _ _ h => h
    case hy13x42 => exact Or.inl ⟨by rfl, by (intro w hSw; (try dsimp only at hSw); go_simp)⟩
    case hS13x42 => assumption
    (try simp only [Act.put, List.setIfInBounds_toArray, List.set_cons_zero, List.set_cons_succ])
    refine wpAnyH_done (by kernel_rfl) ?_ _
    refine NoPanic.normal ?_
    clear hne1 hne2
    go_wp2
    refine bodyPost_ret (v := .tuple #[.agg #[.int .u8 k', .bool b', .int .i64 n', .string s'], .int .i64 x]) (by simp [results, Tryd.results31, go_sem, r0_, r1_, r2_, r3_, hz]) rfl ⟨rfl, ?_⟩
    have hbw := hwWH.out.trans (hb.mono hwWH.out.size)
    clear hb
    go_grown

/-- Neg, of every datum. -/
theorem refNeg_any (k0 : Int) (b0 : Bool) (n0 : Int) (s0 : ByteArray) (w : World) (hs0 : s0.size ≤ 140737488355328) (hn0 : I64 n0) :
    Calls Tryd.prog 31 #[.agg #[.int .u8 k0, .bool b0, .int .i64 n0, .string s0]] w fun e w' => e = .returned (refV (numS (intD 0) ⟨k0, b0, n0, s0⟩ (difS 0 n0))) ∧ Below w.heap.size w w' := by
  by_cases h : n0 = -9223372036854775808
  · rw [numS_congr (r := difS 0 n0) (r' := (wrap64 (-n0), 10)) (by unfold difS; rw [capS_out (by unfold I64; omega)]) (by unfold difS; rw [capS_out (by unfold I64; omega)]; intro h; cases h)]
    exact refNeg_least k0 b0 n0 s0 w hs0 h
  · have hi : I64 (0 - n0) := by unfold I64 at *; omega
    rw [numS_congr (r := difS 0 n0) (r' := (wrap64 (-n0), 0)) (by unfold difS; rw [capS_in hi]) (by unfold difS; rw [capS_in hi]; intro _; unfold wrap64; unfold I64 at hi; simp only; omega)]
    exact refNeg_other k0 b0 n0 s0 w hs0 h
end Go.Proofs.YtoolojfbjpnllaaDoor
