/-
  Two messages of one number are the same: what the statements' own comparisons answer. Conditions: those written.
-/
import Derived.Test.YtpghndmfdmimmaaMlL
import Derived.Deep.RegionHeld3
import Derived.Deep.LoopGhost
set_option linter.unusedVariables false
set_option linter.unusedSimpArgs false
namespace Go.Proofs.Ytpghndmfdmimmaa
open Go.RowKit Go.Lib

theorem sameWordsNil_any (w : World) : Calls Try.prog 61 #[.slice none 0 0, .slice none 0 0] w fun e w' => e = .returned (.bool true) ∧ w = w' := by
  go_enter Try.func61, Try.ntmps61
  go_wp2
  refine wp_loop_rounds 1 ?_
  rw [rounds_succ]
  go_wp2
  go_ret
  exact ⟨rfl, rfl⟩
theorem sameTime0_any (w : World) : Calls Try.prog 34 #[.agg #[.int .u64 0, .slice none 0 0], .agg #[.int .u64 0, .slice none 0 0]] w fun e w' => e = .returned (.bool true) ∧ Below w.heap.size w w' := by
  go_enter Try.func34, Try.ntmps34
  go_wp2_with (go_at_call 61; refine (sameWordsNil_any _).mono ?_; rintro e w' ⟨rfl, rfl⟩)
  go_ret
  exact ⟨rfl, by go_grown⟩
theorem sameUpdatesNil_any (w : World) : Calls Try.prog 35 #[.slice none 0 0, .slice none 0 0] w fun e w' => e = .returned (.bool true) ∧ w = w' := by
  go_enter Try.func35, Try.ntmps35
  go_wp2
  refine wp_loop_rounds 1 ?_
  rw [rounds_succ]
  go_wp2
  go_ret
  exact ⟨rfl, rfl⟩
theorem RowV.cells {w : World} {v : Value} {z : Int} (h : RowV w v z) : ∃ Y c, v = .slice (some ⟨Y, 0, none⟩) 1 c ∧ 1 ≤ c ∧ c ≤ maxLen ∧ ∀ w', Below w.heap.size w w' → w'.cell? ⟨Y, 0, none⟩ = some (.int .u8 3) ∧ w'.cell? ⟨Y, 1, none⟩ = some (.bool false) ∧ w'.cell? ⟨Y, 2, none⟩ = some (.int .i64 z) ∧ w'.cell? ⟨Y, 3, none⟩ = some (.string ⟨#[]⟩) := by
  obtain ⟨Y, c, ys, rfl, h1, h2, h3⟩ := h
  exact ⟨Y, c, rfl, h1, h2, fun w' hb => ⟨(h3.below hb).cell 0 rfl, (h3.below hb).cell 1 rfl, (h3.below hb).cell 2 rfl, (h3.below hb).cell 3 rfl⟩⟩
theorem UpdV.cells4 {w : World} {v : Value} {z : Int} (h : UpdV w v z) : ∃ X c r, v = .slice (some ⟨X, 0, none⟩) 1 c ∧ 1 ≤ c ∧ c ≤ maxLen ∧ (∀ w', Below w.heap.size w w' → w'.cell? ⟨X, 0, none⟩ = some r ∧ w'.cell? ⟨X, 1, none⟩ = some (.int .u64 0) ∧ w'.cell? ⟨X, 2, none⟩ = some (.slice none 0 0) ∧ w'.cell? ⟨X, 3, none⟩ = some (.int .i64 1)) ∧ RowV w r z := by
  obtain ⟨X, c, xs, r, rfl, h1, h2, h3, h4⟩ := h
  exact ⟨X, c, r, rfl, h1, h2, fun w' hb => ⟨(h3.below hb).cell 0 rfl, (h3.below hb).cell 1 rfl, (h3.below hb).cell 2 rfl, (h3.below hb).cell 3 rfl⟩, h4⟩
set_option maxRecDepth 100000 in
set_option maxHeartbeats 4000000 in
theorem sameRow_any (u v : Value) (z : Int) (w : World) (hu : RowV w u z) (hv : RowV w v z) : Calls Try.prog 62 #[u, v] w fun e w' => e = .returned (.bool true) ∧ Below w.heap.size w w' := by
  obtain ⟨Y, c, rfl, hc1, hc2, hY⟩ := hu.cells
  obtain ⟨Z, d, rfl, hd1, hd2, hZ⟩ := hv.cells
  obtain ⟨y0, y1, y2, y3⟩ := hY w (Below.refl _ _)
  obtain ⟨z0, z1, z2, z3⟩ := hZ w (Below.refl _ _)
  have ee : ∀ w, (Op.equalIn 10000 89 (.agg #[.int .u8 3, .bool false, .int .i64 z, .string ⟨#[]⟩]) (.agg #[.int .u8 3, .bool false, .int .i64 z, .string ⟨#[]⟩])).run Try.prog w = .ok true w := fun w => by
    have hS : Try.prog.underlying 89 = some (.struct (Try.prog.fieldsOf 89)) := by kernel_rfl
    have hp : Try.prog.stoodInHeld 89 = false := by kernel_rfl
    have u1 := Try.underlying4
    have u2 := Try.underlying2
    have u3 := Try.underlying9
    rw [show (10000 : Nat) = 9999 + 1 from rfl, run_equalIn_agg w 9999 89 _ _ hS hp]
    simp only [Program.fieldsOf, Try.underlying89]
    go_simp
  clear hu hv hY hZ
  go_enter Try.func62, Try.ntmps62
  go_wp2
  refine wp_loop_rounds 2 ?_
  rw [rounds_succ]
  go_wp2
  go_quiet (fail)
  go_wp2
  rw [rounds_succ]
  go_wp2
  go_ret
  exact ⟨rfl, rfl, rfl, rfl, Nat.le_refl _, fun _ _ => rfl⟩
set_option maxRecDepth 100000 in
set_option maxHeartbeats 8000000 in
theorem sameUpdates_any (u v : Value) (z : Int) (w : World) (hu : UpdV w u z) (hv : UpdV w v z) : Calls Try.prog 35 #[u, v] w fun e w' => e = .returned (.bool true) ∧ Below w.heap.size w w' := by
  obtain ⟨X, c, r, rfl, hc1, hc2, hX, hr_⟩ := hu.cells4
  obtain ⟨Z, d, q, rfl, hd1, hd2, hZ, hq_⟩ := hv.cells4
  obtain ⟨Ar, cr, rfl, -, -⟩ := hr_.form
  obtain ⟨Aq, cq, rfl, -, -⟩ := hq_.form
  obtain ⟨r, hrd⟩ : ∃ r, r = Value.slice (some Ar) 1 cr := ⟨_, rfl⟩
  obtain ⟨q, hqd⟩ : ∃ q, q = Value.slice (some Aq) 1 cq := ⟨_, rfl⟩
  have hrH := Lib.hid hr_; have hqH := Lib.hid hq_
  have hSof : Hid (∀ w', Below w.heap.size w w' → w'.cell? ⟨X, 0, none⟩ = some (.slice (some Ar) 1 cr) ∧ w'.cell? ⟨X, 1, none⟩ = some (.int .u64 0) ∧ w'.cell? ⟨X, 2, none⟩ = some (.slice none 0 0) ∧ w'.cell? ⟨X, 3, none⟩ = some (.int .i64 1) ∧ w'.cell? ⟨Z, 0, none⟩ = some (.slice (some Aq) 1 cq) ∧ w'.cell? ⟨Z, 1, none⟩ = some (.int .u64 0) ∧ w'.cell? ⟨Z, 2, none⟩ = some (.slice none 0 0) ∧ w'.cell? ⟨Z, 3, none⟩ = some (.int .i64 1)) := fun w' h => by
    obtain ⟨a0, a1, a2, a3⟩ := hX w' h
    obtain ⟨b0, b1, b2, b3⟩ := hZ w' h
    exact ⟨a0, a1, a2, a3, b0, b1, b2, b3⟩
  clear hu hv hX hZ hr_ hq_ hrd hqd
  go_enter Try.func35, Try.ntmps35
  go_wp2
  refine wp_loop_rounds 2 ?_
  rw [rounds_succ]
  go_wp2_with fail
  refine wp_region_noPanic ?_
  refine wp_region_held_drew (S := (fun w' => w'.cell? ⟨X, 0, none⟩ = some (.slice (some Ar) 1 cr) ∧ w'.cell? ⟨X, 1, none⟩ = some (.int .u64 0) ∧ w'.cell? ⟨X, 2, none⟩ = some (.slice none 0 0) ∧ w'.cell? ⟨X, 3, none⟩ = some (.int .i64 1) ∧ w'.cell? ⟨Z, 0, none⟩ = some (.slice (some Aq) 1 cq) ∧ w'.cell? ⟨Z, 1, none⟩ = some (.int .u64 0) ∧ w'.cell? ⟨Z, 2, none⟩ = some (.slice none 0 0) ∧ w'.cell? ⟨Z, 3, none⟩ = some (.int .i64 1))) (by kernel_rfl) (hSof.out _ (Below.refl _ _).drew) (fun hHeld => ?_)
  refine' wpAnyH_take (i := 0) (v := ?v0x1) ?hi0x1 ?hs0x1 ?hf0x1 ?hr0x1 ?hQ0x1 ?hy0x1 ?hS0x1 ?rest0x1
  case hi0x1 => (simp only [List.getElem?_toArray, List.getElem?_cons_succ, List.getElem?_cons_zero]; try rfl)
  case hs0x1 => kernel_rfl
  case hf0x1 => kernel_rfl
  case hr0x1 => kernel_rfl
  case hQ0x1 => exact fun _ _ _ h => h
  case hy0x1 => first | exact Or.inl ⟨by rfl, by (intro w hSw; (try dsimp only at hSw); go_simp; try rfl)⟩ | exact Or.inr ⟨by rfl, rfl⟩
  case hS0x1 => assumption
  (try simp only [Act.put, List.setIfInBounds_toArray, List.set_cons_zero, List.set_cons_succ])
  refine' wpAnyH_take (i := 1) (v := ?v1x2) ?hi1x2 ?hs1x2 ?hf1x2 ?hr1x2 ?hQ1x2 ?hy1x2 ?hS1x2 ?rest1x2
  case hi1x2 => (simp only [List.getElem?_toArray, List.getElem?_cons_succ, List.getElem?_cons_zero]; try rfl)
  case hs1x2 => kernel_rfl
  case hf1x2 => kernel_rfl
  case hr1x2 => kernel_rfl
  case hQ1x2 => exact fun _ _ _ h => h
  case hy1x2 => first | exact Or.inl ⟨by rfl, by (intro w hSw; (try dsimp only at hSw); go_simp; try rfl)⟩ | exact Or.inr ⟨by rfl, rfl⟩
  case hS1x2 => assumption
  (try simp only [Act.put, List.setIfInBounds_toArray, List.set_cons_zero, List.set_cons_succ])
  refine' wpAnyH_take (i := 2) (v := ?v2x3) ?hi2x3 ?hs2x3 ?hf2x3 ?hr2x3 ?hQ2x3 ?hy2x3 ?hS2x3 ?rest2x3
  case hi2x3 => (simp only [List.getElem?_toArray, List.getElem?_cons_succ, List.getElem?_cons_zero]; try rfl)
  case hs2x3 => kernel_rfl
  case hf2x3 => kernel_rfl
  case hr2x3 => kernel_rfl
  case hQ2x3 => exact fun _ _ _ h => h
  case hy2x3 => first | exact Or.inl ⟨by rfl, by (intro w hSw; (try dsimp only at hSw); go_simp; try rfl)⟩ | exact Or.inr ⟨by rfl, rfl⟩
  case hS2x3 => assumption
  (try simp only [Act.put, List.setIfInBounds_toArray, List.set_cons_zero, List.set_cons_succ])
  refine' wpAnyH_take (i := 3) (v := ?v3x4) ?hi3x4 ?hs3x4 ?hf3x4 ?hr3x4 ?hQ3x4 ?hy3x4 ?hS3x4 ?rest3x4
  case hi3x4 => (simp only [List.getElem?_toArray, List.getElem?_cons_succ, List.getElem?_cons_zero]; try rfl)
  case hs3x4 => kernel_rfl
  case hf3x4 => kernel_rfl
  case hr3x4 => kernel_rfl
  case hQ3x4 => exact fun _ _ _ h => h
  case hy3x4 => first | exact Or.inl ⟨by rfl, by (intro w hSw; (try dsimp only at hSw); go_simp; try rfl)⟩ | exact Or.inr ⟨by rfl, rfl⟩
  case hS3x4 => assumption
  (try simp only [Act.put, List.setIfInBounds_toArray, List.set_cons_zero, List.set_cons_succ])
  refine' wpAnyH_take (i := 4) (v := ?v4x5) ?hi4x5 ?hs4x5 ?hf4x5 ?hr4x5 ?hQ4x5 ?hy4x5 ?hS4x5 ?rest4x5
  case hi4x5 => (simp only [List.getElem?_toArray, List.getElem?_cons_succ, List.getElem?_cons_zero]; try rfl)
  case hs4x5 => kernel_rfl
  case hf4x5 => kernel_rfl
  case hr4x5 => kernel_rfl
  case hQ4x5 => exact fun _ _ _ h => h
  case hy4x5 => first | exact Or.inl ⟨by rfl, by (intro w hSw; (try dsimp only at hSw); go_simp; try rfl)⟩ | exact Or.inr ⟨by rfl, rfl⟩
  case hS4x5 => assumption
  (try simp only [Act.put, List.setIfInBounds_toArray, List.set_cons_zero, List.set_cons_succ])
  refine' wpAnyH_take (i := 5) (v := ?v5x6) ?hi5x6 ?hs5x6 ?hf5x6 ?hr5x6 ?hQ5x6 ?hy5x6 ?hS5x6 ?rest5x6
  case hi5x6 => (simp only [List.getElem?_toArray, List.getElem?_cons_succ, List.getElem?_cons_zero]; try rfl)
  case hs5x6 => kernel_rfl
  case hf5x6 => kernel_rfl
  case hr5x6 => kernel_rfl
  case hQ5x6 => exact fun _ _ _ h => h
  case hy5x6 => first | exact Or.inl ⟨by rfl, by (intro w hSw; (try dsimp only at hSw); go_simp; try rfl)⟩ | exact Or.inr ⟨by rfl, rfl⟩
  case hS5x6 => assumption
  (try simp only [Act.put, List.setIfInBounds_toArray, List.set_cons_zero, List.set_cons_succ])
  refine' wpAnyH_take (i := 6) (v := ?v6x7) ?hi6x7 ?hs6x7 ?hf6x7 ?hr6x7 ?hQ6x7 ?hy6x7 ?hS6x7 ?rest6x7
  case hi6x7 => (simp only [List.getElem?_toArray, List.getElem?_cons_succ, List.getElem?_cons_zero]; try rfl)
  case hs6x7 => kernel_rfl
  case hf6x7 => kernel_rfl
  case hr6x7 => kernel_rfl
  case hQ6x7 => exact fun _ _ _ h => h
  case hy6x7 => first | exact Or.inl ⟨by rfl, by (intro w hSw; (try dsimp only at hSw); go_simp; try rfl)⟩ | exact Or.inr ⟨by rfl, rfl⟩
  case hS6x7 => assumption
  (try simp only [Act.put, List.setIfInBounds_toArray, List.set_cons_zero, List.set_cons_succ])
  refine' wpAnyH_take (i := 7) (v := ?v7x8) ?hi7x8 ?hs7x8 ?hf7x8 ?hr7x8 ?hQ7x8 ?hy7x8 ?hS7x8 ?rest7x8
  case hi7x8 => (simp only [List.getElem?_toArray, List.getElem?_cons_succ, List.getElem?_cons_zero]; try rfl)
  case hs7x8 => kernel_rfl
  case hf7x8 => kernel_rfl
  case hr7x8 => kernel_rfl
  case hQ7x8 => exact fun _ _ _ h => h
  case hy7x8 => first | exact Or.inl ⟨by rfl, by (intro w hSw; (try dsimp only at hSw); go_simp; try rfl)⟩ | exact Or.inr ⟨by rfl, rfl⟩
  case hS7x8 => assumption
  (try simp only [Act.put, List.setIfInBounds_toArray, List.set_cons_zero, List.set_cons_succ])
  refine' wpAnyH_take (i := 8) (v := ?v8x9) ?hi8x9 ?hs8x9 ?hf8x9 ?hr8x9 ?hQ8x9 ?hy8x9 ?hS8x9 ?rest8x9
  case hi8x9 => (simp only [List.getElem?_toArray, List.getElem?_cons_succ, List.getElem?_cons_zero]; try rfl)
  case hs8x9 => kernel_rfl
  case hf8x9 => kernel_rfl
  case hr8x9 => kernel_rfl
  case hQ8x9 => exact fun _ _ _ h => h
  case hy8x9 => first | exact Or.inl ⟨by rfl, by (intro w hSw; (try dsimp only at hSw); go_simp; try rfl)⟩ | exact Or.inr ⟨by rfl, rfl⟩
  case hS8x9 => assumption
  (try simp only [Act.put, List.setIfInBounds_toArray, List.set_cons_zero, List.set_cons_succ])
  refine' wpAnyH_take (i := 9) (v := ?v9x10) ?hi9x10 ?hs9x10 ?hf9x10 ?hr9x10 ?hQ9x10 ?hy9x10 ?hS9x10 ?rest9x10
  case hi9x10 => (simp only [List.getElem?_toArray, List.getElem?_cons_succ, List.getElem?_cons_zero]; try rfl)
  case hs9x10 => kernel_rfl
  case hf9x10 => kernel_rfl
  case hr9x10 => kernel_rfl
  case hQ9x10 => exact fun _ _ _ h => h
  case hy9x10 => first | exact Or.inl ⟨by rfl, by (intro w hSw; (try dsimp only at hSw); go_simp; try rfl)⟩ | exact Or.inr ⟨by rfl, rfl⟩
  case hS9x10 => assumption
  (try simp only [Act.put, List.setIfInBounds_toArray, List.set_cons_zero, List.set_cons_succ])
  refine' wpAnyH_take (i := 10) (v := (.bool false)) ?hi10x11 ?hs10x11 ?hf10x11 ?hr10x11 ?hQ10x11 ?hy10x11 ?hS10x11 ?rest10x11
  case hi10x11 => (simp only [List.getElem?_toArray, List.getElem?_cons_succ, List.getElem?_cons_zero]; try rfl)
  case hs10x11 => kernel_rfl
  case hf10x11 => kernel_rfl
  case hr10x11 => kernel_rfl
  case hQ10x11 => exact fun _ _ _ h => h
  case hy10x11 => first | exact Or.inl ⟨by rfl, by (intro w hSw; (try dsimp only at hSw); go_simp; try rfl)⟩ | exact Or.inr ⟨by rfl, rfl⟩
  case hS10x11 => assumption
  (try simp only [Act.put, List.setIfInBounds_toArray, List.set_cons_zero, List.set_cons_succ])
  refine' wpAnyH_take (i := 11) (v := ?v11x12) ?hi11x12 ?hs11x12 ?hf11x12 ?hr11x12 ?hQ11x12 ?hy11x12 ?hS11x12 ?rest11x12
  case hi11x12 => (simp only [List.getElem?_toArray, List.getElem?_cons_succ, List.getElem?_cons_zero]; try rfl)
  case hs11x12 => kernel_rfl
  case hf11x12 => kernel_rfl
  case hr11x12 => kernel_rfl
  case hQ11x12 => exact fun _ _ _ h => h
  case hy11x12 => first | exact Or.inl ⟨by rfl, by (intro w hSw; (try dsimp only at hSw); go_simp; try rfl)⟩ | exact Or.inr ⟨by rfl, rfl⟩
  case hS11x12 => assumption
  (try simp only [Act.put, List.setIfInBounds_toArray, List.set_cons_zero, List.set_cons_succ])
  refine' wpAnyH_take (i := 12) (v := ?v12x13) ?hi12x13 ?hs12x13 ?hf12x13 ?hr12x13 ?hQ12x13 ?hy12x13 ?hS12x13 ?rest12x13
  case hi12x13 => (simp only [List.getElem?_toArray, List.getElem?_cons_succ, List.getElem?_cons_zero]; try rfl)
  case hs12x13 => kernel_rfl
  case hf12x13 => kernel_rfl
  case hr12x13 => kernel_rfl
  case hQ12x13 => exact fun _ _ _ h => h
  case hy12x13 => first | exact Or.inl ⟨by rfl, by (intro w hSw; (try dsimp only at hSw); go_simp; try rfl)⟩ | exact Or.inr ⟨by rfl, rfl⟩
  case hS12x13 => assumption
  (try simp only [Act.put, List.setIfInBounds_toArray, List.set_cons_zero, List.set_cons_succ])
  refine' wpAnyH_take (i := 13) (v := ?v13x14) ?hi13x14 ?hs13x14 ?hf13x14 ?hr13x14 ?hQ13x14 ?hy13x14 ?hS13x14 ?rest13x14
  case hi13x14 => (simp only [List.getElem?_toArray, List.getElem?_cons_succ, List.getElem?_cons_zero]; try rfl)
  case hs13x14 => kernel_rfl
  case hf13x14 => kernel_rfl
  case hr13x14 => kernel_rfl
  case hQ13x14 => exact fun _ _ _ h => h
  case hy13x14 => first | exact Or.inl ⟨by rfl, by (intro w hSw; (try dsimp only at hSw); go_simp; try rfl)⟩ | exact Or.inr ⟨by rfl, rfl⟩
  case hS13x14 => assumption
  (try simp only [Act.put, List.setIfInBounds_toArray, List.set_cons_zero, List.set_cons_succ])
  refine' wpAnyH_take (i := 14) (v := ?v14x15) ?hi14x15 ?hs14x15 ?hf14x15 ?hr14x15 ?hQ14x15 ?hy14x15 ?hS14x15 ?rest14x15
  case hi14x15 => (simp only [List.getElem?_toArray, List.getElem?_cons_succ, List.getElem?_cons_zero]; try rfl)
  case hs14x15 => kernel_rfl
  case hf14x15 => kernel_rfl
  case hr14x15 => kernel_rfl
  case hQ14x15 => exact fun _ _ _ h => h
  case hy14x15 => first | exact Or.inl ⟨by rfl, by (intro w hSw; (try dsimp only at hSw); go_simp; try rfl)⟩ | exact Or.inr ⟨by rfl, rfl⟩
  case hS14x15 => assumption
  (try simp only [Act.put, List.setIfInBounds_toArray, List.set_cons_zero, List.set_cons_succ])
  refine' wpAnyH_take (i := 15) (v := ?v15x16) ?hi15x16 ?hs15x16 ?hf15x16 ?hr15x16 ?hQ15x16 ?hy15x16 ?hS15x16 ?rest15x16
  case hi15x16 => (simp only [List.getElem?_toArray, List.getElem?_cons_succ, List.getElem?_cons_zero]; try rfl)
  case hs15x16 => kernel_rfl
  case hf15x16 => kernel_rfl
  case hr15x16 => kernel_rfl
  case hQ15x16 => exact fun _ _ _ h => h
  case hy15x16 => first | exact Or.inl ⟨by rfl, by (intro w hSw; (try dsimp only at hSw); go_simp; try rfl)⟩ | exact Or.inr ⟨by rfl, rfl⟩
  case hS15x16 => assumption
  (try simp only [Act.put, List.setIfInBounds_toArray, List.set_cons_zero, List.set_cons_succ])
  refine' wpAnyH_take (i := 16) (v := ?v16x17) ?hi16x17 ?hs16x17 ?hf16x17 ?hr16x17 ?hQ16x17 ?hy16x17 ?hS16x17 ?rest16x17
  case hi16x17 => (simp only [List.getElem?_toArray, List.getElem?_cons_succ, List.getElem?_cons_zero]; try rfl)
  case hs16x17 => kernel_rfl
  case hf16x17 => kernel_rfl
  case hr16x17 => kernel_rfl
  case hQ16x17 => exact fun _ _ _ h => h
  case hy16x17 => first | exact Or.inl ⟨by rfl, by (intro w hSw; (try dsimp only at hSw); go_simp; try rfl)⟩ | exact Or.inr ⟨by rfl, rfl⟩
  case hS16x17 => assumption
  (try simp only [Act.put, List.setIfInBounds_toArray, List.set_cons_zero, List.set_cons_succ])
  refine' wpAnyH_take (i := 17) (v := ?v17x18) ?hi17x18 ?hs17x18 ?hf17x18 ?hr17x18 ?hQ17x18 ?hy17x18 ?hS17x18 ?rest17x18
  case hi17x18 => (simp only [List.getElem?_toArray, List.getElem?_cons_succ, List.getElem?_cons_zero]; try rfl)
  case hs17x18 => kernel_rfl
  case hf17x18 => kernel_rfl
  case hr17x18 => kernel_rfl
  case hQ17x18 => exact fun _ _ _ h => h
  case hy17x18 => first | exact Or.inl ⟨by rfl, by (intro w hSw; (try dsimp only at hSw); go_simp; try rfl)⟩ | exact Or.inr ⟨by rfl, rfl⟩
  case hS17x18 => assumption
  (try simp only [Act.put, List.setIfInBounds_toArray, List.set_cons_zero, List.set_cons_succ])
  refine' wpAnyH_take (i := 18) (v := ?v18x19) ?hi18x19 ?hs18x19 ?hf18x19 ?hr18x19 ?hQ18x19 ?hy18x19 ?hS18x19 ?rest18x19
  case hi18x19 => (simp only [List.getElem?_toArray, List.getElem?_cons_succ, List.getElem?_cons_zero]; try rfl)
  case hs18x19 => kernel_rfl
  case hf18x19 => kernel_rfl
  case hr18x19 => kernel_rfl
  case hQ18x19 => exact fun _ _ _ h => h
  case hy18x19 => first | exact Or.inl ⟨by rfl, by (intro w hSw; (try dsimp only at hSw); go_simp; try rfl)⟩ | exact Or.inr ⟨by rfl, rfl⟩
  case hS18x19 => assumption
  (try simp only [Act.put, List.setIfInBounds_toArray, List.set_cons_zero, List.set_cons_succ])
  refine' wpAnyH_take (i := 19) (v := ?v19x20) ?hi19x20 ?hs19x20 ?hf19x20 ?hr19x20 ?hQ19x20 ?hy19x20 ?hS19x20 ?rest19x20
  case hi19x20 => (simp only [List.getElem?_toArray, List.getElem?_cons_succ, List.getElem?_cons_zero]; try rfl)
  case hs19x20 => kernel_rfl
  case hf19x20 => kernel_rfl
  case hr19x20 => kernel_rfl
  case hQ19x20 => exact fun _ _ _ h => h
  case hy19x20 => first | exact Or.inl ⟨by rfl, by (intro w hSw; (try dsimp only at hSw); go_simp; try rfl)⟩ | exact Or.inr ⟨by rfl, rfl⟩
  case hS19x20 => assumption
  (try simp only [Act.put, List.setIfInBounds_toArray, List.set_cons_zero, List.set_cons_succ])
  refine' wpAnyH_take (i := 20) (v := ?v20x21) ?hi20x21 ?hs20x21 ?hf20x21 ?hr20x21 ?hQ20x21 ?hy20x21 ?hS20x21 ?rest20x21
  case hi20x21 => (simp only [List.getElem?_toArray, List.getElem?_cons_succ, List.getElem?_cons_zero]; try rfl)
  case hs20x21 => kernel_rfl
  case hf20x21 => kernel_rfl
  case hr20x21 => kernel_rfl
  case hQ20x21 => exact fun _ _ _ h => h
  case hy20x21 => first | exact Or.inl ⟨by rfl, by (intro w hSw; (try dsimp only at hSw); go_simp; try rfl)⟩ | exact Or.inr ⟨by rfl, rfl⟩
  case hS20x21 => assumption
  (try simp only [Act.put, List.setIfInBounds_toArray, List.set_cons_zero, List.set_cons_succ])
  refine' wpAnyH_take (i := 21) (v := ?v21x22) ?hi21x22 ?hs21x22 ?hf21x22 ?hr21x22 ?hQ21x22 ?hy21x22 ?hS21x22 ?rest21x22
  case hi21x22 => (simp only [List.getElem?_toArray, List.getElem?_cons_succ, List.getElem?_cons_zero]; try rfl)
  case hs21x22 => kernel_rfl
  case hf21x22 => kernel_rfl
  case hr21x22 => kernel_rfl
  case hQ21x22 => exact fun _ _ _ h => h
  case hy21x22 => first | exact Or.inl ⟨by rfl, by (intro w hSw; (try dsimp only at hSw); go_simp; try rfl)⟩ | exact Or.inr ⟨by rfl, rfl⟩
  case hS21x22 => assumption
  (try simp only [Act.put, List.setIfInBounds_toArray, List.set_cons_zero, List.set_cons_succ])
  refine wpAnyH_ready (rs := [22]) (by kernel_rfl) (by simp) ?_
  refine' (AllReadyH.cons (i := 22) ?ho22x23 (fun K hK => ?st22x23) AllReadyH.nil)
  case ho22x23 => (simp only [List.getElem?_toArray, List.getElem?_cons_succ, List.getElem?_cons_zero]; try rfl)
  case st22x23 =>
    go_simp
    refine (sameRow_any (.slice (some Ar) 1 cr) (.slice (some Aq) 1 cq) z _ (hrH.out.below (Below.refl w.heap.size w).drew) (hqH.out.below (Below.refl w.heap.size w).drew)).mono ?_
    rintro e w2 ⟨rfl, hb_⟩
    have hb2 := Lib.hid (chainB (B := w.heap.size) (a := w) (Below.refl w.heap.size w).drew hb_ ((Below.refl w.heap.size w).drew).size)
    clear hb_
    refine hK.out _ _ ?_ (fun hHeld => ?_)
    · exact hSof.out _ hb2.out
    clear hK K
    (try simp only [Act.put, List.setIfInBounds_toArray, List.set_cons_zero, List.set_cons_succ])
    refine' wpAnyH_take (i := 23) (v := ?v23x24) ?hi23x24 ?hs23x24 ?hf23x24 ?hr23x24 ?hQ23x24 ?hy23x24 ?hS23x24 ?rest23x24
    case hi23x24 => (simp only [List.getElem?_toArray, List.getElem?_cons_succ, List.getElem?_cons_zero]; try rfl)
    case hs23x24 => kernel_rfl
    case hf23x24 => kernel_rfl
    case hr23x24 => kernel_rfl
    case hQ23x24 => exact fun _ _ _ h => h
    case hy23x24 => first | exact Or.inl ⟨by rfl, by (intro w hSw; (try dsimp only at hSw); go_simp; try rfl)⟩ | exact Or.inr ⟨by rfl, rfl⟩
    case hS23x24 => assumption
    (try simp only [Act.put, List.setIfInBounds_toArray, List.set_cons_zero, List.set_cons_succ])
    refine' wpAnyH_take (i := 24) (v := ?v24x25) ?hi24x25 ?hs24x25 ?hf24x25 ?hr24x25 ?hQ24x25 ?hy24x25 ?hS24x25 ?rest24x25
    case hi24x25 => (simp only [List.getElem?_toArray, List.getElem?_cons_succ, List.getElem?_cons_zero]; try rfl)
    case hs24x25 => kernel_rfl
    case hf24x25 => kernel_rfl
    case hr24x25 => kernel_rfl
    case hQ24x25 => exact fun _ _ _ h => h
    case hy24x25 => first | exact Or.inl ⟨by rfl, by (intro w hSw; (try dsimp only at hSw); go_simp; try rfl)⟩ | exact Or.inr ⟨by rfl, rfl⟩
    case hS24x25 => assumption
    (try simp only [Act.put, List.setIfInBounds_toArray, List.set_cons_zero, List.set_cons_succ])
    refine' wpAnyH_take (i := 25) (v := ?v25x26) ?hi25x26 ?hs25x26 ?hf25x26 ?hr25x26 ?hQ25x26 ?hy25x26 ?hS25x26 ?rest25x26
    case hi25x26 => (simp only [List.getElem?_toArray, List.getElem?_cons_succ, List.getElem?_cons_zero]; try rfl)
    case hs25x26 => kernel_rfl
    case hf25x26 => kernel_rfl
    case hr25x26 => kernel_rfl
    case hQ25x26 => exact fun _ _ _ h => h
    case hy25x26 => first | exact Or.inl ⟨by rfl, by (intro w hSw; (try dsimp only at hSw); go_simp; try rfl)⟩ | exact Or.inr ⟨by rfl, rfl⟩
    case hS25x26 => assumption
    (try simp only [Act.put, List.setIfInBounds_toArray, List.set_cons_zero, List.set_cons_succ])
    refine' wpAnyH_take (i := 26) (v := ?v26x27) ?hi26x27 ?hs26x27 ?hf26x27 ?hr26x27 ?hQ26x27 ?hy26x27 ?hS26x27 ?rest26x27
    case hi26x27 => (simp only [List.getElem?_toArray, List.getElem?_cons_succ, List.getElem?_cons_zero]; try rfl)
    case hs26x27 => kernel_rfl
    case hf26x27 => kernel_rfl
    case hr26x27 => kernel_rfl
    case hQ26x27 => exact fun _ _ _ h => h
    case hy26x27 => first | exact Or.inl ⟨by rfl, by (intro w hSw; (try dsimp only at hSw); go_simp; try rfl)⟩ | exact Or.inr ⟨by rfl, rfl⟩
    case hS26x27 => assumption
    (try simp only [Act.put, List.setIfInBounds_toArray, List.set_cons_zero, List.set_cons_succ])
    refine' wpAnyH_take (i := 27) (v := ?v27x28) ?hi27x28 ?hs27x28 ?hf27x28 ?hr27x28 ?hQ27x28 ?hy27x28 ?hS27x28 ?rest27x28
    case hi27x28 => (simp only [List.getElem?_toArray, List.getElem?_cons_succ, List.getElem?_cons_zero]; try rfl)
    case hs27x28 => kernel_rfl
    case hf27x28 => kernel_rfl
    case hr27x28 => kernel_rfl
    case hQ27x28 => exact fun _ _ _ h => h
    case hy27x28 => first | exact Or.inl ⟨by rfl, by (intro w hSw; (try dsimp only at hSw); go_simp; try rfl)⟩ | exact Or.inr ⟨by rfl, rfl⟩
    case hS27x28 => assumption
    (try simp only [Act.put, List.setIfInBounds_toArray, List.set_cons_zero, List.set_cons_succ])
    refine' wpAnyH_take (i := 28) (v := ?v28x29) ?hi28x29 ?hs28x29 ?hf28x29 ?hr28x29 ?hQ28x29 ?hy28x29 ?hS28x29 ?rest28x29
    case hi28x29 => (simp only [List.getElem?_toArray, List.getElem?_cons_succ, List.getElem?_cons_zero]; try rfl)
    case hs28x29 => kernel_rfl
    case hf28x29 => kernel_rfl
    case hr28x29 => kernel_rfl
    case hQ28x29 => exact fun _ _ _ h => h
    case hy28x29 => first | exact Or.inl ⟨by rfl, by (intro w hSw; (try dsimp only at hSw); go_simp; try rfl)⟩ | exact Or.inr ⟨by rfl, rfl⟩
    case hS28x29 => assumption
    (try simp only [Act.put, List.setIfInBounds_toArray, List.set_cons_zero, List.set_cons_succ])
    refine' wpAnyH_take (i := 29) (v := ?v29x30) ?hi29x30 ?hs29x30 ?hf29x30 ?hr29x30 ?hQ29x30 ?hy29x30 ?hS29x30 ?rest29x30
    case hi29x30 => (simp only [List.getElem?_toArray, List.getElem?_cons_succ, List.getElem?_cons_zero]; try rfl)
    case hs29x30 => kernel_rfl
    case hf29x30 => kernel_rfl
    case hr29x30 => kernel_rfl
    case hQ29x30 => exact fun _ _ _ h => h
    case hy29x30 => first | exact Or.inl ⟨by rfl, by (intro w hSw; (try dsimp only at hSw); go_simp; try rfl)⟩ | exact Or.inr ⟨by rfl, rfl⟩
    case hS29x30 => assumption
    (try simp only [Act.put, List.setIfInBounds_toArray, List.set_cons_zero, List.set_cons_succ])
    refine' wpAnyH_take (i := 30) (v := ?v30x31) ?hi30x31 ?hs30x31 ?hf30x31 ?hr30x31 ?hQ30x31 ?hy30x31 ?hS30x31 ?rest30x31
    case hi30x31 => (simp only [List.getElem?_toArray, List.getElem?_cons_succ, List.getElem?_cons_zero]; try rfl)
    case hs30x31 => kernel_rfl
    case hf30x31 => kernel_rfl
    case hr30x31 => kernel_rfl
    case hQ30x31 => exact fun _ _ _ h => h
    case hy30x31 => first | exact Or.inl ⟨by rfl, by (intro w hSw; (try dsimp only at hSw); go_simp; try rfl)⟩ | exact Or.inr ⟨by rfl, rfl⟩
    case hS30x31 => assumption
    (try simp only [Act.put, List.setIfInBounds_toArray, List.set_cons_zero, List.set_cons_succ])
    refine' wpAnyH_take (i := 31) (v := ?v31x32) ?hi31x32 ?hs31x32 ?hf31x32 ?hr31x32 ?hQ31x32 ?hy31x32 ?hS31x32 ?rest31x32
    case hi31x32 => (simp only [List.getElem?_toArray, List.getElem?_cons_succ, List.getElem?_cons_zero]; try rfl)
    case hs31x32 => kernel_rfl
    case hf31x32 => kernel_rfl
    case hr31x32 => kernel_rfl
    case hQ31x32 => exact fun _ _ _ h => h
    case hy31x32 => first | exact Or.inl ⟨by rfl, by (intro w hSw; (try dsimp only at hSw); go_simp; try rfl)⟩ | exact Or.inr ⟨by rfl, rfl⟩
    case hS31x32 => assumption
    (try simp only [Act.put, List.setIfInBounds_toArray, List.set_cons_zero, List.set_cons_succ])
    refine' wpAnyH_take (i := 32) (v := ?v32x33) ?hi32x33 ?hs32x33 ?hf32x33 ?hr32x33 ?hQ32x33 ?hy32x33 ?hS32x33 ?rest32x33
    case hi32x33 => (simp only [List.getElem?_toArray, List.getElem?_cons_succ, List.getElem?_cons_zero]; try rfl)
    case hs32x33 => kernel_rfl
    case hf32x33 => kernel_rfl
    case hr32x33 => kernel_rfl
    case hQ32x33 => exact fun _ _ _ h => h
    case hy32x33 => first | exact Or.inl ⟨by rfl, by (intro w hSw; (try dsimp only at hSw); go_simp; try rfl)⟩ | exact Or.inr ⟨by rfl, rfl⟩
    case hS32x33 => assumption
    (try simp only [Act.put, List.setIfInBounds_toArray, List.set_cons_zero, List.set_cons_succ])
    refine' wpAnyH_take (i := 33) (v := ?v33x34) ?hi33x34 ?hs33x34 ?hf33x34 ?hr33x34 ?hQ33x34 ?hy33x34 ?hS33x34 ?rest33x34
    case hi33x34 => (simp only [List.getElem?_toArray, List.getElem?_cons_succ, List.getElem?_cons_zero]; try rfl)
    case hs33x34 => kernel_rfl
    case hf33x34 => kernel_rfl
    case hr33x34 => kernel_rfl
    case hQ33x34 => exact fun _ _ _ h => h
    case hy33x34 => first | exact Or.inl ⟨by rfl, by (intro w hSw; (try dsimp only at hSw); go_simp; try rfl)⟩ | exact Or.inr ⟨by rfl, rfl⟩
    case hS33x34 => assumption
    (try simp only [Act.put, List.setIfInBounds_toArray, List.set_cons_zero, List.set_cons_succ])
    refine' wpAnyH_take (i := 34) (v := ?v34x35) ?hi34x35 ?hs34x35 ?hf34x35 ?hr34x35 ?hQ34x35 ?hy34x35 ?hS34x35 ?rest34x35
    case hi34x35 => (simp only [List.getElem?_toArray, List.getElem?_cons_succ, List.getElem?_cons_zero]; try rfl)
    case hs34x35 => kernel_rfl
    case hf34x35 => kernel_rfl
    case hr34x35 => kernel_rfl
    case hQ34x35 => exact fun _ _ _ h => h
    case hy34x35 => first | exact Or.inl ⟨by rfl, by (intro w hSw; (try dsimp only at hSw); go_simp; try rfl)⟩ | exact Or.inr ⟨by rfl, rfl⟩
    case hS34x35 => assumption
    (try simp only [Act.put, List.setIfInBounds_toArray, List.set_cons_zero, List.set_cons_succ])
    refine' wpAnyH_take (i := 35) (v := ?v35x36) ?hi35x36 ?hs35x36 ?hf35x36 ?hr35x36 ?hQ35x36 ?hy35x36 ?hS35x36 ?rest35x36
    case hi35x36 => (simp only [List.getElem?_toArray, List.getElem?_cons_succ, List.getElem?_cons_zero]; try rfl)
    case hs35x36 => kernel_rfl
    case hf35x36 => kernel_rfl
    case hr35x36 => kernel_rfl
    case hQ35x36 => exact fun _ _ _ h => h
    case hy35x36 => first | exact Or.inl ⟨by rfl, by (intro w hSw; (try dsimp only at hSw); go_simp; try rfl)⟩ | exact Or.inr ⟨by rfl, rfl⟩
    case hS35x36 => assumption
    (try simp only [Act.put, List.setIfInBounds_toArray, List.set_cons_zero, List.set_cons_succ])
    refine wpAnyH_ready (rs := [36]) (by kernel_rfl) (by simp) ?_
    refine' (AllReadyH.cons (i := 36) ?ho36x37 (fun K hK => ?st36x37) AllReadyH.nil)
    case ho36x37 => (simp only [List.getElem?_toArray, List.getElem?_cons_succ, List.getElem?_cons_zero]; try rfl)
    case st36x37 =>
      go_simp
      refine (sameTime0_any _).mono ?_
      rintro e w3 ⟨rfl, hb_⟩
      have hb3 := Lib.hid (chainB (B := w.heap.size) (a := w) hb2.out hb_ (hb2.out).size)
      clear hb_
      refine hK.out _ _ ?_ (fun hHeld => ?_)
      · exact hSof.out _ hb3.out
      clear hK K
      (try simp only [Act.put, List.setIfInBounds_toArray, List.set_cons_zero, List.set_cons_succ])
      refine' wpAnyH_take (i := 37) (v := ?v37x38) ?hi37x38 ?hs37x38 ?hf37x38 ?hr37x38 ?hQ37x38 ?hy37x38 ?hS37x38 ?rest37x38
      case hi37x38 => (simp only [List.getElem?_toArray, List.getElem?_cons_succ, List.getElem?_cons_zero]; try rfl)
      case hs37x38 => kernel_rfl
      case hf37x38 => kernel_rfl
      case hr37x38 => kernel_rfl
      case hQ37x38 => exact fun _ _ _ h => h
      case hy37x38 => first | exact Or.inl ⟨by rfl, by (intro w hSw; (try dsimp only at hSw); go_simp; try rfl)⟩ | exact Or.inr ⟨by rfl, rfl⟩
      case hS37x38 => assumption
      (try simp only [Act.put, List.setIfInBounds_toArray, List.set_cons_zero, List.set_cons_succ])
      refine' wpAnyH_take (i := 38) (v := ?v38x39) ?hi38x39 ?hs38x39 ?hf38x39 ?hr38x39 ?hQ38x39 ?hy38x39 ?hS38x39 ?rest38x39
      case hi38x39 => (simp only [List.getElem?_toArray, List.getElem?_cons_succ, List.getElem?_cons_zero]; try rfl)
      case hs38x39 => kernel_rfl
      case hf38x39 => kernel_rfl
      case hr38x39 => kernel_rfl
      case hQ38x39 => exact fun _ _ _ h => h
      case hy38x39 => first | exact Or.inl ⟨by rfl, by (intro w hSw; (try dsimp only at hSw); go_simp; try rfl)⟩ | exact Or.inr ⟨by rfl, rfl⟩
      case hS38x39 => assumption
      (try simp only [Act.put, List.setIfInBounds_toArray, List.set_cons_zero, List.set_cons_succ])
      refine wpAnyH_done (by kernel_rfl) ?_ _
      refine NoPanic.normal ?_
      go_wp2_with fail
      rw [rounds_succ]
      go_wp2_with fail
      go_ret
      exact ⟨rfl, hb3.out⟩
theorem port_eq (w : World) : (Op.equalIn 10000 24 (.agg #[.int .i64 0, .bool false, .int .i64 0]) (.agg #[.int .i64 0, .bool false, .int .i64 0])).run Try.prog w = .ok true w := by kernel_rfl
set_option maxRecDepth 100000 in
set_option maxHeartbeats 8000000 in
theorem same_any (A B : Addr) (c d : Nat) (z : Int) (w : World) (hu : UpdV w (.slice (some A) 1 c) z) (hv : UpdV w (.slice (some B) 1 d) z) :
    Calls Try.prog 13 #[.agg #[.int .i64 0, .bool false, .int .i64 0, .int .u64 0, .slice none 0 0, .slice (some A) 1 c, .slice none 0 0], .agg #[.int .i64 0, .bool false, .int .i64 0, .int .u64 0, .slice none 0 0, .slice (some B) 1 d, .slice none 0 0]] w fun e w' => e = .returned (.bool true) ∧ Below w.heap.size w w' := by
  obtain ⟨W0, hW0, hwW, ha_, hb_, hzz⟩ := boxes2 w (msgC (.slice (some A) 1 c)) (msgC (.slice (some B) 1 d)) 31 31
  have haH := Lib.hid ha_; have hbH := Lib.hid hb_; have huH := Lib.hid (hu.below hwW); have hvH := Lib.hid (hv.below hwW); have hwH := Lib.hid hwW
  have a0 := haH.out.cell 0 rfl; have a1 := haH.out.cell 1 rfl; have a2 := haH.out.cell 2 rfl; have a3 := haH.out.cell 3 rfl; have a4 := haH.out.cell 4 rfl; have a5 := haH.out.cell 5 rfl; have a6 := haH.out.cell 6 rfl
  have b0 := hbH.out.cell 0 rfl; have b1 := hbH.out.cell 1 rfl; have b2 := hbH.out.cell 2 rfl; have b3 := hbH.out.cell 3 rfl; have b4 := hbH.out.cell 4 rfl; have b5 := hbH.out.cell 5 rfl; have b6 := hbH.out.cell 6 rfl
  have ep := port_eq W0
  clear ha_ hb_ hu hv hwW hzz
  go_enter Try.func13, Try.ntmps13
  go_wp2_with fail
  refine (sameTime0_any _).mono ?_
  rintro e w1 ⟨rfl, hb1_⟩
  have hb1 := Lib.hid hb1_
  clear hb1_ a0 a1 a2 a3 a4 a5 a6 b0 b1 b2 b3 b4 b5 b6 ep hW0
  replace haH := Lib.hid (haH.out.below hb1.out); replace hbH := Lib.hid (hbH.out.below hb1.out); replace huH := Lib.hid (huH.out.below hb1.out); replace hvH := Lib.hid (hvH.out.below hb1.out)
  have a0 := haH.out.cell 0 rfl; have a1 := haH.out.cell 1 rfl; have a2 := haH.out.cell 2 rfl; have a3 := haH.out.cell 3 rfl; have a4 := haH.out.cell 4 rfl; have a5 := haH.out.cell 5 rfl; have a6 := haH.out.cell 6 rfl
  have b0 := hbH.out.cell 0 rfl; have b1 := hbH.out.cell 1 rfl; have b2 := hbH.out.cell 2 rfl; have b3 := hbH.out.cell 3 rfl; have b4 := hbH.out.cell 4 rfl; have b5 := hbH.out.cell 5 rfl; have b6 := hbH.out.cell 6 rfl
  go_wp2_with fail
  refine (sameUpdates_any _ _ z _ huH.out hvH.out).mono ?_
  rintro e w2 ⟨rfl, hb2_⟩
  have hb2 := Lib.hid hb2_
  clear hb2_ a0 a1 a2 a3 a4 a5 a6 b0 b1 b2 b3 b4 b5 b6
  replace haH := Lib.hid (haH.out.below hb2.out); replace hbH := Lib.hid (hbH.out.below hb2.out)
  have a0 := haH.out.cell 0 rfl; have a1 := haH.out.cell 1 rfl; have a2 := haH.out.cell 2 rfl; have a3 := haH.out.cell 3 rfl; have a4 := haH.out.cell 4 rfl; have a5 := haH.out.cell 5 rfl; have a6 := haH.out.cell 6 rfl
  have b0 := hbH.out.cell 0 rfl; have b1 := hbH.out.cell 1 rfl; have b2 := hbH.out.cell 2 rfl; have b3 := hbH.out.cell 3 rfl; have b4 := hbH.out.cell 4 rfl; have b5 := hbH.out.cell 5 rfl; have b6 := hbH.out.cell 6 rfl
  go_wp2_with fail
  refine (sameUpdatesNil_any _).mono ?_
  rintro e w3 ⟨rfl, rfl⟩
  go_wp2_with fail
  go_ret
  exact ⟨rfl, chainB hwH.out (chainB hb1.out hb2.out hb1.out.size) hwH.out.size⟩
set_option maxRecDepth 100000 in
set_option maxHeartbeats 8000000 in
theorem sameNone_any (w : World) :
    Calls Try.prog 13 #[.agg #[.int .i64 0, .bool false, .int .i64 0, .int .u64 0, .slice none 0 0, .slice none 0 0, .slice none 0 0], .agg #[.int .i64 0, .bool false, .int .i64 0, .int .u64 0, .slice none 0 0, .slice none 0 0, .slice none 0 0]] w fun e w' => e = .returned (.bool true) ∧ Below w.heap.size w w' := by
  obtain ⟨W0, hW0, hwW, ha_, hb_, hzz⟩ := boxes2 w (msgC (.slice none 0 0)) (msgC (.slice none 0 0)) 31 31
  have haH := Lib.hid ha_; have hbH := Lib.hid hb_; have hwH := Lib.hid hwW
  have a0 := haH.out.cell 0 rfl; have a1 := haH.out.cell 1 rfl; have a2 := haH.out.cell 2 rfl; have a3 := haH.out.cell 3 rfl; have a4 := haH.out.cell 4 rfl; have a5 := haH.out.cell 5 rfl; have a6 := haH.out.cell 6 rfl
  have b0 := hbH.out.cell 0 rfl; have b1 := hbH.out.cell 1 rfl; have b2 := hbH.out.cell 2 rfl; have b3 := hbH.out.cell 3 rfl; have b4 := hbH.out.cell 4 rfl; have b5 := hbH.out.cell 5 rfl; have b6 := hbH.out.cell 6 rfl
  have ep := port_eq W0
  clear ha_ hb_ hwW hzz
  go_enter Try.func13, Try.ntmps13
  go_wp2_with fail
  refine (sameTime0_any _).mono ?_
  rintro e w1 ⟨rfl, hb1_⟩
  have hb1 := Lib.hid hb1_
  clear hb1_ a0 a1 a2 a3 a4 a5 a6 b0 b1 b2 b3 b4 b5 b6 ep hW0
  replace haH := Lib.hid (haH.out.below hb1.out); replace hbH := Lib.hid (hbH.out.below hb1.out)
  have a0 := haH.out.cell 0 rfl; have a1 := haH.out.cell 1 rfl; have a2 := haH.out.cell 2 rfl; have a3 := haH.out.cell 3 rfl; have a4 := haH.out.cell 4 rfl; have a5 := haH.out.cell 5 rfl; have a6 := haH.out.cell 6 rfl
  have b0 := hbH.out.cell 0 rfl; have b1 := hbH.out.cell 1 rfl; have b2 := hbH.out.cell 2 rfl; have b3 := hbH.out.cell 3 rfl; have b4 := hbH.out.cell 4 rfl; have b5 := hbH.out.cell 5 rfl; have b6 := hbH.out.cell 6 rfl
  go_wp2_with fail
  refine (sameUpdatesNil_any _).mono ?_
  rintro e w2 ⟨rfl, rfl⟩
  go_wp2_with fail
  refine (sameUpdatesNil_any _).mono ?_
  rintro e w3 ⟨rfl, rfl⟩
  go_wp2_with fail
  go_ret
  exact ⟨rfl, chainB hwH.out hb1.out hwH.out.size⟩
end Go.Proofs.Ytpghndmfdmimmaa
