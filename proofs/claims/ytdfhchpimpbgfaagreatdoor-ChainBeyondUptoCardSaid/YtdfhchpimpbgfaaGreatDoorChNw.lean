/-
  Counts of times, at this program: none; one that changes. Conditions: those written.
-/
import Derived.Test.YtdfhchpimpbgfaaGreatDoorChMp
import Derived.Test.YtdfhchpimpbgfaaGreatDoorChJ
import Derived.LoopTactic
import Derived.BigQuiet
import Derived.Deep.RegionHeld3
set_option linter.unusedVariables false
set_option linter.unusedSimpArgs false
namespace Go.Proofs.YtdfhchpimpbgfaaGreatDoor
open Go.RowKit Go.Lib Go.Proofs

theorem heldM_none (w : World) : HeldM (.map []) (fun _ => 0) w := ⟨fun t ht => absurd rfl ht, fun kl h => by simp [Go.Maps.has] at h, fun t => by omega⟩
set_option maxHeartbeats 8000000 in
set_option maxRecDepth 1000000 in
theorem new_any (w : World) : Calls Tryz.prog 28 #[] w fun e w' => ∃ cb mb, e = .returned (.pointer (some ⟨cb, 0, none⟩)) ∧ w.heap.size ≤ cb ∧ w.heap.size ≤ mb ∧ CtI 0 cb mb (fun _ => 0) w' ∧ Below w.heap.size w w' := by
  have hmm := @run_makeMap Tryz.prog
  have hM := World.ownsMap_made w Tryz.prog 9 Rv
  have hMH := Lib.hid hM
  clear hM
  go_enter Tryz.func28, Tryz.ntmps28
  go_wp2_with fail
  go_ret
  refine ⟨_, w.heap.size, rfl, by simp, Nat.le_refl _, ⟨has_at _ _ _ _ (by simp), _, hMH.out.alloc _, heldM_none _⟩, by go_grown⟩
theorem wrap_C (n : Int) : wrap64 n = wrapC n := by unfold Go.RowKit.wrap64 wrapC; rfl
theorem wrap_i64 (n : Int) : IntKind.i64.wrap n = wrapC n := by rw [IntKind.wrap_i64]; rfl
theorem cell_kept {w w' : World} {b b' i : Nat} {v : Value} (hg : w.grownBy w' (some b')) (hne : b ≠ b') (h : w.cell? ⟨b, i, none⟩ = some v) (hlt : b < w.heap.size) : w'.cell? ⟨b, i, none⟩ = some v := by
  have e : w'.cell? ⟨b, i, none⟩ = w.cell? ⟨b, i, none⟩ := by
    unfold World.cell?
    simp only [hg.block b hlt (fun q => hne (Option.some.inj q))]
  rw [e]; exact h
set_option maxHeartbeats 8000000 in
set_option maxRecDepth 1000000 in
theorem add_any (N cb mb : Nat) (M : Tm → Int) (d : Td) (z : Int) (w : World) (hT : Pows w) (hc : CtI N cb mb M w) (hN : N ≤ 1000000) (hd : WordsV w (slD d) d.t.l) (wt : TmW d.t) (hl : d.t.l.length ≤ 1000000) (hz : -9223372036854775808 ≤ z ∧ z ≤ 9223372036854775807) :
    Calls Tryz.prog 70 #[.pointer (some ⟨cb, 0, none⟩), valH d z] w fun e w' => e = .returned (.tuple #[]) ∧ CtI (N + 1) cb mb (addM M (d.t, z)) w' ∧ w.grownBy w' (some mb) := by
  obtain ⟨dA, dc, ⟨de, dl⟩⟩ := d
  obtain ⟨W0, hW0, hwW, hA, hzz⟩ := boxes1 w (cellsH ⟨dA, dc, ⟨de, dl⟩⟩ z) 59
  have hcH := Lib.hid (hc.below hwW); have hdH := Lib.hid (hd.below hwW); have hAH := Lib.hid hA; have hwWH := Lib.hid hwW; have hTH := Lib.hid (hT.below hwW); have hwH := Lib.hid wt; have hlH := Lib.hid (show dl.length ≤ 1000000 from hl); have hNH := Lib.hid hN; have hzH := Lib.hid hz
  have hmbH := Lib.hid hc.lt
  have x0_ := hA.cell 0 rfl; have x1_ := hA.cell 1 rfl; have x2_ := hA.cell 2 rfl; have xl_ := hA.lt
  have hW0' : w.alloc (.cells #[.int .u64 de, .slice dA dl.length dc, .int .i64 z] 59) = W0 := hW0
  simp only at x0_ x1_ x2_ hwH hdH
  simp only [valH]
  clear hc hd hA hwW hT wt hl hN hz hW0
  go_enter Tryz.func70, Tryz.ntmps70
  go_wp2_with fail
  refine (print_any _ ⟨de, dl⟩ W0 ⟨_, rfl, hdH.out⟩ hwH.out (by have := hlH.out; show dl.length ≤ _; omega) hTH.out).mono ?_
  rintro e wB ⟨rfl, hbB⟩
  have hcB := Lib.hid (hcH.out.below hbB); have hdB := Lib.hid (hdH.out.below hbB)
  have hAB := Lib.hid (hAH.out.below hbB)
  have hbwB := Lib.hid (chainB hwWH.out hbB hwWH.out.size)
  have hgB := Lib.hid (grownD_below hbwB.out (some mb))
  clear hbB x0_ x1_ x2_ xl_ hW0'
  have x0_ := hAB.out.cell 0 rfl; have x1_ := hAB.out.cell 1 rfl; have x2_ := hAB.out.cell 2 rfl; have xl_ := hAB.out.lt
  have k0_ := hcB.out.box.cell 0 rfl; have kl_ := hcB.out.box.lt
  obtain ⟨hq1, D, hq2, hq3⟩ := hcB.out
  obtain ⟨v0, ⟨e0, s0, rfl⟩, hlook⟩ := hq3.look hq2 hwH.out (t := ⟨de, dl⟩) (by have := hlH.out; show dl.length ≤ _; omega)
  have hwide := hq3.wide ⟨de, dl⟩
  have hisM := hq2.isMap
  have hdel := hq2
  have hq2H := Lib.hid hq2; have hq3H := Lib.hid hq3
  obtain ⟨m, hm⟩ : ∃ m, M ⟨de, dl⟩ = m := ⟨_, rfl⟩
  rw [hm] at hwide
  have hmH := Lib.hid hm
  obtain ⟨s, hs⟩ : ∃ s, wrapC (m + z) = s := ⟨_, rfl⟩
  have hsH := Lib.hid (show s = wrapC (M ⟨de, dl⟩ + z) by rw [hmH.out, ← hs])
  have hs1 : wrap64 (m + z) = s := by rw [← hs]; exact wrap_C _
  have hs2 : IntKind.i64.wrap (m + z) = s := by rw [← hs]; exact wrap_i64 _
  have hlk := hlook wB.drew (fun b _ => rfl)
  unfold keyV at hlk
  rw [hm] at hlk
  clear hq1 hq2 hq3 hlook hm hisM hdel hs
  go_wp2_with fail
  refine wp_region_noPanic ?_
  refine wp_region_held_drew (S := (fun w' => w'.cell? ⟨cb, 0, none⟩ = some (.map (some mb)) ∧ w'.cell? ⟨w.heap.size, 2, none⟩ = some (.int .i64 z) ∧ (Instr.lookup 102 (.map (some mb)) (.string ⟨(printT ⟨de, dl⟩).toArray⟩) false).run Tryz.prog w' = .ok (.agg #[.int .u64 e0, s0, .int .i64 m]) w')) (by kernel_rfl) (⟨k0_, x2_, hlk⟩) (fun hHeld => ?_)
  refine' wpAnyH_take (i := 0) (v := ?v0x12) ?hi0x12 ?hs0x12 ?hf0x12 ?hr0x12 ?hQ0x12 ?hy0x12 ?hS0x12 ?rest0x12
  case hi0x12 => (simp only [List.getElem?_toArray, List.getElem?_cons_succ, List.getElem?_cons_zero]; try rfl)
  case hs0x12 => kernel_rfl
  case hf0x12 => kernel_rfl
  case hr0x12 => kernel_rfl
  case hQ0x12 => exact fun _ _ _ h => h
  case hy0x12 => first | exact Or.inl ⟨by rfl, by (intro w hSw; (try dsimp only at hSw); go_simp; try rfl)⟩ | exact Or.inr ⟨by rfl, rfl⟩
  case hS0x12 => assumption
  (try simp only [Act.put, List.setIfInBounds_toArray, List.set_cons_zero, List.set_cons_succ])
  refine' wpAnyH_take (i := 1) (v := ?v1x13) ?hi1x13 ?hs1x13 ?hf1x13 ?hr1x13 ?hQ1x13 ?hy1x13 ?hS1x13 ?rest1x13
  case hi1x13 => (simp only [List.getElem?_toArray, List.getElem?_cons_succ, List.getElem?_cons_zero]; try rfl)
  case hs1x13 => kernel_rfl
  case hf1x13 => kernel_rfl
  case hr1x13 => kernel_rfl
  case hQ1x13 => exact fun _ _ _ h => h
  case hy1x13 => first | exact Or.inl ⟨by rfl, by (intro w hSw; (try dsimp only at hSw); go_simp; try rfl)⟩ | exact Or.inr ⟨by rfl, rfl⟩
  case hS1x13 => assumption
  (try simp only [Act.put, List.setIfInBounds_toArray, List.set_cons_zero, List.set_cons_succ])
  refine' wpAnyH_take (i := 2) (v := ?v2x14) ?hi2x14 ?hs2x14 ?hf2x14 ?hr2x14 ?hQ2x14 ?hy2x14 ?hS2x14 ?rest2x14
  case hi2x14 => (simp only [List.getElem?_toArray, List.getElem?_cons_succ, List.getElem?_cons_zero]; try rfl)
  case hs2x14 => kernel_rfl
  case hf2x14 => kernel_rfl
  case hr2x14 => kernel_rfl
  case hQ2x14 => exact fun _ _ _ h => h
  case hy2x14 => first | exact Or.inl ⟨by rfl, by (intro w hSw; (try dsimp only at hSw); go_simp; try rfl)⟩ | exact Or.inr ⟨by rfl, rfl⟩
  case hS2x14 => assumption
  (try simp only [Act.put, List.setIfInBounds_toArray, List.set_cons_zero, List.set_cons_succ])
  refine' wpAnyH_take (i := 3) (v := ?v3x15) ?hi3x15 ?hs3x15 ?hf3x15 ?hr3x15 ?hQ3x15 ?hy3x15 ?hS3x15 ?rest3x15
  case hi3x15 => (simp only [List.getElem?_toArray, List.getElem?_cons_succ, List.getElem?_cons_zero]; try rfl)
  case hs3x15 => kernel_rfl
  case hf3x15 => kernel_rfl
  case hr3x15 => kernel_rfl
  case hQ3x15 => exact fun _ _ _ h => h
  case hy3x15 => first | exact Or.inl ⟨by rfl, by (intro w hSw; (try dsimp only at hSw); go_simp; try rfl)⟩ | exact Or.inr ⟨by rfl, rfl⟩
  case hS3x15 => assumption
  (try simp only [Act.put, List.setIfInBounds_toArray, List.set_cons_zero, List.set_cons_succ])
  refine' wpAnyH_take (i := 4) (v := ?v4x16) ?hi4x16 ?hs4x16 ?hf4x16 ?hr4x16 ?hQ4x16 ?hy4x16 ?hS4x16 ?rest4x16
  case hi4x16 => (simp only [List.getElem?_toArray, List.getElem?_cons_succ, List.getElem?_cons_zero]; try rfl)
  case hs4x16 => kernel_rfl
  case hf4x16 => kernel_rfl
  case hr4x16 => kernel_rfl
  case hQ4x16 => exact fun _ _ _ h => h
  case hy4x16 => first | exact Or.inl ⟨by rfl, by (intro w hSw; (try dsimp only at hSw); go_simp; try rfl)⟩ | exact Or.inr ⟨by rfl, rfl⟩
  case hS4x16 => assumption
  (try simp only [Act.put, List.setIfInBounds_toArray, List.set_cons_zero, List.set_cons_succ])
  refine' wpAnyH_take (i := 5) (v := ?v5x17) ?hi5x17 ?hs5x17 ?hf5x17 ?hr5x17 ?hQ5x17 ?hy5x17 ?hS5x17 ?rest5x17
  case hi5x17 => (simp only [List.getElem?_toArray, List.getElem?_cons_succ, List.getElem?_cons_zero]; try rfl)
  case hs5x17 => kernel_rfl
  case hf5x17 => kernel_rfl
  case hr5x17 => kernel_rfl
  case hQ5x17 => exact fun _ _ _ h => h
  case hy5x17 => first | exact Or.inl ⟨by rfl, by (intro w hSw; (try dsimp only at hSw); go_simp; try rfl)⟩ | exact Or.inr ⟨by rfl, rfl⟩
  case hS5x17 => assumption
  (try simp only [Act.put, List.setIfInBounds_toArray, List.set_cons_zero, List.set_cons_succ])
  refine' wpAnyH_take (i := 6) (v := ?v6x18) ?hi6x18 ?hs6x18 ?hf6x18 ?hr6x18 ?hQ6x18 ?hy6x18 ?hS6x18 ?rest6x18
  case hi6x18 => (simp only [List.getElem?_toArray, List.getElem?_cons_succ, List.getElem?_cons_zero]; try rfl)
  case hs6x18 => kernel_rfl
  case hf6x18 => kernel_rfl
  case hr6x18 => kernel_rfl
  case hQ6x18 => exact fun _ _ _ h => h
  case hy6x18 => first | exact Or.inl ⟨by rfl, by (intro w hSw; (try dsimp only at hSw); go_simp; try rfl)⟩ | exact Or.inr ⟨by rfl, rfl⟩
  case hS6x18 => assumption
  (try simp only [Act.put, List.setIfInBounds_toArray, List.set_cons_zero, List.set_cons_succ])
  refine' wpAnyH_take (i := 7) (v := ?v7x19) ?hi7x19 ?hs7x19 ?hf7x19 ?hr7x19 ?hQ7x19 ?hy7x19 ?hS7x19 ?rest7x19
  case hi7x19 => (simp only [List.getElem?_toArray, List.getElem?_cons_succ, List.getElem?_cons_zero]; try rfl)
  case hs7x19 => kernel_rfl
  case hf7x19 => kernel_rfl
  case hr7x19 => kernel_rfl
  case hQ7x19 => exact fun _ _ _ h => h
  case hy7x19 => first | exact Or.inl ⟨by rfl, by (intro w hSw; (try dsimp only at hSw); go_simp; try rfl)⟩ | exact Or.inr ⟨by rfl, rfl⟩
  case hS7x19 => assumption
  (try simp only [Act.put, List.setIfInBounds_toArray, List.set_cons_zero, List.set_cons_succ])
  refine' wpAnyH_take (i := 8) (v := ?v8x20) ?hi8x20 ?hs8x20 ?hf8x20 ?hr8x20 ?hQ8x20 ?hy8x20 ?hS8x20 ?rest8x20
  case hi8x20 => (simp only [List.getElem?_toArray, List.getElem?_cons_succ, List.getElem?_cons_zero]; try rfl)
  case hs8x20 => kernel_rfl
  case hf8x20 => kernel_rfl
  case hr8x20 => kernel_rfl
  case hQ8x20 => exact fun _ _ _ h => h
  case hy8x20 => first | exact Or.inl ⟨by rfl, by (intro w hSw; (try dsimp only at hSw); go_simp; try rfl)⟩ | exact Or.inr ⟨by rfl, rfl⟩
  case hS8x20 => assumption
  (try simp only [Act.put, List.setIfInBounds_toArray, List.set_cons_zero, List.set_cons_succ])
  refine' wpAnyH_take (i := 9) (v := ?v9x21) ?hi9x21 ?hs9x21 ?hf9x21 ?hr9x21 ?hQ9x21 ?hy9x21 ?hS9x21 ?rest9x21
  case hi9x21 => (simp only [List.getElem?_toArray, List.getElem?_cons_succ, List.getElem?_cons_zero]; try rfl)
  case hs9x21 => kernel_rfl
  case hf9x21 => kernel_rfl
  case hr9x21 => kernel_rfl
  case hQ9x21 => exact fun _ _ _ h => h
  case hy9x21 => first | exact Or.inl ⟨by rfl, by (intro w hSw; (try dsimp only at hSw); go_simp; try rfl)⟩ | exact Or.inr ⟨by rfl, rfl⟩
  case hS9x21 => assumption
  (try simp only [Act.put, List.setIfInBounds_toArray, List.set_cons_zero, List.set_cons_succ])
  refine' wpAnyH_take (i := 10) (v := ?v10x22) ?hi10x22 ?hs10x22 ?hf10x22 ?hr10x22 ?hQ10x22 ?hy10x22 ?hS10x22 ?rest10x22
  case hi10x22 => (simp only [List.getElem?_toArray, List.getElem?_cons_succ, List.getElem?_cons_zero]; try rfl)
  case hs10x22 => kernel_rfl
  case hf10x22 => kernel_rfl
  case hr10x22 => kernel_rfl
  case hQ10x22 => exact fun _ _ _ h => h
  case hy10x22 => first | exact Or.inl ⟨by rfl, by (intro w hSw; (try dsimp only at hSw); go_simp; try rfl)⟩ | exact Or.inr ⟨by rfl, rfl⟩
  case hS10x22 => assumption
  (try simp only [Act.put, List.setIfInBounds_toArray, List.set_cons_zero, List.set_cons_succ])
  refine wpAnyH_done (by kernel_rfl) ?_ _
  refine NoPanic.normal ?_
  by_cases hs0 : s = 0
  · have hsb : (s == 0) = true := by simp [hs0]
    have hd := hq2H.out.drew
    clear hlk
    go_wp2_with (at_delete; refine wpList_delete_own _ rfl _ _ 102 9 rfl 59 lawS Tryz.underlying102 Rv mb N D (by rfl) hd (.string ⟨(printT ⟨de, dl⟩).toArray⟩) (keyT ⟨de, dl⟩) (by rfl) (keyOf_t hwH.out hlH.out) ?_; intro w5 hm5 ht5)
    obtain ⟨es, cl, hes, _⟩ := hd
    have hg5 := ht5.grown
    have hkeep : ∀ (v : Value) (l : List Int), OwnW 0 v l wB.drew → OwnW 0 v l w5 := fun v l h => h.mapped hes hg5
    have hfin := Lib.hid (show CtI (N + 1) cb mb (addM M (⟨de, dl⟩, z)) w5 from CtI.mono ⟨(show HasC wB.drew cb [.map (some mb)] 104 from hcB.out.box).grownO hg5 (fun h => hcB.out.ne (Option.some.inj h)), _, hm5, HeldM.del (w := wB.drew) (hq3H.out.keep fun v l h => h) hkeep (t := ⟨de, dl⟩) hwH.out (by rw [← hsH.out]; exact hs0)⟩ (Nat.le_succ N))
    have hgf := Lib.hid (show w.grownBy w5 (some mb) from grown_trans hgB.out (grown_trans (b := wB.drew) ⟨rfl, rfl, rfl, Nat.le_refl _, fun _ _ _ => rfl⟩ hg5))
    clear hm5 ht5 hg5 hkeep
    go_wp2_with fail
    refine bodyPost_ret (v := .tuple #[]) (by simp [results, Tryz.results70, go_sem]) rfl ⟨rfl, hfin.out, hgf.out⟩
  · have hsb : (s == 0) = false := by simp [hs0]
    have hs0H := Lib.hid hs0
    clear hlk hs0
    go_wp2_with fail
    refine wp_region_noPanic ?_
    refine wp_region_held_drew (S := (fun w' => w'.cell? ⟨cb, 0, none⟩ = some (.map (some mb)) ∧ w'.cell? ⟨w.heap.size, 0, none⟩ = some (.int .u64 de) ∧ w'.cell? ⟨w.heap.size, 1, none⟩ = some (.slice dA dl.length dc))) (by kernel_rfl) (⟨k0_, x0_, x1_⟩) (fun hHeld => ?_)
    refine' wpAnyH_take (i := 0) (v := ?v0x1) ?hi0x1 ?hs0x1 ?hf0x1 ?hr0x1 ?hQ0x1 ?hy0x1 ?hS0x1 ?rest0x1
    case hi0x1 => (simp only [List.getElem?_toArray, List.getElem?_cons_succ, List.getElem?_cons_zero]; try rfl)
    case hs0x1 => kernel_rfl
    case hf0x1 => kernel_rfl
    case hr0x1 => kernel_rfl
    case hQ0x1 => exact fun _ _ _ h => h
    case hy0x1 => first | exact Or.inl ⟨by rfl, by (intro w hSw; (try dsimp only at hSw); go_simp; try rfl)⟩ | exact Or.inr ⟨by rfl, rfl⟩
    case hS0x1 => assumption
    (try simp only [Act.put, List.setIfInBounds_toArray, List.set_cons_zero, List.set_cons_succ])
    refine' wpAnyH_take (i := 1) (v := ?v1x2) ?hi1x2 ?hs1x2 ?hf1x2 ?hr1x2 ?hQ1x2 ?hy1x2 ?hS1x2 ?rest1x2
    case hi1x2 => (simp only [List.getElem?_toArray, List.getElem?_cons_succ, List.getElem?_cons_zero]; try rfl)
    case hs1x2 => kernel_rfl
    case hf1x2 => kernel_rfl
    case hr1x2 => kernel_rfl
    case hQ1x2 => exact fun _ _ _ h => h
    case hy1x2 => first | exact Or.inl ⟨by rfl, by (intro w hSw; (try dsimp only at hSw); go_simp; try rfl)⟩ | exact Or.inr ⟨by rfl, rfl⟩
    case hS1x2 => assumption
    (try simp only [Act.put, List.setIfInBounds_toArray, List.set_cons_zero, List.set_cons_succ])
    refine' wpAnyH_take (i := 2) (v := ?v2x3) ?hi2x3 ?hs2x3 ?hf2x3 ?hr2x3 ?hQ2x3 ?hy2x3 ?hS2x3 ?rest2x3
    case hi2x3 => (simp only [List.getElem?_toArray, List.getElem?_cons_succ, List.getElem?_cons_zero]; try rfl)
    case hs2x3 => kernel_rfl
    case hf2x3 => kernel_rfl
    case hr2x3 => kernel_rfl
    case hQ2x3 => exact fun _ _ _ h => h
    case hy2x3 => first | exact Or.inl ⟨by rfl, by (intro w hSw; (try dsimp only at hSw); go_simp; try rfl)⟩ | exact Or.inr ⟨by rfl, rfl⟩
    case hS2x3 => assumption
    (try simp only [Act.put, List.setIfInBounds_toArray, List.set_cons_zero, List.set_cons_succ])
    refine' wpAnyH_take (i := 3) (v := ?v3x4) ?hi3x4 ?hs3x4 ?hf3x4 ?hr3x4 ?hQ3x4 ?hy3x4 ?hS3x4 ?rest3x4
    case hi3x4 => (simp only [List.getElem?_toArray, List.getElem?_cons_succ, List.getElem?_cons_zero]; try rfl)
    case hs3x4 => kernel_rfl
    case hf3x4 => kernel_rfl
    case hr3x4 => kernel_rfl
    case hQ3x4 => exact fun _ _ _ h => h
    case hy3x4 => first | exact Or.inl ⟨by rfl, by (intro w hSw; (try dsimp only at hSw); go_simp; try rfl)⟩ | exact Or.inr ⟨by rfl, rfl⟩
    case hS3x4 => assumption
    (try simp only [Act.put, List.setIfInBounds_toArray, List.set_cons_zero, List.set_cons_succ])
    refine' wpAnyH_take (i := 4) (v := ?v4x5) ?hi4x5 ?hs4x5 ?hf4x5 ?hr4x5 ?hQ4x5 ?hy4x5 ?hS4x5 ?rest4x5
    case hi4x5 => (simp only [List.getElem?_toArray, List.getElem?_cons_succ, List.getElem?_cons_zero]; try rfl)
    case hs4x5 => kernel_rfl
    case hf4x5 => kernel_rfl
    case hr4x5 => kernel_rfl
    case hQ4x5 => exact fun _ _ _ h => h
    case hy4x5 => first | exact Or.inl ⟨by rfl, by (intro w hSw; (try dsimp only at hSw); go_simp; try rfl)⟩ | exact Or.inr ⟨by rfl, rfl⟩
    case hS4x5 => assumption
    (try simp only [Act.put, List.setIfInBounds_toArray, List.set_cons_zero, List.set_cons_succ])
    refine' wpAnyH_take (i := 5) (v := ?v5x6) ?hi5x6 ?hs5x6 ?hf5x6 ?hr5x6 ?hQ5x6 ?hy5x6 ?hS5x6 ?rest5x6
    case hi5x6 => (simp only [List.getElem?_toArray, List.getElem?_cons_succ, List.getElem?_cons_zero]; try rfl)
    case hs5x6 => kernel_rfl
    case hf5x6 => kernel_rfl
    case hr5x6 => kernel_rfl
    case hQ5x6 => exact fun _ _ _ h => h
    case hy5x6 => first | exact Or.inl ⟨by rfl, by (intro w hSw; (try dsimp only at hSw); go_simp; try rfl)⟩ | exact Or.inr ⟨by rfl, rfl⟩
    case hS5x6 => assumption
    (try simp only [Act.put, List.setIfInBounds_toArray, List.set_cons_zero, List.set_cons_succ])
    refine' wpAnyH_take (i := 6) (v := ?v6x7) ?hi6x7 ?hs6x7 ?hf6x7 ?hr6x7 ?hQ6x7 ?hy6x7 ?hS6x7 ?rest6x7
    case hi6x7 => (simp only [List.getElem?_toArray, List.getElem?_cons_succ, List.getElem?_cons_zero]; try rfl)
    case hs6x7 => kernel_rfl
    case hf6x7 => kernel_rfl
    case hr6x7 => kernel_rfl
    case hQ6x7 => exact fun _ _ _ h => h
    case hy6x7 => first | exact Or.inl ⟨by rfl, by (intro w hSw; (try dsimp only at hSw); go_simp; try rfl)⟩ | exact Or.inr ⟨by rfl, rfl⟩
    case hS6x7 => assumption
    (try simp only [Act.put, List.setIfInBounds_toArray, List.set_cons_zero, List.set_cons_succ])
    refine' wpAnyH_take (i := 8) (v := ?v8x8) ?hi8x8 ?hs8x8 ?hf8x8 ?hr8x8 ?hQ8x8 ?hy8x8 ?hS8x8 ?rest8x8
    case hi8x8 => (simp only [List.getElem?_toArray, List.getElem?_cons_succ, List.getElem?_cons_zero]; try rfl)
    case hs8x8 => kernel_rfl
    case hf8x8 => kernel_rfl
    case hr8x8 => kernel_rfl
    case hQ8x8 => exact fun _ _ _ h => h
    case hy8x8 => first | exact Or.inl ⟨by rfl, by (intro w hSw; (try dsimp only at hSw); go_simp; try rfl)⟩ | exact Or.inr ⟨by rfl, rfl⟩
    case hS8x8 => assumption
    (try simp only [Act.put, List.setIfInBounds_toArray, List.set_cons_zero, List.set_cons_succ])
    refine wpAnyH_ready (rs := [7]) (by kernel_rfl) (by simp) ?_
    refine' (AllReadyH.cons (i := 7) ?ho7x9 (fun K hK => ?st7x9) AllReadyH.nil)
    case ho7x9 => (simp only [List.getElem?_toArray, List.getElem?_cons_succ, List.getElem?_cons_zero]; try rfl)
    case st7x9 =>
      go_simp
      refine (fresh_any _ ⟨de, dl⟩ wB.drew.drew ⟨_, rfl, hdB.out⟩ (by have := hlH.out; show dl.length ≤ _; omega)).mono ?_
      rintro e' w4 ⟨s4, rfl, ho4, hb4'⟩
      have hb4 : Below wB.heap.size wB w4 := chainB (Below.refl _ _).drew.drew hb4' (Nat.le_refl _)
      clear hb4'
      obtain ⟨SA, sn, sc, rfl, hsn, _, _⟩ := ho4.words.form
      simp only at hsn ho4
      subst hsn
      have hc4 := Lib.hid (hcB.out.below hb4); have ho4H := Lib.hid ho4; have hb4H := Lib.hid hb4
      refine hK.out _ _ ?_ (fun hHeld => ?_)
      · exact ⟨(hb4.cell (p := ⟨cb, 0, none⟩) kl_).trans k0_, (hb4.cell (p := ⟨w.heap.size, 0, none⟩) xl_).trans x0_, (hb4.cell (p := ⟨w.heap.size, 1, none⟩) xl_).trans x1_⟩
      clear hK K
      (try simp only [Act.put, List.setIfInBounds_toArray, List.set_cons_zero, List.set_cons_succ])
      refine' wpAnyH_take (i := 9) (v := ?v9x10) ?hi9x10 ?hs9x10 ?hf9x10 ?hr9x10 ?hQ9x10 ?hy9x10 ?hS9x10 ?rest9x10
      case hi9x10 => (simp only [List.getElem?_toArray, List.getElem?_cons_succ, List.getElem?_cons_zero]; try rfl)
      case hs9x10 => kernel_rfl
      case hf9x10 => kernel_rfl
      case hr9x10 => kernel_rfl
      case hQ9x10 => exact fun _ _ _ h => h
      case hy9x10 => first | exact Or.inl ⟨by rfl, by (intro w hSw; (try dsimp only at hSw); go_simp; try rfl)⟩ | exact Or.inr ⟨by rfl, rfl⟩
      case hS9x10 => assumption
      (try simp only [Act.put, List.setIfInBounds_toArray, List.set_cons_zero, List.set_cons_succ])
      refine wpAnyH_ready (rs := [10]) (by kernel_rfl) (by simp) ?_
      refine' (AllReadyH.cons (i := 10) ?ho10x11 (fun K hK => ?st10x11) AllReadyH.nil)
      case ho10x11 => (simp only [List.getElem?_toArray, List.getElem?_cons_succ, List.getElem?_cons_zero]; try rfl)
      case st10x11 =>
        obtain ⟨hq1, D, hq2, hq3⟩ := hc4.out
        refine wp_mapUpdate _ _ _ _ 102 rfl 9 59 lawS Tryz.underlying102 Rv mb N D (by rfl) hq2 (by unfold maxLen; have := hNH.out; omega) (.string ⟨(printT ⟨de, dl⟩).toArray⟩) (valH ⟨SA, sc, ⟨de, dl⟩⟩ s) (keyT ⟨de, dl⟩) (by rfl) (by rfl) (keyOf_t hwH.out hlH.out) (.held (valH ⟨SA, sc, ⟨de, dl⟩⟩ s)) [] rfl ?_
        intro w5 hm5 hg5
        obtain ⟨es, cl, hes, _⟩ := (show w4.ownsMap Tryz.prog 9 Rv mb N D from hq2)
        have hkeep : ∀ (v : Value) (l : List Int), OwnW 0 v l w4 → OwnW 0 v l w5 := fun v l h => h.mapped hes hg5
        have hbx5 : HasC w5 cb [.map (some mb)] 104 := hq1.grownO hg5 (fun h => hc4.out.ne (Option.some.inj h))
        have hfin := Lib.hid (show CtI (N + 1) cb mb (addM M (⟨de, dl⟩, z)) w5 from ⟨hbx5, _, hm5, HeldM.put (d := ⟨SA, sc, ⟨de, dl⟩⟩) hq2.isMap hq3 hkeep hwH.out hlH.out (hkeep _ _ (ho4H.out.low (Nat.zero_le _))) hsH.out hs0H.out⟩)
        have hgf := Lib.hid (show w.grownBy w5 (some mb) from grown_trans (grown_trans hgB.out (grownD_below hb4H.out _)) hg5)
        have hne1 : w.heap.size ≠ mb := by have := hmbH.out; omega
        refine hK.out _ _ ?_ (fun hHeld => ?_)
        · exact ⟨(hbx5.cell 0 rfl), (cell_kept hg5 hne1 ((hb4H.out.cell (p := ⟨w.heap.size, 0, none⟩) xl_).trans x0_) (Nat.lt_of_lt_of_le xl_ hb4H.out.size)), (cell_kept hg5 hne1 ((hb4H.out.cell (p := ⟨w.heap.size, 1, none⟩) xl_).trans x1_) (Nat.lt_of_lt_of_le xl_ hb4H.out.size))⟩
        clear hK K
        (try simp only [Act.put, List.setIfInBounds_toArray, List.set_cons_zero, List.set_cons_succ])
        refine wpAnyH_done (by kernel_rfl) ?_ _
        refine NoPanic.normal ?_
        go_wp2_with fail
        (try simp only [Exit.inBlock, Exit.then])
        refine bodyPost_end (results_none rfl _ _ _) rfl ⟨rfl, ?_, ?_⟩
        · exact hfin.out
        · exact hgf.out
end Go.Proofs.YtdfhchpimpbgfaaGreatDoor
