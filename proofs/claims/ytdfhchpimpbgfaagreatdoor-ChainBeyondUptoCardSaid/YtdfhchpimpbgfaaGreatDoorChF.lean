/-
  A time in new memory, at this program. Condition: no more than 2^40 counters.
-/
import Derived.Test.YtdfhchpimpbgfaaGreatDoorChB
import Derived.Test.YtdfhchpimpbgfaaGreatDoorStCat
import Derived.Test.YtdfhchpimpbgfaaGreatDoorChK0
import Derived.Deep.RegionHeld3
import Derived.LoopTactic
import Derived.BigQuiet
set_option linter.unusedVariables false
set_option linter.unusedSimpArgs false
namespace Go.Proofs.YtdfhchpimpbgfaaGreatDoor
open Go.RowKit Go.Lib

set_option maxHeartbeats 2000000 in
set_option maxRecDepth 1000000 in
theorem fresh_any (v : Value) (t : Tm) (w : World) (h : TmV w v t) (hs : t.l.length ≤ 1099511627776) :
    Calls Tryz.prog 43 #[v] w fun e w' => ∃ s, e = .returned (.agg #[.int .u64 t.e, s]) ∧ OwnW w.heap.size s t.l w' ∧ Below w.heap.size w w' := by
  obtain ⟨e, l⟩ := t
  obtain ⟨s, rfl, h⟩ := h
  simp only at h hs ⊢
  obtain ⟨A, n, c, rfl, hn, hnc, hc⟩ := h.form
  obtain ⟨W0, hW0, hwW, hA, hR, hzz⟩ := boxes2 w [.int .u64 e, .slice A n c] [.int .u64 0, .slice none 0 0] 26 26
  have hlH := Lib.hid (h.below hwW); have hsz := Lib.hid hs
  have hAH := Lib.hid hA; have hRH := Lib.hid hR; have hwWH := Lib.hid hwW; have hnH := Lib.hid hn
  have a0_ := hA.cell 0 rfl; have a1_ := hA.cell 1 rfl
  clear h hA hR hwW hn hs
  go_enter Tryz.func43, Tryz.ntmps43
  go_wp2_with fail
  refine wp_region_noPanic ?_
  refine wp_region_held_drew (S := (fun w' => w'.cell? ⟨w.heap.size, 0, none⟩ = some (.int .u64 e) ∧ w'.cell? ⟨w.heap.size, 1, none⟩ = some (.slice A n c))) (by kernel_rfl) (⟨a0_, a1_⟩) (fun hHeld => ?_)
  refine' wpAnyH_take (i := 0) (v := ?v0x1) ?hi0x1 ?hs0x1 ?hf0x1 ?hr0x1 ?hQ0x1 ?hy0x1 ?hS0x1 ?rest0x1
  case hi0x1 => (simp only [List.getElem?_toArray, List.getElem?_cons_succ, List.getElem?_cons_zero]; try rfl)
  case hs0x1 => kernel_rfl
  case hf0x1 => kernel_rfl
  case hr0x1 => kernel_rfl
  case hQ0x1 => exact fun _ _ _ h => h
  case hy0x1 => first | exact Or.inl ⟨by rfl, by (intro w hSw; (try dsimp only at hSw); go_simp; try rfl)⟩ | exact Or.inr ⟨by rfl, rfl⟩
  case hS0x1 => assumption
  (try simp only [Act.put, List.setIfInBounds_toArray, List.set_cons_zero, List.set_cons_succ])
  refine' wpAnyH_take (i := 1) (v := ?v1x2) ?hi1x2 ?hs1x2 ?hf1x2 ?hr1x2 ?hQ1x2 ?hy1x2 ?hS1x2 ?rest1x2
  case hi1x2 => (simp only [List.getElem?_toArray, List.getElem?_cons_succ, List.getElem?_cons_zero]; try rfl)
  case hs1x2 => kernel_rfl
  case hf1x2 => kernel_rfl
  case hr1x2 => kernel_rfl
  case hQ1x2 => exact fun _ _ _ h => h
  case hy1x2 => first | exact Or.inl ⟨by rfl, by (intro w hSw; (try dsimp only at hSw); go_simp; try rfl)⟩ | exact Or.inr ⟨by rfl, rfl⟩
  case hS1x2 => assumption
  (try simp only [Act.put, List.setIfInBounds_toArray, List.set_cons_zero, List.set_cons_succ])
  refine' wpAnyH_take (i := 2) (v := ?v2x3) ?hi2x3 ?hs2x3 ?hf2x3 ?hr2x3 ?hQ2x3 ?hy2x3 ?hS2x3 ?rest2x3
  case hi2x3 => (simp only [List.getElem?_toArray, List.getElem?_cons_succ, List.getElem?_cons_zero]; try rfl)
  case hs2x3 => kernel_rfl
  case hf2x3 => kernel_rfl
  case hr2x3 => kernel_rfl
  case hQ2x3 => exact fun _ _ _ h => h
  case hy2x3 => first | exact Or.inl ⟨by rfl, by (intro w hSw; (try dsimp only at hSw); go_simp; try rfl)⟩ | exact Or.inr ⟨by rfl, rfl⟩
  case hS2x3 => assumption
  (try simp only [Act.put, List.setIfInBounds_toArray, List.set_cons_zero, List.set_cons_succ])
  refine' wpAnyH_take (i := 3) (v := ?v3x4) ?hi3x4 ?hs3x4 ?hf3x4 ?hr3x4 ?hQ3x4 ?hy3x4 ?hS3x4 ?rest3x4
  case hi3x4 => (simp only [List.getElem?_toArray, List.getElem?_cons_succ, List.getElem?_cons_zero]; try rfl)
  case hs3x4 => kernel_rfl
  case hf3x4 => kernel_rfl
  case hr3x4 => kernel_rfl
  case hQ3x4 => exact fun _ _ _ h => h
  case hy3x4 => first | exact Or.inl ⟨by rfl, by (intro w hSw; (try dsimp only at hSw); go_simp; try rfl)⟩ | exact Or.inr ⟨by rfl, rfl⟩
  case hS3x4 => assumption
  (try simp only [Act.put, List.setIfInBounds_toArray, List.set_cons_zero, List.set_cons_succ])
  refine wpAnyH_ready (rs := [4]) (by kernel_rfl) (by simp) ?_
  refine' (AllReadyH.cons (i := 4) ?ho4x5 (fun K hK => ?st4x5) AllReadyH.nil)
  case ho4x5 => (simp only [List.getElem?_toArray, List.getElem?_cons_succ, List.getElem?_cons_zero]; try rfl)
  case st4x5 =>
    go_simp
    refine hK.out _ _ ?_ (fun hHeld => ?_)
    · exact ⟨(hAH.out.below (by go_grown)).cell 0 rfl, (hAH.out.below (by go_grown)).cell 1 rfl⟩
    clear hK K
    (try simp only [Act.put, List.setIfInBounds_toArray, List.set_cons_zero, List.set_cons_succ])
    refine wpAnyH_ready (rs := [5]) (by kernel_rfl) (by simp) ?_
    refine' (AllReadyH.cons (i := 5) ?ho5x6 (fun K hK => ?st5x6) AllReadyH.nil)
    case ho5x6 => (simp only [List.getElem?_toArray, List.getElem?_cons_succ, List.getElem?_cons_zero]; try rfl)
    case st5x6 =>
      go_simp
      refine (concat1_any _ _ l _ (SlsV.one_at (w := W0.drew) (hlH.out.below (Below.refl _ _).drew) _ rfl) hsz.out).mono ?_
      rintro e' w2 ⟨v2, rfl, ho2, hb2⟩
      have hbF := Lib.hid (chainB (B := W0.heap.size) (a := W0) (by go_grown) hb2 (by first | omega | (simp; done) | (simp; omega)))
      have hoF := Lib.hid (OwnW.low (B' := w.heap.size) ho2 (by have := hwWH.out.size; first | omega | (simp; omega)))
      obtain ⟨V2, n2, c2, rfl, _, _, _⟩ := ho2.words.form
      clear ho2 hb2
      refine hK.out _ _ ?_ (fun hHeld => ?_)
      · exact ⟨(hAH.out.below hbF.out).cell 0 rfl, (hAH.out.below hbF.out).cell 1 rfl⟩
      clear hK K
      (try simp only [Act.put, List.setIfInBounds_toArray, List.set_cons_zero, List.set_cons_succ])
      have r0_ := (hRH.out.below hbF.out).cell 0 rfl; have r1_ := (hRH.out.below hbF.out).cell 1 rfl; have rf0_ := (hRH.out.below hbF.out).free 0; have rf1_ := (hRH.out.below hbF.out).free 1; have rl_ := (hRH.out.below hbF.out).lt
      refine' wpAnyH_take (i := 6) (v := ?v6x7) ?hi6x7 ?hs6x7 ?hf6x7 ?hr6x7 ?hQ6x7 ?hy6x7 ?hS6x7 ?rest6x7
      case hi6x7 => (simp only [List.getElem?_toArray, List.getElem?_cons_succ, List.getElem?_cons_zero]; try rfl)
      case hs6x7 => kernel_rfl
      case hf6x7 => kernel_rfl
      case hr6x7 => kernel_rfl
      case hQ6x7 => exact fun _ _ _ h => h
      case hy6x7 => first | exact Or.inl ⟨by rfl, by (intro w hSw; (try dsimp only at hSw); go_simp; try rfl)⟩ | exact Or.inr ⟨by rfl, rfl⟩
      case hS6x7 => assumption
      (try simp only [Act.put, List.setIfInBounds_toArray, List.set_cons_zero, List.set_cons_succ])
      refine wpAnyH_ready (rs := [7]) (by kernel_rfl) (by simp) ?_
      refine' (AllReadyH.cons (i := 7) ?ho7x8 (fun K hK => ?st7x8) AllReadyH.nil)
      case ho7x8 => (simp only [List.getElem?_toArray, List.getElem?_cons_succ, List.getElem?_cons_zero]; try rfl)
      case st7x8 =>
        go_simp
        refine hK.out _ _ ?_ (fun hHeld => ?_)
        · exact ⟨by first | (go_simp; done) | (go_simp; exact (hAH.out.below hbF.out).cell 0 rfl), by first | (go_simp; done) | (go_simp; exact (hAH.out.below hbF.out).cell 1 rfl)⟩
        clear hK K
        (try simp only [Act.put, List.setIfInBounds_toArray, List.set_cons_zero, List.set_cons_succ])
        refine wpAnyH_done (by kernel_rfl) ?_ _
        refine NoPanic.normal ?_
        have q1 := (hRH.out.below hbF.out).set 0 (.int .u64 e); have q2 := q1.set 1 (.slice V2 n2 c2)
        have q0_ := q1.cell 0 rfl; have q1_ := q2.cell 0 rfl; have q2_ := q2.cell 1 rfl
        have q1H := Lib.hid q1
        clear q1 q2
        go_wp2_with fail
        refine bodyPost_ret (v := .agg #[.int .u64 e, .slice V2 n2 c2]) (by simp [results, Tryz.results43, go_sem, q0_, q1_, q2_]) rfl ?_
        exact ⟨_, rfl, (hoF.out.far (hRH.out.below hbF.out) (by decide) _ _).far q1H.out (by decide) _ _, ((hwWH.out.trans (hbF.out.mono hwWH.out.size)).setCell (by simp) _).setCell (by simp) _⟩
end Go.Proofs.YtdfhchpimpbgfaaGreatDoor
