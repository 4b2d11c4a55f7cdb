/-
  What stamp.Then answers, at this program: of any two ways. Condition: neither enters more than 2^40 counters; numbers of their kinds.
-/
import Derived.Test.YtkpjbmbdndkalaaDoorStTh0
set_option linter.unusedVariables false
set_option linter.unusedSimpArgs false
namespace Go.Proofs.YtkpjbmbdndkalaaDoor
open Go.RowKit Go.Lib

set_option maxHeartbeats 2000000 in
set_option maxRecDepth 1000000 in
theorem then_gt_any (vp vq : Value) (p q : Pt) (w : World) (hp : PtV w vp p) (hq : PtV w vq q) (wp : PtW p) (wq : PtW q) (hsp : p.en.length ≤ 1099511627776) (hsq : q.en.length ≤ 1099511627776) (h0 : 0 ≤ q.lv) (j : Nat) (h : (p.en.length : Int) - q.lv = (j : Int) + 1) :
    Calls Tryd.prog 29 #[vp, vq] w (OutP (thenP p q) (thenE p q) w) := by
  obtain ⟨c, hc⟩ : ∃ c, thenE p q = c := ⟨_, rfl⟩
  obtain ⟨T, hT⟩ : ∃ c, thenP p q = c := ⟨_, rfl⟩
  rw [hc, hT]
  have hcH := Lib.hid hc; have hTH := Lib.hid hT
  clear hc hT
  obtain ⟨pl, pa, en⟩ := p
  obtain ⟨ql, qa, em⟩ := q
  obtain ⟨sp, rfl, hpE⟩ := hp
  obtain ⟨sq, rfl, hqE⟩ := hq
  obtain ⟨⟨pl0, pl1⟩, ⟨pa0, pa1⟩, we⟩ := wp
  obtain ⟨⟨ql0, ql1⟩, ⟨qa0, qa1⟩, _⟩ := wq
  simp only at hpE hqE hsp hsq pl0 pl1 pa0 pa1 we ql0 ql1 qa0 qa1 h0 h ⊢
  obtain ⟨A, n, ca, rfl, hn, hnc, hca⟩ := hpE.form
  obtain ⟨B, m, cb, rfl, hm, hmc, hcb⟩ := hqE.form
  obtain ⟨W0, hW0, hwW, hA, hB, hR, hzz⟩ := boxesP w [.int .i64 pl, .int .u32 pa, .slice A n ca] [.int .i64 ql, .int .u32 qa, .slice B m cb] [.int .i64 0, .int .u32 0, .slice none 0 0] 62 62 62
  have hpH := Lib.hid (hpE.below hwW); have hqH := Lib.hid (hqE.below hwW)
  have hAH := Lib.hid hA; have hBH := Lib.hid hB; have hRH := Lib.hid hR; have hwWH := Lib.hid hwW
  have hnH := Lib.hid hn; have hmH := Lib.hid hm; have hspH := Lib.hid hsp; have hsqH := Lib.hid hsq; have weH := Lib.hid we
  have hn40 : n ≤ 1099511627776 := by omega
  have hl0 : w.heap.size < W0.heap.size := by omega
  have hl1 : w.heap.size + 1 < W0.heap.size := by omega
  have a0_ := hA.cell 0 rfl; have a1_ := hA.cell 1 rfl; have a2_ := hA.cell 2 rfl; have b0_ := hB.cell 0 rfl; have b1_ := hB.cell 1 rfl; have b2_ := hB.cell 2 rfl; have r0_ := hR.cell 0 rfl; have r1_ := hR.cell 1 rfl; have r2_ := hR.cell 2 rfl; have rf0_ := hR.free 0; have rf1_ := hR.free 1; have rf2_ := hR.free 2
  clear hpE hqE hA hB hR hwW hn hm hsp hsq we
  obtain ⟨x, hx⟩ : ∃ x, en[j]? = some x := ⟨_, List.getElem?_eq_getElem (by omega)⟩
  obtain ⟨q1, q2⟩ := then_gt (p := ⟨pl, pa, en⟩) (q := ⟨ql, qa, em⟩) h0 h hx
  have q1H := Lib.hid q1; have q2H := Lib.hid q2
  simp only at q1H q2H
  obtain ⟨k, hkj⟩ : ∃ k, k = j + 1 := ⟨_, rfl⟩
  have hkI : (n : Int) - ql = (k : Int) := by have := hnH.out; omega
  have hkp : 0 < k := by omega
  have hkn : k ≤ n := by omega
  have hkc : k ≤ ca := by omega
  have hjH := Lib.hid hkj; have hxH := Lib.hid hx
  clear q1 q2 h hkj hx
  have hkW : Hid (WordsV W0 (.slice A k ca) (en.take k)) := Lib.hid (hpH.out.take (by have := hnH.out; omega))
  obtain ⟨ft, hft⟩ : ∃ ft, decide (x + qa ≤ 4294967295) = ft := ⟨_, rfl⟩
  obtain ⟨s, hs⟩ : ∃ s, IntKind.u32.wrap (x + qa) = s := ⟨_, rfl⟩
  have hftH := Lib.hid hft; have hsH := Lib.hid hs
  clear hft hs
  go_enter Tryd.func29, Tryd.ntmps29
  go_wp2_with fail
  obtain ⟨W1, hW1⟩ : ∃ W1, W0.alloc (.cells #[.int .i64 0, .int .u32 0, .slice none 0 0] 62) = W1 := ⟨_, rfl⟩
  rw [hW1]
  have hb : Below W0.heap.size W0 W1 := by rw [← hW1]; exact (Below.refl _ _).alloc (Nat.le_refl _) _
  have hOH := Lib.hid (show HasC W1 W0.heap.size [.int .i64 0, .int .u32 0, .slice none 0 0] 62 by rw [← hW1]; exact HasC.new W0 [.int .i64 0, .int .u32 0, .slice none 0 0] 62)
  have hs1 := Lib.hid (show W0.heap.size < W1.heap.size by rw [← hW1]; simp)
  have hpH1 := Lib.hid (hpH.out.below hb); have hqH1 := Lib.hid (hqH.out.below hb)
  clear a0_ a1_ a2_ b0_ b1_ b2_ r0_ r1_ r2_ rf0_ rf1_ rf2_ hW1
  have a0_ := (hAH.out.below hb).cell 0 rfl; have a1_ := (hAH.out.below hb).cell 1 rfl; have a2_ := (hAH.out.below hb).cell 2 rfl; have b0_ := (hBH.out.below hb).cell 0 rfl; have b1_ := (hBH.out.below hb).cell 1 rfl; have b2_ := (hBH.out.below hb).cell 2 rfl
  refine wp_region_noPanic ?_
  refine wp_region_held_drew (S := (fun w' => w'.cell? ⟨w.heap.size, 0, none⟩ = some (.int .i64 pl) ∧ w'.cell? ⟨w.heap.size, 1, none⟩ = some (.int .u32 pa) ∧ w'.cell? ⟨w.heap.size, 2, none⟩ = some (.slice A n ca) ∧ w'.cell? ⟨w.heap.size + 1, 1, none⟩ = some (.int .u32 qa) ∧ w'.cell? ⟨w.heap.size + 1, 2, none⟩ = some (.slice B m cb))) (by kernel_rfl) (⟨a0_, a1_, a2_, b1_, b2_⟩) (fun hHeld => ?_)
  refine' wpAnyH_take (i := 0) (v := .pointer (some ⟨w.heap.size, 0, none⟩)) ?hi0x21 ?hs0x21 ?hf0x21 ?hr0x21 ?hQ0x21 ?hy0x21 ?hS0x21 ?rest0x21
  case hi0x21 => (simp only [List.getElem?_toArray, List.getElem?_cons_succ, List.getElem?_cons_zero]; try rfl)
  case hs0x21 => kernel_rfl
  case hf0x21 => kernel_rfl
  case hr0x21 => kernel_rfl
  case hQ0x21 => exact fun _ _ _ h => h
  case hy0x21 => exact Or.inl ⟨by rfl, by (intro w hSw; (try dsimp only at hSw); go_simp)⟩
  case hS0x21 => assumption
  (try simp only [Act.put, List.setIfInBounds_toArray, List.set_cons_zero, List.set_cons_succ])
  refine' wpAnyH_take (i := 1) (v := .int .i64 pl) ?hi1x22 ?hs1x22 ?hf1x22 ?hr1x22 ?hQ1x22 ?hy1x22 ?hS1x22 ?rest1x22
  case hi1x22 => (simp only [List.getElem?_toArray, List.getElem?_cons_succ, List.getElem?_cons_zero]; try rfl)
  case hs1x22 => kernel_rfl
  case hf1x22 => kernel_rfl
  case hr1x22 => kernel_rfl
  case hQ1x22 => exact fun _ _ _ h => h
  case hy1x22 => exact Or.inl ⟨by rfl, by (intro w hSw; (try dsimp only at hSw); go_simp)⟩
  case hS1x22 => assumption
  (try simp only [Act.put, List.setIfInBounds_toArray, List.set_cons_zero, List.set_cons_succ])
  refine' wpAnyH_take (i := 2) (v := .pointer (some ⟨w.heap.size, 1, none⟩)) ?hi2x23 ?hs2x23 ?hf2x23 ?hr2x23 ?hQ2x23 ?hy2x23 ?hS2x23 ?rest2x23
  case hi2x23 => (simp only [List.getElem?_toArray, List.getElem?_cons_succ, List.getElem?_cons_zero]; try rfl)
  case hs2x23 => kernel_rfl
  case hf2x23 => kernel_rfl
  case hr2x23 => kernel_rfl
  case hQ2x23 => exact fun _ _ _ h => h
  case hy2x23 => exact Or.inl ⟨by rfl, by (intro w hSw; (try dsimp only at hSw); go_simp)⟩
  case hS2x23 => assumption
  (try simp only [Act.put, List.setIfInBounds_toArray, List.set_cons_zero, List.set_cons_succ])
  refine' wpAnyH_take (i := 3) (v := .int .u32 pa) ?hi3x24 ?hs3x24 ?hf3x24 ?hr3x24 ?hQ3x24 ?hy3x24 ?hS3x24 ?rest3x24
  case hi3x24 => (simp only [List.getElem?_toArray, List.getElem?_cons_succ, List.getElem?_cons_zero]; try rfl)
  case hs3x24 => kernel_rfl
  case hf3x24 => kernel_rfl
  case hr3x24 => kernel_rfl
  case hQ3x24 => exact fun _ _ _ h => h
  case hy3x24 => exact Or.inl ⟨by rfl, by (intro w hSw; (try dsimp only at hSw); go_simp)⟩
  case hS3x24 => assumption
  (try simp only [Act.put, List.setIfInBounds_toArray, List.set_cons_zero, List.set_cons_succ])
  refine' wpAnyH_take (i := 4) (v := .pointer (some ⟨w.heap.size, 2, none⟩)) ?hi4x25 ?hs4x25 ?hf4x25 ?hr4x25 ?hQ4x25 ?hy4x25 ?hS4x25 ?rest4x25
  case hi4x25 => (simp only [List.getElem?_toArray, List.getElem?_cons_succ, List.getElem?_cons_zero]; try rfl)
  case hs4x25 => kernel_rfl
  case hf4x25 => kernel_rfl
  case hr4x25 => kernel_rfl
  case hQ4x25 => exact fun _ _ _ h => h
  case hy4x25 => exact Or.inl ⟨by rfl, by (intro w hSw; (try dsimp only at hSw); go_simp)⟩
  case hS4x25 => assumption
  (try simp only [Act.put, List.setIfInBounds_toArray, List.set_cons_zero, List.set_cons_succ])
  refine' wpAnyH_take (i := 5) (v := .slice A n ca) ?hi5x26 ?hs5x26 ?hf5x26 ?hr5x26 ?hQ5x26 ?hy5x26 ?hS5x26 ?rest5x26
  case hi5x26 => (simp only [List.getElem?_toArray, List.getElem?_cons_succ, List.getElem?_cons_zero]; try rfl)
  case hs5x26 => kernel_rfl
  case hf5x26 => kernel_rfl
  case hr5x26 => kernel_rfl
  case hQ5x26 => exact fun _ _ _ h => h
  case hy5x26 => exact Or.inl ⟨by rfl, by (intro w hSw; (try dsimp only at hSw); go_simp)⟩
  case hS5x26 => assumption
  (try simp only [Act.put, List.setIfInBounds_toArray, List.set_cons_zero, List.set_cons_succ])
  refine' wpAnyH_take (i := 6) (v := .int .i64 (k : Int)) ?hi6x27 ?hs6x27 ?hf6x27 ?hr6x27 ?hQ6x27 ?hy6x27 ?hS6x27 ?rest6x27
  case hi6x27 => (simp only [List.getElem?_toArray, List.getElem?_cons_succ, List.getElem?_cons_zero]; try rfl)
  case hs6x27 => kernel_rfl
  case hf6x27 => kernel_rfl
  case hr6x27 => kernel_rfl
  case hQ6x27 => exact fun _ _ _ h => h
  case hy6x27 => exact Or.inl ⟨by rfl, by (intro w hSw; (try dsimp only at hSw); go_simp)⟩
  case hS6x27 => assumption
  (try simp only [Act.put, List.setIfInBounds_toArray, List.set_cons_zero, List.set_cons_succ])
  refine' wpAnyH_take (i := 7) (v := .slice A k ca) ?hi7x28 ?hs7x28 ?hf7x28 ?hr7x28 ?hQ7x28 ?hy7x28 ?hS7x28 ?rest7x28
  case hi7x28 => (simp only [List.getElem?_toArray, List.getElem?_cons_succ, List.getElem?_cons_zero]; try rfl)
  case hs7x28 => kernel_rfl
  case hf7x28 => kernel_rfl
  case hr7x28 => kernel_rfl
  case hQ7x28 => exact fun _ _ _ h => h
  case hy7x28 => exact Or.inl ⟨by rfl, by (intro w hSw; (try dsimp only at hSw); go_simp)⟩
  case hS7x28 => assumption
  (try simp only [Act.put, List.setIfInBounds_toArray, List.set_cons_zero, List.set_cons_succ])
  refine' wpAnyH_take (i := 8) (v := .pointer (some ⟨w.heap.size + 1, 2, none⟩)) ?hi8x29 ?hs8x29 ?hf8x29 ?hr8x29 ?hQ8x29 ?hy8x29 ?hS8x29 ?rest8x29
  case hi8x29 => (simp only [List.getElem?_toArray, List.getElem?_cons_succ, List.getElem?_cons_zero]; try rfl)
  case hs8x29 => kernel_rfl
  case hf8x29 => kernel_rfl
  case hr8x29 => kernel_rfl
  case hQ8x29 => exact fun _ _ _ h => h
  case hy8x29 => exact Or.inl ⟨by rfl, by (intro w hSw; (try dsimp only at hSw); go_simp)⟩
  case hS8x29 => assumption
  (try simp only [Act.put, List.setIfInBounds_toArray, List.set_cons_zero, List.set_cons_succ])
  refine' wpAnyH_take (i := 9) (v := .slice B m cb) ?hi9x30 ?hs9x30 ?hf9x30 ?hr9x30 ?hQ9x30 ?hy9x30 ?hS9x30 ?rest9x30
  case hi9x30 => (simp only [List.getElem?_toArray, List.getElem?_cons_succ, List.getElem?_cons_zero]; try rfl)
  case hs9x30 => kernel_rfl
  case hf9x30 => kernel_rfl
  case hr9x30 => kernel_rfl
  case hQ9x30 => exact fun _ _ _ h => h
  case hy9x30 => exact Or.inl ⟨by rfl, by (intro w hSw; (try dsimp only at hSw); go_simp)⟩
  case hS9x30 => assumption
  (try simp only [Act.put, List.setIfInBounds_toArray, List.set_cons_zero, List.set_cons_succ])
  refine wpAnyH_ready (rs := [10]) (by kernel_rfl) (by simp) ?_
  refine' (AllReadyH.cons (i := 10) ?ho10x31 (fun K hK => ?st10x31) AllReadyH.nil)
  case ho10x31 => (simp only [List.getElem?_toArray, List.getElem?_cons_succ, List.getElem?_cons_zero]; try rfl)
  case st10x31 =>
    go_simp
    refine hK.out _ _ ?_ (fun hHeld => ?_)
    · exact keepT hAH.out hBH.out (hb.drew.alloc (by have := hb.size; first | omega | (simp; done) | (simp; omega)) _)
    clear hK K
    (try simp only [Act.put, List.setIfInBounds_toArray, List.set_cons_zero, List.set_cons_succ])
    refine wpAnyH_ready (rs := [11]) (by kernel_rfl) (by simp) ?_
    refine' (AllReadyH.cons (i := 11) ?ho11x32 (fun K hK => ?st11x32) AllReadyH.nil)
    case ho11x32 => (simp only [List.getElem?_toArray, List.getElem?_cons_succ, List.getElem?_cons_zero]; try rfl)
    case st11x32 =>
      go_simp
      refine (concat2_any _ _ (en.take k) em _ (SlsV.two (hkW.out.below hb) hqH1.out _).drew (by have := hspH.out; rw [List.length_take]; omega) hsqH.out).mono ?_; rintro e_ w' ⟨v', rfl, ho', hb'⟩; obtain ⟨A', n', c', rfl, hn', hc1', hc2'⟩ := ho'.words.form; have hoH := Lib.hid (ho'.low (B' := W1.heap.size) (by have := hb.size; first | omega | (simp; done) | (simp; omega))); have hOH2 := Lib.hid (show HasC w' W0.heap.size [.int .i64 0, .int .u32 0, .slice none 0 0] 62 from ((hOH.out.alloc (.cells #[.slice A k ca, .slice B m cb] 23)).drew).below hb'); have hnn := Lib.hid hn'; replace hb := chainB (B := W0.heap.size) (a := W0) (hb.drew.alloc (by have := hb.size; first | omega | (simp; done) | (simp; omega)) _) hb' (by have := hb.size; first | omega | (simp; done) | (simp; omega)); clear ho' hn' hb'; have o0_ := hOH2.out.cell 0 rfl; have o1_ := hOH2.out.cell 1 rfl; have o2_ := hOH2.out.cell 2 rfl; have of0_ := hOH2.out.free 0; have of1_ := hOH2.out.free 1; have of2_ := hOH2.out.free 2; have ol_ := hOH2.out.lt
      refine hK.out _ _ ?_ (fun hHeld => ?_)
      · exact keepT hAH.out hBH.out hb
      clear hK K
      (try simp only [Act.put, List.setIfInBounds_toArray, List.set_cons_zero, List.set_cons_succ])
      refine' wpAnyH_take (i := 12) (v := .agg #[.int .i64 pl, .int .u32 pa, .slice A' n' c']) ?hi12x33 ?hs12x33 ?hf12x33 ?hr12x33 ?hQ12x33 ?hy12x33 ?hS12x33 ?rest12x33
      case hi12x33 => (simp only [List.getElem?_toArray, List.getElem?_cons_succ, List.getElem?_cons_zero]; try rfl)
      case hs12x33 => kernel_rfl
      case hf12x33 => kernel_rfl
      case hr12x33 => kernel_rfl
      case hQ12x33 => exact fun _ _ _ h => h
      case hy12x33 => exact Or.inl ⟨by rfl, by (intro w hSw; (try dsimp only at hSw); go_simp)⟩
      case hS12x33 => assumption
      (try simp only [Act.put, List.setIfInBounds_toArray, List.set_cons_zero, List.set_cons_succ])
      refine wpAnyH_ready (rs := [13]) (by kernel_rfl) (by simp) ?_
      refine' (AllReadyH.cons (i := 13) ?ho13x34 (fun K hK => ?st13x34) AllReadyH.nil)
      case ho13x34 => (simp only [List.getElem?_toArray, List.getElem?_cons_succ, List.getElem?_cons_zero]; try rfl)
      case st13x34 =>
        go_simp
        refine hK.out _ _ ?_ (fun hHeld => ?_)
        · exact keepT hAH.out hBH.out (((hb.setCell (by simp) _).setCell (by simp) _).setCell (by simp) _)
        clear hK K
        (try simp only [Act.put, List.setIfInBounds_toArray, List.set_cons_zero, List.set_cons_succ])
        refine wpAnyH_done (by kernel_rfl) ?_ _
        refine NoPanic.normal ?_
        clear a0_ a1_ a2_ b0_ b1_ b2_ hHeld
        obtain ⟨w2, hw2⟩ : ∃ w2, ((w'.setCell ⟨W0.heap.size, 0, none⟩ (.int .i64 pl)).setCell ⟨W0.heap.size, 1, none⟩ (.int .u32 pa)).setCell ⟨W0.heap.size, 2, none⟩ (.slice A' n' c') = w2 := ⟨_, rfl⟩
        have hO2 : HasC w2 W0.heap.size [.int .i64 pl, .int .u32 pa, .slice A' n' c'] 62 := by rw [← hw2]; exact ((hOH2.out.set 0 _).set 1 _).set 2 _
        have hown2 : OwnW W1.heap.size (.slice A' n' c') (en.take k ++ em) w2 := by rw [← hw2]; exact ((hoH.out.under hs1.out _).under hs1.out _).under hs1.out _
        have hb2 : Below W0.heap.size W0 w2 := by rw [← hw2]; exact ((hb.setCell (Nat.le_refl _) _).setCell (Nat.le_refl _) _).setCell (Nat.le_refl _) _
        rw [hw2]
        clear hOH hb hw2 o0_ o1_ o2_ of0_ of1_ of2_ ol_
        have hb := hb2; have hownH := Lib.hid hown2; have hOH := Lib.hid hO2; have hbW := Lib.hid (hwWH.out.trans (hb2.mono hwWH.out.size))
        clear hb2 hown2 hO2
        have a0_ := (hAH.out.below hb).cell 0 rfl; have a1_ := (hAH.out.below hb).cell 1 rfl; have a2_ := (hAH.out.below hb).cell 2 rfl; have b0_ := (hBH.out.below hb).cell 0 rfl; have b1_ := (hBH.out.below hb).cell 1 rfl; have b2_ := (hBH.out.below hb).cell 2 rfl
        have r0_ := (hRH.out.below hb).cell 0 rfl; have r1_ := (hRH.out.below hb).cell 1 rfl; have r2_ := (hRH.out.below hb).cell 2 rfl; have rf0_ := (hRH.out.below hb).free 0; have rf1_ := (hRH.out.below hb).free 1; have rf2_ := (hRH.out.below hb).free 2; have hz := Nat.lt_of_lt_of_le hzz hb.size
        have o0_ := hOH.out.cell 0 rfl; have o1_ := hOH.out.cell 1 rfl; have o2_ := hOH.out.cell 2 rfl; have of0_ := hOH.out.free 0; have of1_ := hOH.out.free 1; have of2_ := hOH.out.free 2
        have hlenH := Lib.hid (show n' = k + m by have := hnn.out; have := hnH.out; have := hmH.out; rw [List.length_append, List.length_take] at *; omega)
        obtain ⟨g, cap, he, hcap, hcap2, hgB, hgl, hcell, hfree, hoth⟩ := hownH.out.row (by have := hnn.out; have := hlenH.out; have := hjH.out; omega)
        rw [hnn.out] at he hcap
        obtain ⟨rfl, _, rfl⟩ := Value.slice.inj he
        have hog := hoth W0.heap.size _ _ hOH.out (by decide)
        have hjl : j < en.length := by have := hnH.out; have := hjH.out; omega
        obtain ⟨ad, rfl, hbb, bc_⟩ := (hpH.out.below hb).at hjl
        rw [show en[j] = x by have hx := hxH.out; rw [List.getElem?_eq_getElem hjl] at hx; exact Option.some.inj hx] at bc_
        obtain ⟨x0, x1⟩ := weH.out x (List.mem_of_getElem? hxH.out)
        have hadl : (ad.add j).block < W0.heap.size := by
          obtain ⟨ad2, e2, hb2, _⟩ := hpH.out.at hjl
          cases e2
          exact hb2
        have hadg : (ad.add j).block ≠ g := by have := hs1.out; omega
        have gf_ := hfree j
        have g_ : ∃ u, w2.cell? ⟨g, j, none⟩ = some u := by
          obtain ⟨u, hu⟩ : ∃ u, (en.take k ++ em)[j]? = some u := ⟨_, List.getElem?_eq_getElem (by have := hnn.out; have := hlenH.out; have := hjH.out; omega)⟩
          exact ⟨_, hcell j u hu⟩
        obtain ⟨u, g_⟩ := g_
        have hsetH := Lib.hid (show (en.take k ++ em).set j s = en.take j ++ s :: em by rw [hjH.out]; exact set_take hjl)
        have hjk : (k : Int) - 1 = (j : Int) := by have := hjH.out; omega
        have hjn : j < n' := by have := hlenH.out; have := hjH.out; omega
        have hjn2 : j < n := by have := hjH.out; omega
        have wk : IntKind.i64.wrap (j : Int) = (j : Int) := IntWalk.i64_in _ (by omega)
        clear hcell hfree he hjl
        go_wp2_with fail
        refine wp_region_noPanic ?_
        refine wp_region_held_drew (S := (fun w' => w'.cell? ⟨W0.heap.size, 2, none⟩ = some (.slice (some ⟨g, 0, none⟩) n' c') ∧ w'.cell? ⟨w.heap.size, 2, none⟩ = some (.slice (some ad) n ca) ∧ w'.cell? ⟨w.heap.size + 1, 1, none⟩ = some (.int .u32 qa) ∧ w'.cell? (ad.add j) = some (.int .u32 x))) (by kernel_rfl) (⟨o2_, a2_, b1_, bc_⟩) (fun hHeld => ?_)
        refine' wpAnyH_take (i := 0) (v := .pointer (some ⟨W0.heap.size, 2, none⟩)) ?hi0x35 ?hs0x35 ?hf0x35 ?hr0x35 ?hQ0x35 ?hy0x35 ?hS0x35 ?rest0x35
        case hi0x35 => (simp only [List.getElem?_toArray, List.getElem?_cons_succ, List.getElem?_cons_zero]; try rfl)
        case hs0x35 => kernel_rfl
        case hf0x35 => kernel_rfl
        case hr0x35 => kernel_rfl
        case hQ0x35 => exact fun _ _ _ h => h
        case hy0x35 => exact Or.inl ⟨by rfl, by (intro w hSw; (try dsimp only at hSw); go_simp)⟩
        case hS0x35 => assumption
        (try simp only [Act.put, List.setIfInBounds_toArray, List.set_cons_zero, List.set_cons_succ])
        refine' wpAnyH_take (i := 1) (v := .slice (some ⟨g, 0, none⟩) n' c') ?hi1x36 ?hs1x36 ?hf1x36 ?hr1x36 ?hQ1x36 ?hy1x36 ?hS1x36 ?rest1x36
        case hi1x36 => (simp only [List.getElem?_toArray, List.getElem?_cons_succ, List.getElem?_cons_zero]; try rfl)
        case hs1x36 => kernel_rfl
        case hf1x36 => kernel_rfl
        case hr1x36 => kernel_rfl
        case hQ1x36 => exact fun _ _ _ h => h
        case hy1x36 => exact Or.inl ⟨by rfl, by (intro w hSw; (try dsimp only at hSw); go_simp)⟩
        case hS1x36 => assumption
        (try simp only [Act.put, List.setIfInBounds_toArray, List.set_cons_zero, List.set_cons_succ])
        refine' wpAnyH_take (i := 2) (v := .int .i64 (k : Int)) ?hi2x37 ?hs2x37 ?hf2x37 ?hr2x37 ?hQ2x37 ?hy2x37 ?hS2x37 ?rest2x37
        case hi2x37 => (simp only [List.getElem?_toArray, List.getElem?_cons_succ, List.getElem?_cons_zero]; try rfl)
        case hs2x37 => kernel_rfl
        case hf2x37 => kernel_rfl
        case hr2x37 => kernel_rfl
        case hQ2x37 => exact fun _ _ _ h => h
        case hy2x37 => exact Or.inl ⟨by rfl, by (intro w hSw; (try dsimp only at hSw); go_simp)⟩
        case hS2x37 => assumption
        (try simp only [Act.put, List.setIfInBounds_toArray, List.set_cons_zero, List.set_cons_succ])
        refine' wpAnyH_take (i := 3) (v := .int .i64 (j : Int)) ?hi3x38 ?hs3x38 ?hf3x38 ?hr3x38 ?hQ3x38 ?hy3x38 ?hS3x38 ?rest3x38
        case hi3x38 => (simp only [List.getElem?_toArray, List.getElem?_cons_succ, List.getElem?_cons_zero]; try rfl)
        case hs3x38 => kernel_rfl
        case hf3x38 => kernel_rfl
        case hr3x38 => kernel_rfl
        case hQ3x38 => exact fun _ _ _ h => h
        case hy3x38 => exact Or.inl ⟨by rfl, by (intro w hSw; (try dsimp only at hSw); go_simp)⟩
        case hS3x38 => assumption
        (try simp only [Act.put, List.setIfInBounds_toArray, List.set_cons_zero, List.set_cons_succ])
        refine' wpAnyH_take (i := 4) (v := .pointer (some ⟨w.heap.size, 2, none⟩)) ?hi4x39 ?hs4x39 ?hf4x39 ?hr4x39 ?hQ4x39 ?hy4x39 ?hS4x39 ?rest4x39
        case hi4x39 => (simp only [List.getElem?_toArray, List.getElem?_cons_succ, List.getElem?_cons_zero]; try rfl)
        case hs4x39 => kernel_rfl
        case hf4x39 => kernel_rfl
        case hr4x39 => kernel_rfl
        case hQ4x39 => exact fun _ _ _ h => h
        case hy4x39 => exact Or.inl ⟨by rfl, by (intro w hSw; (try dsimp only at hSw); go_simp)⟩
        case hS4x39 => assumption
        (try simp only [Act.put, List.setIfInBounds_toArray, List.set_cons_zero, List.set_cons_succ])
        refine' wpAnyH_take (i := 5) (v := .slice (some ad) n ca) ?hi5x40 ?hs5x40 ?hf5x40 ?hr5x40 ?hQ5x40 ?hy5x40 ?hS5x40 ?rest5x40
        case hi5x40 => (simp only [List.getElem?_toArray, List.getElem?_cons_succ, List.getElem?_cons_zero]; try rfl)
        case hs5x40 => kernel_rfl
        case hf5x40 => kernel_rfl
        case hr5x40 => kernel_rfl
        case hQ5x40 => exact fun _ _ _ h => h
        case hy5x40 => exact Or.inl ⟨by rfl, by (intro w hSw; (try dsimp only at hSw); go_simp)⟩
        case hS5x40 => assumption
        (try simp only [Act.put, List.setIfInBounds_toArray, List.set_cons_zero, List.set_cons_succ])
        refine' wpAnyH_take (i := 6) (v := .int .i64 (k : Int)) ?hi6x41 ?hs6x41 ?hf6x41 ?hr6x41 ?hQ6x41 ?hy6x41 ?hS6x41 ?rest6x41
        case hi6x41 => (simp only [List.getElem?_toArray, List.getElem?_cons_succ, List.getElem?_cons_zero]; try rfl)
        case hs6x41 => kernel_rfl
        case hf6x41 => kernel_rfl
        case hr6x41 => kernel_rfl
        case hQ6x41 => exact fun _ _ _ h => h
        case hy6x41 => exact Or.inl ⟨by rfl, by (intro w hSw; (try dsimp only at hSw); go_simp)⟩
        case hS6x41 => assumption
        (try simp only [Act.put, List.setIfInBounds_toArray, List.set_cons_zero, List.set_cons_succ])
        refine' wpAnyH_take (i := 7) (v := .int .i64 (j : Int)) ?hi7x42 ?hs7x42 ?hf7x42 ?hr7x42 ?hQ7x42 ?hy7x42 ?hS7x42 ?rest7x42
        case hi7x42 => (simp only [List.getElem?_toArray, List.getElem?_cons_succ, List.getElem?_cons_zero]; try rfl)
        case hs7x42 => kernel_rfl
        case hf7x42 => kernel_rfl
        case hr7x42 => kernel_rfl
        case hQ7x42 => exact fun _ _ _ h => h
        case hy7x42 => exact Or.inl ⟨by rfl, by (intro w hSw; (try dsimp only at hSw); go_simp)⟩
        case hS7x42 => assumption
        (try simp only [Act.put, List.setIfInBounds_toArray, List.set_cons_zero, List.set_cons_succ])
        refine' wpAnyH_take (i := 8) (v := .pointer (some (ad.add j))) ?hi8x43 ?hs8x43 ?hf8x43 ?hr8x43 ?hQ8x43 ?hy8x43 ?hS8x43 ?rest8x43
        case hi8x43 => (simp only [List.getElem?_toArray, List.getElem?_cons_succ, List.getElem?_cons_zero]; try rfl)
        case hs8x43 => kernel_rfl
        case hf8x43 => kernel_rfl
        case hr8x43 => kernel_rfl
        case hQ8x43 => exact fun _ _ _ h => h
        case hy8x43 => exact Or.inl ⟨by rfl, by (intro w hSw; (try dsimp only at hSw); go_simp)⟩
        case hS8x43 => assumption
        (try simp only [Act.put, List.setIfInBounds_toArray, List.set_cons_zero, List.set_cons_succ])
        refine' wpAnyH_take (i := 9) (v := .int .u32 x) ?hi9x44 ?hs9x44 ?hf9x44 ?hr9x44 ?hQ9x44 ?hy9x44 ?hS9x44 ?rest9x44
        case hi9x44 => (simp only [List.getElem?_toArray, List.getElem?_cons_succ, List.getElem?_cons_zero]; try rfl)
        case hs9x44 => kernel_rfl
        case hf9x44 => kernel_rfl
        case hr9x44 => kernel_rfl
        case hQ9x44 => exact fun _ _ _ h => h
        case hy9x44 => exact Or.inl ⟨by rfl, by (intro w hSw; (try dsimp only at hSw); go_simp)⟩
        case hS9x44 => assumption
        (try simp only [Act.put, List.setIfInBounds_toArray, List.set_cons_zero, List.set_cons_succ])
        refine' wpAnyH_take (i := 10) (v := .pointer (some ⟨w.heap.size + 1, 1, none⟩)) ?hi10x45 ?hs10x45 ?hf10x45 ?hr10x45 ?hQ10x45 ?hy10x45 ?hS10x45 ?rest10x45
        case hi10x45 => (simp only [List.getElem?_toArray, List.getElem?_cons_succ, List.getElem?_cons_zero]; try rfl)
        case hs10x45 => kernel_rfl
        case hf10x45 => kernel_rfl
        case hr10x45 => kernel_rfl
        case hQ10x45 => exact fun _ _ _ h => h
        case hy10x45 => exact Or.inl ⟨by rfl, by (intro w hSw; (try dsimp only at hSw); go_simp)⟩
        case hS10x45 => assumption
        (try simp only [Act.put, List.setIfInBounds_toArray, List.set_cons_zero, List.set_cons_succ])
        refine' wpAnyH_take (i := 11) (v := .int .u32 qa) ?hi11x46 ?hs11x46 ?hf11x46 ?hr11x46 ?hQ11x46 ?hy11x46 ?hS11x46 ?rest11x46
        case hi11x46 => (simp only [List.getElem?_toArray, List.getElem?_cons_succ, List.getElem?_cons_zero]; try rfl)
        case hs11x46 => kernel_rfl
        case hf11x46 => kernel_rfl
        case hr11x46 => kernel_rfl
        case hQ11x46 => exact fun _ _ _ h => h
        case hy11x46 => exact Or.inl ⟨by rfl, by (intro w hSw; (try dsimp only at hSw); go_simp)⟩
        case hS11x46 => assumption
        (try simp only [Act.put, List.setIfInBounds_toArray, List.set_cons_zero, List.set_cons_succ])
        refine wpAnyH_ready (rs := [12]) (by kernel_rfl) (by simp) ?_
        refine' (AllReadyH.cons (i := 12) ?ho12x47 (fun K hK => ?st12x47) AllReadyH.nil)
        case ho12x47 => (simp only [List.getElem?_toArray, List.getElem?_cons_succ, List.getElem?_cons_zero]; try rfl)
        case st12x47 =>
          go_simp
          refine (grown32_any _ _ _ ⟨x0, x1⟩ ⟨qa0, qa1⟩).mono ?_; rw [hsH.out, hftH.out]; rintro e_ w' ⟨rfl, rfl⟩
          refine hK.out _ _ ?_ (fun hHeld => ?_)
          · exact ⟨o2_, a2_, b1_, bc_⟩
          clear hK K
          (try simp only [Act.put, List.setIfInBounds_toArray, List.set_cons_zero, List.set_cons_succ])
          refine' wpAnyH_take (i := 13) (v := .tuple #[.int .u32 s, .bool ft]) ?hi13x48 ?hs13x48 ?hf13x48 ?hr13x48 ?hQ13x48 ?hy13x48 ?hS13x48 ?rest13x48
          case hi13x48 => (simp only [List.getElem?_toArray, List.getElem?_cons_succ, List.getElem?_cons_zero]; try rfl)
          case hs13x48 => kernel_rfl
          case hf13x48 => kernel_rfl
          case hr13x48 => kernel_rfl
          case hQ13x48 => exact fun _ _ _ h => h
          case hy13x48 => exact Or.inl ⟨by rfl, by (intro w hSw; (try dsimp only at hSw); go_simp)⟩
          case hS13x48 => assumption
          (try simp only [Act.put, List.setIfInBounds_toArray, List.set_cons_zero, List.set_cons_succ])
          refine' wpAnyH_take (i := 14) (v := .int .u32 s) ?hi14x49 ?hs14x49 ?hf14x49 ?hr14x49 ?hQ14x49 ?hy14x49 ?hS14x49 ?rest14x49
          case hi14x49 => (simp only [List.getElem?_toArray, List.getElem?_cons_succ, List.getElem?_cons_zero]; try rfl)
          case hs14x49 => kernel_rfl
          case hf14x49 => kernel_rfl
          case hr14x49 => kernel_rfl
          case hQ14x49 => exact fun _ _ _ h => h
          case hy14x49 => exact Or.inl ⟨by rfl, by (intro w hSw; (try dsimp only at hSw); go_simp)⟩
          case hS14x49 => assumption
          (try simp only [Act.put, List.setIfInBounds_toArray, List.set_cons_zero, List.set_cons_succ])
          refine' wpAnyH_take (i := 15) (v := .bool ft) ?hi15x50 ?hs15x50 ?hf15x50 ?hr15x50 ?hQ15x50 ?hy15x50 ?hS15x50 ?rest15x50
          case hi15x50 => (simp only [List.getElem?_toArray, List.getElem?_cons_succ, List.getElem?_cons_zero]; try rfl)
          case hs15x50 => kernel_rfl
          case hf15x50 => kernel_rfl
          case hr15x50 => kernel_rfl
          case hQ15x50 => exact fun _ _ _ h => h
          case hy15x50 => exact Or.inl ⟨by rfl, by (intro w hSw; (try dsimp only at hSw); go_simp)⟩
          case hS15x50 => assumption
          (try simp only [Act.put, List.setIfInBounds_toArray, List.set_cons_zero, List.set_cons_succ])
          refine' wpAnyH_take (i := 16) (v := .pointer (some ⟨g, j, none⟩)) ?hi16x51 ?hs16x51 ?hf16x51 ?hr16x51 ?hQ16x51 ?hy16x51 ?hS16x51 ?rest16x51
          case hi16x51 => (simp only [List.getElem?_toArray, List.getElem?_cons_succ, List.getElem?_cons_zero]; try rfl)
          case hs16x51 => kernel_rfl
          case hf16x51 => kernel_rfl
          case hr16x51 => kernel_rfl
          case hQ16x51 => exact fun _ _ _ h => h
          case hy16x51 => exact Or.inl ⟨by rfl, by (intro w hSw; (try dsimp only at hSw); go_simp)⟩
          case hS16x51 => assumption
          (try simp only [Act.put, List.setIfInBounds_toArray, List.set_cons_zero, List.set_cons_succ])
          refine wpAnyH_ready (rs := [17]) (by kernel_rfl) (by simp) ?_
          refine' (AllReadyH.cons (i := 17) ?ho17x52 (fun K hK => ?st17x52) AllReadyH.nil)
          case ho17x52 => (simp only [List.getElem?_toArray, List.getElem?_cons_succ, List.getElem?_cons_zero]; try rfl)
          case st17x52 =>
            go_simp
            refine hK.out _ _ ?_ (fun hHeld => ?_)
            · exact ⟨cell_far o2_ hog, cell_far a2_ (by have := hs1.out; simp; omega), cell_far b1_ (by have := hs1.out; simp; omega), cell_far bc_ hadg⟩
            clear hK K
            (try simp only [Act.put, List.setIfInBounds_toArray, List.set_cons_zero, List.set_cons_succ])
            refine' wpAnyH_take (i := 18) (v := .bool ft) ?hi18x53 ?hs18x53 ?hf18x53 ?hr18x53 ?hQ18x53 ?hy18x53 ?hS18x53 ?rest18x53
            case hi18x53 => (simp only [List.getElem?_toArray, List.getElem?_cons_succ, List.getElem?_cons_zero]; try rfl)
            case hs18x53 => kernel_rfl
            case hf18x53 => kernel_rfl
            case hr18x53 => kernel_rfl
            case hQ18x53 => exact fun _ _ _ h => h
            case hy18x53 => exact Or.inl ⟨by rfl, by (intro w hSw; (try dsimp only at hSw); go_simp)⟩
            case hS18x53 => assumption
            (try simp only [Act.put, List.setIfInBounds_toArray, List.set_cons_zero, List.set_cons_succ])
            refine wpAnyH_done (by kernel_rfl) ?_ _
            refine NoPanic.normal ?_
            clear wk
            have hO2 := Lib.hid (hOH.out.far (p := ⟨g, j, none⟩) hog (uv s)); have hR2 := Lib.hid ((hRH.out.below hb).far (p := ⟨g, j, none⟩) (by have := hs1.out; simp; omega) (uv s)); have hown2 := Lib.hid (hownH.out.set j s)
            rw [hsetH.out] at hown2
            have hb2 := Lib.hid (hb.setCell (p := ⟨g, j, none⟩) (by have := hs1.out; simp; omega) (uv s))
            have hbW2 := Lib.hid (hbW.out.setCell (p := ⟨g, j, none⟩) (by have := hs1.out; have := hwWH.out.size; simp; omega) (uv s))
            obtain ⟨w3, hw3⟩ : ∃ w3, w2.setCell ⟨g, j, none⟩ (.int .u32 s) = w3 := ⟨_, rfl⟩
            simp only [uv] at hO2 hR2 hown2 hb2 hbW2
            rw [hw3] at hO2 hR2 hown2 hb2 hbW2 ⊢
            clear hw3 o0_ o1_ o2_ of0_ of1_ of2_ r0_ r1_ r2_ rf0_ rf1_ rf2_ a0_ a1_ a2_ b0_ b1_ b2_ bc_ g_ gf_ hHeld hz
            have o0_ := hO2.out.cell 0 rfl; have o1_ := hO2.out.cell 1 rfl; have o2_ := hO2.out.cell 2 rfl; have of0_ := hO2.out.free 0; have of1_ := hO2.out.free 1; have of2_ := hO2.out.free 2; have r0_ := hR2.out.cell 0 rfl; have r1_ := hR2.out.cell 1 rfl; have r2_ := hR2.out.cell 2 rfl; have rf0_ := hR2.out.free 0; have rf1_ := hR2.out.free 1; have rf2_ := hR2.out.free 2; have hz := Nat.lt_of_lt_of_le hzz hb2.out.size
            by_cases hf : 4294967295 < x + qa
            · have q1 := q1H.out; have q2 := q2H.out
              rw [if_pos hf] at q1 q2
              have q3H := Lib.hid (q1.symm.trans hcH.out); have q4H := Lib.hid (q2.symm.trans hTH.out)
              clear q1 q2 hcH hTH q1H q2H
              obtain rfl := q3H.out
              obtain rfl := q4H.out
              clear q3H q4H
              obtain rfl : ft = false := by rw [← hftH.out]; have := hnH.out; simp; omega
              go_wp2_with fail
              refine bodyPost_ret (v := .tuple #[.agg #[.int .i64 0, .int .u32 0, .slice none 0 0], .int .u16 41]) (by simp [results, Tryd.results29, go_sem, r0_, r1_, r2_, o0_, o1_, o2_, hz]) rfl ⟨_, rfl, ?_, ?_⟩
              · exact OwnW.nil _ _
              · (repeat' (first | exact hbW2.out | exact hwWH.out | (refine Below.drew ?_) | (refine Below.setCell ?_ (by first | (simp; done) | (simp; omega) | (have := hwWH.out.size; simp; omega)) _)))
            · have q1 := q1H.out; have q2 := q2H.out
              rw [if_neg hf] at q1 q2
              have q3H := Lib.hid (q1.symm.trans hcH.out); have q4H := Lib.hid (q2.symm.trans hTH.out)
              clear q1 q2 hcH hTH q1H q2H
              obtain rfl := q3H.out
              obtain rfl := q4H.out
              clear q3H q4H
              obtain rfl : ft = true := by rw [← hftH.out]; have := hnH.out; simp; omega
              obtain rfl : s = x + qa := by rw [← hsH.out]; exact IntWalk.u32_in _ (by omega)
              go_wp2_with fail
              refine bodyPost_ret (v := .tuple #[.agg #[.int .i64 pl, .int .u32 pa, .slice (some ⟨g, 0, none⟩) n' c'], .int .u16 0]) (by simp [results, Tryd.results29, go_sem, r0_, r1_, r2_, o0_, o1_, o2_, hz]) rfl ⟨_, rfl, ?_, ?_⟩
              · refine OwnW.low (B := W1.heap.size) ?_ (by have := hs1.out; have := hwWH.out.size; omega); first | exact ((hown2.out.under (by have := hs1.out; simp; omega) _).under (by have := hs1.out; simp; omega) _).under (by have := hs1.out; simp; omega) _ | exact (((hown2.out.under (by have := hs1.out; simp; omega) _).under (by have := hs1.out; simp; omega) _).under (by have := hs1.out; simp; omega) _).drew
              · (repeat' (first | exact hbW2.out | exact hwWH.out | (refine Below.drew ?_) | (refine Below.setCell ?_ (by first | (simp; done) | (simp; omega) | (have := hwWH.out.size; simp; omega)) _)))
end Go.Proofs.YtkpjbmbdndkalaaDoor
