/-
  What stamp.Then answers, at this program: of any two ways. Condition: neither enters more than 2^40 counters; numbers of their kinds.
-/
import Derived.Test.YtkpjbmbdndkalaaDoorStTh0
set_option linter.unusedVariables false
set_option linter.unusedSimpArgs false
namespace Go.Proofs.YtkpjbmbdndkalaaDoor
open Go.RowKit Go.Lib

set_option maxHeartbeats 2000000 in
set_option maxRecDepth 1000000 in
theorem then_lt_any (vp vq : Value) (p q : Pt) (w : World) (hp : PtV w vp p) (hq : PtV w vq q) (wp : PtW p) (wq : PtW q) (hsp : p.en.length ≤ 1099511627776) (hsq : q.en.length ≤ 1099511627776) (h : (p.en.length : Int) < q.lv) :
    Calls Tryd.prog 29 #[vp, vq] w (OutP (thenP p q) (thenE p q) w) := by
  obtain ⟨c, hc⟩ : ∃ c, thenE p q = c := ⟨_, rfl⟩
  obtain ⟨T, hT⟩ : ∃ c, thenP p q = c := ⟨_, rfl⟩
  rw [hc, hT]
  have hcH := Lib.hid hc; have hTH := Lib.hid hT
  clear hc hT
  obtain ⟨pl, pa, en⟩ := p
  obtain ⟨ql, qa, em⟩ := q
  obtain ⟨sp, rfl, hpE⟩ := hp
  obtain ⟨sq, rfl, hqE⟩ := hq
  obtain ⟨⟨pl0, pl1⟩, ⟨pa0, pa1⟩, we⟩ := wp
  obtain ⟨⟨ql0, ql1⟩, ⟨qa0, qa1⟩, _⟩ := wq
  simp only at hpE hqE hsp hsq pl0 pl1 pa0 pa1 we ql0 ql1 qa0 qa1 h ⊢
  obtain ⟨A, n, ca, rfl, hn, hnc, hca⟩ := hpE.form
  obtain ⟨B, m, cb, rfl, hm, hmc, hcb⟩ := hqE.form
  obtain ⟨W0, hW0, hwW, hA, hB, hR, hzz⟩ := boxesP w [.int .i64 pl, .int .u32 pa, .slice A n ca] [.int .i64 ql, .int .u32 qa, .slice B m cb] [.int .i64 0, .int .u32 0, .slice none 0 0] 62 62 62
  have hpH := Lib.hid (hpE.below hwW); have hqH := Lib.hid (hqE.below hwW)
  have hAH := Lib.hid hA; have hBH := Lib.hid hB; have hRH := Lib.hid hR; have hwWH := Lib.hid hwW
  have hnH := Lib.hid hn; have hmH := Lib.hid hm; have hspH := Lib.hid hsp; have hsqH := Lib.hid hsq; have weH := Lib.hid we
  have hn40 : n ≤ 1099511627776 := by omega
  have hl0 : w.heap.size < W0.heap.size := by omega
  have hl1 : w.heap.size + 1 < W0.heap.size := by omega
  have a0_ := hA.cell 0 rfl; have a1_ := hA.cell 1 rfl; have a2_ := hA.cell 2 rfl; have b0_ := hB.cell 0 rfl; have b1_ := hB.cell 1 rfl; have b2_ := hB.cell 2 rfl; have r0_ := hR.cell 0 rfl; have r1_ := hR.cell 1 rfl; have r2_ := hR.cell 2 rfl; have rf0_ := hR.free 0; have rf1_ := hR.free 1; have rf2_ := hR.free 2
  clear hpE hqE hA hB hR hwW hn hm hsp hsq we
  obtain ⟨q1, q2⟩ := then_lt (p := ⟨pl, pa, en⟩) (q := ⟨ql, qa, em⟩) h
  have q1H := Lib.hid q1; have q2H := Lib.hid q2
  simp only at q1H q2H
  obtain ⟨kI, hkI⟩ : ∃ kI, (n : Int) - ql = kI := ⟨_, rfl⟩
  have hkH := Lib.hid hkI
  have hneg : kI < 0 := by have := hnH.out; omega
  have hlow : -9223372036854775807 ≤ kI := by omega
  have hk1 : ¬ kI > 0 := by omega
  have hk2 : (kI == 0) = false := by simp; omega
  clear q1 q2 h
  obtain ⟨ft, hft⟩ : ∃ ft, decide (pl ≤ 4294967295 + kI) = ft := ⟨_, rfl⟩
  obtain ⟨z, hz_⟩ : ∃ s, IntKind.i64.wrap (pl - kI) = s := ⟨_, rfl⟩
  have hftH := Lib.hid hft; have hzH := Lib.hid hz_
  go_enter Tryd.func29, Tryd.ntmps29
  go_wp2_with fail
  obtain ⟨W1, hW1⟩ : ∃ W1, W0.alloc (.cells #[.int .i64 0, .int .u32 0, .slice none 0 0] 62) = W1 := ⟨_, rfl⟩
  rw [hW1]
  have hb : Below W0.heap.size W0 W1 := by rw [← hW1]; exact (Below.refl _ _).alloc (Nat.le_refl _) _
  have hOH := Lib.hid (show HasC W1 W0.heap.size [.int .i64 0, .int .u32 0, .slice none 0 0] 62 by rw [← hW1]; exact HasC.new W0 [.int .i64 0, .int .u32 0, .slice none 0 0] 62)
  have hs1 := Lib.hid (show W0.heap.size < W1.heap.size by rw [← hW1]; simp)
  have hpH1 := Lib.hid (hpH.out.below hb); have hqH1 := Lib.hid (hqH.out.below hb)
  clear a0_ a1_ a2_ b0_ b1_ b2_ r0_ r1_ r2_ rf0_ rf1_ rf2_ hW1
  have a0_ := (hAH.out.below hb).cell 0 rfl; have a1_ := (hAH.out.below hb).cell 1 rfl; have a2_ := (hAH.out.below hb).cell 2 rfl; have b0_ := (hBH.out.below hb).cell 0 rfl; have b1_ := (hBH.out.below hb).cell 1 rfl; have b2_ := (hBH.out.below hb).cell 2 rfl
  refine wp_region_noPanic ?_
  refine wp_region_held_drew (S := (fun w' => w'.cell? ⟨w.heap.size, 0, none⟩ = some (.int .i64 pl) ∧ w'.cell? ⟨w.heap.size, 1, none⟩ = some (.int .u32 pa) ∧ w'.cell? ⟨w.heap.size, 2, none⟩ = some (.slice A n ca) ∧ w'.cell? ⟨w.heap.size + 1, 1, none⟩ = some (.int .u32 qa) ∧ w'.cell? ⟨w.heap.size + 1, 2, none⟩ = some (.slice B m cb))) (by kernel_rfl) (⟨a0_, a1_, a2_, b1_, b2_⟩) (fun hHeld => ?_)
  refine' wpAnyH_take (i := 0) (v := .pointer (some ⟨w.heap.size, 0, none⟩)) ?hi0x9 ?hs0x9 ?hf0x9 ?hr0x9 ?hQ0x9 ?hy0x9 ?hS0x9 ?rest0x9
  case hi0x9 => (simp only [List.getElem?_toArray, List.getElem?_cons_succ, List.getElem?_cons_zero]; try rfl)
  case hs0x9 => kernel_rfl
  case hf0x9 => kernel_rfl
  case hr0x9 => kernel_rfl
  case hQ0x9 => exact fun _ _ _ h => h
  case hy0x9 => exact Or.inl ⟨by rfl, by (intro w hSw; (try dsimp only at hSw); go_simp)⟩
  case hS0x9 => assumption
  (try simp only [Act.put, List.setIfInBounds_toArray, List.set_cons_zero, List.set_cons_succ])
  refine' wpAnyH_take (i := 1) (v := .int .i64 pl) ?hi1x10 ?hs1x10 ?hf1x10 ?hr1x10 ?hQ1x10 ?hy1x10 ?hS1x10 ?rest1x10
  case hi1x10 => (simp only [List.getElem?_toArray, List.getElem?_cons_succ, List.getElem?_cons_zero]; try rfl)
  case hs1x10 => kernel_rfl
  case hf1x10 => kernel_rfl
  case hr1x10 => kernel_rfl
  case hQ1x10 => exact fun _ _ _ h => h
  case hy1x10 => exact Or.inl ⟨by rfl, by (intro w hSw; (try dsimp only at hSw); go_simp)⟩
  case hS1x10 => assumption
  (try simp only [Act.put, List.setIfInBounds_toArray, List.set_cons_zero, List.set_cons_succ])
  refine' wpAnyH_take (i := 2) (v := .int .i64 kI) ?hi2x11 ?hs2x11 ?hf2x11 ?hr2x11 ?hQ2x11 ?hy2x11 ?hS2x11 ?rest2x11
  case hi2x11 => (simp only [List.getElem?_toArray, List.getElem?_cons_succ, List.getElem?_cons_zero]; try rfl)
  case hs2x11 => kernel_rfl
  case hf2x11 => kernel_rfl
  case hr2x11 => kernel_rfl
  case hQ2x11 => exact fun _ _ _ h => h
  case hy2x11 => exact Or.inl ⟨by rfl, by (intro w hSw; (try dsimp only at hSw); go_simp)⟩
  case hS2x11 => assumption
  (try simp only [Act.put, List.setIfInBounds_toArray, List.set_cons_zero, List.set_cons_succ])
  refine' wpAnyH_take (i := 3) (v := .int .i64 z) ?hi3x12 ?hs3x12 ?hf3x12 ?hr3x12 ?hQ3x12 ?hy3x12 ?hS3x12 ?rest3x12
  case hi3x12 => (simp only [List.getElem?_toArray, List.getElem?_cons_succ, List.getElem?_cons_zero]; try rfl)
  case hs3x12 => kernel_rfl
  case hf3x12 => kernel_rfl
  case hr3x12 => kernel_rfl
  case hQ3x12 => exact fun _ _ _ h => h
  case hy3x12 => exact Or.inl ⟨by rfl, by (intro w hSw; (try dsimp only at hSw); go_simp)⟩
  case hS3x12 => assumption
  (try simp only [Act.put, List.setIfInBounds_toArray, List.set_cons_zero, List.set_cons_succ])
  refine' wpAnyH_take (i := 4) (v := .pointer (some ⟨w.heap.size + 1, 1, none⟩)) ?hi4x13 ?hs4x13 ?hf4x13 ?hr4x13 ?hQ4x13 ?hy4x13 ?hS4x13 ?rest4x13
  case hi4x13 => (simp only [List.getElem?_toArray, List.getElem?_cons_succ, List.getElem?_cons_zero]; try rfl)
  case hs4x13 => kernel_rfl
  case hf4x13 => kernel_rfl
  case hr4x13 => kernel_rfl
  case hQ4x13 => exact fun _ _ _ h => h
  case hy4x13 => exact Or.inl ⟨by rfl, by (intro w hSw; (try dsimp only at hSw); go_simp)⟩
  case hS4x13 => assumption
  (try simp only [Act.put, List.setIfInBounds_toArray, List.set_cons_zero, List.set_cons_succ])
  refine' wpAnyH_take (i := 5) (v := .int .u32 qa) ?hi5x14 ?hs5x14 ?hf5x14 ?hr5x14 ?hQ5x14 ?hy5x14 ?hS5x14 ?rest5x14
  case hi5x14 => (simp only [List.getElem?_toArray, List.getElem?_cons_succ, List.getElem?_cons_zero]; try rfl)
  case hs5x14 => kernel_rfl
  case hf5x14 => kernel_rfl
  case hr5x14 => kernel_rfl
  case hQ5x14 => exact fun _ _ _ h => h
  case hy5x14 => exact Or.inl ⟨by rfl, by (intro w hSw; (try dsimp only at hSw); go_simp)⟩
  case hS5x14 => assumption
  (try simp only [Act.put, List.setIfInBounds_toArray, List.set_cons_zero, List.set_cons_succ])
  refine' wpAnyH_take (i := 6) (v := .pointer (some ⟨w.heap.size + 1, 2, none⟩)) ?hi6x15 ?hs6x15 ?hf6x15 ?hr6x15 ?hQ6x15 ?hy6x15 ?hS6x15 ?rest6x15
  case hi6x15 => (simp only [List.getElem?_toArray, List.getElem?_cons_succ, List.getElem?_cons_zero]; try rfl)
  case hs6x15 => kernel_rfl
  case hf6x15 => kernel_rfl
  case hr6x15 => kernel_rfl
  case hQ6x15 => exact fun _ _ _ h => h
  case hy6x15 => exact Or.inl ⟨by rfl, by (intro w hSw; (try dsimp only at hSw); go_simp)⟩
  case hS6x15 => assumption
  (try simp only [Act.put, List.setIfInBounds_toArray, List.set_cons_zero, List.set_cons_succ])
  refine' wpAnyH_take (i := 7) (v := .slice B m cb) ?hi7x16 ?hs7x16 ?hf7x16 ?hr7x16 ?hQ7x16 ?hy7x16 ?hS7x16 ?rest7x16
  case hi7x16 => (simp only [List.getElem?_toArray, List.getElem?_cons_succ, List.getElem?_cons_zero]; try rfl)
  case hs7x16 => kernel_rfl
  case hf7x16 => kernel_rfl
  case hr7x16 => kernel_rfl
  case hQ7x16 => exact fun _ _ _ h => h
  case hy7x16 => exact Or.inl ⟨by rfl, by (intro w hSw; (try dsimp only at hSw); go_simp)⟩
  case hS7x16 => assumption
  (try simp only [Act.put, List.setIfInBounds_toArray, List.set_cons_zero, List.set_cons_succ])
  refine wpAnyH_ready (rs := [8]) (by kernel_rfl) (by simp) ?_
  refine' (AllReadyH.cons (i := 8) ?ho8x17 (fun K hK => ?st8x17) AllReadyH.nil)
  case ho8x17 => (simp only [List.getElem?_toArray, List.getElem?_cons_succ, List.getElem?_cons_zero]; try rfl)
  case st8x17 =>
    go_simp
    refine hK.out _ _ ?_ (fun hHeld => ?_)
    · exact keepT hAH.out hBH.out (hb.drew.alloc (by have := hb.size; first | omega | (simp; done) | (simp; omega)) _)
    clear hK K
    (try simp only [Act.put, List.setIfInBounds_toArray, List.set_cons_zero, List.set_cons_succ])
    refine wpAnyH_ready (rs := [9]) (by kernel_rfl) (by simp) ?_
    refine' (AllReadyH.cons (i := 9) ?ho9x18 (fun K hK => ?st9x18) AllReadyH.nil)
    case ho9x18 => (simp only [List.getElem?_toArray, List.getElem?_cons_succ, List.getElem?_cons_zero]; try rfl)
    case st9x18 =>
      go_simp
      refine (concat1_any _ _ em _ (SlsV.one hqH1.out _).drew hsqH.out).mono ?_; rintro e_ w' ⟨v', rfl, ho', hb'⟩; obtain ⟨A', n', c', rfl, hn', hc1', hc2'⟩ := ho'.words.form; have hoH := Lib.hid (ho'.low (B' := W1.heap.size) (by have := hb.size; first | omega | (simp; done) | (simp; omega))); have hOH2 := Lib.hid (show HasC w' W0.heap.size [.int .i64 0, .int .u32 0, .slice none 0 0] 62 from ((hOH.out.alloc (.cells #[.slice B m cb] 23)).drew).below hb'); have hnn := Lib.hid hn'; replace hb := chainB (B := W0.heap.size) (a := W0) (hb.drew.alloc (by have := hb.size; first | omega | (simp; done) | (simp; omega)) _) hb' (by have := hb.size; first | omega | (simp; done) | (simp; omega)); clear ho' hn' hb'; have o0_ := hOH2.out.cell 0 rfl; have o1_ := hOH2.out.cell 1 rfl; have o2_ := hOH2.out.cell 2 rfl; have of0_ := hOH2.out.free 0; have of1_ := hOH2.out.free 1; have of2_ := hOH2.out.free 2; have ol_ := hOH2.out.lt
      refine hK.out _ _ ?_ (fun hHeld => ?_)
      · exact keepT hAH.out hBH.out hb
      clear hK K
      (try simp only [Act.put, List.setIfInBounds_toArray, List.set_cons_zero, List.set_cons_succ])
      refine' wpAnyH_take (i := 10) (v := .agg #[.int .i64 z, .int .u32 qa, .slice A' n' c']) ?hi10x19 ?hs10x19 ?hf10x19 ?hr10x19 ?hQ10x19 ?hy10x19 ?hS10x19 ?rest10x19
      case hi10x19 => (simp only [List.getElem?_toArray, List.getElem?_cons_succ, List.getElem?_cons_zero]; try rfl)
      case hs10x19 => kernel_rfl
      case hf10x19 => kernel_rfl
      case hr10x19 => kernel_rfl
      case hQ10x19 => exact fun _ _ _ h => h
      case hy10x19 => exact Or.inl ⟨by rfl, by (intro w hSw; (try dsimp only at hSw); go_simp)⟩
      case hS10x19 => assumption
      (try simp only [Act.put, List.setIfInBounds_toArray, List.set_cons_zero, List.set_cons_succ])
      refine wpAnyH_ready (rs := [11]) (by kernel_rfl) (by simp) ?_
      refine' (AllReadyH.cons (i := 11) ?ho11x20 (fun K hK => ?st11x20) AllReadyH.nil)
      case ho11x20 => (simp only [List.getElem?_toArray, List.getElem?_cons_succ, List.getElem?_cons_zero]; try rfl)
      case st11x20 =>
        go_simp
        refine hK.out _ _ ?_ (fun hHeld => ?_)
        · exact keepT hAH.out hBH.out (((hb.setCell (by simp) _).setCell (by simp) _).setCell (by simp) _)
        clear hK K
        (try simp only [Act.put, List.setIfInBounds_toArray, List.set_cons_zero, List.set_cons_succ])
        refine wpAnyH_done (by kernel_rfl) ?_ _
        refine NoPanic.normal ?_
        clear a0_ a1_ a2_ b0_ b1_ b2_ hHeld
        obtain ⟨w2, hw2⟩ : ∃ w2, ((w'.setCell ⟨W0.heap.size, 0, none⟩ (.int .i64 z)).setCell ⟨W0.heap.size, 1, none⟩ (.int .u32 qa)).setCell ⟨W0.heap.size, 2, none⟩ (.slice A' n' c') = w2 := ⟨_, rfl⟩
        have hO2 : HasC w2 W0.heap.size [.int .i64 z, .int .u32 qa, .slice A' n' c'] 62 := by rw [← hw2]; exact ((hOH2.out.set 0 _).set 1 _).set 2 _
        have hown2 : OwnW W1.heap.size (.slice A' n' c') (em) w2 := by rw [← hw2]; exact ((hoH.out.under hs1.out _).under hs1.out _).under hs1.out _
        have hb2 : Below W0.heap.size W0 w2 := by rw [← hw2]; exact ((hb.setCell (Nat.le_refl _) _).setCell (Nat.le_refl _) _).setCell (Nat.le_refl _) _
        rw [hw2]
        clear hOH hb hw2 o0_ o1_ o2_ of0_ of1_ of2_ ol_
        have hb := hb2; have hownH := Lib.hid hown2; have hOH := Lib.hid hO2; have hbW := Lib.hid (hwWH.out.trans (hb2.mono hwWH.out.size))
        clear hb2 hown2 hO2
        have a0_ := (hAH.out.below hb).cell 0 rfl; have a1_ := (hAH.out.below hb).cell 1 rfl; have a2_ := (hAH.out.below hb).cell 2 rfl; have b0_ := (hBH.out.below hb).cell 0 rfl; have b1_ := (hBH.out.below hb).cell 1 rfl; have b2_ := (hBH.out.below hb).cell 2 rfl
        have r0_ := (hRH.out.below hb).cell 0 rfl; have r1_ := (hRH.out.below hb).cell 1 rfl; have r2_ := (hRH.out.below hb).cell 2 rfl; have rf0_ := (hRH.out.below hb).free 0; have rf1_ := (hRH.out.below hb).free 1; have rf2_ := (hRH.out.below hb).free 2; have hz := Nat.lt_of_lt_of_le hzz hb.size
        have o0_ := hOH.out.cell 0 rfl; have o1_ := hOH.out.cell 1 rfl; have o2_ := hOH.out.cell 2 rfl; have of0_ := hOH.out.free 0; have of1_ := hOH.out.free 1; have of2_ := hOH.out.free 2
        skip
        by_cases hf : 4294967295 < pl + (ql - en.length)
        · have q1 := q1H.out; have q2 := q2H.out
          rw [if_pos hf] at q1 q2
          have q3H := Lib.hid (q1.symm.trans hcH.out); have q4H := Lib.hid (q2.symm.trans hTH.out)
          clear q1 q2 hcH hTH q1H q2H
          obtain rfl := q3H.out
          obtain rfl := q4H.out
          clear q3H q4H
          obtain rfl : ft = false := by rw [← hftH.out]; have := hnH.out; simp; omega
          go_wp2_with fail
          refine bodyPost_ret (v := .tuple #[.agg #[.int .i64 0, .int .u32 0, .slice none 0 0], .int .u16 41]) (by simp [results, Tryd.results29, go_sem, r0_, r1_, r2_, o0_, o1_, o2_, hz]) rfl ⟨_, rfl, ?_, ?_⟩
          · exact OwnW.nil _ _
          · (repeat' (first | exact hbW.out | exact hwWH.out | (refine Below.drew ?_) | (refine Below.setCell ?_ (by first | (simp; done) | (simp; omega) | (have := hwWH.out.size; simp; omega)) _)))
        · have q1 := q1H.out; have q2 := q2H.out
          rw [if_neg hf] at q1 q2
          have q3H := Lib.hid (q1.symm.trans hcH.out); have q4H := Lib.hid (q2.symm.trans hTH.out)
          clear q1 q2 hcH hTH q1H q2H
          obtain rfl := q3H.out
          obtain rfl := q4H.out
          clear q3H q4H
          obtain rfl : ft = true := by rw [← hftH.out]; have := hnH.out; simp; omega
          obtain rfl : z = pl + (ql - en.length) := by rw [← hzH.out, IntWalk.i64_in _ (by have := hnH.out; omega)]; have := hnH.out; omega
          go_wp2_with fail
          refine bodyPost_ret (v := .tuple #[.agg #[.int .i64 (pl + (ql - (en.length : Int))), .int .u32 qa, .slice A' n' c'], .int .u16 0]) (by simp [results, Tryd.results29, go_sem, r0_, r1_, r2_, o0_, o1_, o2_, hz]) rfl ⟨_, rfl, ?_, ?_⟩
          · exact (((hownH.out.under (by have := hs1.out; simp; omega) _).under (by have := hs1.out; simp; omega) _).under (by have := hs1.out; simp; omega) _).low (by have := hs1.out; have := hwWH.out.size; omega)
          · (repeat' (first | exact hbW.out | exact hwWH.out | (refine Below.drew ?_) | (refine Below.setCell ?_ (by first | (simp; done) | (simp; omega) | (have := hwWH.out.size; simp; omega)) _)))
end Go.Proofs.YtkpjbmbdndkalaaDoor
