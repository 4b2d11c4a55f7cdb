/-
  What stamp.Apply answers, at this program: of any way, any time. Condition: the time has at most 2^40 counters, the way enters as many at the most; numbers of their kinds.
-/
import Derived.Test.YtkpjbmbdndkalaaDoorStChW
import Derived.Test.YtkpjbmbdndkalaaDoorStAt
set_option linter.unusedVariables false
set_option linter.unusedSimpArgs false
namespace Go.Proofs.YtkpjbmbdndkalaaDoor
open Go.RowKit Go.Lib

theorem set_take {l en : List Int} {j : Nat} {z : Int} (h : j < l.length) : (l.take (j + 1) ++ en).set j z = l.take j ++ z :: en := by
  rw [List.take_succ_eq_append_getElem h, List.append_assoc, List.set_append_right _ _ (by rw [List.length_take]; omega), List.length_take, Nat.min_eq_left (by omega), Nat.sub_self]
  rfl
theorem apply_zero (e : Int) (l : List Int) (a : Int) (en : List Int) : ofL (ap (tl ⟨e, l⟩) 0 a en) = ⟨e + a, en⟩ := by
  simp [ap, tl, ofL]
theorem apply_succ {e : Int} {l : List Int} {a : Int} {en : List Int} {j : Nat} {x : Int} (hj : l[j]? = some x) : ofL (ap (tl ⟨e, l⟩) (j + 1) a en) = ⟨e, l.take j ++ (x + a) :: en⟩ := by
  simp [ap, tl, ofL, hj]
theorem apply_over {p : Pt} {t : Tm} {k : Nat} (h1 : leavesB p (t.l.length : Int) = true) (hk : keptT p t.l.length = k) (h2 : topK k < (tl t).getD k 0 + p.ad) : applyE p t = 41 ∧ applyT p t = ⟨0, []⟩ := by
  have h : applyE p t = 41 := by
    unfold applyE
    rw [if_neg (by simp [leavesB] at h1; omega), hk, if_pos h2]
  exact ⟨h, by unfold applyT; rw [h]; rfl⟩
theorem apply_long {p : Pt} {t : Tm} {k : Nat} (h1 : leavesB p (t.l.length : Int) = true) (hk : keptT p t.l.length = k) (h2 : (tl t).getD k 0 + p.ad ≤ topK k) (h3 : 3 < k + p.en.length) : applyE p t = 40 ∧ applyT p t = ⟨0, []⟩ := by
  have h : applyE p t = 40 := by
    unfold applyE
    rw [if_neg (by simp [leavesB] at h1; omega), hk, if_neg (by omega), if_pos h3]
  exact ⟨h, by unfold applyT; rw [h]; rfl⟩
theorem apply_fine {p : Pt} {t : Tm} {k : Nat} (h1 : leavesB p (t.l.length : Int) = true) (hk : keptT p t.l.length = k) (h2 : (tl t).getD k 0 + p.ad ≤ topK k) (h3 : k + p.en.length ≤ 3) : applyE p t = 0 ∧ applyT p t = ofL (ap (tl t) k p.ad p.en) := by
  have h : applyE p t = 0 := by
    unfold applyE
    rw [if_neg (by simp [leavesB] at h1; omega), hk, if_neg (by omega), if_neg (by omega)]
  exact ⟨h, by unfold applyT; rw [h, hk]; rfl⟩
theorem keepA {p q : Nat} {a0 a1 a2 b0 b1 : Value} {t u : TypeId} {W0 w : World} (h : HasC W0 p [a0, a1, a2] t) (h' : HasC W0 q [b0, b1] u) (hb : Below W0.heap.size W0 w) : w.cell? ⟨p, 2, none⟩ = some a2 ∧ w.cell? ⟨q, 0, none⟩ = some b0 ∧ w.cell? ⟨q, 1, none⟩ = some b1 :=
  ⟨(h.below hb).cell 2 rfl, (h'.below hb).cell 0 rfl, (h'.below hb).cell 1 rfl⟩
theorem cell_far {w : World} {q : Addr} {g j : Nat} {u v : Value} (h : w.cell? q = some v) (hq : q.block ≠ g) : (w.setCell ⟨g, j, none⟩ u).cell? q = some v := by
  rw [World.cell?_setCell_other _ _ _ _ (fun e => hq (by rw [← e]))]
  exact h
set_option maxHeartbeats 2000000 in
set_option maxRecDepth 1000000 in
theorem apply_bad (vp vt : Value) (p : Pt) (t : Tm) (w : World) (hp : PtV w vp p) (ht : TmV w vt t) (wp : PtW p) (wt : TmW t) (hsp : p.en.length ≤ 1099511627776) (hst : t.l.length ≤ 1099511627776) (hlv : leavesB p (t.l.length : Int) = false) :
    Calls Tryd.prog 28 #[vp, vt] w (OutT ⟨0, []⟩ 40 w) := by
  obtain ⟨lv, pa, en⟩ := p
  obtain ⟨e, l⟩ := t
  obtain ⟨sp, rfl, hpE⟩ := hp
  obtain ⟨st, rfl, htE⟩ := ht
  obtain ⟨_, ⟨pa0, pa1⟩, we⟩ := wp
  obtain ⟨⟨e0, e1⟩, wl⟩ := wt
  simp only at hpE htE hsp hst pa0 pa1 we e0 e1 wl hlv ⊢
  obtain ⟨E, m, cm, rfl, hm, hmc, hcm⟩ := hpE.form
  obtain ⟨A, n, ca, rfl, hn, hla, hca⟩ := htE.form
  obtain ⟨W0, hW0, hwW, hA, hB, hR, hzz⟩ := boxes3 w [.int .i64 lv, .int .u32 pa, .slice E m cm] [.int .u64 e, .slice A n ca] [.int .u64 0, .slice none 0 0] 62 25 25
  have hpV := Lib.hid (show PtV W0 (.agg #[.int .i64 lv, .int .u32 pa, .slice E m cm]) ⟨lv, pa, en⟩ from ⟨_, rfl, hpE.below hwW⟩)
  have hpH := Lib.hid (hpE.below hwW); have htH := Lib.hid (htE.below hwW)
  have hAH := Lib.hid hA; have hBH := Lib.hid hB; have hRH := Lib.hid hR; have hwWH := Lib.hid hwW
  have hnH := Lib.hid hn; have hmH := Lib.hid hm; have hspH := Lib.hid hsp; have hstH := Lib.hid hst; have wlH := Lib.hid wl
  have a0_ := hA.cell 0 rfl; have a1_ := hA.cell 1 rfl; have a2_ := hA.cell 2 rfl; have b0_ := hB.cell 0 rfl; have b1_ := hB.cell 1 rfl; have r0_ := hR.cell 0 rfl; have r1_ := hR.cell 1 rfl; have rf0_ := hR.free 0; have rf1_ := hR.free 1
  clear hpE htE hA hB hR hwW hn hm hsp hst we wl
  have hb := Below.refl W0.heap.size W0
  have hlv : Hid (leavesB ⟨lv, pa, en⟩ (n : Int) = false) := Lib.hid (by rw [← hnH.out]; exact hlv)
  go_enter Tryd.func28, Tryd.ntmps28
  go_wp2_with fail
  refine (leaves_any (.agg #[.int .i64 lv, .int .u32 pa, .slice E m cm]) ⟨lv, pa, en⟩ (n : Int) _ hpV.out).mono ?_
  rw [hlv.out]
  rintro e_ w1 ⟨rfl, hb⟩
  clear a0_ a1_ a2_ b0_ b1_ r0_ r1_ rf0_ rf1_
  have a0_ := (hAH.out.below hb).cell 0 rfl; have a1_ := (hAH.out.below hb).cell 1 rfl; have a2_ := (hAH.out.below hb).cell 2 rfl; have b0_ := (hBH.out.below hb).cell 0 rfl; have b1_ := (hBH.out.below hb).cell 1 rfl; have r0_ := (hRH.out.below hb).cell 0 rfl; have r1_ := (hRH.out.below hb).cell 1 rfl; have rf0_ := (hRH.out.below hb).free 0; have rf1_ := (hRH.out.below hb).free 1; have hz := Nat.lt_of_lt_of_le hzz hb.size
  go_wp2_with fail
  have hbW := Lib.hid (hwWH.out.trans (hb.mono hwWH.out.size))
  refine bodyPost_ret (v := .tuple #[.agg #[.int .u64 0, .slice none 0 0], .int .u16 40]) (by simp [results, Tryd.results28, go_sem, r0_, r1_, hz]) rfl ⟨_, rfl, OwnW.nil _ _, ?_⟩
  (repeat' (first | exact hbW.out | exact hwWH.out | (refine Below.drew ?_) | (refine Below.setCell ?_ (by first | (simp; done) | (simp; omega) | (have := hwWH.out.size; simp; omega)) _)))
set_option maxHeartbeats 2000000 in
set_option maxRecDepth 1000000 in
theorem apply_good (vp vt : Value) (p : Pt) (t : Tm) (w : World) (hp : PtV w vp p) (ht : TmV w vt t) (wp : PtW p) (wt : TmW t) (hsp : p.en.length ≤ 1099511627776) (hst : t.l.length ≤ 1099511627776) (hlv : leavesB p (t.l.length : Int) = true) (k : Nat) (hk : keptT p t.l.length = k) :
    Calls Tryd.prog 28 #[vp, vt] w (OutT (applyT p t) (applyE p t) w) := by
  obtain ⟨c, hc⟩ : ∃ c, applyE p t = c := ⟨_, rfl⟩
  obtain ⟨T, hT⟩ : ∃ c, applyT p t = c := ⟨_, rfl⟩
  rw [hc, hT]
  have hcH := Lib.hid hc; have hTH := Lib.hid hT
  clear hc hT
  obtain ⟨lv, pa, en⟩ := p
  obtain ⟨e, l⟩ := t
  obtain ⟨sp, rfl, hpE⟩ := hp
  obtain ⟨st, rfl, htE⟩ := ht
  obtain ⟨_, ⟨pa0, pa1⟩, we⟩ := wp
  obtain ⟨⟨e0, e1⟩, wl⟩ := wt
  simp only at hpE htE hsp hst pa0 pa1 we e0 e1 wl hlv hk ⊢
  obtain ⟨E, m, cm, rfl, hm, hmc, hcm⟩ := hpE.form
  obtain ⟨A, n, ca, rfl, hn, hla, hca⟩ := htE.form
  obtain ⟨W0, hW0, hwW, hA, hB, hR, hzz⟩ := boxes3 w [.int .i64 lv, .int .u32 pa, .slice E m cm] [.int .u64 e, .slice A n ca] [.int .u64 0, .slice none 0 0] 62 25 25
  have hpV := Lib.hid (show PtV W0 (.agg #[.int .i64 lv, .int .u32 pa, .slice E m cm]) ⟨lv, pa, en⟩ from ⟨_, rfl, hpE.below hwW⟩)
  have hpH := Lib.hid (hpE.below hwW); have htH := Lib.hid (htE.below hwW)
  have hAH := Lib.hid hA; have hBH := Lib.hid hB; have hRH := Lib.hid hR; have hwWH := Lib.hid hwW
  have hnH := Lib.hid hn; have hmH := Lib.hid hm; have hspH := Lib.hid hsp; have hstH := Lib.hid hst; have wlH := Lib.hid wl
  have a0_ := hA.cell 0 rfl; have a1_ := hA.cell 1 rfl; have a2_ := hA.cell 2 rfl; have b0_ := hB.cell 0 rfl; have b1_ := hB.cell 1 rfl; have r0_ := hR.cell 0 rfl; have r1_ := hR.cell 1 rfl; have rf0_ := hR.free 0; have rf1_ := hR.free 1
  clear hpE htE hA hB hR hwW hn hm hsp hst we wl
  have hb := Below.refl W0.heap.size W0
  have hlv : Hid (leavesB ⟨lv, pa, en⟩ (n : Int) = true) := Lib.hid (by rw [← hnH.out]; exact hlv)
  obtain ⟨lv0, lv1⟩ : 0 ≤ lv ∧ lv ≤ (n : Int) := by have := hlv.out; simpa [leavesB] using this
  have hkH0 : Hid (keptT ⟨lv, pa, en⟩ (⟨e, l⟩ : Tm).l.length = k) := Lib.hid hk
  have hlvH0 : Hid (leavesB ⟨lv, pa, en⟩ ((⟨e, l⟩ : Tm).l.length : Int) = true) := Lib.hid (by rw [show (⟨e, l⟩ : Tm).l.length = n from hnH.out]; exact hlv.out)
  rw [hnH.out] at hk
  have hkl : (n : Int) - lv = (k : Int) := by unfold keptT at hk; simp only at hk; omega
  have hkn : k ≤ n := by omega
  have hkc : k ≤ ca := by omega
  clear hk
  go_enter Tryd.func28, Tryd.ntmps28
  go_wp2_with fail
  refine (leaves_any (.agg #[.int .i64 lv, .int .u32 pa, .slice E m cm]) ⟨lv, pa, en⟩ (n : Int) _ hpV.out).mono ?_
  rw [hlv.out]
  rintro e_ w1 ⟨rfl, hb⟩
  clear a0_ a1_ a2_ b0_ b1_ r0_ r1_ rf0_ rf1_
  have a0_ := (hAH.out.below hb).cell 0 rfl; have a1_ := (hAH.out.below hb).cell 1 rfl; have a2_ := (hAH.out.below hb).cell 2 rfl; have b0_ := (hBH.out.below hb).cell 0 rfl; have b1_ := (hBH.out.below hb).cell 1 rfl; have r0_ := (hRH.out.below hb).cell 0 rfl; have r1_ := (hRH.out.below hb).cell 1 rfl; have rf0_ := (hRH.out.below hb).free 0; have rf1_ := (hRH.out.below hb).free 1; have hz := Nat.lt_of_lt_of_le hzz hb.size
  have hs1 := Lib.hid hb.size
  have hkH : Hid (WordsV w1 (.slice A k ca) (l.take k)) := Lib.hid ((htH.out.below hb).take (by have := hnH.out; omega))
  have hpH2 := Lib.hid (hpH.out.below hb)
  have hb1 := Lib.hid hb
  go_upto_region 4 with fail
  go_cut [7] (fun s wx => RelN e (l.take k ++ en) W0.heap.size W0 s wx)
  case first =>
    refine wp_region_noPanic ?_
    refine wp_region_held_drew (S := (fun w' => w'.cell? ⟨w.heap.size, 2, none⟩ = some (.slice E m cm) ∧ w'.cell? ⟨w.heap.size + 1, 0, none⟩ = some (.int .u64 e) ∧ w'.cell? ⟨w.heap.size + 1, 1, none⟩ = some (.slice A n ca))) (by kernel_rfl) (⟨a2_, b0_, b1_⟩) (fun hHeld => ?_)
    refine' wpAnyH_take (i := 0) (v := .pointer (some ⟨w.heap.size + 1, 0, none⟩)) ?hi0x1 ?hs0x1 ?hf0x1 ?hr0x1 ?hQ0x1 ?hy0x1 ?hS0x1 ?rest0x1
    case hi0x1 => (simp only [List.getElem?_toArray, List.getElem?_cons_succ, List.getElem?_cons_zero]; try rfl)
    case hs0x1 => kernel_rfl
    case hf0x1 => kernel_rfl
    case hr0x1 => kernel_rfl
    case hQ0x1 => exact fun _ _ _ h => h
    case hy0x1 => exact Or.inl ⟨by rfl, by (intro w hSw; (try dsimp only at hSw); go_simp)⟩
    case hS0x1 => assumption
    (try simp only [Act.put, List.setIfInBounds_toArray, List.set_cons_zero, List.set_cons_succ])
    refine' wpAnyH_take (i := 1) (v := .int .u64 e) ?hi1x2 ?hs1x2 ?hf1x2 ?hr1x2 ?hQ1x2 ?hy1x2 ?hS1x2 ?rest1x2
    case hi1x2 => (simp only [List.getElem?_toArray, List.getElem?_cons_succ, List.getElem?_cons_zero]; try rfl)
    case hs1x2 => kernel_rfl
    case hf1x2 => kernel_rfl
    case hr1x2 => kernel_rfl
    case hQ1x2 => exact fun _ _ _ h => h
    case hy1x2 => exact Or.inl ⟨by rfl, by (intro w hSw; (try dsimp only at hSw); go_simp)⟩
    case hS1x2 => assumption
    (try simp only [Act.put, List.setIfInBounds_toArray, List.set_cons_zero, List.set_cons_succ])
    refine' wpAnyH_take (i := 2) (v := .pointer (some ⟨w.heap.size + 1, 1, none⟩)) ?hi2x3 ?hs2x3 ?hf2x3 ?hr2x3 ?hQ2x3 ?hy2x3 ?hS2x3 ?rest2x3
    case hi2x3 => (simp only [List.getElem?_toArray, List.getElem?_cons_succ, List.getElem?_cons_zero]; try rfl)
    case hs2x3 => kernel_rfl
    case hf2x3 => kernel_rfl
    case hr2x3 => kernel_rfl
    case hQ2x3 => exact fun _ _ _ h => h
    case hy2x3 => exact Or.inl ⟨by rfl, by (intro w hSw; (try dsimp only at hSw); go_simp)⟩
    case hS2x3 => assumption
    (try simp only [Act.put, List.setIfInBounds_toArray, List.set_cons_zero, List.set_cons_succ])
    refine' wpAnyH_take (i := 3) (v := .slice A n ca) ?hi3x4 ?hs3x4 ?hf3x4 ?hr3x4 ?hQ3x4 ?hy3x4 ?hS3x4 ?rest3x4
    case hi3x4 => (simp only [List.getElem?_toArray, List.getElem?_cons_succ, List.getElem?_cons_zero]; try rfl)
    case hs3x4 => kernel_rfl
    case hf3x4 => kernel_rfl
    case hr3x4 => kernel_rfl
    case hQ3x4 => exact fun _ _ _ h => h
    case hy3x4 => exact Or.inl ⟨by rfl, by (intro w hSw; (try dsimp only at hSw); go_simp)⟩
    case hS3x4 => assumption
    (try simp only [Act.put, List.setIfInBounds_toArray, List.set_cons_zero, List.set_cons_succ])
    refine' wpAnyH_take (i := 4) (v := .int .i64 (k : Int)) ?hi4x5 ?hs4x5 ?hf4x5 ?hr4x5 ?hQ4x5 ?hy4x5 ?hS4x5 ?rest4x5
    case hi4x5 => (simp only [List.getElem?_toArray, List.getElem?_cons_succ, List.getElem?_cons_zero]; try rfl)
    case hs4x5 => kernel_rfl
    case hf4x5 => kernel_rfl
    case hr4x5 => kernel_rfl
    case hQ4x5 => exact fun _ _ _ h => h
    case hy4x5 => exact Or.inl ⟨by rfl, by (intro w hSw; (try dsimp only at hSw); go_simp)⟩
    case hS4x5 => assumption
    (try simp only [Act.put, List.setIfInBounds_toArray, List.set_cons_zero, List.set_cons_succ])
    refine' wpAnyH_take (i := 5) (v := .slice A k ca) ?hi5x6 ?hs5x6 ?hf5x6 ?hr5x6 ?hQ5x6 ?hy5x6 ?hS5x6 ?rest5x6
    case hi5x6 => (simp only [List.getElem?_toArray, List.getElem?_cons_succ, List.getElem?_cons_zero]; try rfl)
    case hs5x6 => kernel_rfl
    case hf5x6 => kernel_rfl
    case hr5x6 => kernel_rfl
    case hQ5x6 => exact fun _ _ _ h => h
    case hy5x6 => exact Or.inl ⟨by rfl, by (intro w hSw; (try dsimp only at hSw); go_simp)⟩
    case hS5x6 => assumption
    (try simp only [Act.put, List.setIfInBounds_toArray, List.set_cons_zero, List.set_cons_succ])
    refine' wpAnyH_take (i := 6) (v := .pointer (some ⟨w.heap.size, 2, none⟩)) ?hi6x7 ?hs6x7 ?hf6x7 ?hr6x7 ?hQ6x7 ?hy6x7 ?hS6x7 ?rest6x7
    case hi6x7 => (simp only [List.getElem?_toArray, List.getElem?_cons_succ, List.getElem?_cons_zero]; try rfl)
    case hs6x7 => kernel_rfl
    case hf6x7 => kernel_rfl
    case hr6x7 => kernel_rfl
    case hQ6x7 => exact fun _ _ _ h => h
    case hy6x7 => exact Or.inl ⟨by rfl, by (intro w hSw; (try dsimp only at hSw); go_simp)⟩
    case hS6x7 => assumption
    (try simp only [Act.put, List.setIfInBounds_toArray, List.set_cons_zero, List.set_cons_succ])
    refine' wpAnyH_take (i := 7) (v := .slice E m cm) ?hi7x8 ?hs7x8 ?hf7x8 ?hr7x8 ?hQ7x8 ?hy7x8 ?hS7x8 ?rest7x8
    case hi7x8 => (simp only [List.getElem?_toArray, List.getElem?_cons_succ, List.getElem?_cons_zero]; try rfl)
    case hs7x8 => kernel_rfl
    case hf7x8 => kernel_rfl
    case hr7x8 => kernel_rfl
    case hQ7x8 => exact fun _ _ _ h => h
    case hy7x8 => exact Or.inl ⟨by rfl, by (intro w hSw; (try dsimp only at hSw); go_simp)⟩
    case hS7x8 => assumption
    (try simp only [Act.put, List.setIfInBounds_toArray, List.set_cons_zero, List.set_cons_succ])
    refine wpAnyH_ready (rs := [8, 11]) (by kernel_rfl) (by simp) ?_
    refine' (AllReadyH.cons (i := 8) ?ho8x9 (fun K hK => ?st8x9) (AllReadyH.cons (i := 11) ?ho11x10 (fun K hK => ?st11x10) AllReadyH.nil))
    case ho8x9 => (simp only [List.getElem?_toArray, List.getElem?_cons_succ, List.getElem?_cons_zero]; try rfl)
    case ho11x10 => (simp only [List.getElem?_toArray, List.getElem?_cons_succ, List.getElem?_cons_zero]; try rfl)
    case st8x9 =>
      go_simp
      refine hK.out _ _ ?_ (fun hHeld => ?_)
      · exact keepA hAH.out hBH.out (hb.drew.alloc (by have := hb.size; simp; omega) _)
      clear hK K
      (try simp only [Act.put, List.setIfInBounds_toArray, List.set_cons_zero, List.set_cons_succ])
      refine wpAnyH_ready (rs := [9, 11]) (by kernel_rfl) (by simp) ?_
      refine' (AllReadyH.cons (i := 9) ?ho9x11 (fun K hK => ?st9x11) (AllReadyH.cons (i := 11) ?ho11x12 (fun K hK => ?st11x12) AllReadyH.nil))
      case ho9x11 => (simp only [List.getElem?_toArray, List.getElem?_cons_succ, List.getElem?_cons_zero]; try rfl)
      case ho11x12 => (simp only [List.getElem?_toArray, List.getElem?_cons_succ, List.getElem?_cons_zero]; try rfl)
      case st9x11 =>
        go_simp
        refine (concat2_any _ _ (l.take k) en _ ((SlsV.two hkH.out hpH2.out _).drew) (by have := hstH.out; rw [List.length_take]; omega) hspH.out).mono ?_; rintro e_ w' ⟨v', rfl, ho', hb'⟩; obtain ⟨A', n', c', rfl, hn', hc1', hc2'⟩ := ho'.words.form; have hoH := Lib.hid (ho'.low (B' := W0.heap.size) (by have := hb.size; first | omega | (simp; done) | (simp; omega))); replace hb := chainB (B := W0.heap.size) (a := W0) (hb.drew.alloc (by have := hb.size; first | omega | (simp; done) | (simp; omega)) _) hb' (by have := hb.size; first | omega | (simp; done) | (simp; omega)); clear ho' hn' hb'
        refine hK.out _ _ ?_ (fun hHeld => ?_)
        · exact keepA hAH.out hBH.out hb
        clear hK K
        (try simp only [Act.put, List.setIfInBounds_toArray, List.set_cons_zero, List.set_cons_succ])
        refine' wpAnyH_take (i := 10) (v := .agg #[.int .u64 e, .slice A' n' c']) ?hi10x13 ?hs10x13 ?hf10x13 ?hr10x13 ?hQ10x13 ?hy10x13 ?hS10x13 ?rest10x13
        case hi10x13 => (simp only [List.getElem?_toArray, List.getElem?_cons_succ, List.getElem?_cons_zero]; try rfl)
        case hs10x13 => kernel_rfl
        case hf10x13 => kernel_rfl
        case hr10x13 => kernel_rfl
        case hQ10x13 => exact fun _ _ _ h => h
        case hy10x13 => exact Or.inl ⟨by rfl, by (intro w hSw; (try dsimp only at hSw); go_simp)⟩
        case hS10x13 => assumption
        (try simp only [Act.put, List.setIfInBounds_toArray, List.set_cons_zero, List.set_cons_succ])
        refine wpAnyH_ready (rs := [11]) (by kernel_rfl) (by simp) ?_
        refine' (AllReadyH.cons (i := 11) ?ho11x14 (fun K hK => ?st11x14) AllReadyH.nil)
        case ho11x14 => (simp only [List.getElem?_toArray, List.getElem?_cons_succ, List.getElem?_cons_zero]; try rfl)
        case st11x14 =>
          go_simp
          refine hK.out _ _ ?_ (fun hHeld => ?_)
          · exact keepA hAH.out hBH.out (hb.alloc hb.size _)
          clear hK K
          (try simp only [Act.put, List.setIfInBounds_toArray, List.set_cons_zero, List.set_cons_succ])
          refine wpAnyH_ready (rs := [12]) (by kernel_rfl) (by simp) ?_
          refine' (AllReadyH.cons (i := 12) ?ho12x15 (fun K hK => ?st12x15) AllReadyH.nil)
          case ho12x15 => (simp only [List.getElem?_toArray, List.getElem?_cons_succ, List.getElem?_cons_zero]; try rfl)
          case st12x15 =>
            go_simp
            refine hK.out _ _ ?_ (fun hHeld => ?_)
            · exact keepA hAH.out hBH.out (hb.alloc hb.size _)
            clear hK K
            (try simp only [Act.put, List.setIfInBounds_toArray, List.set_cons_zero, List.set_cons_succ])
            refine wpAnyH_done (by kernel_rfl) ?_ _
            refine NoPanic.normal ?_
            go_wp2_with fail
            go_meet
            exact relN_new hoH.out hb hb.size
      case st11x12 =>
        go_simp
        refine hK.out _ _ ?_ (fun hHeld => ?_)
        · exact keepA hAH.out hBH.out ((hb.drew.alloc (by have := hb.size; simp; omega) _).alloc (by have := hb.size; simp; omega) _)
        clear hK K
        (try simp only [Act.put, List.setIfInBounds_toArray, List.set_cons_zero, List.set_cons_succ])
        refine wpAnyH_ready (rs := [9]) (by kernel_rfl) (by simp) ?_
        refine' (AllReadyH.cons (i := 9) ?ho9x16 (fun K hK => ?st9x16) AllReadyH.nil)
        case ho9x16 => (simp only [List.getElem?_toArray, List.getElem?_cons_succ, List.getElem?_cons_zero]; try rfl)
        case st9x16 =>
          go_simp
          refine (concat2_any _ _ (l.take k) en _ (((SlsV.two hkH.out hpH2.out _).alloc _).drew) (by have := hstH.out; rw [List.length_take]; omega) hspH.out).mono ?_; rintro e_ w' ⟨v', rfl, ho', hb'⟩; obtain ⟨A', n', c', rfl, hn', hc1', hc2'⟩ := ho'.words.form; have hoH := Lib.hid (ho'.low (B' := W0.heap.size) (by have := hb.size; first | omega | (simp; done) | (simp; omega))); have hO := Lib.hid (show HasC w' (w1.heap.size + 1) [.int .u64 0, .slice none 0 0] 25 by simpa only [World.size_alloc] using (HasC.new (w1.alloc (.cells #[.slice A k ca, .slice E m cm] 23)) [.int .u64 0, .slice none 0 0] 25).drew.below hb'); replace hb := chainB (B := W0.heap.size) (a := W0) ((hb.drew.alloc (by have := hb.size; first | omega | (simp; done) | (simp; omega)) _).alloc (by have := hb.size; first | omega | (simp; done) | (simp; omega)) _) hb' (by have := hb.size; first | omega | (simp; done) | (simp; omega)); clear ho' hn' hb'; have o0_ := hO.out.cell 0 rfl; have o1_ := hO.out.cell 1 rfl; have of0_ := hO.out.free 0; have of1_ := hO.out.free 1; have ol_ := hO.out.lt
          refine hK.out _ _ ?_ (fun hHeld => ?_)
          · exact keepA hAH.out hBH.out hb
          clear hK K
          (try simp only [Act.put, List.setIfInBounds_toArray, List.set_cons_zero, List.set_cons_succ])
          refine' wpAnyH_take (i := 10) (v := .agg #[.int .u64 e, .slice A' n' c']) ?hi10x17 ?hs10x17 ?hf10x17 ?hr10x17 ?hQ10x17 ?hy10x17 ?hS10x17 ?rest10x17
          case hi10x17 => (simp only [List.getElem?_toArray, List.getElem?_cons_succ, List.getElem?_cons_zero]; try rfl)
          case hs10x17 => kernel_rfl
          case hf10x17 => kernel_rfl
          case hr10x17 => kernel_rfl
          case hQ10x17 => exact fun _ _ _ h => h
          case hy10x17 => exact Or.inl ⟨by rfl, by (intro w hSw; (try dsimp only at hSw); go_simp)⟩
          case hS10x17 => assumption
          (try simp only [Act.put, List.setIfInBounds_toArray, List.set_cons_zero, List.set_cons_succ])
          refine wpAnyH_ready (rs := [12]) (by kernel_rfl) (by simp) ?_
          refine' (AllReadyH.cons (i := 12) ?ho12x18 (fun K hK => ?st12x18) AllReadyH.nil)
          case ho12x18 => (simp only [List.getElem?_toArray, List.getElem?_cons_succ, List.getElem?_cons_zero]; try rfl)
          case st12x18 =>
            go_simp
            refine hK.out _ _ ?_ (fun hHeld => ?_)
            · exact keepA hAH.out hBH.out ((hb.setCell (by have := hs1.out; simp; omega) _).setCell (by have := hs1.out; simp; omega) _)
            clear hK K
            (try simp only [Act.put, List.setIfInBounds_toArray, List.set_cons_zero, List.set_cons_succ])
            refine wpAnyH_done (by kernel_rfl) ?_ _
            refine NoPanic.normal ?_
            go_wp2_with fail
            go_meet
            exact relN_set hoH.out hb hO.out (by have := hs1.out; omega)
    case st11x10 =>
      go_simp
      refine hK.out _ _ ?_ (fun hHeld => ?_)
      · exact keepA hAH.out hBH.out (hb.drew.alloc (by have := hb.size; simp; omega) _)
      clear hK K
      (try simp only [Act.put, List.setIfInBounds_toArray, List.set_cons_zero, List.set_cons_succ])
      refine wpAnyH_ready (rs := [8]) (by kernel_rfl) (by simp) ?_
      refine' (AllReadyH.cons (i := 8) ?ho8x19 (fun K hK => ?st8x19) AllReadyH.nil)
      case ho8x19 => (simp only [List.getElem?_toArray, List.getElem?_cons_succ, List.getElem?_cons_zero]; try rfl)
      case st8x19 =>
        go_simp
        refine hK.out _ _ ?_ (fun hHeld => ?_)
        · exact keepA hAH.out hBH.out ((hb.drew.alloc (by have := hb.size; simp; omega) _).alloc (by have := hb.size; simp; omega) _)
        clear hK K
        (try simp only [Act.put, List.setIfInBounds_toArray, List.set_cons_zero, List.set_cons_succ])
        refine wpAnyH_ready (rs := [9]) (by kernel_rfl) (by simp) ?_
        refine' (AllReadyH.cons (i := 9) ?ho9x20 (fun K hK => ?st9x20) AllReadyH.nil)
        case ho9x20 => (simp only [List.getElem?_toArray, List.getElem?_cons_succ, List.getElem?_cons_zero]; try rfl)
        case st9x20 =>
          go_simp
          refine (concat2_any _ _ (l.take k) en _ ((SlsV.two_at (hkH.out.alloc _) (hpH2.out.alloc _) _ (by simp)).drew) (by have := hstH.out; rw [List.length_take]; omega) hspH.out).mono ?_; rintro e_ w' ⟨v', rfl, ho', hb'⟩; obtain ⟨A', n', c', rfl, hn', hc1', hc2'⟩ := ho'.words.form; have hoH := Lib.hid (ho'.low (B' := W0.heap.size) (by have := hb.size; first | omega | (simp; done) | (simp; omega))); have hO := Lib.hid ((((HasC.new w1 [.int .u64 0, .slice none 0 0] 25).alloc (.cells #[.slice A k ca, .slice E m cm] 23)).drew).below hb'); replace hb := chainB (B := W0.heap.size) (a := W0) ((hb.drew.alloc (by have := hb.size; first | omega | (simp; done) | (simp; omega)) _).alloc (by have := hb.size; first | omega | (simp; done) | (simp; omega)) _) hb' (by have := hb.size; first | omega | (simp; done) | (simp; omega)); clear ho' hn' hb'; have o0_ := hO.out.cell 0 rfl; have o1_ := hO.out.cell 1 rfl; have of0_ := hO.out.free 0; have of1_ := hO.out.free 1; have ol_ := hO.out.lt
          refine hK.out _ _ ?_ (fun hHeld => ?_)
          · exact keepA hAH.out hBH.out hb
          clear hK K
          (try simp only [Act.put, List.setIfInBounds_toArray, List.set_cons_zero, List.set_cons_succ])
          refine' wpAnyH_take (i := 10) (v := .agg #[.int .u64 e, .slice A' n' c']) ?hi10x21 ?hs10x21 ?hf10x21 ?hr10x21 ?hQ10x21 ?hy10x21 ?hS10x21 ?rest10x21
          case hi10x21 => (simp only [List.getElem?_toArray, List.getElem?_cons_succ, List.getElem?_cons_zero]; try rfl)
          case hs10x21 => kernel_rfl
          case hf10x21 => kernel_rfl
          case hr10x21 => kernel_rfl
          case hQ10x21 => exact fun _ _ _ h => h
          case hy10x21 => exact Or.inl ⟨by rfl, by (intro w hSw; (try dsimp only at hSw); go_simp)⟩
          case hS10x21 => assumption
          (try simp only [Act.put, List.setIfInBounds_toArray, List.set_cons_zero, List.set_cons_succ])
          refine wpAnyH_ready (rs := [12]) (by kernel_rfl) (by simp) ?_
          refine' (AllReadyH.cons (i := 12) ?ho12x22 (fun K hK => ?st12x22) AllReadyH.nil)
          case ho12x22 => (simp only [List.getElem?_toArray, List.getElem?_cons_succ, List.getElem?_cons_zero]; try rfl)
          case st12x22 =>
            go_simp
            refine hK.out _ _ ?_ (fun hHeld => ?_)
            · exact keepA hAH.out hBH.out ((hb.setCell (by have := hs1.out; simp; omega) _).setCell (by have := hs1.out; simp; omega) _)
            clear hK K
            (try simp only [Act.put, List.setIfInBounds_toArray, List.set_cons_zero, List.set_cons_succ])
            refine wpAnyH_done (by kernel_rfl) ?_ _
            refine NoPanic.normal ?_
            go_wp2_with fail
            go_meet
            exact relN_set hoH.out hb hO.out (by have := hs1.out; omega)
  case rest =>
    unfold RelN at hcut
    obtain ⟨o, v, rfl, hoB, hO, hown, hbw⟩ := hcut
    obtain ⟨V, n', c', rfl, hn', hc1', hc2'⟩ := hown.words.form
    have hownH := Lib.hid hown; have hOH := Lib.hid hO; have hnn := Lib.hid hn'
    clear a0_ a1_ a2_ b0_ b1_ r0_ r1_ rf0_ rf1_ hz hb hown hO hn'
    have hb := hbw
    clear hbw
    have a0_ := (hAH.out.below hb).cell 0 rfl; have a1_ := (hAH.out.below hb).cell 1 rfl; have a2_ := (hAH.out.below hb).cell 2 rfl; have b0_ := (hBH.out.below hb).cell 0 rfl; have b1_ := (hBH.out.below hb).cell 1 rfl; have r0_ := (hRH.out.below hb).cell 0 rfl; have r1_ := (hRH.out.below hb).cell 1 rfl; have rf0_ := (hRH.out.below hb).free 0; have rf1_ := (hRH.out.below hb).free 1; have hz := Nat.lt_of_lt_of_le hzz hb.size
    have o0_ := hOH.out.cell 0 rfl; have o1_ := hOH.out.cell 1 rfl; have of0_ := hOH.out.free 0; have of1_ := hOH.out.free 1
    have hbW := Lib.hid (hwWH.out.trans (hb.mono hwWH.out.size))
    have hlenH := Lib.hid (show n' = k + m by have := hnn.out; have := hnH.out; have := hmH.out; rw [List.length_append, List.length_take] at *; omega)
    have htop : ∀ a b : Int, a + b ≤ 18446744073709551615 → True := fun _ _ _ => trivial
    clear htop
    by_cases hk0 : k = 0
    · subst hk0
      by_cases hf : e + pa ≤ 18446744073709551615
      · have hfit : Hid (decide (e + pa ≤ 18446744073709551615) = true) := Lib.hid (by simpa using hf)
        by_cases hl3 : 3 < n'
        · obtain ⟨q1, q2⟩ := apply_long (p := ⟨lv, pa, en⟩) (t := ⟨e, l⟩) hlvH0.out hkH0.out (by simp [topK, tl]; omega) (by have := hmH.out; have := hlenH.out; simp only; omega)
          have q1H := Lib.hid (q1.symm.trans hcH.out); have q2H := Lib.hid (q2.symm.trans hTH.out)
          clear q1 q2 hcH hTH
          obtain rfl := q1H.out
          obtain rfl := q2H.out
          clear q1H q2H
          go_wp2_with fail
          refine (grown64_any _ _ _ ⟨e0, e1⟩ ⟨pa0, pa1⟩).mono ?_
          rw [hfit.out]
          rintro e_ w' ⟨rfl, rfl⟩
          go_wp2_with fail
          refine bodyPost_ret (v := .tuple #[.agg #[.int .u64 0, .slice none 0 0], .int .u16 40]) (by simp [results, Tryd.results28, go_sem, r0_, r1_, o0_, o1_, hz]) rfl ⟨_, rfl, ?_, ?_⟩
          · exact OwnW.nil _ _
          · (repeat' (first | exact hbW.out | exact hwWH.out | (refine Below.drew ?_) | (refine Below.setCell ?_ (by first | (simp; done) | (simp; omega) | (have := hwWH.out.size; simp; omega)) _)))
        · obtain ⟨q1, q2⟩ := apply_fine (p := ⟨lv, pa, en⟩) (t := ⟨e, l⟩) hlvH0.out hkH0.out (by simp [topK, tl]; omega) (by have := hmH.out; have := hlenH.out; simp only; omega)
          rw [apply_zero] at q2
          have q1H := Lib.hid (q1.symm.trans hcH.out); have q2H := Lib.hid (q2.symm.trans hTH.out)
          clear q1 q2 hcH hTH
          obtain rfl := q1H.out
          obtain rfl := q2H.out
          clear q1H q2H
          have hsum : IntKind.u64.wrap (e + pa) = e + pa := IntWalk.u64_in _ (by omega)
          have hsH := Lib.hid hsum
          clear hsum
          go_wp2_with fail
          refine (grown64_any _ _ _ ⟨e0, e1⟩ ⟨pa0, pa1⟩).mono ?_
          rw [hfit.out, hsH.out]
          rintro e_ w' ⟨rfl, rfl⟩
          go_wp2_with fail
          refine bodyPost_ret (v := .tuple #[.agg #[.int .u64 (e + pa), .slice V n' c'], .int .u16 0]) (by simp [results, Tryd.results28, go_sem, r0_, r1_, o0_, o1_, hz]) rfl ⟨_, rfl, ?_, ?_⟩
          · exact (((hownH.out.far hOH.out (by decide) 0 _).under (by simp; omega) _).under (by simp; omega) _).low hwWH.out.size
          · (repeat' (first | exact hbW.out | exact hwWH.out | (refine Below.drew ?_) | (refine Below.setCell ?_ (by first | (simp; done) | (simp; omega) | (have := hwWH.out.size; simp; omega)) _)))
      · have hfit : Hid (decide (e + pa ≤ 18446744073709551615) = false) := Lib.hid (by simpa using hf)
        obtain ⟨q1, q2⟩ := apply_over (p := ⟨lv, pa, en⟩) (t := ⟨e, l⟩) hlvH0.out hkH0.out (by simp [topK, tl]; omega)
        have q1H := Lib.hid (q1.symm.trans hcH.out); have q2H := Lib.hid (q2.symm.trans hTH.out)
        clear q1 q2 hcH hTH
        obtain rfl := q1H.out
        obtain rfl := q2H.out
        clear q1H q2H
        go_wp2_with fail
        refine (grown64_any _ _ _ ⟨e0, e1⟩ ⟨pa0, pa1⟩).mono ?_
        rw [hfit.out]
        rintro e_ w' ⟨rfl, rfl⟩
        go_wp2_with fail
        refine bodyPost_ret (v := .tuple #[.agg #[.int .u64 0, .slice none 0 0], .int .u16 41]) (by simp [results, Tryd.results28, go_sem, r0_, r1_, o0_, o1_, hz]) rfl ⟨_, rfl, ?_, ?_⟩
        · exact OwnW.nil _ _
        · (repeat' (first | exact hbW.out | exact hwWH.out | (refine Below.drew ?_) | (refine Below.setCell ?_ (by first | (simp; done) | (simp; omega) | (have := hwWH.out.size; simp; omega)) _)))
    · obtain ⟨j, hj⟩ : ∃ j, k = j + 1 := ⟨k - 1, by omega⟩
      have hk1 : ((k : Int) == 0) = false := by simp; omega
      have hjl : j < l.length := by have := hnH.out; omega
      obtain ⟨g, cap, he, hcap, hcap2, hgB, hgl, hcell, hfree, hoth⟩ := hownH.out.row (by have := hnn.out; have := hlenH.out; omega)
      rw [hnn.out] at he hcap
      obtain ⟨rfl, _, rfl⟩ := Value.slice.inj he
      have hog := hoth o _ _ hOH.out (by decide)
      obtain ⟨x, hx⟩ : ∃ x, l[j]? = some x := ⟨_, List.getElem?_eq_getElem hjl⟩
      obtain ⟨ad, rfl, hbb, bc_⟩ := (htH.out.below hb).at hjl
      rw [show l[j] = x by rw [List.getElem?_eq_getElem hjl] at hx; exact Option.some.inj hx] at bc_
      obtain ⟨x0, x1⟩ := wlH.out x (List.mem_of_getElem? hx)
      have hadl : (ad.add j).block < W0.heap.size := by
        obtain ⟨ad2, e2, hb2, _⟩ := htH.out.at hjl
        cases e2
        exact hb2
      have hadg : (ad.add j).block ≠ g := by omega
      have gf_ := hfree j
      have g_ : ∃ u, wc.cell? ⟨g, j, none⟩ = some u := by
        obtain ⟨u, hu⟩ : ∃ u, (l.take k ++ en)[j]? = some u := ⟨_, List.getElem?_eq_getElem (by have := hnn.out; have := hlenH.out; omega)⟩
        exact ⟨_, hcell j u hu⟩
      obtain ⟨u, g_⟩ := g_
      obtain ⟨ft, hft⟩ : ∃ ft, decide (x + pa ≤ 4294967295) = ft := ⟨_, rfl⟩
      obtain ⟨zz, hzz2⟩ : ∃ z, IntKind.u32.wrap (x + pa) = z := ⟨_, rfl⟩
      have hftH := Lib.hid hft; have hzzH := Lib.hid hzz2; have hxH := Lib.hid hx; have hjH := Lib.hid hj
      have hsetH := Lib.hid (show (l.take k ++ en).set j zz = l.take j ++ zz :: en by rw [hj]; exact set_take hjl)
      have hjk : (k : Int) - 1 = (j : Int) := by omega
      have hjn : j < n' := by have := hlenH.out; omega
      have hjn2 : j < n := by omega
      have wk : IntKind.i64.wrap (j : Int) = (j : Int) := IntWalk.i64_in _ (by omega)
      clear hft hzz2 hx hj hcell hfree he hjl
      go_wp2_with fail
      refine wp_region_noPanic ?_
      refine wp_region_held_drew (S := (fun w' => w'.cell? ⟨o, 1, none⟩ = some (.slice (some ⟨g, 0, none⟩) n' c') ∧ w'.cell? ⟨w.heap.size + 1, 1, none⟩ = some (.slice (some ad) n ca) ∧ w'.cell? ⟨w.heap.size, 1, none⟩ = some (.int .u32 pa) ∧ w'.cell? (ad.add j) = some (.int .u32 x))) (by kernel_rfl) (⟨o1_, b1_, a1_, bc_⟩) (fun hHeld => ?_)
      refine' wpAnyH_take (i := 0) (v := .pointer (some ⟨o, 1, none⟩)) ?hi0x23 ?hs0x23 ?hf0x23 ?hr0x23 ?hQ0x23 ?hy0x23 ?hS0x23 ?rest0x23
      case hi0x23 => (simp only [List.getElem?_toArray, List.getElem?_cons_succ, List.getElem?_cons_zero]; try rfl)
      case hs0x23 => kernel_rfl
      case hf0x23 => kernel_rfl
      case hr0x23 => kernel_rfl
      case hQ0x23 => exact fun _ _ _ h => h
      case hy0x23 => exact Or.inl ⟨by rfl, by (intro w hSw; (try dsimp only at hSw); go_simp)⟩
      case hS0x23 => assumption
      (try simp only [Act.put, List.setIfInBounds_toArray, List.set_cons_zero, List.set_cons_succ])
      refine' wpAnyH_take (i := 1) (v := .slice (some ⟨g, 0, none⟩) n' c') ?hi1x24 ?hs1x24 ?hf1x24 ?hr1x24 ?hQ1x24 ?hy1x24 ?hS1x24 ?rest1x24
      case hi1x24 => (simp only [List.getElem?_toArray, List.getElem?_cons_succ, List.getElem?_cons_zero]; try rfl)
      case hs1x24 => kernel_rfl
      case hf1x24 => kernel_rfl
      case hr1x24 => kernel_rfl
      case hQ1x24 => exact fun _ _ _ h => h
      case hy1x24 => exact Or.inl ⟨by rfl, by (intro w hSw; (try dsimp only at hSw); go_simp)⟩
      case hS1x24 => assumption
      (try simp only [Act.put, List.setIfInBounds_toArray, List.set_cons_zero, List.set_cons_succ])
      refine' wpAnyH_take (i := 2) (v := .int .i64 (k : Int)) ?hi2x25 ?hs2x25 ?hf2x25 ?hr2x25 ?hQ2x25 ?hy2x25 ?hS2x25 ?rest2x25
      case hi2x25 => (simp only [List.getElem?_toArray, List.getElem?_cons_succ, List.getElem?_cons_zero]; try rfl)
      case hs2x25 => kernel_rfl
      case hf2x25 => kernel_rfl
      case hr2x25 => kernel_rfl
      case hQ2x25 => exact fun _ _ _ h => h
      case hy2x25 => exact Or.inl ⟨by rfl, by (intro w hSw; (try dsimp only at hSw); go_simp)⟩
      case hS2x25 => assumption
      (try simp only [Act.put, List.setIfInBounds_toArray, List.set_cons_zero, List.set_cons_succ])
      refine' wpAnyH_take (i := 3) (v := .int .i64 (j : Int)) ?hi3x26 ?hs3x26 ?hf3x26 ?hr3x26 ?hQ3x26 ?hy3x26 ?hS3x26 ?rest3x26
      case hi3x26 => (simp only [List.getElem?_toArray, List.getElem?_cons_succ, List.getElem?_cons_zero]; try rfl)
      case hs3x26 => kernel_rfl
      case hf3x26 => kernel_rfl
      case hr3x26 => kernel_rfl
      case hQ3x26 => exact fun _ _ _ h => h
      case hy3x26 => exact Or.inl ⟨by rfl, by (intro w hSw; (try dsimp only at hSw); go_simp)⟩
      case hS3x26 => assumption
      (try simp only [Act.put, List.setIfInBounds_toArray, List.set_cons_zero, List.set_cons_succ])
      refine' wpAnyH_take (i := 4) (v := .pointer (some ⟨w.heap.size + 1, 1, none⟩)) ?hi4x27 ?hs4x27 ?hf4x27 ?hr4x27 ?hQ4x27 ?hy4x27 ?hS4x27 ?rest4x27
      case hi4x27 => (simp only [List.getElem?_toArray, List.getElem?_cons_succ, List.getElem?_cons_zero]; try rfl)
      case hs4x27 => kernel_rfl
      case hf4x27 => kernel_rfl
      case hr4x27 => kernel_rfl
      case hQ4x27 => exact fun _ _ _ h => h
      case hy4x27 => exact Or.inl ⟨by rfl, by (intro w hSw; (try dsimp only at hSw); go_simp)⟩
      case hS4x27 => assumption
      (try simp only [Act.put, List.setIfInBounds_toArray, List.set_cons_zero, List.set_cons_succ])
      refine' wpAnyH_take (i := 5) (v := .slice (some ad) n ca) ?hi5x28 ?hs5x28 ?hf5x28 ?hr5x28 ?hQ5x28 ?hy5x28 ?hS5x28 ?rest5x28
      case hi5x28 => (simp only [List.getElem?_toArray, List.getElem?_cons_succ, List.getElem?_cons_zero]; try rfl)
      case hs5x28 => kernel_rfl
      case hf5x28 => kernel_rfl
      case hr5x28 => kernel_rfl
      case hQ5x28 => exact fun _ _ _ h => h
      case hy5x28 => exact Or.inl ⟨by rfl, by (intro w hSw; (try dsimp only at hSw); go_simp)⟩
      case hS5x28 => assumption
      (try simp only [Act.put, List.setIfInBounds_toArray, List.set_cons_zero, List.set_cons_succ])
      refine' wpAnyH_take (i := 6) (v := .int .i64 (k : Int)) ?hi6x29 ?hs6x29 ?hf6x29 ?hr6x29 ?hQ6x29 ?hy6x29 ?hS6x29 ?rest6x29
      case hi6x29 => (simp only [List.getElem?_toArray, List.getElem?_cons_succ, List.getElem?_cons_zero]; try rfl)
      case hs6x29 => kernel_rfl
      case hf6x29 => kernel_rfl
      case hr6x29 => kernel_rfl
      case hQ6x29 => exact fun _ _ _ h => h
      case hy6x29 => exact Or.inl ⟨by rfl, by (intro w hSw; (try dsimp only at hSw); go_simp)⟩
      case hS6x29 => assumption
      (try simp only [Act.put, List.setIfInBounds_toArray, List.set_cons_zero, List.set_cons_succ])
      refine' wpAnyH_take (i := 7) (v := .int .i64 (j : Int)) ?hi7x30 ?hs7x30 ?hf7x30 ?hr7x30 ?hQ7x30 ?hy7x30 ?hS7x30 ?rest7x30
      case hi7x30 => (simp only [List.getElem?_toArray, List.getElem?_cons_succ, List.getElem?_cons_zero]; try rfl)
      case hs7x30 => kernel_rfl
      case hf7x30 => kernel_rfl
      case hr7x30 => kernel_rfl
      case hQ7x30 => exact fun _ _ _ h => h
      case hy7x30 => exact Or.inl ⟨by rfl, by (intro w hSw; (try dsimp only at hSw); go_simp)⟩
      case hS7x30 => assumption
      (try simp only [Act.put, List.setIfInBounds_toArray, List.set_cons_zero, List.set_cons_succ])
      refine' wpAnyH_take (i := 8) (v := .pointer (some (ad.add j))) ?hi8x31 ?hs8x31 ?hf8x31 ?hr8x31 ?hQ8x31 ?hy8x31 ?hS8x31 ?rest8x31
      case hi8x31 => (simp only [List.getElem?_toArray, List.getElem?_cons_succ, List.getElem?_cons_zero]; try rfl)
      case hs8x31 => kernel_rfl
      case hf8x31 => kernel_rfl
      case hr8x31 => kernel_rfl
      case hQ8x31 => exact fun _ _ _ h => h
      case hy8x31 => exact Or.inl ⟨by rfl, by (intro w hSw; (try dsimp only at hSw); go_simp)⟩
      case hS8x31 => assumption
      (try simp only [Act.put, List.setIfInBounds_toArray, List.set_cons_zero, List.set_cons_succ])
      refine' wpAnyH_take (i := 9) (v := .int .u32 x) ?hi9x32 ?hs9x32 ?hf9x32 ?hr9x32 ?hQ9x32 ?hy9x32 ?hS9x32 ?rest9x32
      case hi9x32 => (simp only [List.getElem?_toArray, List.getElem?_cons_succ, List.getElem?_cons_zero]; try rfl)
      case hs9x32 => kernel_rfl
      case hf9x32 => kernel_rfl
      case hr9x32 => kernel_rfl
      case hQ9x32 => exact fun _ _ _ h => h
      case hy9x32 => exact Or.inl ⟨by rfl, by (intro w hSw; (try dsimp only at hSw); go_simp)⟩
      case hS9x32 => assumption
      (try simp only [Act.put, List.setIfInBounds_toArray, List.set_cons_zero, List.set_cons_succ])
      refine' wpAnyH_take (i := 10) (v := .pointer (some ⟨w.heap.size, 1, none⟩)) ?hi10x33 ?hs10x33 ?hf10x33 ?hr10x33 ?hQ10x33 ?hy10x33 ?hS10x33 ?rest10x33
      case hi10x33 => (simp only [List.getElem?_toArray, List.getElem?_cons_succ, List.getElem?_cons_zero]; try rfl)
      case hs10x33 => kernel_rfl
      case hf10x33 => kernel_rfl
      case hr10x33 => kernel_rfl
      case hQ10x33 => exact fun _ _ _ h => h
      case hy10x33 => exact Or.inl ⟨by rfl, by (intro w hSw; (try dsimp only at hSw); go_simp)⟩
      case hS10x33 => assumption
      (try simp only [Act.put, List.setIfInBounds_toArray, List.set_cons_zero, List.set_cons_succ])
      refine' wpAnyH_take (i := 11) (v := .int .u32 pa) ?hi11x34 ?hs11x34 ?hf11x34 ?hr11x34 ?hQ11x34 ?hy11x34 ?hS11x34 ?rest11x34
      case hi11x34 => (simp only [List.getElem?_toArray, List.getElem?_cons_succ, List.getElem?_cons_zero]; try rfl)
      case hs11x34 => kernel_rfl
      case hf11x34 => kernel_rfl
      case hr11x34 => kernel_rfl
      case hQ11x34 => exact fun _ _ _ h => h
      case hy11x34 => exact Or.inl ⟨by rfl, by (intro w hSw; (try dsimp only at hSw); go_simp)⟩
      case hS11x34 => assumption
      (try simp only [Act.put, List.setIfInBounds_toArray, List.set_cons_zero, List.set_cons_succ])
      refine wpAnyH_ready (rs := [12]) (by kernel_rfl) (by simp) ?_
      refine' (AllReadyH.cons (i := 12) ?ho12x35 (fun K hK => ?st12x35) AllReadyH.nil)
      case ho12x35 => (simp only [List.getElem?_toArray, List.getElem?_cons_succ, List.getElem?_cons_zero]; try rfl)
      case st12x35 =>
        go_simp
        refine (grown32_any _ _ _ ⟨x0, x1⟩ ⟨pa0, pa1⟩).mono ?_; rw [hzzH.out, hftH.out]; rintro e_ w' ⟨rfl, rfl⟩
        refine hK.out _ _ ?_ (fun hHeld => ?_)
        · exact ⟨o1_, b1_, a1_, bc_⟩
        clear hK K
        (try simp only [Act.put, List.setIfInBounds_toArray, List.set_cons_zero, List.set_cons_succ])
        refine' wpAnyH_take (i := 13) (v := .tuple #[.int .u32 zz, .bool ft]) ?hi13x36 ?hs13x36 ?hf13x36 ?hr13x36 ?hQ13x36 ?hy13x36 ?hS13x36 ?rest13x36
        case hi13x36 => (simp only [List.getElem?_toArray, List.getElem?_cons_succ, List.getElem?_cons_zero]; try rfl)
        case hs13x36 => kernel_rfl
        case hf13x36 => kernel_rfl
        case hr13x36 => kernel_rfl
        case hQ13x36 => exact fun _ _ _ h => h
        case hy13x36 => exact Or.inl ⟨by rfl, by (intro w hSw; (try dsimp only at hSw); go_simp)⟩
        case hS13x36 => assumption
        (try simp only [Act.put, List.setIfInBounds_toArray, List.set_cons_zero, List.set_cons_succ])
        refine' wpAnyH_take (i := 14) (v := .int .u32 zz) ?hi14x37 ?hs14x37 ?hf14x37 ?hr14x37 ?hQ14x37 ?hy14x37 ?hS14x37 ?rest14x37
        case hi14x37 => (simp only [List.getElem?_toArray, List.getElem?_cons_succ, List.getElem?_cons_zero]; try rfl)
        case hs14x37 => kernel_rfl
        case hf14x37 => kernel_rfl
        case hr14x37 => kernel_rfl
        case hQ14x37 => exact fun _ _ _ h => h
        case hy14x37 => exact Or.inl ⟨by rfl, by (intro w hSw; (try dsimp only at hSw); go_simp)⟩
        case hS14x37 => assumption
        (try simp only [Act.put, List.setIfInBounds_toArray, List.set_cons_zero, List.set_cons_succ])
        refine' wpAnyH_take (i := 15) (v := .bool ft) ?hi15x38 ?hs15x38 ?hf15x38 ?hr15x38 ?hQ15x38 ?hy15x38 ?hS15x38 ?rest15x38
        case hi15x38 => (simp only [List.getElem?_toArray, List.getElem?_cons_succ, List.getElem?_cons_zero]; try rfl)
        case hs15x38 => kernel_rfl
        case hf15x38 => kernel_rfl
        case hr15x38 => kernel_rfl
        case hQ15x38 => exact fun _ _ _ h => h
        case hy15x38 => exact Or.inl ⟨by rfl, by (intro w hSw; (try dsimp only at hSw); go_simp)⟩
        case hS15x38 => assumption
        (try simp only [Act.put, List.setIfInBounds_toArray, List.set_cons_zero, List.set_cons_succ])
        refine' wpAnyH_take (i := 16) (v := .pointer (some ⟨g, j, none⟩)) ?hi16x39 ?hs16x39 ?hf16x39 ?hr16x39 ?hQ16x39 ?hy16x39 ?hS16x39 ?rest16x39
        case hi16x39 => (simp only [List.getElem?_toArray, List.getElem?_cons_succ, List.getElem?_cons_zero]; try rfl)
        case hs16x39 => kernel_rfl
        case hf16x39 => kernel_rfl
        case hr16x39 => kernel_rfl
        case hQ16x39 => exact fun _ _ _ h => h
        case hy16x39 => exact Or.inl ⟨by rfl, by (intro w hSw; (try dsimp only at hSw); go_simp)⟩
        case hS16x39 => assumption
        (try simp only [Act.put, List.setIfInBounds_toArray, List.set_cons_zero, List.set_cons_succ])
        refine wpAnyH_ready (rs := [17]) (by kernel_rfl) (by simp) ?_
        refine' (AllReadyH.cons (i := 17) ?ho17x40 (fun K hK => ?st17x40) AllReadyH.nil)
        case ho17x40 => (simp only [List.getElem?_toArray, List.getElem?_cons_succ, List.getElem?_cons_zero]; try rfl)
        case st17x40 =>
          go_simp
          refine hK.out _ _ ?_ (fun hHeld => ?_)
          · exact ⟨cell_far o1_ hog, cell_far b1_ (by simp; omega), cell_far a1_ (by simp; omega), cell_far bc_ hadg⟩
          clear hK K
          (try simp only [Act.put, List.setIfInBounds_toArray, List.set_cons_zero, List.set_cons_succ])
          refine' wpAnyH_take (i := 18) (v := .bool ft) ?hi18x41 ?hs18x41 ?hf18x41 ?hr18x41 ?hQ18x41 ?hy18x41 ?hS18x41 ?rest18x41
          case hi18x41 => (simp only [List.getElem?_toArray, List.getElem?_cons_succ, List.getElem?_cons_zero]; try rfl)
          case hs18x41 => kernel_rfl
          case hf18x41 => kernel_rfl
          case hr18x41 => kernel_rfl
          case hQ18x41 => exact fun _ _ _ h => h
          case hy18x41 => exact Or.inl ⟨by rfl, by (intro w hSw; (try dsimp only at hSw); go_simp)⟩
          case hS18x41 => assumption
          (try simp only [Act.put, List.setIfInBounds_toArray, List.set_cons_zero, List.set_cons_succ])
          refine wpAnyH_done (by kernel_rfl) ?_ _
          refine NoPanic.normal ?_
          clear wk
          have hO2 := Lib.hid (hOH.out.far (p := ⟨g, j, none⟩) hog (uv zz)); have hR2 := Lib.hid ((hRH.out.below hb).far (p := ⟨g, j, none⟩) (by simp; omega) (uv zz)); have hown2 := Lib.hid (hownH.out.set j zz)
          rw [hsetH.out] at hown2
          have hb2 := Lib.hid (hb.setCell (p := ⟨g, j, none⟩) hgB (uv zz))
          have hbW2 := Lib.hid (hbW.out.setCell (p := ⟨g, j, none⟩) (by have := hwWH.out.size; simp; omega) (uv zz))
          obtain ⟨w2, hw2⟩ : ∃ w2, wc.setCell ⟨g, j, none⟩ (.int .u32 zz) = w2 := ⟨_, rfl⟩
          simp only [uv] at hO2 hR2 hown2 hb2 hbW2
          rw [hw2] at hO2 hR2 hown2 hb2 hbW2 ⊢
          clear hw2 o0_ o1_ of0_ of1_ r0_ r1_ rf0_ rf1_ a0_ a1_ a2_ b0_ b1_ bc_ g_ gf_ hHeld hz
          have o0_ := hO2.out.cell 0 rfl; have o1_ := hO2.out.cell 1 rfl; have of0_ := hO2.out.free 0; have of1_ := hO2.out.free 1; have r0_ := hR2.out.cell 0 rfl; have r1_ := hR2.out.cell 1 rfl; have rf0_ := hR2.out.free 0; have rf1_ := hR2.out.free 1; have hz := Nat.lt_of_lt_of_le hzz hb2.out.size
          by_cases hf : x + pa ≤ 4294967295
          · obtain rfl : ft = true := by rw [← hftH.out]; simpa using hf
            by_cases hl3 : 3 < n'
            · obtain ⟨q1, q2⟩ := apply_long (p := ⟨lv, pa, en⟩) (t := ⟨e, l⟩) hlvH0.out hkH0.out (by rw [hjH.out]; simp [topK, tl, hxH.out]; omega) (by have := hmH.out; have := hlenH.out; simp only; omega)
              have q1H := Lib.hid (q1.symm.trans hcH.out); have q2H := Lib.hid (q2.symm.trans hTH.out)
              clear q1 q2 hcH hTH
              obtain rfl := q1H.out
              obtain rfl := q2H.out
              clear q1H q2H
              go_wp2_with fail
              refine bodyPost_ret (v := .tuple #[.agg #[.int .u64 0, .slice none 0 0], .int .u16 40]) (by simp [results, Tryd.results28, go_sem, r0_, r1_, o0_, o1_, hz]) rfl ⟨_, rfl, ?_, ?_⟩
              · exact OwnW.nil _ _
              · (repeat' (first | exact hbW2.out | exact hwWH.out | (refine Below.drew ?_) | (refine Below.setCell ?_ (by first | (simp; done) | (simp; omega) | (have := hwWH.out.size; simp; omega)) _)))
            · obtain ⟨q1, q2⟩ := apply_fine (p := ⟨lv, pa, en⟩) (t := ⟨e, l⟩) hlvH0.out hkH0.out (by rw [hjH.out]; simp [topK, tl, hxH.out]; omega) (by have := hmH.out; have := hlenH.out; simp only; omega)
              rw [hjH.out, apply_succ hxH.out] at q2
              have q1H := Lib.hid (q1.symm.trans hcH.out); have q2H := Lib.hid (q2.symm.trans hTH.out)
              clear q1 q2 hcH hTH
              obtain rfl := q1H.out
              obtain rfl := q2H.out
              clear q1H q2H
              obtain rfl : zz = x + pa := by rw [← hzzH.out]; exact IntWalk.u32_in _ (by omega)
              go_wp2_with fail
              refine bodyPost_ret (v := .tuple #[.agg #[.int .u64 e, .slice (some ⟨g, 0, none⟩) n' c'], .int .u16 0]) (by simp [results, Tryd.results28, go_sem, r0_, r1_, o0_, o1_, hz]) rfl ⟨_, rfl, ?_, ?_⟩
              · refine OwnW.low ?_ hwWH.out.size; first | exact (hown2.out.under (by simp; omega) _).under (by simp; omega) _ | exact ((hown2.out.under (by simp; omega) _).under (by simp; omega) _).drew
              · (repeat' (first | exact hbW2.out | exact hwWH.out | (refine Below.drew ?_) | (refine Below.setCell ?_ (by first | (simp; done) | (simp; omega) | (have := hwWH.out.size; simp; omega)) _)))
          · obtain rfl : ft = false := by rw [← hftH.out]; simpa using hf
            obtain ⟨q1, q2⟩ := apply_over (p := ⟨lv, pa, en⟩) (t := ⟨e, l⟩) hlvH0.out hkH0.out (by rw [hjH.out]; simp [topK, tl, hxH.out]; omega)
            have q1H := Lib.hid (q1.symm.trans hcH.out); have q2H := Lib.hid (q2.symm.trans hTH.out)
            clear q1 q2 hcH hTH
            obtain rfl := q1H.out
            obtain rfl := q2H.out
            clear q1H q2H
            go_wp2_with fail
            refine bodyPost_ret (v := .tuple #[.agg #[.int .u64 0, .slice none 0 0], .int .u16 41]) (by simp [results, Tryd.results28, go_sem, r0_, r1_, o0_, o1_, hz]) rfl ⟨_, rfl, ?_, ?_⟩
            · exact OwnW.nil _ _
            · (repeat' (first | exact hbW2.out | exact hwWH.out | (refine Below.drew ?_) | (refine Below.setCell ?_ (by first | (simp; done) | (simp; omega) | (have := hwWH.out.size; simp; omega)) _)))
set_option maxHeartbeats 2000000 in
set_option maxRecDepth 1000000 in
theorem apply_any (vp vt : Value) (p : Pt) (t : Tm) (w : World) (hp : PtV w vp p) (ht : TmV w vt t) (wp : PtW p) (wt : TmW t) (hsp : p.en.length ≤ 1099511627776) (hst : t.l.length ≤ 1099511627776) :
    Calls Tryd.prog 28 #[vp, vt] w (OutT (applyT p t) (applyE p t) w) := by
  cases hlv : leavesB p (t.l.length : Int) with
  | true => exact apply_good vp vt p t w hp ht wp wt hsp hst hlv _ rfl
  | false =>
    have hE : applyE p t = 40 := by
      unfold applyE
      rw [if_pos (by simp [leavesB] at hlv; omega)]
    rw [hE, show applyT p t = ⟨0, []⟩ by unfold applyT; rw [hE]; rfl]
    exact apply_bad vp vt p t w hp ht wp wt hsp hst hlv
end Go.Proofs.YtkpjbmbdndkalaaDoor
