/-
  What stamp.Then answers, at this program: of any two ways. Condition: neither enters more than 2^40 counters; numbers of their kinds.
-/
import Derived.Test.YtkpjbmbdndkalaaDoorStAp
set_option linter.unusedVariables false
set_option linter.unusedSimpArgs false
namespace Go.Proofs.YtkpjbmbdndkalaaDoor
open Go.RowKit Go.Lib

/-- What a function that makes a way answers. -/
def OutP (p : Pt) (c : Int) (w : World) (e : Ending) (w' : World) : Prop := ∃ v, e = .returned (.tuple #[.agg #[.int .i64 p.lv, .int .u32 p.ad, v], .int .u16 c]) ∧ OwnW w.heap.size v p.en w' ∧ Below w.heap.size w w'
theorem keepT {p q : Nat} {a0 a1 a2 b0 b1 b2 : Value} {t : TypeId} {W0 w : World} (h : HasC W0 p [a0, a1, a2] t) (h' : HasC W0 q [b0, b1, b2] t) (hb : Below W0.heap.size W0 w) : w.cell? ⟨p, 0, none⟩ = some a0 ∧ w.cell? ⟨p, 1, none⟩ = some a1 ∧ w.cell? ⟨p, 2, none⟩ = some a2 ∧ w.cell? ⟨q, 1, none⟩ = some b1 ∧ w.cell? ⟨q, 2, none⟩ = some b2 :=
  ⟨(h.below hb).cell 0 rfl, (h.below hb).cell 1 rfl, (h.below hb).cell 2 rfl, (h'.below hb).cell 1 rfl, (h'.below hb).cell 2 rfl⟩
theorem then_bad {p q : Pt} (h : q.lv < 0) : thenE p q = 40 ∧ thenP p q = ⟨0, 0, []⟩ := by
  have e : thenE p q = 40 := by unfold thenE; rw [if_pos h]
  exact ⟨e, by unfold thenP; rw [e]; rfl⟩
theorem then_gt {p q : Pt} {j : Nat} {x : Int} (h0 : 0 ≤ q.lv) (h : (p.en.length : Int) - q.lv = (j : Int) + 1) (hx : p.en[j]? = some x) :
    thenE p q = (if 4294967295 < x + q.ad then 41 else 0) ∧ thenP p q = if 4294967295 < x + q.ad then ⟨0, 0, []⟩ else ⟨p.lv, p.ad, p.en.take j ++ (x + q.ad) :: q.en⟩ := by
  have hj : p.en.length - q.lv.toNat - 1 = j := by omega
  have hg : p.en.getD j 0 = x := by rw [List.getD_eq_getElem?_getD, hx]; rfl
  have e : thenE p q = if 4294967295 < x + q.ad then 41 else 0 := by
    unfold thenE
    rw [if_neg (by omega), if_pos (by omega), hj, hg]
  refine ⟨e, ?_⟩
  unfold thenP
  rw [e]
  split
  · rfl
  · rw [if_pos rfl, if_pos (by omega), hj, hg]
theorem then_eq {p q : Pt} (h0 : 0 ≤ q.lv) (h : q.lv = (p.en.length : Int)) :
    thenE p q = (if 4294967295 < p.ad + q.ad then 41 else 0) ∧ thenP p q = if 4294967295 < p.ad + q.ad then ⟨0, 0, []⟩ else ⟨p.lv, p.ad + q.ad, q.en⟩ := by
  have e : thenE p q = if 4294967295 < p.ad + q.ad then 41 else 0 := by
    unfold thenE
    rw [if_neg (by omega), if_neg (by omega), if_pos h]
  refine ⟨e, ?_⟩
  unfold thenP
  rw [e]
  split
  · rfl
  · have h3 : ¬ q.lv < (p.en.length : Int) := by omega
    simp [h3, h]
theorem then_lt {p q : Pt} (h : (p.en.length : Int) < q.lv) :
    thenE p q = (if 4294967295 < p.lv + (q.lv - p.en.length) then 41 else 0) ∧ thenP p q = if 4294967295 < p.lv + (q.lv - p.en.length) then ⟨0, 0, []⟩ else ⟨p.lv + (q.lv - p.en.length), q.ad, q.en⟩ := by
  have e : thenE p q = if 4294967295 < p.lv + (q.lv - p.en.length) then 41 else 0 := by
    unfold thenE
    rw [if_neg (by omega), if_neg (by omega), if_neg (by omega)]
  refine ⟨e, ?_⟩
  unfold thenP
  rw [e]
  split
  · rfl
  · rw [if_pos rfl, if_neg (by omega), if_neg (by omega)]
theorem boxesP (w : World) (c0 c1 c2 : List Value) (t0 t1 t2 : TypeId) : ∃ W0, ((w.alloc (.cells c0.toArray t0)).alloc (.cells c1.toArray t1)).alloc (.cells c2.toArray t2) = W0 ∧ Below w.heap.size w W0 ∧ HasC W0 w.heap.size c0 t0 ∧ HasC W0 (w.heap.size + 1) c1 t1 ∧ HasC W0 (w.heap.size + 1 + 1) c2 t2 ∧ w.heap.size + 1 + 1 < W0.heap.size := boxes3 w c0 c1 c2 t0 t1 t2
set_option maxHeartbeats 2000000 in
set_option maxRecDepth 1000000 in
theorem then_bad_any (vp vq : Value) (p q : Pt) (w : World) (hp : PtV w vp p) (hq : PtV w vq q) (wp : PtW p) (wq : PtW q) (hsp : p.en.length ≤ 1099511627776) (hsq : q.en.length ≤ 1099511627776) (h : q.lv < 0) :
    Calls Tryd.prog 29 #[vp, vq] w (OutP (thenP p q) (thenE p q) w) := by
  obtain ⟨c, hc⟩ : ∃ c, thenE p q = c := ⟨_, rfl⟩
  obtain ⟨T, hT⟩ : ∃ c, thenP p q = c := ⟨_, rfl⟩
  rw [hc, hT]
  have hcH := Lib.hid hc; have hTH := Lib.hid hT
  clear hc hT
  obtain ⟨pl, pa, en⟩ := p
  obtain ⟨ql, qa, em⟩ := q
  obtain ⟨sp, rfl, hpE⟩ := hp
  obtain ⟨sq, rfl, hqE⟩ := hq
  obtain ⟨⟨pl0, pl1⟩, ⟨pa0, pa1⟩, we⟩ := wp
  obtain ⟨⟨ql0, ql1⟩, ⟨qa0, qa1⟩, _⟩ := wq
  simp only at hpE hqE hsp hsq pl0 pl1 pa0 pa1 we ql0 ql1 qa0 qa1 h ⊢
  obtain ⟨A, n, ca, rfl, hn, hnc, hca⟩ := hpE.form
  obtain ⟨B, m, cb, rfl, hm, hmc, hcb⟩ := hqE.form
  obtain ⟨W0, hW0, hwW, hA, hB, hR, hzz⟩ := boxesP w [.int .i64 pl, .int .u32 pa, .slice A n ca] [.int .i64 ql, .int .u32 qa, .slice B m cb] [.int .i64 0, .int .u32 0, .slice none 0 0] 62 62 62
  have hpH := Lib.hid (hpE.below hwW); have hqH := Lib.hid (hqE.below hwW)
  have hAH := Lib.hid hA; have hBH := Lib.hid hB; have hRH := Lib.hid hR; have hwWH := Lib.hid hwW
  have hnH := Lib.hid hn; have hmH := Lib.hid hm; have hspH := Lib.hid hsp; have hsqH := Lib.hid hsq; have weH := Lib.hid we
  have hn40 : n ≤ 1099511627776 := by omega
  have hl0 : w.heap.size < W0.heap.size := by omega
  have hl1 : w.heap.size + 1 < W0.heap.size := by omega
  have a0_ := hA.cell 0 rfl; have a1_ := hA.cell 1 rfl; have a2_ := hA.cell 2 rfl; have b0_ := hB.cell 0 rfl; have b1_ := hB.cell 1 rfl; have b2_ := hB.cell 2 rfl; have r0_ := hR.cell 0 rfl; have r1_ := hR.cell 1 rfl; have r2_ := hR.cell 2 rfl; have rf0_ := hR.free 0; have rf1_ := hR.free 1; have rf2_ := hR.free 2
  clear hpE hqE hA hB hR hwW hn hm hsp hsq we
  obtain ⟨q1, q2⟩ := then_bad (p := ⟨pl, pa, en⟩) (q := ⟨ql, qa, em⟩) h
  have q1H := Lib.hid (q1.symm.trans hcH.out); have q2H := Lib.hid (q2.symm.trans hTH.out)
  clear q1 q2 hcH hTH
  obtain rfl := q1H.out
  obtain rfl := q2H.out
  clear q1H q2H
  have hbW := Lib.hid hwWH.out
  go_enter Tryd.func29, Tryd.ntmps29
  go_wp2_with fail
  refine bodyPost_ret (v := .tuple #[.agg #[.int .i64 0, .int .u32 0, .slice none 0 0], .int .u16 40]) (by simp [results, Tryd.results29, go_sem, r0_, r1_, r2_, hzz]) rfl ⟨_, rfl, ?_, ?_⟩
  · exact OwnW.nil _ _
  · (repeat' (first | exact hbW.out | exact hwWH.out | (refine Below.drew ?_) | (refine Below.setCell ?_ (by first | (simp; done) | (simp; omega) | (have := hwWH.out.size; simp; omega)) _)))
end Go.Proofs.YtkpjbmbdndkalaaDoor
