/-
  What stamp.PathLeq answers, at this program: of any two ways (that enter no more than 2^40 counters), at any depth.
-/
import Derived.Test.YtkpjbmbdndkalaaDoorStAt
set_option linter.unusedVariables false
set_option linter.unusedSimpArgs false
namespace Go.Proofs.YtkpjbmbdndkalaaDoor
open Go.RowKit Go.Lib

/-- What the rounds hold. -/
def RelPL (p q : Pt) (kp kq n : Nat) (w0 : World) (i : Value) (wr : World) : Prop :=
  ∃ j : Nat, i = .int .i64 (j : Int) ∧ j ≤ n ∧ (∀ x, x < j → okAt p q kp kq x = true) ∧ Below w0.heap.size w0 wr
set_option maxHeartbeats 2000000 in
set_option maxRecDepth 1000000 in
theorem pathLeq_bad (vp vq : Value) (p q : Pt) (d : Int) (w : World) (hp : PtV w vp p) (hq : PtV w vq q) (hpl : p.en.length ≤ 1099511627776) (hql : q.en.length ≤ 1099511627776) (hbad : d < 0 ∨ 3 < d ∨ leavesB p d = false ∨ leavesB q d = false) :
    Calls Tryd.prog 30 #[vp, vq, .int .i64 d] w fun e w' => e = .returned (.bool (pathLeq p q d)) ∧ Below w.heap.size w w' := by
  obtain ⟨pl, pa, pe⟩ := p
  obtain ⟨ql, qa, qe⟩ := q
  obtain ⟨ps, rfl, hps⟩ := hp
  obtain ⟨qs, rfl, hqs⟩ := hq
  simp only at hps hqs hpl hql hbad ⊢
  obtain ⟨P, m, cp, hpsf, hm, hmc, hcp⟩ := hps.form
  obtain ⟨Q, n, cq, hqsf, hn, hnc, hcq⟩ := hqs.form
  obtain ⟨r, hr⟩ : ∃ r, pathLeq ⟨pl, pa, pe⟩ ⟨ql, qa, qe⟩ d = r := ⟨_, rfl⟩
  rw [hr]
  unfold pathLeq at hr
  simp only [hm, hn] at hr
  obtain ⟨W0, hW0, hwW, hA, hB, hzz⟩ := boxes2 w [.int .i64 pl, .int .u32 pa, ps] [.int .i64 ql, .int .u32 qa, qs] 62 62
  have hpH := Lib.hid (show PtV W0 (.agg #[.int .i64 pl, .int .u32 pa, ps]) ⟨pl, pa, pe⟩ from ⟨ps, rfl, hps.below hwW⟩)
  have hqH := Lib.hid (show PtV W0 (.agg #[.int .i64 ql, .int .u32 qa, qs]) ⟨ql, qa, qe⟩ from ⟨qs, rfl, hqs.below hwW⟩)
  have hAH := Lib.hid hA; have hBH := Lib.hid hB; have hwWH := Lib.hid hwW; have hz0 := Lib.hid hzz; have hnH := Lib.hid hn; have hmH := Lib.hid hm
  have hb := Below.refl W0.heap.size W0
  have hpsH := Lib.hid hpsf; have hqsH := Lib.hid hqsf
  have hrH := Lib.hid hr
  obtain ⟨L1, hL1⟩ : ∃ x, leavesB ⟨pl, pa, pe⟩ d = x := ⟨_, rfl⟩
  obtain ⟨L2, hL2⟩ : ∃ x, leavesB ⟨ql, qa, qe⟩ d = x := ⟨_, rfl⟩
  have hlp := Lib.hid hL1; have hlq := Lib.hid hL2
  clear hps hqs hA hB hwW hzz hr hm hn hL1 hL2 hpsf hqsf
  have a0_ := (hAH.out.below hb).cell 0 rfl; have a1_ := (hAH.out.below hb).cell 1 rfl; have a2_ := (hAH.out.below hb).cell 2 rfl; have b0_ := (hBH.out.below hb).cell 0 rfl; have b1_ := (hBH.out.below hb).cell 1 rfl; have b2_ := (hBH.out.below hb).cell 2 rfl; have hz := Nat.lt_of_lt_of_le hz0.out hb.size; have hs := hb.size
  by_cases h1 : d < 0
  · go_enter Tryd.func30, Tryd.ntmps30
    go_wp2_with fail
    go_ret
    exact ⟨ret_bool (by rw [← hrH.out, if_pos (.inl h1)]), by first | exact hwWH.out | exact hwWH.out.trans (hb.mono hwWH.out.size) | go_grown⟩

  by_cases h2 : 3 < d
  · go_enter Tryd.func30, Tryd.ntmps30
    go_wp2_with fail
    go_ret
    exact ⟨ret_bool (by rw [← hrH.out, if_pos (.inr (.inl h2))]), by first | exact hwWH.out | exact hwWH.out.trans (hb.mono hwWH.out.size) | go_grown⟩

  cases hcL : L1 with
  | false =>
    subst hcL
    have g := Lib.hid hlp.out
    go_enter Tryd.func30, Tryd.ntmps30
    go_wp2_with fail
    refine (leaves_any (.agg #[.int .i64 pl, .int .u32 pa, ps]) ⟨pl, pa, pe⟩ d _ (hpH.out.below (by go_grown))).mono ?_
    rw [hlp.out]; rintro e w' ⟨rfl, hb'⟩; replace hb := chainB (B := W0.heap.size) (a := W0) (by go_grown) hb' (by have := hb.size; first | omega | (simp; done) | (simp; omega)); clear hb' a0_ a1_ a2_ b0_ b1_ b2_ hz hs; have a0_ := (hAH.out.below hb).cell 0 rfl; have a1_ := (hAH.out.below hb).cell 1 rfl; have a2_ := (hAH.out.below hb).cell 2 rfl; have b0_ := (hBH.out.below hb).cell 0 rfl; have b1_ := (hBH.out.below hb).cell 1 rfl; have b2_ := (hBH.out.below hb).cell 2 rfl; have hz := Nat.lt_of_lt_of_le hz0.out hb.size; have hs := hb.size
    go_wp2_with fail
    go_ret
    exact ⟨ret_bool (by rw [← hrH.out, if_pos (.inr (.inr (.inl g.out)))]), by first | exact hwWH.out | exact hwWH.out.trans (hb.mono hwWH.out.size) | go_grown⟩

  | true =>
  cases hcM : L2 with
  | false =>
    subst hcL hcM
    have g := Lib.hid hlq.out
    go_enter Tryd.func30, Tryd.ntmps30
    go_wp2_with fail
    refine (leaves_any (.agg #[.int .i64 pl, .int .u32 pa, ps]) ⟨pl, pa, pe⟩ d _ (hpH.out.below (by go_grown))).mono ?_
    rw [hlp.out]; rintro e w' ⟨rfl, hb'⟩; replace hb := chainB (B := W0.heap.size) (a := W0) (by go_grown) hb' (by have := hb.size; first | omega | (simp; done) | (simp; omega)); clear hb' a0_ a1_ a2_ b0_ b1_ b2_ hz hs; have a0_ := (hAH.out.below hb).cell 0 rfl; have a1_ := (hAH.out.below hb).cell 1 rfl; have a2_ := (hAH.out.below hb).cell 2 rfl; have b0_ := (hBH.out.below hb).cell 0 rfl; have b1_ := (hBH.out.below hb).cell 1 rfl; have b2_ := (hBH.out.below hb).cell 2 rfl; have hz := Nat.lt_of_lt_of_le hz0.out hb.size; have hs := hb.size
    go_wp2_with fail
    refine (leaves_any (.agg #[.int .i64 ql, .int .u32 qa, qs]) ⟨ql, qa, qe⟩ d _ (hqH.out.below (by go_grown))).mono ?_
    rw [hlq.out]; rintro e w' ⟨rfl, hb'⟩; replace hb := chainB (B := W0.heap.size) (a := W0) (by go_grown) hb' (by have := hb.size; first | omega | (simp; done) | (simp; omega)); clear hb' a0_ a1_ a2_ b0_ b1_ b2_ hz hs; have a0_ := (hAH.out.below hb).cell 0 rfl; have a1_ := (hAH.out.below hb).cell 1 rfl; have a2_ := (hAH.out.below hb).cell 2 rfl; have b0_ := (hBH.out.below hb).cell 0 rfl; have b1_ := (hBH.out.below hb).cell 1 rfl; have b2_ := (hBH.out.below hb).cell 2 rfl; have hz := Nat.lt_of_lt_of_le hz0.out hb.size; have hs := hb.size
    go_wp2_with fail
    go_ret
    exact ⟨ret_bool (by rw [← hrH.out, if_pos (.inr (.inr (.inr g.out)))]), by first | exact hwWH.out | exact hwWH.out.trans (hb.mono hwWH.out.size) | go_grown⟩

  | true =>
    subst hcL hcM
    exfalso
    rcases hbad with h | h | h | h
    · exact h1 h
    · exact h2 h
    · rw [hlp.out] at h; cases h
    · rw [hlq.out] at h; cases h
end Go.Proofs.YtkpjbmbdndkalaaDoor
