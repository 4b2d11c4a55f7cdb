/-
  What stamp.PathLeq answers, at this program: of two ways (that enter no more than 2^40 counters) that may both leave what they leave, at a depth that may be. Conditions: those written.
-/
import Derived.Test.YtkpjbmbdndkalaaDoorStPl0
set_option linter.unusedVariables false
set_option linter.unusedSimpArgs false
namespace Go.Proofs.YtkpjbmbdndkalaaDoor
open Go.RowKit Go.Lib

set_option maxHeartbeats 2000000 in
set_option maxRecDepth 1000000 in
theorem pathLeq_eq (vp vq : Value) (p q : Pt) (d : Int) (w : World) (hp : PtV w vp p) (hq : PtV w vq q) (hpl : p.en.length ≤ 1099511627776) (hql : q.en.length ≤ 1099511627776) (g0 : 0 ≤ d) (g3 : d ≤ 3) (g1 : leavesB p d = true) (g2 : leavesB q d = true) (hshort : d - p.lv + p.en.length ≤ 3) (heq : d - p.lv + p.en.length = d - q.lv + q.en.length) :
    Calls Tryd.prog 30 #[vp, vq, .int .i64 d] w fun e w' => e = .returned (.bool (pathLeq p q d)) ∧ Below w.heap.size w w' := by
  obtain ⟨pl, pa, pe⟩ := p
  obtain ⟨ql, qa, qe⟩ := q
  obtain ⟨ps, rfl, hps⟩ := hp
  obtain ⟨qs, rfl, hqs⟩ := hq
  simp only at hps hqs hpl hql g1 g2 hshort heq ⊢
  obtain ⟨P, m, cp, hpsf, hm, hmc, hcp⟩ := hps.form
  obtain ⟨Q, n, cq, hqsf, hn, hnc, hcq⟩ := hqs.form
  obtain ⟨r, hr⟩ : ∃ r, pathLeq ⟨pl, pa, pe⟩ ⟨ql, qa, qe⟩ d = r := ⟨_, rfl⟩
  rw [hr]
  unfold pathLeq at hr
  simp only [hm, hn] at hr
  obtain ⟨W0, hW0, hwW, hA, hB, hzz⟩ := boxes2 w [.int .i64 pl, .int .u32 pa, ps] [.int .i64 ql, .int .u32 qa, qs] 62 62
  have hpH := Lib.hid (show PtV W0 (.agg #[.int .i64 pl, .int .u32 pa, ps]) ⟨pl, pa, pe⟩ from ⟨ps, rfl, hps.below hwW⟩)
  have hqH := Lib.hid (show PtV W0 (.agg #[.int .i64 ql, .int .u32 qa, qs]) ⟨ql, qa, qe⟩ from ⟨qs, rfl, hqs.below hwW⟩)
  have hAH := Lib.hid hA; have hBH := Lib.hid hB; have hwWH := Lib.hid hwW; have hz0 := Lib.hid hzz; have hnH := Lib.hid hn; have hmH := Lib.hid hm
  have hb := Below.refl W0.heap.size W0
  have hpsH := Lib.hid hpsf; have hqsH := Lib.hid hqsf
  have hrH := Lib.hid hr
  obtain ⟨L1, hL1⟩ : ∃ x, leavesB ⟨pl, pa, pe⟩ d = x := ⟨_, rfl⟩
  obtain ⟨L2, hL2⟩ : ∃ x, leavesB ⟨ql, qa, qe⟩ d = x := ⟨_, rfl⟩
  have hlp := Lib.hid hL1; have hlq := Lib.hid hL2
  clear hps hqs hA hB hwW hzz hr hm hn hL1 hL2 hpsf hqsf
  have a0_ := (hAH.out.below hb).cell 0 rfl; have a1_ := (hAH.out.below hb).cell 1 rfl; have a2_ := (hAH.out.below hb).cell 2 rfl; have b0_ := (hBH.out.below hb).cell 0 rfl; have b1_ := (hBH.out.below hb).cell 1 rfl; have b2_ := (hBH.out.below hb).cell 2 rfl; have hz := Nat.lt_of_lt_of_le hz0.out hb.size; have hs := hb.size
  obtain rfl : L1 = true := by rw [← hlp.out]; exact g1
  obtain rfl : L2 = true := by rw [← hlq.out]; exact g2
  obtain ⟨p0, p1⟩ : 0 ≤ pl ∧ pl ≤ d := by have := hlp.out; simpa [leavesB] using this
  obtain ⟨q0, q1⟩ : 0 ≤ ql ∧ ql ≤ d := by have := hlq.out; simpa [leavesB] using this
  replace hrH : Hid ((if 3 < d - pl + (m : Int) ∨ d - pl + (m : Int) ≠ d - ql + (n : Int) then false else (List.range ((d - pl + (m : Int)).toNat + 1)).all (okAt ⟨pl, pa, pe⟩ ⟨ql, qa, qe⟩ (d - pl).toNat (d - ql).toNat)) = r) := Lib.hid (by
    have := hrH.out
    rw [if_neg (by rw [hlp.out, hlq.out]; simp; omega)] at this
    exact this)
  obtain ⟨kp, hkp⟩ : ∃ k : Nat, d - pl = (k : Int) := ⟨(d - pl).toNat, by omega⟩
  obtain ⟨kq, hkq⟩ : ∃ k : Nat, d - ql = (k : Int) := ⟨(d - ql).toNat, by omega⟩
  rw [hkp, hkq, Int.toNat_natCast, Int.toNat_natCast] at hrH
  have hkp3 : kp ≤ 3 := by omega
  have hkq3 : kq ≤ 3 := by omega
  obtain ⟨x, hx⟩ : ∃ x : Nat, kp + m = x := ⟨_, rfl⟩
  obtain ⟨y, hy⟩ : ∃ y : Nat, kq + n = y := ⟨_, rfl⟩
  have hm' := hmH.out
  have hn' := hnH.out
  have w3 : (kp : Int) + (m : Int) = (x : Int) := by omega
  have w4 : (kq : Int) + (n : Int) = (y : Int) := by omega
  have hx40 : x ≤ 1099511627780 := by omega
  have hy40 : y ≤ 1099511627780 := by omega
  rw [w3, w4, Int.toNat_natCast] at hrH
  have hm40 : m ≤ 1099511627776 := by omega
  have hn40 : n ≤ 1099511627776 := by omega
  clear hm' hn'
  have hxH := Lib.hid hx; have hyH := Lib.hid hy
  obtain rfl := hpsH.out
  obtain rfl := hqsH.out
  clear hpl hql hx hy hpsH hqsH g1 g2
  have c1 : x ≤ 3 := by have := hmH.out; omega
  obtain rfl : x = y := by have := hmH.out; have := hnH.out; omega
  clear hshort heq
  replace hrH : Hid ((List.range (x + 1)).all (okAt ⟨pl, pa, pe⟩ ⟨ql, qa, qe⟩ kp kq) = r) := Lib.hid (by
    have := hrH.out
    rw [if_neg (by omega)] at this
    exact this)
  obtain ⟨z, hz1⟩ : ∃ z : Nat, x + 1 = z := ⟨_, rfl⟩
  have w5 : (x : Int) + 1 = (z : Int) := by omega
  rw [hz1] at hrH
  have hz1H := Lib.hid hz1
  clear hz1
  go_enter Tryd.func30, Tryd.ntmps30
  go_wp2_with fail
  refine (leaves_any (.agg #[.int .i64 pl, .int .u32 pa, .slice P m cp]) ⟨pl, pa, pe⟩ d _ (hpH.out.below (by go_grown))).mono ?_
  rw [hlp.out]; rintro e w' ⟨rfl, hb'⟩; replace hb := chainB (B := W0.heap.size) (a := W0) (by go_grown) hb' (by have := hb.size; first | omega | (simp; done) | (simp; omega)); clear hb' a0_ a1_ a2_ b0_ b1_ b2_ hz hs; have a0_ := (hAH.out.below hb).cell 0 rfl; have a1_ := (hAH.out.below hb).cell 1 rfl; have a2_ := (hAH.out.below hb).cell 2 rfl; have b0_ := (hBH.out.below hb).cell 0 rfl; have b1_ := (hBH.out.below hb).cell 1 rfl; have b2_ := (hBH.out.below hb).cell 2 rfl; have hz := Nat.lt_of_lt_of_le hz0.out hb.size; have hs := hb.size
  go_wp2_with fail
  refine (leaves_any (.agg #[.int .i64 ql, .int .u32 qa, .slice Q n cq]) ⟨ql, qa, qe⟩ d _ (hqH.out.below (by go_grown))).mono ?_
  rw [hlq.out]; rintro e w' ⟨rfl, hb'⟩; replace hb := chainB (B := W0.heap.size) (a := W0) (by go_grown) hb' (by have := hb.size; first | omega | (simp; done) | (simp; omega)); clear hb' a0_ a1_ a2_ b0_ b1_ b2_ hz hs; have a0_ := (hAH.out.below hb).cell 0 rfl; have a1_ := (hAH.out.below hb).cell 1 rfl; have a2_ := (hAH.out.below hb).cell 2 rfl; have b0_ := (hBH.out.below hb).cell 0 rfl; have b1_ := (hBH.out.below hb).cell 1 rfl; have b2_ := (hBH.out.below hb).cell 2 rfl; have hz := Nat.lt_of_lt_of_le hz0.out hb.size; have hs := hb.size
  go_wp2_with fail
  go_quiet (fail)
  go_wp2_with fail
  go_loopw [59] (fun i wr => RelPL ⟨pl, pa, pe⟩ ⟨ql, qa, qe⟩ kp kq z W0 i wr) (fun i _ => z - (Go.RowKit.intOf i).toNat)
  case atStart => exact ⟨0, rfl, Nat.zero_le _, fun x h => absurd h (Nat.not_lt_zero _), by first | exact drewsN hb _ | go_grown⟩
  case round =>
    unfold RelPL at hrel
    obtain ⟨j, rfl, hjz, hok, hbw⟩ := hrel
    have hokH := Lib.hid hok
    clear hok a0_ a1_ a2_ b0_ b1_ b2_ hz hs hb w3 w4 w5 hkp hkq
    have hb := hbw
    clear hbw
    have a0_ := (hAH.out.below hb).cell 0 rfl; have a1_ := (hAH.out.below hb).cell 1 rfl; have a2_ := (hAH.out.below hb).cell 2 rfl; have b0_ := (hBH.out.below hb).cell 0 rfl; have b1_ := (hBH.out.below hb).cell 1 rfl; have b2_ := (hBH.out.below hb).cell 2 rfl; have hz := Nat.lt_of_lt_of_le hz0.out hb.size; have hs := hb.size
    by_cases hj : j < z
    · have hj3 : j ≤ 3 := by have := hz1H.out; omega
      have hjx : j ≤ x := by have := hz1H.out; omega
      have := hxH.out; have := hyH.out
      obtain ⟨K1, hK1_⟩ : ∃ K, atK ⟨pl, pa, pe⟩ kp j = K := ⟨_, rfl⟩
      obtain ⟨K2, hK2_⟩ : ∃ K, atK ⟨ql, qa, qe⟩ kq j = K := ⟨_, rfl⟩
      obtain ⟨B1, hB1_⟩ : ∃ K, atB ⟨pl, pa, pe⟩ kp j = K := ⟨_, rfl⟩
      obtain ⟨B2, hB2_⟩ : ∃ K, atB ⟨ql, qa, qe⟩ kq j = K := ⟨_, rfl⟩
      have hK1 := Lib.hid hK1_; have hK2 := Lib.hid hK2_; have hB1 := Lib.hid hB1_; have hB2 := Lib.hid hB2_
      have hok : okAt ⟨pl, pa, pe⟩ ⟨ql, qa, qe⟩ kp kq j = !(K1 && !K2 || decide (B2 < B1)) := by unfold okAt; rw [hK1_, hK2_, hB1_, hB2_]
      have hstH := Lib.hid hok
      clear hK1_ hK2_ hB1_ hB2_ hok
      have no : okAt ⟨pl, pa, pe⟩ ⟨ql, qa, qe⟩ kp kq j = false → false = r := fun h => by
        rw [← hrH.out, eq_comm, List.all_eq_false]
        exact ⟨j, List.mem_range.2 hj, by rw [h]; simp⟩
      have noH := Lib.hid no
      clear no
      by_cases hlt : B2 < B1
      · cases K1 <;> cases K2
        all_goals
          go_wp2_with fail
          refine (at_any (.agg #[.int .i64 pl, .int .u32 pa, .slice P m cp]) ⟨pl, pa, pe⟩ kp j _ (hpH.out.below (by go_grown)) (by omega) (by have := hnH.out; have := hmH.out; simp only; omega) (by omega)).mono ?_
          rw [hK1.out, hB1.out]; rintro e w' ⟨rfl, hb'⟩; replace hb := chainB (B := W0.heap.size) (a := W0) (by go_grown) hb' (by have := hb.size; first | omega | (simp; done) | (simp; omega)); clear hb' a0_ a1_ a2_ b0_ b1_ b2_ hz hs; have a0_ := (hAH.out.below hb).cell 0 rfl; have a1_ := (hAH.out.below hb).cell 1 rfl; have a2_ := (hAH.out.below hb).cell 2 rfl; have b0_ := (hBH.out.below hb).cell 0 rfl; have b1_ := (hBH.out.below hb).cell 1 rfl; have b2_ := (hBH.out.below hb).cell 2 rfl; have hz := Nat.lt_of_lt_of_le hz0.out hb.size; have hs := hb.size
          go_wp2_with fail
          refine (at_any (.agg #[.int .i64 ql, .int .u32 qa, .slice Q n cq]) ⟨ql, qa, qe⟩ kq j _ (hqH.out.below (by go_grown)) (by omega) (by have := hnH.out; have := hmH.out; simp only; omega) (by omega)).mono ?_
          rw [hK2.out, hB2.out]; rintro e w' ⟨rfl, hb'⟩; replace hb := chainB (B := W0.heap.size) (a := W0) (by go_grown) hb' (by have := hb.size; first | omega | (simp; done) | (simp; omega)); clear hb' a0_ a1_ a2_ b0_ b1_ b2_ hz hs; have a0_ := (hAH.out.below hb).cell 0 rfl; have a1_ := (hAH.out.below hb).cell 1 rfl; have a2_ := (hAH.out.below hb).cell 2 rfl; have b0_ := (hBH.out.below hb).cell 0 rfl; have b1_ := (hBH.out.below hb).cell 1 rfl; have b2_ := (hBH.out.below hb).cell 2 rfl; have hz := Nat.lt_of_lt_of_le hz0.out hb.size; have hs := hb.size
          go_wp2_with fail
          go_ret
          exact ⟨ret_bool (noH.out (by rw [hstH.out]; simp [hlt])), hwWH.out.trans (hb.mono hwWH.out.size)⟩
      · cases K1 <;> cases K2
        case true.false =>
          go_wp2_with fail
          refine (at_any (.agg #[.int .i64 pl, .int .u32 pa, .slice P m cp]) ⟨pl, pa, pe⟩ kp j _ (hpH.out.below (by go_grown)) (by omega) (by have := hnH.out; have := hmH.out; simp only; omega) (by omega)).mono ?_
          rw [hK1.out, hB1.out]; rintro e w' ⟨rfl, hb'⟩; replace hb := chainB (B := W0.heap.size) (a := W0) (by go_grown) hb' (by have := hb.size; first | omega | (simp; done) | (simp; omega)); clear hb' a0_ a1_ a2_ b0_ b1_ b2_ hz hs; have a0_ := (hAH.out.below hb).cell 0 rfl; have a1_ := (hAH.out.below hb).cell 1 rfl; have a2_ := (hAH.out.below hb).cell 2 rfl; have b0_ := (hBH.out.below hb).cell 0 rfl; have b1_ := (hBH.out.below hb).cell 1 rfl; have b2_ := (hBH.out.below hb).cell 2 rfl; have hz := Nat.lt_of_lt_of_le hz0.out hb.size; have hs := hb.size
          go_wp2_with fail
          refine (at_any (.agg #[.int .i64 ql, .int .u32 qa, .slice Q n cq]) ⟨ql, qa, qe⟩ kq j _ (hqH.out.below (by go_grown)) (by omega) (by have := hnH.out; have := hmH.out; simp only; omega) (by omega)).mono ?_
          rw [hK2.out, hB2.out]; rintro e w' ⟨rfl, hb'⟩; replace hb := chainB (B := W0.heap.size) (a := W0) (by go_grown) hb' (by have := hb.size; first | omega | (simp; done) | (simp; omega)); clear hb' a0_ a1_ a2_ b0_ b1_ b2_ hz hs; have a0_ := (hAH.out.below hb).cell 0 rfl; have a1_ := (hAH.out.below hb).cell 1 rfl; have a2_ := (hAH.out.below hb).cell 2 rfl; have b0_ := (hBH.out.below hb).cell 0 rfl; have b1_ := (hBH.out.below hb).cell 1 rfl; have b2_ := (hBH.out.below hb).cell 2 rfl; have hz := Nat.lt_of_lt_of_le hz0.out hb.size; have hs := hb.size
          go_wp2_with fail
          go_ret
          exact ⟨ret_bool (noH.out (by rw [hstH.out]; simp)), hwWH.out.trans (hb.mono hwWH.out.size)⟩
        all_goals
          have hgo := Lib.hid (show okAt ⟨pl, pa, pe⟩ ⟨ql, qa, qe⟩ kp kq j = true by rw [hstH.out]; simp [hlt])
          go_wp2_with fail
          refine (at_any (.agg #[.int .i64 pl, .int .u32 pa, .slice P m cp]) ⟨pl, pa, pe⟩ kp j _ (hpH.out.below (by go_grown)) (by omega) (by have := hnH.out; have := hmH.out; simp only; omega) (by omega)).mono ?_
          rw [hK1.out, hB1.out]; rintro e w' ⟨rfl, hb'⟩; replace hb := chainB (B := W0.heap.size) (a := W0) (by go_grown) hb' (by have := hb.size; first | omega | (simp; done) | (simp; omega)); clear hb' a0_ a1_ a2_ b0_ b1_ b2_ hz hs; have a0_ := (hAH.out.below hb).cell 0 rfl; have a1_ := (hAH.out.below hb).cell 1 rfl; have a2_ := (hAH.out.below hb).cell 2 rfl; have b0_ := (hBH.out.below hb).cell 0 rfl; have b1_ := (hBH.out.below hb).cell 1 rfl; have b2_ := (hBH.out.below hb).cell 2 rfl; have hz := Nat.lt_of_lt_of_le hz0.out hb.size; have hs := hb.size
          go_wp2_with fail
          refine (at_any (.agg #[.int .i64 ql, .int .u32 qa, .slice Q n cq]) ⟨ql, qa, qe⟩ kq j _ (hqH.out.below (by go_grown)) (by omega) (by have := hnH.out; have := hmH.out; simp only; omega) (by omega)).mono ?_
          rw [hK2.out, hB2.out]; rintro e w' ⟨rfl, hb'⟩; replace hb := chainB (B := W0.heap.size) (a := W0) (by go_grown) hb' (by have := hb.size; first | omega | (simp; done) | (simp; omega)); clear hb' a0_ a1_ a2_ b0_ b1_ b2_ hz hs; have a0_ := (hAH.out.below hb).cell 0 rfl; have a1_ := (hAH.out.below hb).cell 1 rfl; have a2_ := (hAH.out.below hb).cell 2 rfl; have b0_ := (hBH.out.below hb).cell 0 rfl; have b1_ := (hBH.out.below hb).cell 1 rfl; have b2_ := (hBH.out.below hb).cell 2 rfl; have hz := Nat.lt_of_lt_of_le hz0.out hb.size; have hs := hb.size
          go_wp2_with fail
          go_roundw
          case rel => exact ⟨j + 1, by go_num, by omega, fun x hx => by (rcases (show x < j ∨ x = j by omega) with h | rfl); exact hokH.out x h; exact hgo.out, hb⟩
          case measure => simp [Go.RowKit.intOf]; omega
    · go_wp2_with fail
      go_ret
      exact ⟨ret_bool (by rw [← hrH.out, eq_comm, List.all_eq_true]; exact fun x hx => hokH.out x (by have := List.mem_range.1 hx; omega)), hwWH.out.trans (hb.mono hwWH.out.size)⟩
end Go.Proofs.YtkpjbmbdndkalaaDoor
