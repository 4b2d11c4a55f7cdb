/-
  The law StampGoes answers true, at this program: of any two ways and any two times. Condition: the table of the powers of ten lies as its initialiser lays it; numbers of their kinds.
-/
import Derived.Test.YtkpjbmbdndkalaaDoorStG
import Derived.Test.YtkpjbmbdndkalaaDoorStCmpT
import Derived.Deep.DeepCutAuto
set_option linter.unusedVariables false
set_option linter.unusedSimpArgs false
namespace Go.Proofs.YtkpjbmbdndkalaaDoor
open Go.RowKit Go.Lib

theorem tlW {t : Tm} (h : TmW t) : ∀ z ∈ tl t, 0 ≤ z := by
  intro z hz
  simp only [tl, List.mem_cons] at hz
  rcases hz with rfl | hz
  · exact h.1.1
  · exact (h.2 z hz).1
set_option maxHeartbeats 2000000 in
set_option maxRecDepth 1000000 in
theorem stampGoes_any (vp vq va vb : Value) (p q : Pt) (a b : Tm) (w : World) (hT : Pows w) (hp : PtV w vp p) (hq : PtV w vq q) (ha : TmV w va a) (hb : TmV w vb b) (wp : PtW p) (wq : PtW q) (wa : TmW a) (wb : TmW b) :
    Calls Tryd.prog 5 #[vp, vq, va, vb] w fun e w' => e = .returned (.bool true) ∧ Below w.heap.size w w' := by
  obtain ⟨pl, pa, pe⟩ := p
  obtain ⟨ql, qa, qe⟩ := q
  obtain ⟨ae, al⟩ := a
  obtain ⟨be, bl⟩ := b
  obtain ⟨ps, rfl, hps⟩ := hp
  obtain ⟨qs, rfl, hqs⟩ := hq
  obtain ⟨ss, rfl, has⟩ := ha
  obtain ⟨bs, rfl, hbs⟩ := hb
  simp only at hps hqs has hbs
  obtain ⟨P, m, cp, rfl, hm, hmc, hcp⟩ := hps.form
  obtain ⟨Q, n, cq, rfl, hn, hnc, hcq⟩ := hqs.form
  obtain ⟨A, i, ca, rfl, hi, hic, hca⟩ := has.form
  obtain ⟨B, j, cb, rfl, hj, hjc, hcb⟩ := hbs.form
  obtain ⟨W0, hW0, hwW, hA, hB, hC, hD, hzz⟩ := boxes4 w [.int .i64 pl, .int .u32 pa, .slice P m cp] [.int .i64 ql, .int .u32 qa, .slice Q n cq] [.int .u64 ae, .slice A i ca] [.int .u64 be, .slice B j cb] 62 62 25 25
  have hvp := Lib.hid (show PtV W0 (.agg #[.int .i64 pl, .int .u32 pa, .slice P m cp]) ⟨pl, pa, pe⟩ from ⟨_, rfl, hps.below hwW⟩)
  have hvq := Lib.hid (show PtV W0 (.agg #[.int .i64 ql, .int .u32 qa, .slice Q n cq]) ⟨ql, qa, qe⟩ from ⟨_, rfl, hqs.below hwW⟩)
  have hva := Lib.hid (show TmV W0 (.agg #[.int .u64 ae, .slice A i ca]) ⟨ae, al⟩ from ⟨_, rfl, has.below hwW⟩)
  have hvb := Lib.hid (show TmV W0 (.agg #[.int .u64 be, .slice B j cb]) ⟨be, bl⟩ from ⟨_, rfl, hbs.below hwW⟩)
  have hbp := Lib.hid hA; have hbq := Lib.hid hB; have hba := Lib.hid hC; have hbb := Lib.hid hD; have hall := Lib.hid hwW; have hpw := Lib.hid (hT.below hwW)
  have hmH := Lib.hid hm; have hnH := Lib.hid hn; have hiH := Lib.hid hi; have hjH := Lib.hid hj; have wpH := Lib.hid wp; have wqH := Lib.hid wq; have waH := Lib.hid wa; have wbH := Lib.hid wb
  clear hps hqs has hbs hA hB hC hD hwW hzz hT hm hn hi hj wp wq wa wb
  go_enter Tryd.func5, Tryd.ntmps5
  have p0_ := hbp.out.cell 0 rfl; have p1_ := hbp.out.cell 1 rfl; have p2_ := hbp.out.cell 2 rfl; have pl_ := hbp.out.lt
  have q0_ := hbq.out.cell 0 rfl; have q1_ := hbq.out.cell 1 rfl; have q2_ := hbq.out.cell 2 rfl; have ql_ := hbq.out.lt
  have a0_ := hba.out.cell 0 rfl; have a1_ := hba.out.cell 1 rfl; have al_ := hba.out.lt
  have b0_ := hbb.out.cell 0 rfl; have b1_ := hbb.out.cell 1 rfl; have bl_ := hbb.out.lt
  go_wp2_with fail
  clear p0_ p1_ p2_ q0_ q1_ q2_ a0_ a1_ b0_ b1_ pl_ ql_ al_ bl_
  refine (far_any _ [⟨pl, pa, pe⟩, ⟨ql, qa, qe⟩] _ (pts2 _ _ _ _ _ _ _ _ _ _ _ _ _ _ hmH.out.symm hnH.out.symm hmc hcp hnc hcq)).mono ?_
  rintro e_ w1 ⟨rfl, hw_⟩
  have hb_ := (show ∀ {a b : World}, a = b → Below a.heap.size a b from fun h => h ▸ Below.refl _ _) hw_
  clear hw_
  have hc_ : Below W0.heap.size W0 w1 := chainB (by first | exact Below.refl _ _ | go_grown) hb_ (by first | exact Nat.le_refl _ | (simp; done) | (simp; omega))
  replace hvp := Lib.hid (hvp.out.below hc_)
  replace hvq := Lib.hid (hvq.out.below hc_)
  replace hva := Lib.hid (hva.out.below hc_)
  replace hvb := Lib.hid (hvb.out.below hc_)
  replace hbp := Lib.hid (hbp.out.below hc_)
  replace hbq := Lib.hid (hbq.out.below hc_)
  replace hba := Lib.hid (hba.out.below hc_)
  replace hbb := Lib.hid (hbb.out.below hc_)
  replace hpw := Lib.hid (hpw.out.below hc_)
  replace hall := Lib.hid (chainB hall.out hc_ hall.out.size)
  clear hc_
  clear hb_
  obtain ⟨X, hX⟩ : ∃ x, (([⟨pl, pa, pe⟩, ⟨ql, qa, qe⟩] : List Pt).any (fun x => decide (40 < x.en.length))) = x := ⟨_, rfl⟩
  rw [hX]
  have hX1 := Lib.hid hX
  clear hX
  cases X with
  | true =>
    have p0_ := hbp.out.cell 0 rfl; have p1_ := hbp.out.cell 1 rfl; have p2_ := hbp.out.cell 2 rfl; have pl_ := hbp.out.lt
    have q0_ := hbq.out.cell 0 rfl; have q1_ := hbq.out.cell 1 rfl; have q2_ := hbq.out.cell 2 rfl; have ql_ := hbq.out.lt
    have a0_ := hba.out.cell 0 rfl; have a1_ := hba.out.cell 1 rfl; have al_ := hba.out.lt
    have b0_ := hbb.out.cell 0 rfl; have b1_ := hbb.out.cell 1 rfl; have bl_ := hbb.out.lt
    go_wp2_with fail
    clear p0_ p1_ p2_ q0_ q1_ q2_ a0_ a1_ b0_ b1_ pl_ ql_ al_ bl_
    refine (known_any _ (hpw.out.below (by first | exact Below.refl _ _ | go_grown))).mono ?_
    rintro e_ w2 ⟨rfl, hb_⟩
    have hc_ : Below w1.heap.size w1 w2 := chainB (by first | exact Below.refl _ _ | go_grown) hb_ (by first | exact Nat.le_refl _ | (simp; done) | (simp; omega))
    replace hvp := Lib.hid (hvp.out.below hc_)
    replace hvq := Lib.hid (hvq.out.below hc_)
    replace hva := Lib.hid (hva.out.below hc_)
    replace hvb := Lib.hid (hvb.out.below hc_)
    replace hbp := Lib.hid (hbp.out.below hc_)
    replace hbq := Lib.hid (hbq.out.below hc_)
    replace hba := Lib.hid (hba.out.below hc_)
    replace hbb := Lib.hid (hbb.out.below hc_)
    replace hpw := Lib.hid (hpw.out.below hc_)
    replace hall := Lib.hid (chainB hall.out hc_ hall.out.size)
    clear hc_
    clear hb_
    have p0_ := hbp.out.cell 0 rfl; have p1_ := hbp.out.cell 1 rfl; have p2_ := hbp.out.cell 2 rfl; have pl_ := hbp.out.lt
    have q0_ := hbq.out.cell 0 rfl; have q1_ := hbq.out.cell 1 rfl; have q2_ := hbq.out.cell 2 rfl; have ql_ := hbq.out.lt
    have a0_ := hba.out.cell 0 rfl; have a1_ := hba.out.cell 1 rfl; have al_ := hba.out.lt
    have b0_ := hbb.out.cell 0 rfl; have b1_ := hbb.out.cell 1 rfl; have bl_ := hbb.out.lt
    go_wp2_with fail
    go_ret
    exact ⟨rfl, hall.out⟩
  | false =>
    obtain ⟨l1, l2⟩ : pe.length ≤ 40 ∧ qe.length ≤ 40 := by
      have := hX1.out
      simpa using this
    have lpH := Lib.hid l1; have lqH := Lib.hid l2
    clear hX1 l1 l2
    have p0_ := hbp.out.cell 0 rfl; have p1_ := hbp.out.cell 1 rfl; have p2_ := hbp.out.cell 2 rfl; have pl_ := hbp.out.lt
    have q0_ := hbq.out.cell 0 rfl; have q1_ := hbq.out.cell 1 rfl; have q2_ := hbq.out.cell 2 rfl; have ql_ := hbq.out.lt
    have a0_ := hba.out.cell 0 rfl; have a1_ := hba.out.cell 1 rfl; have al_ := hba.out.lt
    have b0_ := hbb.out.cell 0 rfl; have b1_ := hbb.out.cell 1 rfl; have bl_ := hbb.out.lt
    go_wp2_with fail
    clear p0_ p1_ p2_ q0_ q1_ q2_ a0_ a1_ b0_ b1_ pl_ ql_ al_ bl_
    refine (much_any _ [⟨ae, al⟩, ⟨be, bl⟩] _ (tms2 _ _ _ _ _ _ _ _ _ _ _ _ hiH.out.symm hjH.out.symm hic hca hjc hcb)).mono ?_
    rintro e_ w3 ⟨rfl, hw_⟩
    have hb_ := (show ∀ {a b : World}, a = b → Below a.heap.size a b from fun h => h ▸ Below.refl _ _) hw_
    clear hw_
    have hc_ : Below w1.heap.size w1 w3 := chainB (by first | exact Below.refl _ _ | go_grown) hb_ (by first | exact Nat.le_refl _ | (simp; done) | (simp; omega))
    replace hvp := Lib.hid (hvp.out.below hc_)
    replace hvq := Lib.hid (hvq.out.below hc_)
    replace hva := Lib.hid (hva.out.below hc_)
    replace hvb := Lib.hid (hvb.out.below hc_)
    replace hbp := Lib.hid (hbp.out.below hc_)
    replace hbq := Lib.hid (hbq.out.below hc_)
    replace hba := Lib.hid (hba.out.below hc_)
    replace hbb := Lib.hid (hbb.out.below hc_)
    replace hpw := Lib.hid (hpw.out.below hc_)
    replace hall := Lib.hid (chainB hall.out hc_ hall.out.size)
    clear hc_
    clear hb_
    obtain ⟨X, hX⟩ : ∃ x, (([⟨ae, al⟩, ⟨be, bl⟩] : List Tm).any (fun x => decide (40 < x.l.length))) = x := ⟨_, rfl⟩
    rw [hX]
    have hX2 := Lib.hid hX
    clear hX
    cases X with
    | true =>
      have p0_ := hbp.out.cell 0 rfl; have p1_ := hbp.out.cell 1 rfl; have p2_ := hbp.out.cell 2 rfl; have pl_ := hbp.out.lt
      have q0_ := hbq.out.cell 0 rfl; have q1_ := hbq.out.cell 1 rfl; have q2_ := hbq.out.cell 2 rfl; have ql_ := hbq.out.lt
      have a0_ := hba.out.cell 0 rfl; have a1_ := hba.out.cell 1 rfl; have al_ := hba.out.lt
      have b0_ := hbb.out.cell 0 rfl; have b1_ := hbb.out.cell 1 rfl; have bl_ := hbb.out.lt
      go_wp2_with fail
      clear p0_ p1_ p2_ q0_ q1_ q2_ a0_ a1_ b0_ b1_ pl_ ql_ al_ bl_
      refine (known_any _ (hpw.out.below (by first | exact Below.refl _ _ | go_grown))).mono ?_
      rintro e_ w4 ⟨rfl, hb_⟩
      have hc_ : Below w3.heap.size w3 w4 := chainB (by first | exact Below.refl _ _ | go_grown) hb_ (by first | exact Nat.le_refl _ | (simp; done) | (simp; omega))
      replace hvp := Lib.hid (hvp.out.below hc_)
      replace hvq := Lib.hid (hvq.out.below hc_)
      replace hva := Lib.hid (hva.out.below hc_)
      replace hvb := Lib.hid (hvb.out.below hc_)
      replace hbp := Lib.hid (hbp.out.below hc_)
      replace hbq := Lib.hid (hbq.out.below hc_)
      replace hba := Lib.hid (hba.out.below hc_)
      replace hbb := Lib.hid (hbb.out.below hc_)
      replace hpw := Lib.hid (hpw.out.below hc_)
      replace hall := Lib.hid (chainB hall.out hc_ hall.out.size)
      clear hc_
      clear hb_
      have p0_ := hbp.out.cell 0 rfl; have p1_ := hbp.out.cell 1 rfl; have p2_ := hbp.out.cell 2 rfl; have pl_ := hbp.out.lt
      have q0_ := hbq.out.cell 0 rfl; have q1_ := hbq.out.cell 1 rfl; have q2_ := hbq.out.cell 2 rfl; have ql_ := hbq.out.lt
      have a0_ := hba.out.cell 0 rfl; have a1_ := hba.out.cell 1 rfl; have al_ := hba.out.lt
      have b0_ := hbb.out.cell 0 rfl; have b1_ := hbb.out.cell 1 rfl; have bl_ := hbb.out.lt
      go_wp2_with fail
      go_ret
      exact ⟨rfl, hall.out⟩
    | false =>
      obtain ⟨l1, l2⟩ : al.length ≤ 40 ∧ bl.length ≤ 40 := by
        have := hX2.out
        simpa using this
      have laH := Lib.hid (Nat.le_trans l1 (show 40 ≤ 1099511627776 by decide)); have lbH := Lib.hid (Nat.le_trans l2 (show 40 ≤ 1099511627776 by decide))
      clear hX2 l1 l2
      have hpH := Lib.hid (Nat.le_trans lpH.out (show 40 ≤ 1099511627776 by decide)); have hqH := Lib.hid (Nat.le_trans lqH.out (show 40 ≤ 1099511627776 by decide))
      have p0_ := hbp.out.cell 0 rfl; have p1_ := hbp.out.cell 1 rfl; have p2_ := hbp.out.cell 2 rfl; have pl_ := hbp.out.lt
      have q0_ := hbq.out.cell 0 rfl; have q1_ := hbq.out.cell 1 rfl; have q2_ := hbq.out.cell 2 rfl; have ql_ := hbq.out.lt
      have a0_ := hba.out.cell 0 rfl; have a1_ := hba.out.cell 1 rfl; have al_ := hba.out.lt
      have b0_ := hbb.out.cell 0 rfl; have b1_ := hbb.out.cell 1 rfl; have bl_ := hbb.out.lt
      go_wp2_with fail
      clear p0_ p1_ p2_ q0_ q1_ q2_ a0_ a1_ b0_ b1_ pl_ ql_ al_ bl_
      refine (known_any _ (hpw.out.below (by first | exact Below.refl _ _ | go_grown))).mono ?_
      rintro e_ w5 ⟨rfl, hb_⟩
      have hc_ : Below w3.heap.size w3 w5 := chainB (by first | exact Below.refl _ _ | go_grown) hb_ (by first | exact Nat.le_refl _ | (simp; done) | (simp; omega))
      replace hvp := Lib.hid (hvp.out.below hc_)
      replace hvq := Lib.hid (hvq.out.below hc_)
      replace hva := Lib.hid (hva.out.below hc_)
      replace hvb := Lib.hid (hvb.out.below hc_)
      replace hbp := Lib.hid (hbp.out.below hc_)
      replace hbq := Lib.hid (hbq.out.below hc_)
      replace hba := Lib.hid (hba.out.below hc_)
      replace hbb := Lib.hid (hbb.out.below hc_)
      replace hpw := Lib.hid (hpw.out.below hc_)
      replace hall := Lib.hid (chainB hall.out hc_ hall.out.size)
      clear hc_
      clear hb_
      have p0_ := hbp.out.cell 0 rfl; have p1_ := hbp.out.cell 1 rfl; have p2_ := hbp.out.cell 2 rfl; have pl_ := hbp.out.lt
      have q0_ := hbq.out.cell 0 rfl; have q1_ := hbq.out.cell 1 rfl; have q2_ := hbq.out.cell 2 rfl; have ql_ := hbq.out.lt
      have a0_ := hba.out.cell 0 rfl; have a1_ := hba.out.cell 1 rfl; have al_ := hba.out.lt
      have b0_ := hbb.out.cell 0 rfl; have b1_ := hbb.out.cell 1 rfl; have bl_ := hbb.out.lt
      go_wp2_with fail
      obtain ⟨E, hE_⟩ : ∃ x, applyE ⟨pl, pa, pe⟩ ⟨ae, al⟩ = x := ⟨_, rfl⟩
      obtain ⟨X, hT_⟩ : ∃ x, applyT ⟨pl, pa, pe⟩ ⟨ae, al⟩ = x := ⟨_, rfl⟩
      have wX := Lib.hid (show TmW X from hT_ ▸ applyT_W wpH.out waH.out)
      have lX := Lib.hid (show X.l.length ≤ 1099511627776 from hT_ ▸ applyT_le _ _)
      have hE := Lib.hid hE_; have hXe := Lib.hid hT_
      clear hE_ hT_
      clear p0_ p1_ p2_ q0_ q1_ q2_ a0_ a1_ b0_ b1_ pl_ ql_ al_ bl_
      refine (apply_any _ _ ⟨pl, pa, pe⟩ ⟨ae, al⟩ _ (hvp.out.below (by first | exact Below.refl _ _ | go_grown)) (hva.out.below (by first | exact Below.refl _ _ | go_grown)) wpH.out waH.out hpH.out laH.out).mono ?_
      rw [hXe.out, hE.out]
      rintro e_ w6 ⟨v, rfl, ho_, hb_⟩
      have hc_ : Below w5.heap.size w5 w6 := chainB (by first | exact Below.refl _ _ | go_grown) hb_ (by first | exact Nat.le_refl _ | (simp; done) | (simp; omega))
      replace hvp := Lib.hid (hvp.out.below hc_)
      replace hvq := Lib.hid (hvq.out.below hc_)
      replace hva := Lib.hid (hva.out.below hc_)
      replace hvb := Lib.hid (hvb.out.below hc_)
      replace hbp := Lib.hid (hbp.out.below hc_)
      replace hbq := Lib.hid (hbq.out.below hc_)
      replace hba := Lib.hid (hba.out.below hc_)
      replace hbb := Lib.hid (hbb.out.below hc_)
      replace hpw := Lib.hid (hpw.out.below hc_)
      replace hall := Lib.hid (chainB hall.out hc_ hall.out.size)
      obtain ⟨VX, nX, cX, rfl, hn_, hc1_, hd_⟩ := ho_.words.form
      have hvX := Lib.hid (show TmV w6 (.agg #[.int .u64 X.e, .slice VX nX cX]) X from ⟨_, rfl, ho_.words⟩)
      clear ho_ hn_ hc1_ hd_
      clear hc_
      clear hb_
      have p0_ := hbp.out.cell 0 rfl; have p1_ := hbp.out.cell 1 rfl; have p2_ := hbp.out.cell 2 rfl; have pl_ := hbp.out.lt
      have q0_ := hbq.out.cell 0 rfl; have q1_ := hbq.out.cell 1 rfl; have q2_ := hbq.out.cell 2 rfl; have ql_ := hbq.out.lt
      have a0_ := hba.out.cell 0 rfl; have a1_ := hba.out.cell 1 rfl; have al_ := hba.out.lt
      have b0_ := hbb.out.cell 0 rfl; have b1_ := hbb.out.cell 1 rfl; have bl_ := hbb.out.lt
      go_wp2_with fail
      obtain ⟨G, hE_⟩ : ∃ x, thenE ⟨pl, pa, pe⟩ ⟨ql, qa, qe⟩ = x := ⟨_, rfl⟩
      obtain ⟨Y, hT_⟩ : ∃ x, thenP ⟨pl, pa, pe⟩ ⟨ql, qa, qe⟩ = x := ⟨_, rfl⟩
      have wY := Lib.hid (show PtW Y from hT_ ▸ thenP_W wpH.out wqH.out)
      have lY := Lib.hid (show Y.en.length ≤ 1099511627776 from hT_ ▸ thenP_le lpH.out lqH.out)
      have hG := Lib.hid hE_; have hYe := Lib.hid hT_
      clear hE_ hT_
      clear p0_ p1_ p2_ q0_ q1_ q2_ a0_ a1_ b0_ b1_ pl_ ql_ al_ bl_
      refine (then_any _ _ ⟨pl, pa, pe⟩ ⟨ql, qa, qe⟩ _ (hvp.out.below (by first | exact Below.refl _ _ | go_grown)) (hvq.out.below (by first | exact Below.refl _ _ | go_grown)) wpH.out wqH.out hpH.out hqH.out).mono ?_
      rw [hYe.out, hG.out]
      rintro e_ w7 ⟨v, rfl, ho_, hb_⟩
      have hc_ : Below w6.heap.size w6 w7 := chainB (by first | exact Below.refl _ _ | go_grown) hb_ (by first | exact Nat.le_refl _ | (simp; done) | (simp; omega))
      replace hvp := Lib.hid (hvp.out.below hc_)
      replace hvq := Lib.hid (hvq.out.below hc_)
      replace hva := Lib.hid (hva.out.below hc_)
      replace hvb := Lib.hid (hvb.out.below hc_)
      replace hbp := Lib.hid (hbp.out.below hc_)
      replace hbq := Lib.hid (hbq.out.below hc_)
      replace hba := Lib.hid (hba.out.below hc_)
      replace hbb := Lib.hid (hbb.out.below hc_)
      replace hpw := Lib.hid (hpw.out.below hc_)
      replace hvX := Lib.hid (hvX.out.below hc_)
      replace hall := Lib.hid (chainB hall.out hc_ hall.out.size)
      have hX := Lib.hid ((has_at _ (w6.heap.size) [.int .u64 X.e, .slice VX nX cX] 25 (by first | rfl | (simp; done))).below hb_)
      obtain ⟨VY, nY, cY, rfl, hn_, hc1_, hd_⟩ := ho_.words.form
      have hvY := Lib.hid (show PtV w7 (.agg #[.int .i64 Y.lv, .int .u32 Y.ad, .slice VY nY cY]) Y from ⟨_, rfl, ho_.words⟩)
      clear ho_ hn_ hc1_ hd_
      clear hc_
      clear hb_
      have p0_ := hbp.out.cell 0 rfl; have p1_ := hbp.out.cell 1 rfl; have p2_ := hbp.out.cell 2 rfl; have pl_ := hbp.out.lt
      have q0_ := hbq.out.cell 0 rfl; have q1_ := hbq.out.cell 1 rfl; have q2_ := hbq.out.cell 2 rfl; have ql_ := hbq.out.lt
      have a0_ := hba.out.cell 0 rfl; have a1_ := hba.out.cell 1 rfl; have al_ := hba.out.lt
      have b0_ := hbb.out.cell 0 rfl; have b1_ := hbb.out.cell 1 rfl; have bl_ := hbb.out.lt
      have X0_ := hX.out.cell 0 rfl; have X1_ := hX.out.cell 1 rfl; have Xl_ := hX.out.lt
      go_upto_region 5 with fail
      go_cut [53] (fun c wx => c = .bool (decide (E = 0 ∧ G = 0)) ∧ Below w7.heap.size w7 wx ∧ HasC wx w7.heap.size [.int .i64 Y.lv, .int .u32 Y.ad, .slice VY nY cY] 62)
      case first =>
        have hcut0_ := Lib.hid (Below.refl w7.heap.size w7)
        by_cases e1 : E = 0
        · subst e1
          by_cases e2 : G = 0
          · subst e2
            go_wp2_with fail
            go_meet
            exact ⟨by simp_all, (by go_grown), has_at _ _ _ _ rfl⟩
          · have e2b : (G == 0) = false := by simpa using e2
            go_wp2_with fail
            go_meet
            exact ⟨by simp_all, (by go_grown), has_at _ _ _ _ rfl⟩
        · have e1b : (E == 0) = false := by simpa using e1
          go_wp2_with fail
          go_meet
          exact ⟨by simp_all, (by go_grown), has_at _ _ _ _ rfl⟩
      case rest =>
        obtain ⟨w8, rfl⟩ : ∃ x, x = wc := ⟨_, rfl⟩
        obtain ⟨rfl, hb_, hk0_⟩ := hcut
        clear p0_ p1_ p2_ q0_ q1_ q2_ a0_ a1_ b0_ b1_ X0_ X1_ pl_ ql_ al_ bl_ Xl_
        have hc_ : Below w7.heap.size w7 w8 := chainB (by first | exact Below.refl _ _ | go_grown) hb_ (by first | exact Nat.le_refl _ | (simp; done) | (simp; omega))
        replace hvp := Lib.hid (hvp.out.below hc_)
        replace hvq := Lib.hid (hvq.out.below hc_)
        replace hva := Lib.hid (hva.out.below hc_)
        replace hvb := Lib.hid (hvb.out.below hc_)
        replace hbp := Lib.hid (hbp.out.below hc_)
        replace hbq := Lib.hid (hbq.out.below hc_)
        replace hba := Lib.hid (hba.out.below hc_)
        replace hbb := Lib.hid (hbb.out.below hc_)
        replace hpw := Lib.hid (hpw.out.below hc_)
        replace hvX := Lib.hid (hvX.out.below hc_)
        replace hX := Lib.hid (hX.out.below hc_)
        replace hvY := Lib.hid (hvY.out.below hc_)
        replace hall := Lib.hid (chainB hall.out hc_ hall.out.size)
        clear hc_
        have hY := Lib.hid hk0_
        clear hb_ hk0_
        obtain ⟨T1, hT1_⟩ : ∃ x, decide (E = 0 ∧ G = 0) = x := ⟨_, rfl⟩
        rw [hT1_]
        have hT1 := Lib.hid hT1_
        clear hT1_
        have p0_ := hbp.out.cell 0 rfl; have p1_ := hbp.out.cell 1 rfl; have p2_ := hbp.out.cell 2 rfl; have pl_ := hbp.out.lt
        have q0_ := hbq.out.cell 0 rfl; have q1_ := hbq.out.cell 1 rfl; have q2_ := hbq.out.cell 2 rfl; have ql_ := hbq.out.lt
        have a0_ := hba.out.cell 0 rfl; have a1_ := hba.out.cell 1 rfl; have al_ := hba.out.lt
        have b0_ := hbb.out.cell 0 rfl; have b1_ := hbb.out.cell 1 rfl; have bl_ := hbb.out.lt
        have X0_ := hX.out.cell 0 rfl; have X1_ := hX.out.cell 1 rfl; have Xl_ := hX.out.lt
        have Y0_ := hY.out.cell 0 rfl; have Y1_ := hY.out.cell 1 rfl; have Y2_ := hY.out.cell 2 rfl; have Yl_ := hY.out.lt
        go_upto_if 53 with fail
        go_cut [] (fun  wx => Below w8.heap.size w8 wx)
        case first =>
          have hcut0_ := Lib.hid (Below.refl w8.heap.size w8)
          cases T1 with
          | false =>
            go_wp2_with fail
            go_meet
            exact (chainB hcut0_.out (by first | exact Below.refl _ _ | go_grown) hcut0_.out.size)
          | true =>
            obtain ⟨e1, e2⟩ : E = 0 ∧ G = 0 := by simpa using hT1.out
            subst e1 e2
            go_wp2_with fail
            obtain ⟨H, hE_⟩ : ∃ x, applyE ⟨ql, qa, qe⟩ X = x := ⟨_, rfl⟩
            obtain ⟨Z, hT_⟩ : ∃ x, applyT ⟨ql, qa, qe⟩ X = x := ⟨_, rfl⟩
            have wZ := Lib.hid (show TmW Z from hT_ ▸ applyT_W wqH.out wX.out)
            have lZ := Lib.hid (show Z.l.length ≤ 1099511627776 from hT_ ▸ applyT_le _ _)
            have hH := Lib.hid hE_; have hZe := Lib.hid hT_
            clear hE_ hT_
            clear p0_ p1_ p2_ q0_ q1_ q2_ a0_ a1_ b0_ b1_ X0_ X1_ Y0_ Y1_ Y2_ pl_ ql_ al_ bl_ Xl_ Yl_
            refine (apply_any _ _ ⟨ql, qa, qe⟩ X _ (hvq.out.below (by first | exact Below.refl _ _ | go_grown)) (hvX.out.below (by first | exact Below.refl _ _ | go_grown)) wqH.out wX.out hqH.out lX.out).mono ?_
            rw [hZe.out, hH.out]
            rintro e_ w9 ⟨v, rfl, ho_, hb_⟩
            have hc_ : Below w8.heap.size w8 w9 := chainB (by first | exact Below.refl _ _ | go_grown) hb_ (by first | exact Nat.le_refl _ | (simp; done) | (simp; omega))
            replace hvp := Lib.hid (hvp.out.below hc_)
            replace hvq := Lib.hid (hvq.out.below hc_)
            replace hva := Lib.hid (hva.out.below hc_)
            replace hvb := Lib.hid (hvb.out.below hc_)
            replace hbp := Lib.hid (hbp.out.below hc_)
            replace hbq := Lib.hid (hbq.out.below hc_)
            replace hba := Lib.hid (hba.out.below hc_)
            replace hbb := Lib.hid (hbb.out.below hc_)
            replace hpw := Lib.hid (hpw.out.below hc_)
            replace hvX := Lib.hid (hvX.out.below hc_)
            replace hX := Lib.hid (hX.out.below hc_)
            replace hvY := Lib.hid (hvY.out.below hc_)
            replace hY := Lib.hid (hY.out.below hc_)
            replace hall := Lib.hid (chainB hall.out hc_ hall.out.size)
            replace hcut0_ := Lib.hid (chainB hcut0_.out hc_ hcut0_.out.size)
            obtain ⟨VZ, nZ, cZ, rfl, hn_, hc1_, hd_⟩ := ho_.words.form
            have hvZ := Lib.hid (show TmV w9 (.agg #[.int .u64 Z.e, .slice VZ nZ cZ]) Z from ⟨_, rfl, ho_.words⟩)
            clear ho_ hn_ hc1_ hd_
            clear hc_
            clear hb_
            have p0_ := hbp.out.cell 0 rfl; have p1_ := hbp.out.cell 1 rfl; have p2_ := hbp.out.cell 2 rfl; have pl_ := hbp.out.lt
            have q0_ := hbq.out.cell 0 rfl; have q1_ := hbq.out.cell 1 rfl; have q2_ := hbq.out.cell 2 rfl; have ql_ := hbq.out.lt
            have a0_ := hba.out.cell 0 rfl; have a1_ := hba.out.cell 1 rfl; have al_ := hba.out.lt
            have b0_ := hbb.out.cell 0 rfl; have b1_ := hbb.out.cell 1 rfl; have bl_ := hbb.out.lt
            have X0_ := hX.out.cell 0 rfl; have X1_ := hX.out.cell 1 rfl; have Xl_ := hX.out.lt
            have Y0_ := hY.out.cell 0 rfl; have Y1_ := hY.out.cell 1 rfl; have Y2_ := hY.out.cell 2 rfl; have Yl_ := hY.out.lt
            go_wp2_with fail
            obtain ⟨I, hE_⟩ : ∃ x, applyE Y ⟨ae, al⟩ = x := ⟨_, rfl⟩
            obtain ⟨V, hT_⟩ : ∃ x, applyT Y ⟨ae, al⟩ = x := ⟨_, rfl⟩
            have wV := Lib.hid (show TmW V from hT_ ▸ applyT_W wY.out waH.out)
            have lV := Lib.hid (show V.l.length ≤ 1099511627776 from hT_ ▸ applyT_le _ _)
            have hI := Lib.hid hE_; have hVe := Lib.hid hT_
            clear hE_ hT_
            clear p0_ p1_ p2_ q0_ q1_ q2_ a0_ a1_ b0_ b1_ X0_ X1_ Y0_ Y1_ Y2_ pl_ ql_ al_ bl_ Xl_ Yl_
            refine (apply_any _ _ Y ⟨ae, al⟩ _ (hvY.out.below (by first | exact Below.refl _ _ | go_grown)) (hva.out.below (by first | exact Below.refl _ _ | go_grown)) wY.out waH.out lY.out laH.out).mono ?_
            rw [hVe.out, hI.out]
            rintro e_ w10 ⟨v, rfl, ho_, hb_⟩
            have hc_ : Below w9.heap.size w9 w10 := chainB (by first | exact Below.refl _ _ | go_grown) hb_ (by first | exact Nat.le_refl _ | (simp; done) | (simp; omega))
            replace hvp := Lib.hid (hvp.out.below hc_)
            replace hvq := Lib.hid (hvq.out.below hc_)
            replace hva := Lib.hid (hva.out.below hc_)
            replace hvb := Lib.hid (hvb.out.below hc_)
            replace hbp := Lib.hid (hbp.out.below hc_)
            replace hbq := Lib.hid (hbq.out.below hc_)
            replace hba := Lib.hid (hba.out.below hc_)
            replace hbb := Lib.hid (hbb.out.below hc_)
            replace hpw := Lib.hid (hpw.out.below hc_)
            replace hvX := Lib.hid (hvX.out.below hc_)
            replace hX := Lib.hid (hX.out.below hc_)
            replace hvY := Lib.hid (hvY.out.below hc_)
            replace hY := Lib.hid (hY.out.below hc_)
            replace hvZ := Lib.hid (hvZ.out.below hc_)
            replace hall := Lib.hid (chainB hall.out hc_ hall.out.size)
            replace hcut0_ := Lib.hid (chainB hcut0_.out hc_ hcut0_.out.size)
            have hZ := Lib.hid ((has_at _ (w9.heap.size) [.int .u64 Z.e, .slice VZ nZ cZ] 25 (by first | rfl | (simp; done))).below hb_)
            obtain ⟨VV, nV, cV, rfl, hn_, hc1_, hd_⟩ := ho_.words.form
            have hvV := Lib.hid (show TmV w10 (.agg #[.int .u64 V.e, .slice VV nV cV]) V from ⟨_, rfl, ho_.words⟩)
            clear ho_ hn_ hc1_ hd_
            clear hc_
            clear hb_
            have p0_ := hbp.out.cell 0 rfl; have p1_ := hbp.out.cell 1 rfl; have p2_ := hbp.out.cell 2 rfl; have pl_ := hbp.out.lt
            have q0_ := hbq.out.cell 0 rfl; have q1_ := hbq.out.cell 1 rfl; have q2_ := hbq.out.cell 2 rfl; have ql_ := hbq.out.lt
            have a0_ := hba.out.cell 0 rfl; have a1_ := hba.out.cell 1 rfl; have al_ := hba.out.lt
            have b0_ := hbb.out.cell 0 rfl; have b1_ := hbb.out.cell 1 rfl; have bl_ := hbb.out.lt
            have X0_ := hX.out.cell 0 rfl; have X1_ := hX.out.cell 1 rfl; have Xl_ := hX.out.lt
            have Y0_ := hY.out.cell 0 rfl; have Y1_ := hY.out.cell 1 rfl; have Y2_ := hY.out.cell 2 rfl; have Yl_ := hY.out.lt
            have Z0_ := hZ.out.cell 0 rfl; have Z1_ := hZ.out.cell 1 rfl; have Zl_ := hZ.out.lt
            go_upto_region 8 with fail
            by_cases e3 : H = 0
            · subst e3
              by_cases e4 : I = 0
              · subst e4
                have hZV : Z = V := by rw [← hZe.out, ← hVe.out, ← hYe.out, ← hXe.out]; exact then_goes hE.out hG.out (by rw [hXe.out]; exact hH.out) (by rw [hYe.out]; exact hI.out)
                have hZ0 := Lib.hid (show cmpT Z V = 0 from hZV ▸ cmpT_refl Z)
                clear hZV
                go_wp2_with fail
                clear p0_ p1_ p2_ q0_ q1_ q2_ a0_ a1_ b0_ b1_ X0_ X1_ Y0_ Y1_ Y2_ Z0_ Z1_ pl_ ql_ al_ bl_ Xl_ Yl_ Zl_
                refine (stampCmp_any _ _ Z V _ (hvZ.out.below (by first | exact Below.refl _ _ | go_grown)) (hvV.out.below (by first | exact Below.refl _ _ | go_grown))).mono ?_
                rw [hZ0.out]
                rintro e_ w11 ⟨rfl, hb_⟩
                have hc_ : Below w10.heap.size w10 w11 := chainB (by first | exact Below.refl _ _ | go_grown) hb_ (by first | exact Nat.le_refl _ | (simp; done) | (simp; omega))
                replace hvp := Lib.hid (hvp.out.below hc_)
                replace hvq := Lib.hid (hvq.out.below hc_)
                replace hva := Lib.hid (hva.out.below hc_)
                replace hvb := Lib.hid (hvb.out.below hc_)
                replace hbp := Lib.hid (hbp.out.below hc_)
                replace hbq := Lib.hid (hbq.out.below hc_)
                replace hba := Lib.hid (hba.out.below hc_)
                replace hbb := Lib.hid (hbb.out.below hc_)
                replace hpw := Lib.hid (hpw.out.below hc_)
                replace hvX := Lib.hid (hvX.out.below hc_)
                replace hX := Lib.hid (hX.out.below hc_)
                replace hvY := Lib.hid (hvY.out.below hc_)
                replace hY := Lib.hid (hY.out.below hc_)
                replace hvZ := Lib.hid (hvZ.out.below hc_)
                replace hZ := Lib.hid (hZ.out.below hc_)
                replace hvV := Lib.hid (hvV.out.below hc_)
                replace hall := Lib.hid (chainB hall.out hc_ hall.out.size)
                replace hcut0_ := Lib.hid (chainB hcut0_.out hc_ hcut0_.out.size)
                have hV := Lib.hid ((has_at _ (w10.heap.size) [.int .u64 V.e, .slice VV nV cV] 25 (by first | rfl | (simp; done))).below hb_)
                clear hc_
                clear hb_
                have p0_ := hbp.out.cell 0 rfl; have p1_ := hbp.out.cell 1 rfl; have p2_ := hbp.out.cell 2 rfl; have pl_ := hbp.out.lt
                have q0_ := hbq.out.cell 0 rfl; have q1_ := hbq.out.cell 1 rfl; have q2_ := hbq.out.cell 2 rfl; have ql_ := hbq.out.lt
                have a0_ := hba.out.cell 0 rfl; have a1_ := hba.out.cell 1 rfl; have al_ := hba.out.lt
                have b0_ := hbb.out.cell 0 rfl; have b1_ := hbb.out.cell 1 rfl; have bl_ := hbb.out.lt
                have X0_ := hX.out.cell 0 rfl; have X1_ := hX.out.cell 1 rfl; have Xl_ := hX.out.lt
                have Y0_ := hY.out.cell 0 rfl; have Y1_ := hY.out.cell 1 rfl; have Y2_ := hY.out.cell 2 rfl; have Yl_ := hY.out.lt
                have Z0_ := hZ.out.cell 0 rfl; have Z1_ := hZ.out.cell 1 rfl; have Zl_ := hZ.out.lt
                have V0_ := hV.out.cell 0 rfl; have V1_ := hV.out.cell 1 rfl; have Vl_ := hV.out.lt
                go_wp2_with fail
                go_meet
                exact (chainB hcut0_.out (by first | exact Below.refl _ _ | go_grown) hcut0_.out.size)
              · have e4b : (I == 0) = false := by simpa using e4
                go_wp2_with fail
                go_meet
                exact (chainB hcut0_.out (by first | exact Below.refl _ _ | go_grown) hcut0_.out.size)
            · have e3b : (H == 0) = false := by simpa using e3
              go_wp2_with fail
              go_meet
              exact (chainB hcut0_.out (by first | exact Below.refl _ _ | go_grown) hcut0_.out.size)
        case rest =>
          obtain ⟨w11, rfl⟩ : ∃ x, x = wc := ⟨_, rfl⟩
          have hb_ := hcut
          clear p0_ p1_ p2_ q0_ q1_ q2_ a0_ a1_ b0_ b1_ X0_ X1_ Y0_ Y1_ Y2_ pl_ ql_ al_ bl_ Xl_ Yl_
          have hc_ : Below w8.heap.size w8 w11 := chainB (by first | exact Below.refl _ _ | go_grown) hb_ (by first | exact Nat.le_refl _ | (simp; done) | (simp; omega))
          replace hvp := Lib.hid (hvp.out.below hc_)
          replace hvq := Lib.hid (hvq.out.below hc_)
          replace hva := Lib.hid (hva.out.below hc_)
          replace hvb := Lib.hid (hvb.out.below hc_)
          replace hbp := Lib.hid (hbp.out.below hc_)
          replace hbq := Lib.hid (hbq.out.below hc_)
          replace hba := Lib.hid (hba.out.below hc_)
          replace hbb := Lib.hid (hbb.out.below hc_)
          replace hpw := Lib.hid (hpw.out.below hc_)
          replace hvX := Lib.hid (hvX.out.below hc_)
          replace hX := Lib.hid (hX.out.below hc_)
          replace hvY := Lib.hid (hvY.out.below hc_)
          replace hY := Lib.hid (hY.out.below hc_)
          replace hall := Lib.hid (chainB hall.out hc_ hall.out.size)
          clear hc_
          clear hb_
          clear hvY hY
          have p0_ := hbp.out.cell 0 rfl; have p1_ := hbp.out.cell 1 rfl; have p2_ := hbp.out.cell 2 rfl; have pl_ := hbp.out.lt
          have q0_ := hbq.out.cell 0 rfl; have q1_ := hbq.out.cell 1 rfl; have q2_ := hbq.out.cell 2 rfl; have ql_ := hbq.out.lt
          have a0_ := hba.out.cell 0 rfl; have a1_ := hba.out.cell 1 rfl; have al_ := hba.out.lt
          have b0_ := hbb.out.cell 0 rfl; have b1_ := hbb.out.cell 1 rfl; have bl_ := hbb.out.lt
          have X0_ := hX.out.cell 0 rfl; have X1_ := hX.out.cell 1 rfl; have Xl_ := hX.out.lt
          go_wp2_with fail
          obtain ⟨K, hE_⟩ : ∃ x, applyE ⟨pl, pa, pe⟩ ⟨be, bl⟩ = x := ⟨_, rfl⟩
          obtain ⟨U, hT_⟩ : ∃ x, applyT ⟨pl, pa, pe⟩ ⟨be, bl⟩ = x := ⟨_, rfl⟩
          have wU := Lib.hid (show TmW U from hT_ ▸ applyT_W wpH.out wbH.out)
          have lU := Lib.hid (show U.l.length ≤ 1099511627776 from hT_ ▸ applyT_le _ _)
          have hK := Lib.hid hE_; have hUe := Lib.hid hT_
          clear hE_ hT_
          clear p0_ p1_ p2_ q0_ q1_ q2_ a0_ a1_ b0_ b1_ X0_ X1_ pl_ ql_ al_ bl_ Xl_
          refine (apply_any _ _ ⟨pl, pa, pe⟩ ⟨be, bl⟩ _ (hvp.out.below (by first | exact Below.refl _ _ | go_grown)) (hvb.out.below (by first | exact Below.refl _ _ | go_grown)) wpH.out wbH.out hpH.out lbH.out).mono ?_
          rw [hUe.out, hK.out]
          rintro e_ w12 ⟨v, rfl, ho_, hb_⟩
          have hc_ : Below w11.heap.size w11 w12 := chainB (by first | exact Below.refl _ _ | go_grown) hb_ (by first | exact Nat.le_refl _ | (simp; done) | (simp; omega))
          replace hvp := Lib.hid (hvp.out.below hc_)
          replace hvq := Lib.hid (hvq.out.below hc_)
          replace hva := Lib.hid (hva.out.below hc_)
          replace hvb := Lib.hid (hvb.out.below hc_)
          replace hbp := Lib.hid (hbp.out.below hc_)
          replace hbq := Lib.hid (hbq.out.below hc_)
          replace hba := Lib.hid (hba.out.below hc_)
          replace hbb := Lib.hid (hbb.out.below hc_)
          replace hpw := Lib.hid (hpw.out.below hc_)
          replace hvX := Lib.hid (hvX.out.below hc_)
          replace hX := Lib.hid (hX.out.below hc_)
          replace hall := Lib.hid (chainB hall.out hc_ hall.out.size)
          obtain ⟨VU, nU, cU, rfl, hn_, hc1_, hd_⟩ := ho_.words.form
          have hvU := Lib.hid (show TmV w12 (.agg #[.int .u64 U.e, .slice VU nU cU]) U from ⟨_, rfl, ho_.words⟩)
          clear ho_ hn_ hc1_ hd_
          clear hc_
          clear hb_
          have p0_ := hbp.out.cell 0 rfl; have p1_ := hbp.out.cell 1 rfl; have p2_ := hbp.out.cell 2 rfl; have pl_ := hbp.out.lt
          have q0_ := hbq.out.cell 0 rfl; have q1_ := hbq.out.cell 1 rfl; have q2_ := hbq.out.cell 2 rfl; have ql_ := hbq.out.lt
          have a0_ := hba.out.cell 0 rfl; have a1_ := hba.out.cell 1 rfl; have al_ := hba.out.lt
          have b0_ := hbb.out.cell 0 rfl; have b1_ := hbb.out.cell 1 rfl; have bl_ := hbb.out.lt
          have X0_ := hX.out.cell 0 rfl; have X1_ := hX.out.cell 1 rfl; have Xl_ := hX.out.lt
          go_upto_region 11 with fail
          go_cut [100] (fun c wx => c = .bool false ∧ Below w12.heap.size w12 wx)
          case first =>
            have hcut0_ := Lib.hid (Below.refl w12.heap.size w12)
            by_cases e1 : E = 0
            · subst e1
              by_cases e2 : K = 0
              · subst e2
                have hk := fun h => apply_keeps (p := ⟨pl, pa, pe⟩) (a := ⟨ae, al⟩) (b := ⟨be, bl⟩) hE.out hK.out h
                rw [hXe.out, hUe.out] at hk
                have hkH := Lib.hid hk
                clear hk
                obtain ⟨L, hL_⟩ : ∃ x, leqT ⟨ae, al⟩ ⟨be, bl⟩ = x := ⟨_, rfl⟩
                have hL := Lib.hid hL_
                clear hL_
                go_wp2_with fail
                clear p0_ p1_ p2_ q0_ q1_ q2_ a0_ a1_ b0_ b1_ X0_ X1_ pl_ ql_ al_ bl_ Xl_
                refine (leq_any _ _ ⟨ae, al⟩ ⟨be, bl⟩ _ (hva.out.below (by first | exact Below.refl _ _ | go_grown)) (hvb.out.below (by first | exact Below.refl _ _ | go_grown))).mono ?_
                rw [hL.out]
                rintro e_ w13 ⟨rfl, hb_⟩
                have hc_ : Below w12.heap.size w12 w13 := chainB (by first | exact Below.refl _ _ | go_grown) hb_ (by first | exact Nat.le_refl _ | (simp; done) | (simp; omega))
                replace hvp := Lib.hid (hvp.out.below hc_)
                replace hvq := Lib.hid (hvq.out.below hc_)
                replace hva := Lib.hid (hva.out.below hc_)
                replace hvb := Lib.hid (hvb.out.below hc_)
                replace hbp := Lib.hid (hbp.out.below hc_)
                replace hbq := Lib.hid (hbq.out.below hc_)
                replace hba := Lib.hid (hba.out.below hc_)
                replace hbb := Lib.hid (hbb.out.below hc_)
                replace hpw := Lib.hid (hpw.out.below hc_)
                replace hvX := Lib.hid (hvX.out.below hc_)
                replace hX := Lib.hid (hX.out.below hc_)
                replace hvU := Lib.hid (hvU.out.below hc_)
                replace hall := Lib.hid (chainB hall.out hc_ hall.out.size)
                replace hcut0_ := Lib.hid (chainB hcut0_.out hc_ hcut0_.out.size)
                have hU := Lib.hid ((has_at _ (w12.heap.size) [.int .u64 U.e, .slice VU nU cU] 25 (by first | rfl | (simp; done))).below hb_)
                clear hc_
                clear hb_
                cases L with
                | false =>
                  have p0_ := hbp.out.cell 0 rfl; have p1_ := hbp.out.cell 1 rfl; have p2_ := hbp.out.cell 2 rfl; have pl_ := hbp.out.lt
                  have q0_ := hbq.out.cell 0 rfl; have q1_ := hbq.out.cell 1 rfl; have q2_ := hbq.out.cell 2 rfl; have ql_ := hbq.out.lt
                  have a0_ := hba.out.cell 0 rfl; have a1_ := hba.out.cell 1 rfl; have al_ := hba.out.lt
                  have b0_ := hbb.out.cell 0 rfl; have b1_ := hbb.out.cell 1 rfl; have bl_ := hbb.out.lt
                  have X0_ := hX.out.cell 0 rfl; have X1_ := hX.out.cell 1 rfl; have Xl_ := hX.out.lt
                  have U0_ := hU.out.cell 0 rfl; have U1_ := hU.out.cell 1 rfl; have Ul_ := hU.out.lt
                  go_wp2_with fail
                  go_meet
                  exact ⟨rfl, (chainB hcut0_.out (by first | exact Below.refl _ _ | go_grown) hcut0_.out.size)⟩
                | true =>
                  have hl := Lib.hid (hkH.out hL.out)
                  have p0_ := hbp.out.cell 0 rfl; have p1_ := hbp.out.cell 1 rfl; have p2_ := hbp.out.cell 2 rfl; have pl_ := hbp.out.lt
                  have q0_ := hbq.out.cell 0 rfl; have q1_ := hbq.out.cell 1 rfl; have q2_ := hbq.out.cell 2 rfl; have ql_ := hbq.out.lt
                  have a0_ := hba.out.cell 0 rfl; have a1_ := hba.out.cell 1 rfl; have al_ := hba.out.lt
                  have b0_ := hbb.out.cell 0 rfl; have b1_ := hbb.out.cell 1 rfl; have bl_ := hbb.out.lt
                  have X0_ := hX.out.cell 0 rfl; have X1_ := hX.out.cell 1 rfl; have Xl_ := hX.out.lt
                  have U0_ := hU.out.cell 0 rfl; have U1_ := hU.out.cell 1 rfl; have Ul_ := hU.out.lt
                  go_wp2_with fail
                  clear p0_ p1_ p2_ q0_ q1_ q2_ a0_ a1_ b0_ b1_ X0_ X1_ U0_ U1_ pl_ ql_ al_ bl_ Xl_ Ul_
                  refine (leq_any _ _ X U _ (hvX.out.below (by first | exact Below.refl _ _ | go_grown)) (hvU.out.below (by first | exact Below.refl _ _ | go_grown))).mono ?_
                  rw [hl.out]
                  rintro e_ w14 ⟨rfl, hb_⟩
                  have hc_ : Below w13.heap.size w13 w14 := chainB (by first | exact Below.refl _ _ | go_grown) hb_ (by first | exact Nat.le_refl _ | (simp; done) | (simp; omega))
                  replace hvp := Lib.hid (hvp.out.below hc_)
                  replace hvq := Lib.hid (hvq.out.below hc_)
                  replace hva := Lib.hid (hva.out.below hc_)
                  replace hvb := Lib.hid (hvb.out.below hc_)
                  replace hbp := Lib.hid (hbp.out.below hc_)
                  replace hbq := Lib.hid (hbq.out.below hc_)
                  replace hba := Lib.hid (hba.out.below hc_)
                  replace hbb := Lib.hid (hbb.out.below hc_)
                  replace hpw := Lib.hid (hpw.out.below hc_)
                  replace hvX := Lib.hid (hvX.out.below hc_)
                  replace hX := Lib.hid (hX.out.below hc_)
                  replace hvU := Lib.hid (hvU.out.below hc_)
                  replace hU := Lib.hid (hU.out.below hc_)
                  replace hall := Lib.hid (chainB hall.out hc_ hall.out.size)
                  replace hcut0_ := Lib.hid (chainB hcut0_.out hc_ hcut0_.out.size)
                  clear hc_
                  clear hb_
                  have p0_ := hbp.out.cell 0 rfl; have p1_ := hbp.out.cell 1 rfl; have p2_ := hbp.out.cell 2 rfl; have pl_ := hbp.out.lt
                  have q0_ := hbq.out.cell 0 rfl; have q1_ := hbq.out.cell 1 rfl; have q2_ := hbq.out.cell 2 rfl; have ql_ := hbq.out.lt
                  have a0_ := hba.out.cell 0 rfl; have a1_ := hba.out.cell 1 rfl; have al_ := hba.out.lt
                  have b0_ := hbb.out.cell 0 rfl; have b1_ := hbb.out.cell 1 rfl; have bl_ := hbb.out.lt
                  have X0_ := hX.out.cell 0 rfl; have X1_ := hX.out.cell 1 rfl; have Xl_ := hX.out.lt
                  have U0_ := hU.out.cell 0 rfl; have U1_ := hU.out.cell 1 rfl; have Ul_ := hU.out.lt
                  go_wp2_with fail
                  go_meet
                  exact ⟨rfl, (chainB hcut0_.out (by first | exact Below.refl _ _ | go_grown) hcut0_.out.size)⟩
              · have e2b : (K == 0) = false := by simpa using e2
                go_wp2_with fail
                go_meet
                exact ⟨rfl, (chainB hcut0_.out (by first | exact Below.refl _ _ | go_grown) hcut0_.out.size)⟩
            · have e1b : (E == 0) = false := by simpa using e1
              go_wp2_with fail
              go_meet
              exact ⟨rfl, (chainB hcut0_.out (by first | exact Below.refl _ _ | go_grown) hcut0_.out.size)⟩
          case rest =>
            obtain ⟨w13, rfl⟩ : ∃ x, x = wc := ⟨_, rfl⟩
            obtain ⟨rfl, hb_⟩ := hcut
            clear p0_ p1_ p2_ q0_ q1_ q2_ a0_ a1_ b0_ b1_ X0_ X1_ pl_ ql_ al_ bl_ Xl_
            have hc_ : Below w12.heap.size w12 w13 := chainB (by first | exact Below.refl _ _ | go_grown) hb_ (by first | exact Nat.le_refl _ | (simp; done) | (simp; omega))
            replace hvp := Lib.hid (hvp.out.below hc_)
            replace hvq := Lib.hid (hvq.out.below hc_)
            replace hva := Lib.hid (hva.out.below hc_)
            replace hvb := Lib.hid (hvb.out.below hc_)
            replace hbp := Lib.hid (hbp.out.below hc_)
            replace hbq := Lib.hid (hbq.out.below hc_)
            replace hba := Lib.hid (hba.out.below hc_)
            replace hbb := Lib.hid (hbb.out.below hc_)
            replace hpw := Lib.hid (hpw.out.below hc_)
            replace hvX := Lib.hid (hvX.out.below hc_)
            replace hX := Lib.hid (hX.out.below hc_)
            replace hvU := Lib.hid (hvU.out.below hc_)
            replace hall := Lib.hid (chainB hall.out hc_ hall.out.size)
            clear hc_
            clear hb_
            have p0_ := hbp.out.cell 0 rfl; have p1_ := hbp.out.cell 1 rfl; have p2_ := hbp.out.cell 2 rfl; have pl_ := hbp.out.lt
            have q0_ := hbq.out.cell 0 rfl; have q1_ := hbq.out.cell 1 rfl; have q2_ := hbq.out.cell 2 rfl; have ql_ := hbq.out.lt
            have a0_ := hba.out.cell 0 rfl; have a1_ := hba.out.cell 1 rfl; have al_ := hba.out.lt
            have b0_ := hbb.out.cell 0 rfl; have b1_ := hbb.out.cell 1 rfl; have bl_ := hbb.out.lt
            have X0_ := hX.out.cell 0 rfl; have X1_ := hX.out.cell 1 rfl; have Xl_ := hX.out.lt
            go_wp2_with fail
            obtain ⟨J, hE_⟩ : ∃ x, applyE ⟨ql, qa, qe⟩ ⟨ae, al⟩ = x := ⟨_, rfl⟩
            obtain ⟨S, hT_⟩ : ∃ x, applyT ⟨ql, qa, qe⟩ ⟨ae, al⟩ = x := ⟨_, rfl⟩
            have wS := Lib.hid (show TmW S from hT_ ▸ applyT_W wqH.out waH.out)
            have lS := Lib.hid (show S.l.length ≤ 1099511627776 from hT_ ▸ applyT_le _ _)
            have hJ := Lib.hid hE_; have hSe := Lib.hid hT_
            clear hE_ hT_
            clear p0_ p1_ p2_ q0_ q1_ q2_ a0_ a1_ b0_ b1_ X0_ X1_ pl_ ql_ al_ bl_ Xl_
            refine (apply_any _ _ ⟨ql, qa, qe⟩ ⟨ae, al⟩ _ (hvq.out.below (by first | exact Below.refl _ _ | go_grown)) (hva.out.below (by first | exact Below.refl _ _ | go_grown)) wqH.out waH.out hqH.out laH.out).mono ?_
            rw [hSe.out, hJ.out]
            rintro e_ w14 ⟨v, rfl, ho_, hb_⟩
            have hc_ : Below w13.heap.size w13 w14 := chainB (by first | exact Below.refl _ _ | go_grown) hb_ (by first | exact Nat.le_refl _ | (simp; done) | (simp; omega))
            replace hvp := Lib.hid (hvp.out.below hc_)
            replace hvq := Lib.hid (hvq.out.below hc_)
            replace hva := Lib.hid (hva.out.below hc_)
            replace hvb := Lib.hid (hvb.out.below hc_)
            replace hbp := Lib.hid (hbp.out.below hc_)
            replace hbq := Lib.hid (hbq.out.below hc_)
            replace hba := Lib.hid (hba.out.below hc_)
            replace hbb := Lib.hid (hbb.out.below hc_)
            replace hpw := Lib.hid (hpw.out.below hc_)
            replace hvX := Lib.hid (hvX.out.below hc_)
            replace hX := Lib.hid (hX.out.below hc_)
            replace hvU := Lib.hid (hvU.out.below hc_)
            replace hall := Lib.hid (chainB hall.out hc_ hall.out.size)
            obtain ⟨VS, nS, cS, rfl, hn_, hc1_, hd_⟩ := ho_.words.form
            have hvS := Lib.hid (show TmV w14 (.agg #[.int .u64 S.e, .slice VS nS cS]) S from ⟨_, rfl, ho_.words⟩)
            clear ho_ hn_ hc1_ hd_
            clear hc_
            clear hb_
            have p0_ := hbp.out.cell 0 rfl; have p1_ := hbp.out.cell 1 rfl; have p2_ := hbp.out.cell 2 rfl; have pl_ := hbp.out.lt
            have q0_ := hbq.out.cell 0 rfl; have q1_ := hbq.out.cell 1 rfl; have q2_ := hbq.out.cell 2 rfl; have ql_ := hbq.out.lt
            have a0_ := hba.out.cell 0 rfl; have a1_ := hba.out.cell 1 rfl; have al_ := hba.out.lt
            have b0_ := hbb.out.cell 0 rfl; have b1_ := hbb.out.cell 1 rfl; have bl_ := hbb.out.lt
            have X0_ := hX.out.cell 0 rfl; have X1_ := hX.out.cell 1 rfl; have Xl_ := hX.out.lt
            go_upto_region 14 with fail
            by_cases e1 : E = 0
            · subst e1
              by_cases e2 : J = 0
              · subst e2
                have hk := fun h => pathLeq_leq (p := ⟨pl, pa, pe⟩) (q := ⟨ql, qa, qe⟩) (a := ⟨ae, al⟩) hE.out hJ.out (tlW waH.out) h
                rw [hXe.out, hSe.out] at hk
                have hkH := Lib.hid hk
                clear hk
                obtain ⟨L, hL_⟩ : ∃ x, pathLeq ⟨pl, pa, pe⟩ ⟨ql, qa, qe⟩ (al.length : Int) = x := ⟨_, rfl⟩
                have hL := Lib.hid hL_
                clear hL_
                go_wp2_with fail
                clear p0_ p1_ p2_ q0_ q1_ q2_ a0_ a1_ b0_ b1_ X0_ X1_ pl_ ql_ al_ bl_ Xl_
                refine (pathLeq_any _ _ ⟨pl, pa, pe⟩ ⟨ql, qa, qe⟩ _ _ (hvp.out.below (by first | exact Below.refl _ _ | go_grown)) (hvq.out.below (by first | exact Below.refl _ _ | go_grown)) hpH.out hqH.out).mono ?_
                rw [← hiH.out, hL.out]
                rintro e_ w15 ⟨rfl, hb_⟩
                have hc_ : Below w14.heap.size w14 w15 := chainB (by first | exact Below.refl _ _ | go_grown) hb_ (by first | exact Nat.le_refl _ | (simp; done) | (simp; omega))
                replace hvp := Lib.hid (hvp.out.below hc_)
                replace hvq := Lib.hid (hvq.out.below hc_)
                replace hva := Lib.hid (hva.out.below hc_)
                replace hvb := Lib.hid (hvb.out.below hc_)
                replace hbp := Lib.hid (hbp.out.below hc_)
                replace hbq := Lib.hid (hbq.out.below hc_)
                replace hba := Lib.hid (hba.out.below hc_)
                replace hbb := Lib.hid (hbb.out.below hc_)
                replace hpw := Lib.hid (hpw.out.below hc_)
                replace hvX := Lib.hid (hvX.out.below hc_)
                replace hX := Lib.hid (hX.out.below hc_)
                replace hvU := Lib.hid (hvU.out.below hc_)
                replace hvS := Lib.hid (hvS.out.below hc_)
                replace hall := Lib.hid (chainB hall.out hc_ hall.out.size)
                have hS := Lib.hid ((has_at _ (w14.heap.size) [.int .u64 S.e, .slice VS nS cS] 25 (by first | rfl | (simp; done))).below hb_)
                clear hc_
                clear hb_
                cases L with
                | false =>
                  have p0_ := hbp.out.cell 0 rfl; have p1_ := hbp.out.cell 1 rfl; have p2_ := hbp.out.cell 2 rfl; have pl_ := hbp.out.lt
                  have q0_ := hbq.out.cell 0 rfl; have q1_ := hbq.out.cell 1 rfl; have q2_ := hbq.out.cell 2 rfl; have ql_ := hbq.out.lt
                  have a0_ := hba.out.cell 0 rfl; have a1_ := hba.out.cell 1 rfl; have al_ := hba.out.lt
                  have b0_ := hbb.out.cell 0 rfl; have b1_ := hbb.out.cell 1 rfl; have bl_ := hbb.out.lt
                  have X0_ := hX.out.cell 0 rfl; have X1_ := hX.out.cell 1 rfl; have Xl_ := hX.out.lt
                  have S0_ := hS.out.cell 0 rfl; have S1_ := hS.out.cell 1 rfl; have Sl_ := hS.out.lt
                  go_wp2_with fail
                  go_ret
                  exact ⟨rfl, chainB hall.out (by first | exact Below.refl _ _ | go_grown) hall.out.size⟩
                | true =>
                  have hl := Lib.hid (hkH.out hL.out)
                  have p0_ := hbp.out.cell 0 rfl; have p1_ := hbp.out.cell 1 rfl; have p2_ := hbp.out.cell 2 rfl; have pl_ := hbp.out.lt
                  have q0_ := hbq.out.cell 0 rfl; have q1_ := hbq.out.cell 1 rfl; have q2_ := hbq.out.cell 2 rfl; have ql_ := hbq.out.lt
                  have a0_ := hba.out.cell 0 rfl; have a1_ := hba.out.cell 1 rfl; have al_ := hba.out.lt
                  have b0_ := hbb.out.cell 0 rfl; have b1_ := hbb.out.cell 1 rfl; have bl_ := hbb.out.lt
                  have X0_ := hX.out.cell 0 rfl; have X1_ := hX.out.cell 1 rfl; have Xl_ := hX.out.lt
                  have S0_ := hS.out.cell 0 rfl; have S1_ := hS.out.cell 1 rfl; have Sl_ := hS.out.lt
                  go_wp2_with fail
                  clear p0_ p1_ p2_ q0_ q1_ q2_ a0_ a1_ b0_ b1_ X0_ X1_ S0_ S1_ pl_ ql_ al_ bl_ Xl_ Sl_
                  refine (leq_any _ _ X S _ (hvX.out.below (by first | exact Below.refl _ _ | go_grown)) (hvS.out.below (by first | exact Below.refl _ _ | go_grown))).mono ?_
                  rw [hl.out]
                  rintro e_ w16 ⟨rfl, hb_⟩
                  have hc_ : Below w15.heap.size w15 w16 := chainB (by first | exact Below.refl _ _ | go_grown) hb_ (by first | exact Nat.le_refl _ | (simp; done) | (simp; omega))
                  replace hvp := Lib.hid (hvp.out.below hc_)
                  replace hvq := Lib.hid (hvq.out.below hc_)
                  replace hva := Lib.hid (hva.out.below hc_)
                  replace hvb := Lib.hid (hvb.out.below hc_)
                  replace hbp := Lib.hid (hbp.out.below hc_)
                  replace hbq := Lib.hid (hbq.out.below hc_)
                  replace hba := Lib.hid (hba.out.below hc_)
                  replace hbb := Lib.hid (hbb.out.below hc_)
                  replace hpw := Lib.hid (hpw.out.below hc_)
                  replace hvX := Lib.hid (hvX.out.below hc_)
                  replace hX := Lib.hid (hX.out.below hc_)
                  replace hvU := Lib.hid (hvU.out.below hc_)
                  replace hvS := Lib.hid (hvS.out.below hc_)
                  replace hS := Lib.hid (hS.out.below hc_)
                  replace hall := Lib.hid (chainB hall.out hc_ hall.out.size)
                  clear hc_
                  clear hb_
                  have p0_ := hbp.out.cell 0 rfl; have p1_ := hbp.out.cell 1 rfl; have p2_ := hbp.out.cell 2 rfl; have pl_ := hbp.out.lt
                  have q0_ := hbq.out.cell 0 rfl; have q1_ := hbq.out.cell 1 rfl; have q2_ := hbq.out.cell 2 rfl; have ql_ := hbq.out.lt
                  have a0_ := hba.out.cell 0 rfl; have a1_ := hba.out.cell 1 rfl; have al_ := hba.out.lt
                  have b0_ := hbb.out.cell 0 rfl; have b1_ := hbb.out.cell 1 rfl; have bl_ := hbb.out.lt
                  have X0_ := hX.out.cell 0 rfl; have X1_ := hX.out.cell 1 rfl; have Xl_ := hX.out.lt
                  have S0_ := hS.out.cell 0 rfl; have S1_ := hS.out.cell 1 rfl; have Sl_ := hS.out.lt
                  go_wp2_with fail
                  go_ret
                  exact ⟨rfl, chainB hall.out (by first | exact Below.refl _ _ | go_grown) hall.out.size⟩
              · have e2b : (J == 0) = false := by simpa using e2
                go_wp2_with fail
                go_ret
                exact ⟨rfl, chainB hall.out (by first | exact Below.refl _ _ | go_grown) hall.out.size⟩
            · have e1b : (E == 0) = false := by simpa using e1
              go_wp2_with fail
              go_ret
              exact ⟨rfl, chainB hall.out (by first | exact Below.refl _ _ | go_grown) hall.out.size⟩
end Go.Proofs.YtkpjbmbdndkalaaDoor
