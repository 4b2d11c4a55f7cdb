/-
  The law StampOrder answers true, at this program: of any three times. Condition: the table of the powers of ten lies as its initialiser lays it; numbers of their kinds.
-/
import Derived.Test.YtkpjbmbdndkalaaDoorStG
import Derived.Test.YtkpjbmbdndkalaaDoorStCmpT
import Derived.Test.YtkpjbmbdndkalaaDoorStChMeet
import Derived.Deep.DeepCutAuto
import Derived.Deep.RegionHeld3
set_option linter.unusedVariables false
set_option linter.unusedSimpArgs false
namespace Go.Proofs.YtkpjbmbdndkalaaDoor
open Go.RowKit Go.Lib

set_option maxHeartbeats 2000000 in
set_option maxRecDepth 1000000 in
theorem stampOrder_any (va vb vc : Value) (a b c : Tm) (w : World) (hT : Pows w) (ha : TmV w va a) (hb : TmV w vb b) (hc : TmV w vc c) (wa : TmW a) (wb : TmW b) (wc : TmW c) :
    Calls Tryd.prog 4 #[va, vb, vc] w fun e w' => e = .returned (.bool true) ∧ Below w.heap.size w w' := by
 obtain ⟨ae, al⟩ := a
 obtain ⟨be, bl⟩ := b
 obtain ⟨ce, cl⟩ := c
 obtain ⟨ss, rfl, has⟩ := ha
 obtain ⟨bs, rfl, hbs⟩ := hb
 obtain ⟨cs, rfl, hcs⟩ := hc
 simp only at has hbs hcs
 obtain ⟨A, i, ca, rfl, hi, hic, hca⟩ := has.form
 obtain ⟨B, j, cb, rfl, hj, hjc, hcb⟩ := hbs.form
 obtain ⟨C, k, cc, rfl, hk, hkc, hcc⟩ := hcs.form
 obtain ⟨W0, hW0, hwW, hA, hB, hC, hzz⟩ := boxes3 w [.int .u64 ae, .slice A i ca] [.int .u64 be, .slice B j cb] [.int .u64 ce, .slice C k cc] 25 25 25
 have hva := Lib.hid (show TmV W0 (.agg #[.int .u64 ae, .slice A i ca]) ⟨ae, al⟩ from ⟨_, rfl, has.below hwW⟩)
 have hvb := Lib.hid (show TmV W0 (.agg #[.int .u64 be, .slice B j cb]) ⟨be, bl⟩ from ⟨_, rfl, hbs.below hwW⟩)
 have hvc := Lib.hid (show TmV W0 (.agg #[.int .u64 ce, .slice C k cc]) ⟨ce, cl⟩ from ⟨_, rfl, hcs.below hwW⟩)
 have hba := Lib.hid hA; have hbb := Lib.hid hB; have hbc := Lib.hid hC; have hall := Lib.hid hwW; have hpw := Lib.hid (hT.below hwW)
 have hiH := Lib.hid hi; have hjH := Lib.hid hj; have hkH := Lib.hid hk; have waH := Lib.hid wa; have wbH := Lib.hid wb; have wcH := Lib.hid wc
 clear has hbs hcs hA hB hC hwW hzz hT hi hj hk wa wb wc
 go_enter Tryd.func4, Tryd.ntmps4
 have a0_ := hba.out.cell 0 rfl; have a1_ := hba.out.cell 1 rfl; have al_ := hba.out.lt
 have b0_ := hbb.out.cell 0 rfl; have b1_ := hbb.out.cell 1 rfl; have bl_ := hbb.out.lt
 have c0_ := hbc.out.cell 0 rfl; have c1_ := hbc.out.cell 1 rfl; have cl_ := hbc.out.lt
 go_wp2_with fail
 clear a0_ a1_ b0_ b1_ c0_ c1_ al_ bl_ cl_
 refine (much_any _ [⟨ae, al⟩, ⟨be, bl⟩, ⟨ce, cl⟩] _ (tms3 _ _ _ _ _ _ _ _ _ _ _ _ _ _ _ _ _ hiH.out.symm hjH.out.symm hkH.out.symm hic hca hjc hcb hkc hcc)).mono ?_
 rintro e_ w1 ⟨rfl, hw_⟩
 have hb_ := (show ∀ {a b : World}, a = b → Below a.heap.size a b from fun h => h ▸ Below.refl _ _) hw_
 clear hw_
 have hc_ : Below W0.heap.size W0 w1 := chainB (by first | exact Below.refl _ _ | go_grown) hb_ (by first | exact Nat.le_refl _ | (simp; done) | (simp; omega))
 replace hva := Lib.hid (hva.out.below hc_)
 replace hvb := Lib.hid (hvb.out.below hc_)
 replace hvc := Lib.hid (hvc.out.below hc_)
 replace hba := Lib.hid (hba.out.below hc_)
 replace hbb := Lib.hid (hbb.out.below hc_)
 replace hbc := Lib.hid (hbc.out.below hc_)
 replace hpw := Lib.hid (hpw.out.below hc_)
 replace hall := Lib.hid (chainB hall.out hc_ hall.out.size)
 clear hc_
 clear hb_
 obtain ⟨X, hX⟩ : ∃ x, (([⟨ae, al⟩, ⟨be, bl⟩, ⟨ce, cl⟩] : List Tm).any (fun x => decide (40 < x.l.length))) = x := ⟨_, rfl⟩
 rw [hX]
 have hX1 := Lib.hid hX
 clear hX
 cases X with
 | true =>
  have a0_ := hba.out.cell 0 rfl; have a1_ := hba.out.cell 1 rfl; have al_ := hba.out.lt
  have b0_ := hbb.out.cell 0 rfl; have b1_ := hbb.out.cell 1 rfl; have bl_ := hbb.out.lt
  have c0_ := hbc.out.cell 0 rfl; have c1_ := hbc.out.cell 1 rfl; have cl_ := hbc.out.lt
  go_wp2_with fail
  clear a0_ a1_ b0_ b1_ c0_ c1_ al_ bl_ cl_
  refine (known_any _ (hpw.out.below (by first | exact Below.refl _ _ | go_grown))).mono ?_
  rintro e_ w2 ⟨rfl, hb_⟩
  have hc_ : Below w1.heap.size w1 w2 := chainB (by first | exact Below.refl _ _ | go_grown) hb_ (by first | exact Nat.le_refl _ | (simp; done) | (simp; omega))
  replace hva := Lib.hid (hva.out.below hc_)
  replace hvb := Lib.hid (hvb.out.below hc_)
  replace hvc := Lib.hid (hvc.out.below hc_)
  replace hba := Lib.hid (hba.out.below hc_)
  replace hbb := Lib.hid (hbb.out.below hc_)
  replace hbc := Lib.hid (hbc.out.below hc_)
  replace hpw := Lib.hid (hpw.out.below hc_)
  replace hall := Lib.hid (chainB hall.out hc_ hall.out.size)
  clear hc_
  clear hb_
  have a0_ := hba.out.cell 0 rfl; have a1_ := hba.out.cell 1 rfl; have al_ := hba.out.lt
  have b0_ := hbb.out.cell 0 rfl; have b1_ := hbb.out.cell 1 rfl; have bl_ := hbb.out.lt
  have c0_ := hbc.out.cell 0 rfl; have c1_ := hbc.out.cell 1 rfl; have cl_ := hbc.out.lt
  go_wp2_with fail
  go_ret
  exact ⟨rfl, chainB hall.out (by first | exact Below.refl _ _ | go_grown) hall.out.size⟩
 | false =>
  obtain ⟨l1, l2, l3⟩ : al.length ≤ 40 ∧ bl.length ≤ 40 ∧ cl.length ≤ 40 := by
    have := hX1.out
    simpa using this
  have laH := Lib.hid (Nat.le_trans l1 (show 40 ≤ 1099511627776 by decide)); have lbH := Lib.hid (Nat.le_trans l2 (show 40 ≤ 1099511627776 by decide)); have lcH := Lib.hid (Nat.le_trans l3 (show 40 ≤ 1099511627776 by decide))
  have lsm := Lib.hid l1; have lsm2 := Lib.hid l2; have lsm3 := Lib.hid l3
  clear hX1 l1 l2 l3
  have a0_ := hba.out.cell 0 rfl; have a1_ := hba.out.cell 1 rfl; have al_ := hba.out.lt
  have b0_ := hbb.out.cell 0 rfl; have b1_ := hbb.out.cell 1 rfl; have bl_ := hbb.out.lt
  have c0_ := hbc.out.cell 0 rfl; have c1_ := hbc.out.cell 1 rfl; have cl_ := hbc.out.lt
  go_wp2_with fail
  clear a0_ a1_ b0_ b1_ c0_ c1_ al_ bl_ cl_
  refine (known_any _ (hpw.out.below (by first | exact Below.refl _ _ | go_grown))).mono ?_
  rintro e_ w3 ⟨rfl, hb_⟩
  have hc_ : Below w1.heap.size w1 w3 := chainB (by first | exact Below.refl _ _ | go_grown) hb_ (by first | exact Nat.le_refl _ | (simp; done) | (simp; omega))
  replace hva := Lib.hid (hva.out.below hc_)
  replace hvb := Lib.hid (hvb.out.below hc_)
  replace hvc := Lib.hid (hvc.out.below hc_)
  replace hba := Lib.hid (hba.out.below hc_)
  replace hbb := Lib.hid (hbb.out.below hc_)
  replace hbc := Lib.hid (hbc.out.below hc_)
  replace hpw := Lib.hid (hpw.out.below hc_)
  replace hall := Lib.hid (chainB hall.out hc_ hall.out.size)
  clear hc_
  clear hb_
  have a0_ := hba.out.cell 0 rfl; have a1_ := hba.out.cell 1 rfl; have al_ := hba.out.lt
  have b0_ := hbb.out.cell 0 rfl; have b1_ := hbb.out.cell 1 rfl; have bl_ := hbb.out.lt
  have c0_ := hbc.out.cell 0 rfl; have c1_ := hbc.out.cell 1 rfl; have cl_ := hbc.out.lt
  go_upto_region 3 with fail
  by_cases eij : i = j
  ·
   by_cases ejk : j = k
   ·
    subst eij ejk
    have hlab := Lib.hid (show al.length = bl.length from hiH.out.trans hjH.out.symm); have hlbc := Lib.hid (show bl.length = cl.length from hjH.out.trans hkH.out.symm)
    obtain ⟨X, hX_⟩ : ∃ x, chosenT max ⟨ae, al⟩ ⟨be, bl⟩ = x := ⟨_, rfl⟩
    obtain ⟨Y, hY_⟩ : ∃ x, chosenT min ⟨ae, al⟩ ⟨be, bl⟩ = x := ⟨_, rfl⟩
    have hXe := Lib.hid hX_; have hYe := Lib.hid hY_
    have lXH := Lib.hid (show leqT ⟨ae, al⟩ X = true from hX_ ▸ joinT_l hlab.out); have lXH2 := Lib.hid (show leqT ⟨be, bl⟩ X = true from hX_ ▸ joinT_r hlab.out)
    have lYH := Lib.hid (show leqT Y ⟨ae, al⟩ = true from hY_ ▸ meetT_l hlab.out); have lYH2 := Lib.hid (show leqT Y ⟨be, bl⟩ = true from hY_ ▸ meetT_r hlab.out)
    have hE0 := Lib.hid (show chosenE ⟨ae, al⟩ ⟨be, bl⟩ = 0 from if_pos hlab.out)
    obtain ⟨L1, h1_⟩ : ∃ x, leqT ⟨ae, al⟩ ⟨be, bl⟩ = x := ⟨_, rfl⟩
    obtain ⟨L2, h2_⟩ : ∃ x, leqT ⟨be, bl⟩ ⟨ce, cl⟩ = x := ⟨_, rfl⟩
    obtain ⟨L3, h3_⟩ : ∃ x, leqT ⟨ae, al⟩ ⟨ce, cl⟩ = x := ⟨_, rfl⟩
    obtain ⟨M, h4_⟩ : ∃ x, leqT ⟨be, bl⟩ ⟨ae, al⟩ = x := ⟨_, rfl⟩
    obtain ⟨N1, h5_⟩ : ∃ x, leqT ⟨ce, cl⟩ ⟨ae, al⟩ = x := ⟨_, rfl⟩
    obtain ⟨N2, h6_⟩ : ∃ x, leqT ⟨ce, cl⟩ ⟨be, bl⟩ = x := ⟨_, rfl⟩
    obtain ⟨Kc, h7_⟩ : ∃ x, cmpT ⟨ae, al⟩ ⟨be, bl⟩ = x := ⟨_, rfl⟩
    have hjc := Lib.hid (show leqT X ⟨ce, cl⟩ = (L3 && L2) from by rw [← hX_, joinT_least hlab.out hlbc.out, h3_, h2_])
    have hcm := Lib.hid (show leqT ⟨ce, cl⟩ Y = (N1 && N2) from by rw [← hY_, meetT_great hlab.out hlbc.out, h5_, h6_])
    have htr := Lib.hid (show L1 = true → L2 = true → L3 = true from fun e f => h3_ ▸ leqT_trans (h1_.trans e) (h2_.trans f))
    have hle := Lib.hid (show L1 = true → Kc ≤ 0 from fun e => h7_ ▸ leqT_cmp (h1_.trans e))
    have hbo := Lib.hid (show (L1 && M) = decide (Kc = 0) from by rw [← h1_, ← h4_, ← h7_]; exact leqT_both _ _)
    have hL1 := Lib.hid h1_; have hL2 := Lib.hid h2_; have hL3 := Lib.hid h3_; have hM := Lib.hid h4_; have hN1 := Lib.hid h5_; have hN2 := Lib.hid h6_; have hKc := Lib.hid h7_
    clear hX_ hY_ h1_ h2_ h3_ h4_ h5_ h6_ h7_
    go_wp2_with fail
    clear a0_ a1_ b0_ b1_ c0_ c1_ al_ bl_ cl_
    refine (join_any _ _ ⟨ae, al⟩ ⟨be, bl⟩ _ (hva.out.below (by first | exact Below.refl _ _ | go_grown)) (hvb.out.below (by first | exact Below.refl _ _ | go_grown)) waH.out wbH.out laH.out).mono ?_
    rw [hXe.out, hE0.out]
    rintro e_ w4 ⟨v, rfl, ho_, hb_⟩
    have hc_ : Below w3.heap.size w3 w4 := chainB (by first | exact Below.refl _ _ | go_grown) hb_ (by first | exact Nat.le_refl _ | (simp; done) | (simp; omega))
    replace hva := Lib.hid (hva.out.below hc_)
    replace hvb := Lib.hid (hvb.out.below hc_)
    replace hvc := Lib.hid (hvc.out.below hc_)
    replace hba := Lib.hid (hba.out.below hc_)
    replace hbb := Lib.hid (hbb.out.below hc_)
    replace hbc := Lib.hid (hbc.out.below hc_)
    replace hpw := Lib.hid (hpw.out.below hc_)
    replace hall := Lib.hid (chainB hall.out hc_ hall.out.size)
    obtain ⟨VX, nX, cX, rfl, hn_, hc1_, hd_⟩ := ho_.words.form
    have hvX := Lib.hid (show TmV w4 (.agg #[.int .u64 X.e, .slice VX nX cX]) X from ⟨_, rfl, ho_.words⟩)
    clear ho_ hn_ hc1_ hd_
    clear hc_
    clear hb_
    have a0_ := hba.out.cell 0 rfl; have a1_ := hba.out.cell 1 rfl; have al_ := hba.out.lt
    have b0_ := hbb.out.cell 0 rfl; have b1_ := hbb.out.cell 1 rfl; have bl_ := hbb.out.lt
    have c0_ := hbc.out.cell 0 rfl; have c1_ := hbc.out.cell 1 rfl; have cl_ := hbc.out.lt
    go_wp2_with fail
    clear a0_ a1_ b0_ b1_ c0_ c1_ al_ bl_ cl_
    refine (meet_any _ _ ⟨ae, al⟩ ⟨be, bl⟩ _ (hva.out.below (by first | exact Below.refl _ _ | go_grown)) (hvb.out.below (by first | exact Below.refl _ _ | go_grown)) waH.out wbH.out laH.out).mono ?_
    rw [hYe.out, hE0.out]
    rintro e_ w5 ⟨v, rfl, ho_, hb_⟩
    have hc_ : Below w4.heap.size w4 w5 := chainB (by first | exact Below.refl _ _ | go_grown) hb_ (by first | exact Nat.le_refl _ | (simp; done) | (simp; omega))
    replace hva := Lib.hid (hva.out.below hc_)
    replace hvb := Lib.hid (hvb.out.below hc_)
    replace hvc := Lib.hid (hvc.out.below hc_)
    replace hba := Lib.hid (hba.out.below hc_)
    replace hbb := Lib.hid (hbb.out.below hc_)
    replace hbc := Lib.hid (hbc.out.below hc_)
    replace hpw := Lib.hid (hpw.out.below hc_)
    replace hvX := Lib.hid (hvX.out.below hc_)
    replace hall := Lib.hid (chainB hall.out hc_ hall.out.size)
    have hX := Lib.hid ((has_at _ (w4.heap.size) [.int .u64 X.e, .slice VX nX cX] 25 (by first | rfl | (simp; done))).below hb_)
    obtain ⟨VY, nY, cY, rfl, hn_, hc1_, hd_⟩ := ho_.words.form
    have hvY := Lib.hid (show TmV w5 (.agg #[.int .u64 Y.e, .slice VY nY cY]) Y from ⟨_, rfl, ho_.words⟩)
    clear ho_ hn_ hc1_ hd_
    clear hc_
    clear hb_
    have a0_ := hba.out.cell 0 rfl; have a1_ := hba.out.cell 1 rfl; have al_ := hba.out.lt
    have b0_ := hbb.out.cell 0 rfl; have b1_ := hbb.out.cell 1 rfl; have bl_ := hbb.out.lt
    have c0_ := hbc.out.cell 0 rfl; have c1_ := hbc.out.cell 1 rfl; have cl_ := hbc.out.lt
    have X0_ := hX.out.cell 0 rfl; have X1_ := hX.out.cell 1 rfl; have Xl_ := hX.out.lt
    go_wp2_with fail
    clear a0_ a1_ b0_ b1_ c0_ c1_ X0_ X1_ al_ bl_ cl_ Xl_
    refine (leq_any _ _ ⟨ae, al⟩ ⟨be, bl⟩ _ (hva.out.below (by first | exact Below.refl _ _ | go_grown)) (hvb.out.below (by first | exact Below.refl _ _ | go_grown))).mono ?_
    rw [hL1.out]
    rintro e_ w6 ⟨rfl, hb_⟩
    have hc_ : Below w5.heap.size w5 w6 := chainB (by first | exact Below.refl _ _ | go_grown) hb_ (by first | exact Nat.le_refl _ | (simp; done) | (simp; omega))
    replace hva := Lib.hid (hva.out.below hc_)
    replace hvb := Lib.hid (hvb.out.below hc_)
    replace hvc := Lib.hid (hvc.out.below hc_)
    replace hba := Lib.hid (hba.out.below hc_)
    replace hbb := Lib.hid (hbb.out.below hc_)
    replace hbc := Lib.hid (hbc.out.below hc_)
    replace hpw := Lib.hid (hpw.out.below hc_)
    replace hvX := Lib.hid (hvX.out.below hc_)
    replace hX := Lib.hid (hX.out.below hc_)
    replace hvY := Lib.hid (hvY.out.below hc_)
    replace hall := Lib.hid (chainB hall.out hc_ hall.out.size)
    have hY := Lib.hid ((has_at _ (w5.heap.size) [.int .u64 Y.e, .slice VY nY cY] 25 (by first | rfl | (simp; done))).below hb_)
    clear hc_
    clear hb_
    have a0_ := hba.out.cell 0 rfl; have a1_ := hba.out.cell 1 rfl; have al_ := hba.out.lt
    have b0_ := hbb.out.cell 0 rfl; have b1_ := hbb.out.cell 1 rfl; have bl_ := hbb.out.lt
    have c0_ := hbc.out.cell 0 rfl; have c1_ := hbc.out.cell 1 rfl; have cl_ := hbc.out.lt
    have X0_ := hX.out.cell 0 rfl; have X1_ := hX.out.cell 1 rfl; have Xl_ := hX.out.lt
    have Y0_ := hY.out.cell 0 rfl; have Y1_ := hY.out.cell 1 rfl; have Yl_ := hY.out.lt
    go_wp2_with fail
    clear a0_ a1_ b0_ b1_ c0_ c1_ X0_ X1_ Y0_ Y1_ al_ bl_ cl_ Xl_ Yl_
    refine (leq_any _ _ ⟨be, bl⟩ ⟨ce, cl⟩ _ (hvb.out.below (by first | exact Below.refl _ _ | go_grown)) (hvc.out.below (by first | exact Below.refl _ _ | go_grown))).mono ?_
    rw [hL2.out]
    rintro e_ w7 ⟨rfl, hb_⟩
    have hc_ : Below w6.heap.size w6 w7 := chainB (by first | exact Below.refl _ _ | go_grown) hb_ (by first | exact Nat.le_refl _ | (simp; done) | (simp; omega))
    replace hva := Lib.hid (hva.out.below hc_)
    replace hvb := Lib.hid (hvb.out.below hc_)
    replace hvc := Lib.hid (hvc.out.below hc_)
    replace hba := Lib.hid (hba.out.below hc_)
    replace hbb := Lib.hid (hbb.out.below hc_)
    replace hbc := Lib.hid (hbc.out.below hc_)
    replace hpw := Lib.hid (hpw.out.below hc_)
    replace hvX := Lib.hid (hvX.out.below hc_)
    replace hX := Lib.hid (hX.out.below hc_)
    replace hvY := Lib.hid (hvY.out.below hc_)
    replace hY := Lib.hid (hY.out.below hc_)
    replace hall := Lib.hid (chainB hall.out hc_ hall.out.size)
    clear hc_
    clear hb_
    have a0_ := hba.out.cell 0 rfl; have a1_ := hba.out.cell 1 rfl; have al_ := hba.out.lt
    have b0_ := hbb.out.cell 0 rfl; have b1_ := hbb.out.cell 1 rfl; have bl_ := hbb.out.lt
    have c0_ := hbc.out.cell 0 rfl; have c1_ := hbc.out.cell 1 rfl; have cl_ := hbc.out.lt
    have X0_ := hX.out.cell 0 rfl; have X1_ := hX.out.cell 1 rfl; have Xl_ := hX.out.lt
    have Y0_ := hY.out.cell 0 rfl; have Y1_ := hY.out.cell 1 rfl; have Yl_ := hY.out.lt
    go_wp2_with fail
    clear a0_ a1_ b0_ b1_ c0_ c1_ X0_ X1_ Y0_ Y1_ al_ bl_ cl_ Xl_ Yl_
    refine (leq_any _ _ ⟨ae, al⟩ ⟨ce, cl⟩ _ (hva.out.below (by first | exact Below.refl _ _ | go_grown)) (hvc.out.below (by first | exact Below.refl _ _ | go_grown))).mono ?_
    rw [hL3.out]
    rintro e_ w8 ⟨rfl, hb_⟩
    have hc_ : Below w7.heap.size w7 w8 := chainB (by first | exact Below.refl _ _ | go_grown) hb_ (by first | exact Nat.le_refl _ | (simp; done) | (simp; omega))
    replace hva := Lib.hid (hva.out.below hc_)
    replace hvb := Lib.hid (hvb.out.below hc_)
    replace hvc := Lib.hid (hvc.out.below hc_)
    replace hba := Lib.hid (hba.out.below hc_)
    replace hbb := Lib.hid (hbb.out.below hc_)
    replace hbc := Lib.hid (hbc.out.below hc_)
    replace hpw := Lib.hid (hpw.out.below hc_)
    replace hvX := Lib.hid (hvX.out.below hc_)
    replace hX := Lib.hid (hX.out.below hc_)
    replace hvY := Lib.hid (hvY.out.below hc_)
    replace hY := Lib.hid (hY.out.below hc_)
    replace hall := Lib.hid (chainB hall.out hc_ hall.out.size)
    clear hc_
    clear hb_
    have a0_ := hba.out.cell 0 rfl; have a1_ := hba.out.cell 1 rfl; have al_ := hba.out.lt
    have b0_ := hbb.out.cell 0 rfl; have b1_ := hbb.out.cell 1 rfl; have bl_ := hbb.out.lt
    have c0_ := hbc.out.cell 0 rfl; have c1_ := hbc.out.cell 1 rfl; have cl_ := hbc.out.lt
    have X0_ := hX.out.cell 0 rfl; have X1_ := hX.out.cell 1 rfl; have Xl_ := hX.out.lt
    have Y0_ := hY.out.cell 0 rfl; have Y1_ := hY.out.cell 1 rfl; have Yl_ := hY.out.lt
    go_upto_region 12 with fail
    go_cut [14] (fun c wx => c = .bool true ∧ Below w8.heap.size w8 wx)
    case first =>
      have hcut0_ := Lib.hid (Below.refl w8.heap.size w8)
      cases L1 with
      | false =>
       have hk0 : (Kc == 0) = false := by have := hbo.out; simp at this; simpa using this
       have hb := Below.refl w8.heap.size w8
       refine wp_region_noPanic ?_
       refine wp_region_held_drew (S := (fun w' => w'.cell? ⟨w.heap.size, 0, none⟩ = some (.int .u64 ae) ∧ w'.cell? ⟨w.heap.size, 1, none⟩ = some (.slice A i ca) ∧ w'.cell? ⟨w.heap.size + 1, 0, none⟩ = some (.int .u64 be) ∧ w'.cell? ⟨w.heap.size + 1, 1, none⟩ = some (.slice B i cb) ∧ w'.cell? ⟨w.heap.size + 1 + 1, 0, none⟩ = some (.int .u64 ce) ∧ w'.cell? ⟨w.heap.size + 1 + 1, 1, none⟩ = some (.slice C i cc))) (by kernel_rfl) (⟨a0_, a1_, b0_, b1_, c0_, c1_⟩) (fun hHeld => ?_)
       refine' wpAnyH_take (i := 0) (v := ?v1) ?a1 ?b1 ?c1 ?d1 ?e1 ?f1 ?g1 ?z1
       case a1 => (simp only [List.getElem?_toArray, List.getElem?_cons_succ, List.getElem?_cons_zero]; try rfl)
       case b1 | c1 | d1 => kernel_rfl
       case e1 => exact fun _ _ _ h => h
       case f1 => first | exact Or.inl ⟨by rfl, by (intro w hSw; (try dsimp only at hSw); go_simp; try rfl)⟩ | exact Or.inr ⟨by rfl, rfl⟩
       case g1 => assumption
       (try simp only [Act.put, List.setIfInBounds_toArray, List.set_cons_zero, List.set_cons_succ])
       refine' wpAnyH_take (i := 1) (v := ?v2) ?a2 ?b2 ?c2 ?d2 ?e2 ?f2 ?g2 ?z2
       case a2 => (simp only [List.getElem?_toArray, List.getElem?_cons_succ, List.getElem?_cons_zero]; try rfl)
       case b2 | c2 | d2 => kernel_rfl
       case e2 => exact fun _ _ _ h => h
       case f2 => first | exact Or.inl ⟨by rfl, by (intro w hSw; (try dsimp only at hSw); go_simp; try rfl)⟩ | exact Or.inr ⟨by rfl, rfl⟩
       case g2 => assumption
       (try simp only [Act.put, List.setIfInBounds_toArray, List.set_cons_zero, List.set_cons_succ])
       refine wpAnyH_ready (rs := [2]) (by kernel_rfl) (by simp) ?_
       refine' (AllReadyH.cons (i := 2) ?ho2x3 (fun K hK => ?st2x3) AllReadyH.nil)
       case ho2x3 => (simp only [List.getElem?_toArray, List.getElem?_cons_succ, List.getElem?_cons_zero]; try rfl)
       case st2x3 =>
        go_simp
        refine (leq_any _ _ ⟨ae, al⟩ ⟨ae, al⟩ _ (hva.out.below (by first | exact hb | go_grown)) (hva.out.below (by first | exact hb | go_grown))).mono ?_; rw [leqT_refl]; rintro e_ w_ ⟨rfl, hb_⟩; replace hb := chainB (B := w8.heap.size) (a := w8) (by go_grown) hb_ (by have := hb.size; first | omega | (simp; done) | (simp; omega)); clear hb_
        refine hK.out _ _ ?_ (fun hHeld => ?_)
        · exact ⟨(hba.out.below hb).cell 0 rfl, (hba.out.below hb).cell 1 rfl, (hbb.out.below hb).cell 0 rfl, (hbb.out.below hb).cell 1 rfl, (hbc.out.below hb).cell 0 rfl, (hbc.out.below hb).cell 1 rfl⟩
        clear hK K
        (try simp only [Act.put, List.setIfInBounds_toArray, List.set_cons_zero, List.set_cons_succ])
        refine' wpAnyH_take (i := 3) (v := ?v4) ?a4 ?b4 ?c4 ?d4 ?e4 ?f4 ?g4 ?z4
        case a4 => (simp only [List.getElem?_toArray, List.getElem?_cons_succ, List.getElem?_cons_zero]; try rfl)
        case b4 | c4 | d4 => kernel_rfl
        case e4 => exact fun _ _ _ h => h
        case f4 => first | exact Or.inl ⟨by rfl, by (intro w hSw; (try dsimp only at hSw); go_simp; try rfl)⟩ | exact Or.inr ⟨by rfl, rfl⟩
        case g4 => assumption
        (try simp only [Act.put, List.setIfInBounds_toArray, List.set_cons_zero, List.set_cons_succ])
        refine' wpAnyH_take (i := 4) (v := ?v5) ?a5 ?b5 ?c5 ?d5 ?e5 ?f5 ?g5 ?z5
        case a5 => (simp only [List.getElem?_toArray, List.getElem?_cons_succ, List.getElem?_cons_zero]; try rfl)
        case b5 | c5 | d5 => kernel_rfl
        case e5 => exact fun _ _ _ h => h
        case f5 => first | exact Or.inl ⟨by rfl, by (intro w hSw; (try dsimp only at hSw); go_simp; try rfl)⟩ | exact Or.inr ⟨by rfl, rfl⟩
        case g5 => assumption
        (try simp only [Act.put, List.setIfInBounds_toArray, List.set_cons_zero, List.set_cons_succ])
        refine' wpAnyH_take (i := 5) (v := ?v6) ?a6 ?b6 ?c6 ?d6 ?e6 ?f6 ?g6 ?z6
        case a6 => (simp only [List.getElem?_toArray, List.getElem?_cons_succ, List.getElem?_cons_zero]; try rfl)
        case b6 | c6 | d6 => kernel_rfl
        case e6 => exact fun _ _ _ h => h
        case f6 => first | exact Or.inl ⟨by rfl, by (intro w hSw; (try dsimp only at hSw); go_simp; try rfl)⟩ | exact Or.inr ⟨by rfl, rfl⟩
        case g6 => assumption
        (try simp only [Act.put, List.setIfInBounds_toArray, List.set_cons_zero, List.set_cons_succ])
        refine' wpAnyH_take (i := 6) (v := ?v7) ?a7 ?b7 ?c7 ?d7 ?e7 ?f7 ?g7 ?z7
        case a7 => (simp only [List.getElem?_toArray, List.getElem?_cons_succ, List.getElem?_cons_zero]; try rfl)
        case b7 | c7 | d7 => kernel_rfl
        case e7 => exact fun _ _ _ h => h
        case f7 => first | exact Or.inl ⟨by rfl, by (intro w hSw; (try dsimp only at hSw); go_simp; try rfl)⟩ | exact Or.inr ⟨by rfl, rfl⟩
        case g7 => assumption
        (try simp only [Act.put, List.setIfInBounds_toArray, List.set_cons_zero, List.set_cons_succ])
        refine' wpAnyH_take (i := 7) (v := undef) ?a8 ?b8 ?c8 ?d8 ?e8 ?f8 ?g8 ?z8
        case a8 => (simp only [List.getElem?_toArray, List.getElem?_cons_succ, List.getElem?_cons_zero]; try rfl)
        case b8 | c8 | d8 => kernel_rfl
        case e8 => exact fun _ _ _ h => h
        case f8 => first | exact Or.inl ⟨by rfl, by (intro w hSw; (try dsimp only at hSw); go_simp; try rfl)⟩ | exact Or.inr ⟨by rfl, rfl⟩
        case g8 => assumption
        (try simp only [Act.put, List.setIfInBounds_toArray, List.set_cons_zero, List.set_cons_succ])
        refine' wpAnyH_take (i := 8) (v := undef) ?a9 ?b9 ?c9 ?d9 ?e9 ?f9 ?g9 ?z9
        case a9 => (simp only [List.getElem?_toArray, List.getElem?_cons_succ, List.getElem?_cons_zero]; try rfl)
        case b9 | c9 | d9 => kernel_rfl
        case e9 => exact fun _ _ _ h => h
        case f9 => first | exact Or.inl ⟨by rfl, by (intro w hSw; (try dsimp only at hSw); go_simp; try rfl)⟩ | exact Or.inr ⟨by rfl, rfl⟩
        case g9 => assumption
        (try simp only [Act.put, List.setIfInBounds_toArray, List.set_cons_zero, List.set_cons_succ])
        refine' wpAnyH_take (i := 9) (v := ?v10) ?a10 ?b10 ?c10 ?d10 ?e10 ?f10 ?g10 ?z10
        case a10 => (simp only [List.getElem?_toArray, List.getElem?_cons_succ, List.getElem?_cons_zero]; try rfl)
        case b10 | c10 | d10 => kernel_rfl
        case e10 => exact fun _ _ _ h => h
        case f10 => first | exact Or.inl ⟨by rfl, by (intro w hSw; (try dsimp only at hSw); go_simp; try rfl)⟩ | exact Or.inr ⟨by rfl, rfl⟩
        case g10 => assumption
        (try simp only [Act.put, List.setIfInBounds_toArray, List.set_cons_zero, List.set_cons_succ])
        refine' wpAnyH_take (i := 10) (v := ?v11) ?a11 ?b11 ?c11 ?d11 ?e11 ?f11 ?g11 ?z11
        case a11 => (simp only [List.getElem?_toArray, List.getElem?_cons_succ, List.getElem?_cons_zero]; try rfl)
        case b11 | c11 | d11 => kernel_rfl
        case e11 => exact fun _ _ _ h => h
        case f11 => first | exact Or.inl ⟨by rfl, by (intro w hSw; (try dsimp only at hSw); go_simp; try rfl)⟩ | exact Or.inr ⟨by rfl, rfl⟩
        case g11 => assumption
        (try simp only [Act.put, List.setIfInBounds_toArray, List.set_cons_zero, List.set_cons_succ])
        refine' wpAnyH_take (i := 11) (v := undef) ?a12 ?b12 ?c12 ?d12 ?e12 ?f12 ?g12 ?z12
        case a12 => (simp only [List.getElem?_toArray, List.getElem?_cons_succ, List.getElem?_cons_zero]; try rfl)
        case b12 | c12 | d12 => kernel_rfl
        case e12 => exact fun _ _ _ h => h
        case f12 => first | exact Or.inl ⟨by rfl, by (intro w hSw; (try dsimp only at hSw); go_simp; try rfl)⟩ | exact Or.inr ⟨by rfl, rfl⟩
        case g12 => assumption
        (try simp only [Act.put, List.setIfInBounds_toArray, List.set_cons_zero, List.set_cons_succ])
        refine' wpAnyH_take (i := 12) (v := ?v13) ?a13 ?b13 ?c13 ?d13 ?e13 ?f13 ?g13 ?z13
        case a13 => (simp only [List.getElem?_toArray, List.getElem?_cons_succ, List.getElem?_cons_zero]; try rfl)
        case b13 | c13 | d13 => kernel_rfl
        case e13 => exact fun _ _ _ h => h
        case f13 => first | exact Or.inl ⟨by rfl, by (intro w hSw; (try dsimp only at hSw); go_simp; try rfl)⟩ | exact Or.inr ⟨by rfl, rfl⟩
        case g13 => assumption
        (try simp only [Act.put, List.setIfInBounds_toArray, List.set_cons_zero, List.set_cons_succ])
        refine' wpAnyH_take (i := 13) (v := ?v14) ?a14 ?b14 ?c14 ?d14 ?e14 ?f14 ?g14 ?z14
        case a14 => (simp only [List.getElem?_toArray, List.getElem?_cons_succ, List.getElem?_cons_zero]; try rfl)
        case b14 | c14 | d14 => kernel_rfl
        case e14 => exact fun _ _ _ h => h
        case f14 => first | exact Or.inl ⟨by rfl, by (intro w hSw; (try dsimp only at hSw); go_simp; try rfl)⟩ | exact Or.inr ⟨by rfl, rfl⟩
        case g14 => assumption
        (try simp only [Act.put, List.setIfInBounds_toArray, List.set_cons_zero, List.set_cons_succ])
        refine' wpAnyH_take (i := 14) (v := ?v15) ?a15 ?b15 ?c15 ?d15 ?e15 ?f15 ?g15 ?z15
        case a15 => (simp only [List.getElem?_toArray, List.getElem?_cons_succ, List.getElem?_cons_zero]; try rfl)
        case b15 | c15 | d15 => kernel_rfl
        case e15 => exact fun _ _ _ h => h
        case f15 => first | exact Or.inl ⟨by rfl, by (intro w hSw; (try dsimp only at hSw); go_simp; try rfl)⟩ | exact Or.inr ⟨by rfl, rfl⟩
        case g15 => assumption
        (try simp only [Act.put, List.setIfInBounds_toArray, List.set_cons_zero, List.set_cons_succ])
        refine' wpAnyH_take (i := 15) (v := ?v16) ?a16 ?b16 ?c16 ?d16 ?e16 ?f16 ?g16 ?z16
        case a16 => (simp only [List.getElem?_toArray, List.getElem?_cons_succ, List.getElem?_cons_zero]; try rfl)
        case b16 | c16 | d16 => kernel_rfl
        case e16 => exact fun _ _ _ h => h
        case f16 => first | exact Or.inl ⟨by rfl, by (intro w hSw; (try dsimp only at hSw); go_simp; try rfl)⟩ | exact Or.inr ⟨by rfl, rfl⟩
        case g16 => assumption
        (try simp only [Act.put, List.setIfInBounds_toArray, List.set_cons_zero, List.set_cons_succ])
        refine' wpAnyH_take (i := 16) (v := ?v17) ?a17 ?b17 ?c17 ?d17 ?e17 ?f17 ?g17 ?z17
        case a17 => (simp only [List.getElem?_toArray, List.getElem?_cons_succ, List.getElem?_cons_zero]; try rfl)
        case b17 | c17 | d17 => kernel_rfl
        case e17 => exact fun _ _ _ h => h
        case f17 => first | exact Or.inl ⟨by rfl, by (intro w hSw; (try dsimp only at hSw); go_simp; try rfl)⟩ | exact Or.inr ⟨by rfl, rfl⟩
        case g17 => assumption
        (try simp only [Act.put, List.setIfInBounds_toArray, List.set_cons_zero, List.set_cons_succ])
        refine' wpAnyH_take (i := 17) (v := ?v18) ?a18 ?b18 ?c18 ?d18 ?e18 ?f18 ?g18 ?z18
        case a18 => (simp only [List.getElem?_toArray, List.getElem?_cons_succ, List.getElem?_cons_zero]; try rfl)
        case b18 | c18 | d18 => kernel_rfl
        case e18 => exact fun _ _ _ h => h
        case f18 => first | exact Or.inl ⟨by rfl, by (intro w hSw; (try dsimp only at hSw); go_simp; try rfl)⟩ | exact Or.inr ⟨by rfl, rfl⟩
        case g18 => assumption
        (try simp only [Act.put, List.setIfInBounds_toArray, List.set_cons_zero, List.set_cons_succ])
        refine' wpAnyH_take (i := 18) (v := undef) ?a19 ?b19 ?c19 ?d19 ?e19 ?f19 ?g19 ?z19
        case a19 => (simp only [List.getElem?_toArray, List.getElem?_cons_succ, List.getElem?_cons_zero]; try rfl)
        case b19 | c19 | d19 => kernel_rfl
        case e19 => exact fun _ _ _ h => h
        case f19 => first | exact Or.inl ⟨by rfl, by (intro w hSw; (try dsimp only at hSw); go_simp; try rfl)⟩ | exact Or.inr ⟨by rfl, rfl⟩
        case g19 => assumption
        (try simp only [Act.put, List.setIfInBounds_toArray, List.set_cons_zero, List.set_cons_succ])
        refine' wpAnyH_take (i := 19) (v := undef) ?a20 ?b20 ?c20 ?d20 ?e20 ?f20 ?g20 ?z20
        case a20 => (simp only [List.getElem?_toArray, List.getElem?_cons_succ, List.getElem?_cons_zero]; try rfl)
        case b20 | c20 | d20 => kernel_rfl
        case e20 => exact fun _ _ _ h => h
        case f20 => first | exact Or.inl ⟨by rfl, by (intro w hSw; (try dsimp only at hSw); go_simp; try rfl)⟩ | exact Or.inr ⟨by rfl, rfl⟩
        case g20 => assumption
        (try simp only [Act.put, List.setIfInBounds_toArray, List.set_cons_zero, List.set_cons_succ])
        refine' wpAnyH_take (i := 20) (v := undef) ?a21 ?b21 ?c21 ?d21 ?e21 ?f21 ?g21 ?z21
        case a21 => (simp only [List.getElem?_toArray, List.getElem?_cons_succ, List.getElem?_cons_zero]; try rfl)
        case b21 | c21 | d21 => kernel_rfl
        case e21 => exact fun _ _ _ h => h
        case f21 => first | exact Or.inl ⟨by rfl, by (intro w hSw; (try dsimp only at hSw); go_simp; try rfl)⟩ | exact Or.inr ⟨by rfl, rfl⟩
        case g21 => assumption
        (try simp only [Act.put, List.setIfInBounds_toArray, List.set_cons_zero, List.set_cons_succ])
        refine' wpAnyH_take (i := 21) (v := undef) ?a22 ?b22 ?c22 ?d22 ?e22 ?f22 ?g22 ?z22
        case a22 => (simp only [List.getElem?_toArray, List.getElem?_cons_succ, List.getElem?_cons_zero]; try rfl)
        case b22 | c22 | d22 => kernel_rfl
        case e22 => exact fun _ _ _ h => h
        case f22 => first | exact Or.inl ⟨by rfl, by (intro w hSw; (try dsimp only at hSw); go_simp; try rfl)⟩ | exact Or.inr ⟨by rfl, rfl⟩
        case g22 => assumption
        (try simp only [Act.put, List.setIfInBounds_toArray, List.set_cons_zero, List.set_cons_succ])
        refine' wpAnyH_take (i := 22) (v := ?v23) ?a23 ?b23 ?c23 ?d23 ?e23 ?f23 ?g23 ?z23
        case a23 => (simp only [List.getElem?_toArray, List.getElem?_cons_succ, List.getElem?_cons_zero]; try rfl)
        case b23 | c23 | d23 => kernel_rfl
        case e23 => exact fun _ _ _ h => h
        case f23 => first | exact Or.inl ⟨by rfl, by (intro w hSw; (try dsimp only at hSw); go_simp; try rfl)⟩ | exact Or.inr ⟨by rfl, rfl⟩
        case g23 => assumption
        (try simp only [Act.put, List.setIfInBounds_toArray, List.set_cons_zero, List.set_cons_succ])
        refine' wpAnyH_take (i := 23) (v := ?v24) ?a24 ?b24 ?c24 ?d24 ?e24 ?f24 ?g24 ?z24
        case a24 => (simp only [List.getElem?_toArray, List.getElem?_cons_succ, List.getElem?_cons_zero]; try rfl)
        case b24 | c24 | d24 => kernel_rfl
        case e24 => exact fun _ _ _ h => h
        case f24 => first | exact Or.inl ⟨by rfl, by (intro w hSw; (try dsimp only at hSw); go_simp; try rfl)⟩ | exact Or.inr ⟨by rfl, rfl⟩
        case g24 => assumption
        (try simp only [Act.put, List.setIfInBounds_toArray, List.set_cons_zero, List.set_cons_succ])
        refine' wpAnyH_take (i := 24) (v := ?v25) ?a25 ?b25 ?c25 ?d25 ?e25 ?f25 ?g25 ?z25
        case a25 => (simp only [List.getElem?_toArray, List.getElem?_cons_succ, List.getElem?_cons_zero]; try rfl)
        case b25 | c25 | d25 => kernel_rfl
        case e25 => exact fun _ _ _ h => h
        case f25 => first | exact Or.inl ⟨by rfl, by (intro w hSw; (try dsimp only at hSw); go_simp; try rfl)⟩ | exact Or.inr ⟨by rfl, rfl⟩
        case g25 => assumption
        (try simp only [Act.put, List.setIfInBounds_toArray, List.set_cons_zero, List.set_cons_succ])
        refine' wpAnyH_take (i := 25) (v := ?v26) ?a26 ?b26 ?c26 ?d26 ?e26 ?f26 ?g26 ?z26
        case a26 => (simp only [List.getElem?_toArray, List.getElem?_cons_succ, List.getElem?_cons_zero]; try rfl)
        case b26 | c26 | d26 => kernel_rfl
        case e26 => exact fun _ _ _ h => h
        case f26 => first | exact Or.inl ⟨by rfl, by (intro w hSw; (try dsimp only at hSw); go_simp; try rfl)⟩ | exact Or.inr ⟨by rfl, rfl⟩
        case g26 => assumption
        (try simp only [Act.put, List.setIfInBounds_toArray, List.set_cons_zero, List.set_cons_succ])
        refine' wpAnyH_take (i := 26) (v := ?v27) ?a27 ?b27 ?c27 ?d27 ?e27 ?f27 ?g27 ?z27
        case a27 => (simp only [List.getElem?_toArray, List.getElem?_cons_succ, List.getElem?_cons_zero]; try rfl)
        case b27 | c27 | d27 => kernel_rfl
        case e27 => exact fun _ _ _ h => h
        case f27 => first | exact Or.inl ⟨by rfl, by (intro w hSw; (try dsimp only at hSw); go_simp; try rfl)⟩ | exact Or.inr ⟨by rfl, rfl⟩
        case g27 => assumption
        (try simp only [Act.put, List.setIfInBounds_toArray, List.set_cons_zero, List.set_cons_succ])
        refine' wpAnyH_take (i := 27) (v := undef) ?a28 ?b28 ?c28 ?d28 ?e28 ?f28 ?g28 ?z28
        case a28 => (simp only [List.getElem?_toArray, List.getElem?_cons_succ, List.getElem?_cons_zero]; try rfl)
        case b28 | c28 | d28 => kernel_rfl
        case e28 => exact fun _ _ _ h => h
        case f28 => first | exact Or.inl ⟨by rfl, by (intro w hSw; (try dsimp only at hSw); go_simp; try rfl)⟩ | exact Or.inr ⟨by rfl, rfl⟩
        case g28 => assumption
        (try simp only [Act.put, List.setIfInBounds_toArray, List.set_cons_zero, List.set_cons_succ])
        refine' wpAnyH_take (i := 28) (v := undef) ?a29 ?b29 ?c29 ?d29 ?e29 ?f29 ?g29 ?z29
        case a29 => (simp only [List.getElem?_toArray, List.getElem?_cons_succ, List.getElem?_cons_zero]; try rfl)
        case b29 | c29 | d29 => kernel_rfl
        case e29 => exact fun _ _ _ h => h
        case f29 => first | exact Or.inl ⟨by rfl, by (intro w hSw; (try dsimp only at hSw); go_simp; try rfl)⟩ | exact Or.inr ⟨by rfl, rfl⟩
        case g29 => assumption
        (try simp only [Act.put, List.setIfInBounds_toArray, List.set_cons_zero, List.set_cons_succ])
        refine' wpAnyH_take (i := 29) (v := undef) ?a30 ?b30 ?c30 ?d30 ?e30 ?f30 ?g30 ?z30
        case a30 => (simp only [List.getElem?_toArray, List.getElem?_cons_succ, List.getElem?_cons_zero]; try rfl)
        case b30 | c30 | d30 => kernel_rfl
        case e30 => exact fun _ _ _ h => h
        case f30 => first | exact Or.inl ⟨by rfl, by (intro w hSw; (try dsimp only at hSw); go_simp; try rfl)⟩ | exact Or.inr ⟨by rfl, rfl⟩
        case g30 => assumption
        (try simp only [Act.put, List.setIfInBounds_toArray, List.set_cons_zero, List.set_cons_succ])
        refine' wpAnyH_take (i := 30) (v := ?v31) ?a31 ?b31 ?c31 ?d31 ?e31 ?f31 ?g31 ?z31
        case a31 => (simp only [List.getElem?_toArray, List.getElem?_cons_succ, List.getElem?_cons_zero]; try rfl)
        case b31 | c31 | d31 => kernel_rfl
        case e31 => exact fun _ _ _ h => h
        case f31 => first | exact Or.inl ⟨by rfl, by (intro w hSw; (try dsimp only at hSw); go_simp; try rfl)⟩ | exact Or.inr ⟨by rfl, rfl⟩
        case g31 => assumption
        (try simp only [Act.put, List.setIfInBounds_toArray, List.set_cons_zero, List.set_cons_succ])
        refine' wpAnyH_take (i := 31) (v := ?v32) ?a32 ?b32 ?c32 ?d32 ?e32 ?f32 ?g32 ?z32
        case a32 => (simp only [List.getElem?_toArray, List.getElem?_cons_succ, List.getElem?_cons_zero]; try rfl)
        case b32 | c32 | d32 => kernel_rfl
        case e32 => exact fun _ _ _ h => h
        case f32 => first | exact Or.inl ⟨by rfl, by (intro w hSw; (try dsimp only at hSw); go_simp; try rfl)⟩ | exact Or.inr ⟨by rfl, rfl⟩
        case g32 => assumption
        (try simp only [Act.put, List.setIfInBounds_toArray, List.set_cons_zero, List.set_cons_succ])
        refine' wpAnyH_take (i := 32) (v := ?v33) ?a33 ?b33 ?c33 ?d33 ?e33 ?f33 ?g33 ?z33
        case a33 => (simp only [List.getElem?_toArray, List.getElem?_cons_succ, List.getElem?_cons_zero]; try rfl)
        case b33 | c33 | d33 => kernel_rfl
        case e33 => exact fun _ _ _ h => h
        case f33 => first | exact Or.inl ⟨by rfl, by (intro w hSw; (try dsimp only at hSw); go_simp; try rfl)⟩ | exact Or.inr ⟨by rfl, rfl⟩
        case g33 => assumption
        (try simp only [Act.put, List.setIfInBounds_toArray, List.set_cons_zero, List.set_cons_succ])
        refine wpAnyH_ready (rs := [33]) (by kernel_rfl) (by simp) ?_
        refine' (AllReadyH.cons (i := 33) ?ho33x34 (fun K hK => ?st33x34) AllReadyH.nil)
        case ho33x34 => (simp only [List.getElem?_toArray, List.getElem?_cons_succ, List.getElem?_cons_zero]; try rfl)
        case st33x34 =>
         go_simp
         refine (stampCmp_any _ _ ⟨ae, al⟩ ⟨be, bl⟩ _ (hva.out.below (by first | exact hb | go_grown)) (hvb.out.below (by first | exact hb | go_grown))).mono ?_; rw [hKc.out]; rintro e_ w_ ⟨rfl, hb_⟩; replace hb := chainB (B := w8.heap.size) (a := w8) (by go_grown) hb_ (by have := hb.size; first | omega | (simp; done) | (simp; omega)); clear hb_
         refine hK.out _ _ ?_ (fun hHeld => ?_)
         · exact ⟨(hba.out.below hb).cell 0 rfl, (hba.out.below hb).cell 1 rfl, (hbb.out.below hb).cell 0 rfl, (hbb.out.below hb).cell 1 rfl, (hbc.out.below hb).cell 0 rfl, (hbc.out.below hb).cell 1 rfl⟩
         clear hK K
         (try simp only [Act.put, List.setIfInBounds_toArray, List.set_cons_zero, List.set_cons_succ])
         refine' wpAnyH_take (i := 34) (v := ?v35) ?a35 ?b35 ?c35 ?d35 ?e35 ?f35 ?g35 ?z35
         case a35 => (simp only [List.getElem?_toArray, List.getElem?_cons_succ, List.getElem?_cons_zero]; try rfl)
         case b35 | c35 | d35 => kernel_rfl
         case e35 => exact fun _ _ _ h => h
         case f35 => first | exact Or.inl ⟨by rfl, by (intro w hSw; (try dsimp only at hSw); go_simp; try rfl)⟩ | exact Or.inr ⟨by rfl, rfl⟩
         case g35 => assumption
         (try simp only [Act.put, List.setIfInBounds_toArray, List.set_cons_zero, List.set_cons_succ])
         refine' wpAnyH_take (i := 35) (v := ?v36) ?a36 ?b36 ?c36 ?d36 ?e36 ?f36 ?g36 ?z36
         case a36 => (simp only [List.getElem?_toArray, List.getElem?_cons_succ, List.getElem?_cons_zero]; try rfl)
         case b36 | c36 | d36 => kernel_rfl
         case e36 => exact fun _ _ _ h => h
         case f36 => first | exact Or.inl ⟨by rfl, by (intro w hSw; (try dsimp only at hSw); go_simp; try rfl)⟩ | exact Or.inr ⟨by rfl, rfl⟩
         case g36 => assumption
         (try simp only [Act.put, List.setIfInBounds_toArray, List.set_cons_zero, List.set_cons_succ])
         refine' wpAnyH_take (i := 36) (v := ?v37) ?a37 ?b37 ?c37 ?d37 ?e37 ?f37 ?g37 ?z37
         case a37 => (simp only [List.getElem?_toArray, List.getElem?_cons_succ, List.getElem?_cons_zero]; try rfl)
         case b37 | c37 | d37 => kernel_rfl
         case e37 => exact fun _ _ _ h => h
         case f37 => first | exact Or.inl ⟨by rfl, by (intro w hSw; (try dsimp only at hSw); go_simp; try rfl)⟩ | exact Or.inr ⟨by rfl, rfl⟩
         case g37 => assumption
         (try simp only [Act.put, List.setIfInBounds_toArray, List.set_cons_zero, List.set_cons_succ])
         refine' wpAnyH_take (i := 37) (v := ?v38) ?a38 ?b38 ?c38 ?d38 ?e38 ?f38 ?g38 ?z38
         case a38 => (simp only [List.getElem?_toArray, List.getElem?_cons_succ, List.getElem?_cons_zero]; try rfl)
         case b38 | c38 | d38 => kernel_rfl
         case e38 => exact fun _ _ _ h => h
         case f38 => first | exact Or.inl ⟨by rfl, by (intro w hSw; (try dsimp only at hSw); go_simp; try rfl)⟩ | exact Or.inr ⟨by rfl, rfl⟩
         case g38 => assumption
         (try simp only [Act.put, List.setIfInBounds_toArray, List.set_cons_zero, List.set_cons_succ])
         refine wpAnyH_done (by kernel_rfl) ?_ _
         refine NoPanic.normal ?_
         go_wp2_with fail
         go_meet
         exact ⟨by simp_all, chainB hcut0_.out hb hcut0_.out.size⟩
      | true =>
       have hk1 : Kc ≤ 0 := hle.out rfl
       have hkd : decide (Kc ≤ 0) = true := by simpa using hk1
       have hk0 : M = (Kc == 0) := by
         have h := hbo.out
         rw [Bool.true_and] at h
         rw [h]
         by_cases e : Kc = 0 <;> simp [e]
       cases L2 with
       | false =>
        have hb := Below.refl w8.heap.size w8
        refine wp_region_noPanic ?_
        refine wp_region_held_drew (S := (fun w' => w'.cell? ⟨w.heap.size, 0, none⟩ = some (.int .u64 ae) ∧ w'.cell? ⟨w.heap.size, 1, none⟩ = some (.slice A i ca) ∧ w'.cell? ⟨w.heap.size + 1, 0, none⟩ = some (.int .u64 be) ∧ w'.cell? ⟨w.heap.size + 1, 1, none⟩ = some (.slice B i cb) ∧ w'.cell? ⟨w.heap.size + 1 + 1, 0, none⟩ = some (.int .u64 ce) ∧ w'.cell? ⟨w.heap.size + 1 + 1, 1, none⟩ = some (.slice C i cc))) (by kernel_rfl) (⟨a0_, a1_, b0_, b1_, c0_, c1_⟩) (fun hHeld => ?_)
        refine' wpAnyH_take (i := 0) (v := ?v39) ?a39 ?b39 ?c39 ?d39 ?e39 ?f39 ?g39 ?z39
        case a39 => (simp only [List.getElem?_toArray, List.getElem?_cons_succ, List.getElem?_cons_zero]; try rfl)
        case b39 | c39 | d39 => kernel_rfl
        case e39 => exact fun _ _ _ h => h
        case f39 => first | exact Or.inl ⟨by rfl, by (intro w hSw; (try dsimp only at hSw); go_simp; try rfl)⟩ | exact Or.inr ⟨by rfl, rfl⟩
        case g39 => assumption
        (try simp only [Act.put, List.setIfInBounds_toArray, List.set_cons_zero, List.set_cons_succ])
        refine' wpAnyH_take (i := 1) (v := ?v40) ?a40 ?b40 ?c40 ?d40 ?e40 ?f40 ?g40 ?z40
        case a40 => (simp only [List.getElem?_toArray, List.getElem?_cons_succ, List.getElem?_cons_zero]; try rfl)
        case b40 | c40 | d40 => kernel_rfl
        case e40 => exact fun _ _ _ h => h
        case f40 => first | exact Or.inl ⟨by rfl, by (intro w hSw; (try dsimp only at hSw); go_simp; try rfl)⟩ | exact Or.inr ⟨by rfl, rfl⟩
        case g40 => assumption
        (try simp only [Act.put, List.setIfInBounds_toArray, List.set_cons_zero, List.set_cons_succ])
        refine wpAnyH_ready (rs := [2]) (by kernel_rfl) (by simp) ?_
        refine' (AllReadyH.cons (i := 2) ?ho2x41 (fun K hK => ?st2x41) AllReadyH.nil)
        case ho2x41 => (simp only [List.getElem?_toArray, List.getElem?_cons_succ, List.getElem?_cons_zero]; try rfl)
        case st2x41 =>
         go_simp
         refine (leq_any _ _ ⟨ae, al⟩ ⟨ae, al⟩ _ (hva.out.below (by first | exact hb | go_grown)) (hva.out.below (by first | exact hb | go_grown))).mono ?_; rw [leqT_refl]; rintro e_ w_ ⟨rfl, hb_⟩; replace hb := chainB (B := w8.heap.size) (a := w8) (by go_grown) hb_ (by have := hb.size; first | omega | (simp; done) | (simp; omega)); clear hb_
         refine hK.out _ _ ?_ (fun hHeld => ?_)
         · exact ⟨(hba.out.below hb).cell 0 rfl, (hba.out.below hb).cell 1 rfl, (hbb.out.below hb).cell 0 rfl, (hbb.out.below hb).cell 1 rfl, (hbc.out.below hb).cell 0 rfl, (hbc.out.below hb).cell 1 rfl⟩
         clear hK K
         (try simp only [Act.put, List.setIfInBounds_toArray, List.set_cons_zero, List.set_cons_succ])
         refine' wpAnyH_take (i := 3) (v := ?v42) ?a42 ?b42 ?c42 ?d42 ?e42 ?f42 ?g42 ?z42
         case a42 => (simp only [List.getElem?_toArray, List.getElem?_cons_succ, List.getElem?_cons_zero]; try rfl)
         case b42 | c42 | d42 => kernel_rfl
         case e42 => exact fun _ _ _ h => h
         case f42 => first | exact Or.inl ⟨by rfl, by (intro w hSw; (try dsimp only at hSw); go_simp; try rfl)⟩ | exact Or.inr ⟨by rfl, rfl⟩
         case g42 => assumption
         (try simp only [Act.put, List.setIfInBounds_toArray, List.set_cons_zero, List.set_cons_succ])
         refine' wpAnyH_take (i := 4) (v := ?v43) ?a43 ?b43 ?c43 ?d43 ?e43 ?f43 ?g43 ?z43
         case a43 => (simp only [List.getElem?_toArray, List.getElem?_cons_succ, List.getElem?_cons_zero]; try rfl)
         case b43 | c43 | d43 => kernel_rfl
         case e43 => exact fun _ _ _ h => h
         case f43 => first | exact Or.inl ⟨by rfl, by (intro w hSw; (try dsimp only at hSw); go_simp; try rfl)⟩ | exact Or.inr ⟨by rfl, rfl⟩
         case g43 => assumption
         (try simp only [Act.put, List.setIfInBounds_toArray, List.set_cons_zero, List.set_cons_succ])
         refine' wpAnyH_take (i := 5) (v := ?v44) ?a44 ?b44 ?c44 ?d44 ?e44 ?f44 ?g44 ?z44
         case a44 => (simp only [List.getElem?_toArray, List.getElem?_cons_succ, List.getElem?_cons_zero]; try rfl)
         case b44 | c44 | d44 => kernel_rfl
         case e44 => exact fun _ _ _ h => h
         case f44 => first | exact Or.inl ⟨by rfl, by (intro w hSw; (try dsimp only at hSw); go_simp; try rfl)⟩ | exact Or.inr ⟨by rfl, rfl⟩
         case g44 => assumption
         (try simp only [Act.put, List.setIfInBounds_toArray, List.set_cons_zero, List.set_cons_succ])
         refine' wpAnyH_take (i := 6) (v := ?v45) ?a45 ?b45 ?c45 ?d45 ?e45 ?f45 ?g45 ?z45
         case a45 => (simp only [List.getElem?_toArray, List.getElem?_cons_succ, List.getElem?_cons_zero]; try rfl)
         case b45 | c45 | d45 => kernel_rfl
         case e45 => exact fun _ _ _ h => h
         case f45 => first | exact Or.inl ⟨by rfl, by (intro w hSw; (try dsimp only at hSw); go_simp; try rfl)⟩ | exact Or.inr ⟨by rfl, rfl⟩
         case g45 => assumption
         (try simp only [Act.put, List.setIfInBounds_toArray, List.set_cons_zero, List.set_cons_succ])
         refine' wpAnyH_take (i := 7) (v := ?v46) ?a46 ?b46 ?c46 ?d46 ?e46 ?f46 ?g46 ?z46
         case a46 => (simp only [List.getElem?_toArray, List.getElem?_cons_succ, List.getElem?_cons_zero]; try rfl)
         case b46 | c46 | d46 => kernel_rfl
         case e46 => exact fun _ _ _ h => h
         case f46 => first | exact Or.inl ⟨by rfl, by (intro w hSw; (try dsimp only at hSw); go_simp; try rfl)⟩ | exact Or.inr ⟨by rfl, rfl⟩
         case g46 => assumption
         (try simp only [Act.put, List.setIfInBounds_toArray, List.set_cons_zero, List.set_cons_succ])
         refine' wpAnyH_take (i := 8) (v := ?v47) ?a47 ?b47 ?c47 ?d47 ?e47 ?f47 ?g47 ?z47
         case a47 => (simp only [List.getElem?_toArray, List.getElem?_cons_succ, List.getElem?_cons_zero]; try rfl)
         case b47 | c47 | d47 => kernel_rfl
         case e47 => exact fun _ _ _ h => h
         case f47 => first | exact Or.inl ⟨by rfl, by (intro w hSw; (try dsimp only at hSw); go_simp; try rfl)⟩ | exact Or.inr ⟨by rfl, rfl⟩
         case g47 => assumption
         (try simp only [Act.put, List.setIfInBounds_toArray, List.set_cons_zero, List.set_cons_succ])
         refine' wpAnyH_take (i := 9) (v := ?v48) ?a48 ?b48 ?c48 ?d48 ?e48 ?f48 ?g48 ?z48
         case a48 => (simp only [List.getElem?_toArray, List.getElem?_cons_succ, List.getElem?_cons_zero]; try rfl)
         case b48 | c48 | d48 => kernel_rfl
         case e48 => exact fun _ _ _ h => h
         case f48 => first | exact Or.inl ⟨by rfl, by (intro w hSw; (try dsimp only at hSw); go_simp; try rfl)⟩ | exact Or.inr ⟨by rfl, rfl⟩
         case g48 => assumption
         (try simp only [Act.put, List.setIfInBounds_toArray, List.set_cons_zero, List.set_cons_succ])
         refine' wpAnyH_take (i := 10) (v := ?v49) ?a49 ?b49 ?c49 ?d49 ?e49 ?f49 ?g49 ?z49
         case a49 => (simp only [List.getElem?_toArray, List.getElem?_cons_succ, List.getElem?_cons_zero]; try rfl)
         case b49 | c49 | d49 => kernel_rfl
         case e49 => exact fun _ _ _ h => h
         case f49 => first | exact Or.inl ⟨by rfl, by (intro w hSw; (try dsimp only at hSw); go_simp; try rfl)⟩ | exact Or.inr ⟨by rfl, rfl⟩
         case g49 => assumption
         (try simp only [Act.put, List.setIfInBounds_toArray, List.set_cons_zero, List.set_cons_succ])
         refine' wpAnyH_take (i := 11) (v := undef) ?a50 ?b50 ?c50 ?d50 ?e50 ?f50 ?g50 ?z50
         case a50 => (simp only [List.getElem?_toArray, List.getElem?_cons_succ, List.getElem?_cons_zero]; try rfl)
         case b50 | c50 | d50 => kernel_rfl
         case e50 => exact fun _ _ _ h => h
         case f50 => first | exact Or.inl ⟨by rfl, by (intro w hSw; (try dsimp only at hSw); go_simp; try rfl)⟩ | exact Or.inr ⟨by rfl, rfl⟩
         case g50 => assumption
         (try simp only [Act.put, List.setIfInBounds_toArray, List.set_cons_zero, List.set_cons_succ])
         refine' wpAnyH_take (i := 12) (v := ?v51) ?a51 ?b51 ?c51 ?d51 ?e51 ?f51 ?g51 ?z51
         case a51 => (simp only [List.getElem?_toArray, List.getElem?_cons_succ, List.getElem?_cons_zero]; try rfl)
         case b51 | c51 | d51 => kernel_rfl
         case e51 => exact fun _ _ _ h => h
         case f51 => first | exact Or.inl ⟨by rfl, by (intro w hSw; (try dsimp only at hSw); go_simp; try rfl)⟩ | exact Or.inr ⟨by rfl, rfl⟩
         case g51 => assumption
         (try simp only [Act.put, List.setIfInBounds_toArray, List.set_cons_zero, List.set_cons_succ])
         refine' wpAnyH_take (i := 13) (v := ?v52) ?a52 ?b52 ?c52 ?d52 ?e52 ?f52 ?g52 ?z52
         case a52 => (simp only [List.getElem?_toArray, List.getElem?_cons_succ, List.getElem?_cons_zero]; try rfl)
         case b52 | c52 | d52 => kernel_rfl
         case e52 => exact fun _ _ _ h => h
         case f52 => first | exact Or.inl ⟨by rfl, by (intro w hSw; (try dsimp only at hSw); go_simp; try rfl)⟩ | exact Or.inr ⟨by rfl, rfl⟩
         case g52 => assumption
         (try simp only [Act.put, List.setIfInBounds_toArray, List.set_cons_zero, List.set_cons_succ])
         refine' wpAnyH_take (i := 14) (v := ?v53) ?a53 ?b53 ?c53 ?d53 ?e53 ?f53 ?g53 ?z53
         case a53 => (simp only [List.getElem?_toArray, List.getElem?_cons_succ, List.getElem?_cons_zero]; try rfl)
         case b53 | c53 | d53 => kernel_rfl
         case e53 => exact fun _ _ _ h => h
         case f53 => first | exact Or.inl ⟨by rfl, by (intro w hSw; (try dsimp only at hSw); go_simp; try rfl)⟩ | exact Or.inr ⟨by rfl, rfl⟩
         case g53 => assumption
         (try simp only [Act.put, List.setIfInBounds_toArray, List.set_cons_zero, List.set_cons_succ])
         refine' wpAnyH_take (i := 15) (v := ?v54) ?a54 ?b54 ?c54 ?d54 ?e54 ?f54 ?g54 ?z54
         case a54 => (simp only [List.getElem?_toArray, List.getElem?_cons_succ, List.getElem?_cons_zero]; try rfl)
         case b54 | c54 | d54 => kernel_rfl
         case e54 => exact fun _ _ _ h => h
         case f54 => first | exact Or.inl ⟨by rfl, by (intro w hSw; (try dsimp only at hSw); go_simp; try rfl)⟩ | exact Or.inr ⟨by rfl, rfl⟩
         case g54 => assumption
         (try simp only [Act.put, List.setIfInBounds_toArray, List.set_cons_zero, List.set_cons_succ])
         refine' wpAnyH_take (i := 16) (v := ?v55) ?a55 ?b55 ?c55 ?d55 ?e55 ?f55 ?g55 ?z55
         case a55 => (simp only [List.getElem?_toArray, List.getElem?_cons_succ, List.getElem?_cons_zero]; try rfl)
         case b55 | c55 | d55 => kernel_rfl
         case e55 => exact fun _ _ _ h => h
         case f55 => first | exact Or.inl ⟨by rfl, by (intro w hSw; (try dsimp only at hSw); go_simp; try rfl)⟩ | exact Or.inr ⟨by rfl, rfl⟩
         case g55 => assumption
         (try simp only [Act.put, List.setIfInBounds_toArray, List.set_cons_zero, List.set_cons_succ])
         refine' wpAnyH_take (i := 17) (v := ?v56) ?a56 ?b56 ?c56 ?d56 ?e56 ?f56 ?g56 ?z56
         case a56 => (simp only [List.getElem?_toArray, List.getElem?_cons_succ, List.getElem?_cons_zero]; try rfl)
         case b56 | c56 | d56 => kernel_rfl
         case e56 => exact fun _ _ _ h => h
         case f56 => first | exact Or.inl ⟨by rfl, by (intro w hSw; (try dsimp only at hSw); go_simp; try rfl)⟩ | exact Or.inr ⟨by rfl, rfl⟩
         case g56 => assumption
         (try simp only [Act.put, List.setIfInBounds_toArray, List.set_cons_zero, List.set_cons_succ])
         refine' wpAnyH_take (i := 18) (v := ?v57) ?a57 ?b57 ?c57 ?d57 ?e57 ?f57 ?g57 ?z57
         case a57 => (simp only [List.getElem?_toArray, List.getElem?_cons_succ, List.getElem?_cons_zero]; try rfl)
         case b57 | c57 | d57 => kernel_rfl
         case e57 => exact fun _ _ _ h => h
         case f57 => first | exact Or.inl ⟨by rfl, by (intro w hSw; (try dsimp only at hSw); go_simp; try rfl)⟩ | exact Or.inr ⟨by rfl, rfl⟩
         case g57 => assumption
         (try simp only [Act.put, List.setIfInBounds_toArray, List.set_cons_zero, List.set_cons_succ])
         refine' wpAnyH_take (i := 19) (v := ?v58) ?a58 ?b58 ?c58 ?d58 ?e58 ?f58 ?g58 ?z58
         case a58 => (simp only [List.getElem?_toArray, List.getElem?_cons_succ, List.getElem?_cons_zero]; try rfl)
         case b58 | c58 | d58 => kernel_rfl
         case e58 => exact fun _ _ _ h => h
         case f58 => first | exact Or.inl ⟨by rfl, by (intro w hSw; (try dsimp only at hSw); go_simp; try rfl)⟩ | exact Or.inr ⟨by rfl, rfl⟩
         case g58 => assumption
         (try simp only [Act.put, List.setIfInBounds_toArray, List.set_cons_zero, List.set_cons_succ])
         refine wpAnyH_ready (rs := [20]) (by kernel_rfl) (by simp) ?_
         refine' (AllReadyH.cons (i := 20) ?ho20x59 (fun K hK => ?st20x59) AllReadyH.nil)
         case ho20x59 => (simp only [List.getElem?_toArray, List.getElem?_cons_succ, List.getElem?_cons_zero]; try rfl)
         case st20x59 =>
          go_simp
          refine (stampCmp_any _ _ ⟨ae, al⟩ ⟨be, bl⟩ _ (hva.out.below (by first | exact hb | go_grown)) (hvb.out.below (by first | exact hb | go_grown))).mono ?_; rw [hKc.out]; rintro e_ w_ ⟨rfl, hb_⟩; replace hb := chainB (B := w8.heap.size) (a := w8) (by go_grown) hb_ (by have := hb.size; first | omega | (simp; done) | (simp; omega)); clear hb_
          refine hK.out _ _ ?_ (fun hHeld => ?_)
          · exact ⟨(hba.out.below hb).cell 0 rfl, (hba.out.below hb).cell 1 rfl, (hbb.out.below hb).cell 0 rfl, (hbb.out.below hb).cell 1 rfl, (hbc.out.below hb).cell 0 rfl, (hbc.out.below hb).cell 1 rfl⟩
          clear hK K
          (try simp only [Act.put, List.setIfInBounds_toArray, List.set_cons_zero, List.set_cons_succ])
          refine' wpAnyH_take (i := 21) (v := ?v60) ?a60 ?b60 ?c60 ?d60 ?e60 ?f60 ?g60 ?z60
          case a60 => (simp only [List.getElem?_toArray, List.getElem?_cons_succ, List.getElem?_cons_zero]; try rfl)
          case b60 | c60 | d60 => kernel_rfl
          case e60 => exact fun _ _ _ h => h
          case f60 => first | exact Or.inl ⟨by rfl, by (intro w hSw; (try dsimp only at hSw); go_simp; try rfl)⟩ | exact Or.inr ⟨by rfl, rfl⟩
          case g60 => assumption
          (try simp only [Act.put, List.setIfInBounds_toArray, List.set_cons_zero, List.set_cons_succ])
          refine' wpAnyH_take (i := 22) (v := ?v61) ?a61 ?b61 ?c61 ?d61 ?e61 ?f61 ?g61 ?z61
          case a61 => (simp only [List.getElem?_toArray, List.getElem?_cons_succ, List.getElem?_cons_zero]; try rfl)
          case b61 | c61 | d61 => kernel_rfl
          case e61 => exact fun _ _ _ h => h
          case f61 => first | exact Or.inl ⟨by rfl, by (intro w hSw; (try dsimp only at hSw); go_simp; try rfl)⟩ | exact Or.inr ⟨by rfl, rfl⟩
          case g61 => assumption
          (try simp only [Act.put, List.setIfInBounds_toArray, List.set_cons_zero, List.set_cons_succ])
          refine' wpAnyH_take (i := 23) (v := ?v62) ?a62 ?b62 ?c62 ?d62 ?e62 ?f62 ?g62 ?z62
          case a62 => (simp only [List.getElem?_toArray, List.getElem?_cons_succ, List.getElem?_cons_zero]; try rfl)
          case b62 | c62 | d62 => kernel_rfl
          case e62 => exact fun _ _ _ h => h
          case f62 => first | exact Or.inl ⟨by rfl, by (intro w hSw; (try dsimp only at hSw); go_simp; try rfl)⟩ | exact Or.inr ⟨by rfl, rfl⟩
          case g62 => assumption
          (try simp only [Act.put, List.setIfInBounds_toArray, List.set_cons_zero, List.set_cons_succ])
          refine' wpAnyH_take (i := 24) (v := ?v63) ?a63 ?b63 ?c63 ?d63 ?e63 ?f63 ?g63 ?z63
          case a63 => (simp only [List.getElem?_toArray, List.getElem?_cons_succ, List.getElem?_cons_zero]; try rfl)
          case b63 | c63 | d63 => kernel_rfl
          case e63 => exact fun _ _ _ h => h
          case f63 => first | exact Or.inl ⟨by rfl, by (intro w hSw; (try dsimp only at hSw); go_simp; try rfl)⟩ | exact Or.inr ⟨by rfl, rfl⟩
          case g63 => assumption
          (try simp only [Act.put, List.setIfInBounds_toArray, List.set_cons_zero, List.set_cons_succ])
          refine' wpAnyH_take (i := 25) (v := ?v64) ?a64 ?b64 ?c64 ?d64 ?e64 ?f64 ?g64 ?z64
          case a64 => (simp only [List.getElem?_toArray, List.getElem?_cons_succ, List.getElem?_cons_zero]; try rfl)
          case b64 | c64 | d64 => kernel_rfl
          case e64 => exact fun _ _ _ h => h
          case f64 => first | exact Or.inl ⟨by rfl, by (intro w hSw; (try dsimp only at hSw); go_simp; try rfl)⟩ | exact Or.inr ⟨by rfl, rfl⟩
          case g64 => assumption
          (try simp only [Act.put, List.setIfInBounds_toArray, List.set_cons_zero, List.set_cons_succ])
          refine' wpAnyH_take (i := 26) (v := ?v65) ?a65 ?b65 ?c65 ?d65 ?e65 ?f65 ?g65 ?z65
          case a65 => (simp only [List.getElem?_toArray, List.getElem?_cons_succ, List.getElem?_cons_zero]; try rfl)
          case b65 | c65 | d65 => kernel_rfl
          case e65 => exact fun _ _ _ h => h
          case f65 => first | exact Or.inl ⟨by rfl, by (intro w hSw; (try dsimp only at hSw); go_simp; try rfl)⟩ | exact Or.inr ⟨by rfl, rfl⟩
          case g65 => assumption
          (try simp only [Act.put, List.setIfInBounds_toArray, List.set_cons_zero, List.set_cons_succ])
          refine' wpAnyH_take (i := 27) (v := ?v66) ?a66 ?b66 ?c66 ?d66 ?e66 ?f66 ?g66 ?z66
          case a66 => (simp only [List.getElem?_toArray, List.getElem?_cons_succ, List.getElem?_cons_zero]; try rfl)
          case b66 | c66 | d66 => kernel_rfl
          case e66 => exact fun _ _ _ h => h
          case f66 => first | exact Or.inl ⟨by rfl, by (intro w hSw; (try dsimp only at hSw); go_simp; try rfl)⟩ | exact Or.inr ⟨by rfl, rfl⟩
          case g66 => assumption
          (try simp only [Act.put, List.setIfInBounds_toArray, List.set_cons_zero, List.set_cons_succ])
          refine' wpAnyH_take (i := 28) (v := ?v67) ?a67 ?b67 ?c67 ?d67 ?e67 ?f67 ?g67 ?z67
          case a67 => (simp only [List.getElem?_toArray, List.getElem?_cons_succ, List.getElem?_cons_zero]; try rfl)
          case b67 | c67 | d67 => kernel_rfl
          case e67 => exact fun _ _ _ h => h
          case f67 => first | exact Or.inl ⟨by rfl, by (intro w hSw; (try dsimp only at hSw); go_simp; try rfl)⟩ | exact Or.inr ⟨by rfl, rfl⟩
          case g67 => assumption
          (try simp only [Act.put, List.setIfInBounds_toArray, List.set_cons_zero, List.set_cons_succ])
          refine' wpAnyH_take (i := 31) (v := ?v68) ?a68 ?b68 ?c68 ?d68 ?e68 ?f68 ?g68 ?z68
          case a68 => (simp only [List.getElem?_toArray, List.getElem?_cons_succ, List.getElem?_cons_zero]; try rfl)
          case b68 | c68 | d68 => kernel_rfl
          case e68 => exact fun _ _ _ h => h
          case f68 => first | exact Or.inl ⟨by rfl, by (intro w hSw; (try dsimp only at hSw); go_simp; try rfl)⟩ | exact Or.inr ⟨by rfl, rfl⟩
          case g68 => assumption
          (try simp only [Act.put, List.setIfInBounds_toArray, List.set_cons_zero, List.set_cons_succ])
          refine' wpAnyH_take (i := 32) (v := ?v69) ?a69 ?b69 ?c69 ?d69 ?e69 ?f69 ?g69 ?z69
          case a69 => (simp only [List.getElem?_toArray, List.getElem?_cons_succ, List.getElem?_cons_zero]; try rfl)
          case b69 | c69 | d69 => kernel_rfl
          case e69 => exact fun _ _ _ h => h
          case f69 => first | exact Or.inl ⟨by rfl, by (intro w hSw; (try dsimp only at hSw); go_simp; try rfl)⟩ | exact Or.inr ⟨by rfl, rfl⟩
          case g69 => assumption
          (try simp only [Act.put, List.setIfInBounds_toArray, List.set_cons_zero, List.set_cons_succ])
          refine wpAnyH_ready (rs := [29]) (by kernel_rfl) (by simp) ?_
          refine' (AllReadyH.cons (i := 29) ?ho29x70 (fun K hK => ?st29x70) AllReadyH.nil)
          case ho29x70 => (simp only [List.getElem?_toArray, List.getElem?_cons_succ, List.getElem?_cons_zero]; try rfl)
          case st29x70 =>
           go_simp
           refine (leq_any _ _ ⟨be, bl⟩ ⟨ae, al⟩ _ (hvb.out.below (by first | exact hb | go_grown)) (hva.out.below (by first | exact hb | go_grown))).mono ?_; rw [hM.out]; rintro e_ w_ ⟨rfl, hb_⟩; replace hb := chainB (B := w8.heap.size) (a := w8) (by go_grown) hb_ (by have := hb.size; first | omega | (simp; done) | (simp; omega)); clear hb_
           refine hK.out _ _ ?_ (fun hHeld => ?_)
           · exact ⟨(hba.out.below hb).cell 0 rfl, (hba.out.below hb).cell 1 rfl, (hbb.out.below hb).cell 0 rfl, (hbb.out.below hb).cell 1 rfl, (hbc.out.below hb).cell 0 rfl, (hbc.out.below hb).cell 1 rfl⟩
           clear hK K
           (try simp only [Act.put, List.setIfInBounds_toArray, List.set_cons_zero, List.set_cons_succ])
           refine' wpAnyH_take (i := 30) (v := ?v71) ?a71 ?b71 ?c71 ?d71 ?e71 ?f71 ?g71 ?z71
           case a71 => (simp only [List.getElem?_toArray, List.getElem?_cons_succ, List.getElem?_cons_zero]; try rfl)
           case b71 | c71 | d71 => kernel_rfl
           case e71 => exact fun _ _ _ h => h
           case f71 => first | exact Or.inl ⟨by rfl, by (intro w hSw; (try dsimp only at hSw); go_simp; try rfl)⟩ | exact Or.inr ⟨by rfl, rfl⟩
           case g71 => assumption
           (try simp only [Act.put, List.setIfInBounds_toArray, List.set_cons_zero, List.set_cons_succ])
           refine wpAnyH_ready (rs := [33]) (by kernel_rfl) (by simp) ?_
           refine' (AllReadyH.cons (i := 33) ?ho33x72 (fun K hK => ?st33x72) AllReadyH.nil)
           case ho33x72 => (simp only [List.getElem?_toArray, List.getElem?_cons_succ, List.getElem?_cons_zero]; try rfl)
           case st33x72 =>
            go_simp
            refine (stampCmp_any _ _ ⟨ae, al⟩ ⟨be, bl⟩ _ (hva.out.below (by first | exact hb | go_grown)) (hvb.out.below (by first | exact hb | go_grown))).mono ?_; rw [hKc.out]; rintro e_ w_ ⟨rfl, hb_⟩; replace hb := chainB (B := w8.heap.size) (a := w8) (by go_grown) hb_ (by have := hb.size; first | omega | (simp; done) | (simp; omega)); clear hb_
            refine hK.out _ _ ?_ (fun hHeld => ?_)
            · exact ⟨(hba.out.below hb).cell 0 rfl, (hba.out.below hb).cell 1 rfl, (hbb.out.below hb).cell 0 rfl, (hbb.out.below hb).cell 1 rfl, (hbc.out.below hb).cell 0 rfl, (hbc.out.below hb).cell 1 rfl⟩
            clear hK K
            (try simp only [Act.put, List.setIfInBounds_toArray, List.set_cons_zero, List.set_cons_succ])
            refine' wpAnyH_take (i := 34) (v := ?v73) ?a73 ?b73 ?c73 ?d73 ?e73 ?f73 ?g73 ?z73
            case a73 => (simp only [List.getElem?_toArray, List.getElem?_cons_succ, List.getElem?_cons_zero]; try rfl)
            case b73 | c73 | d73 => kernel_rfl
            case e73 => exact fun _ _ _ h => h
            case f73 => first | exact Or.inl ⟨by rfl, by (intro w hSw; (try dsimp only at hSw); go_simp; try rfl)⟩ | exact Or.inr ⟨by rfl, rfl⟩
            case g73 => assumption
            (try simp only [Act.put, List.setIfInBounds_toArray, List.set_cons_zero, List.set_cons_succ])
            refine' wpAnyH_take (i := 35) (v := ?v74) ?a74 ?b74 ?c74 ?d74 ?e74 ?f74 ?g74 ?z74
            case a74 => (simp only [List.getElem?_toArray, List.getElem?_cons_succ, List.getElem?_cons_zero]; try rfl)
            case b74 | c74 | d74 => kernel_rfl
            case e74 => exact fun _ _ _ h => h
            case f74 => first | exact Or.inl ⟨by rfl, by (intro w hSw; (try dsimp only at hSw); go_simp; try rfl)⟩ | exact Or.inr ⟨by rfl, rfl⟩
            case g74 => assumption
            (try simp only [Act.put, List.setIfInBounds_toArray, List.set_cons_zero, List.set_cons_succ])
            refine' wpAnyH_take (i := 36) (v := ?v75) ?a75 ?b75 ?c75 ?d75 ?e75 ?f75 ?g75 ?z75
            case a75 => (simp only [List.getElem?_toArray, List.getElem?_cons_succ, List.getElem?_cons_zero]; try rfl)
            case b75 | c75 | d75 => kernel_rfl
            case e75 => exact fun _ _ _ h => h
            case f75 => first | exact Or.inl ⟨by rfl, by (intro w hSw; (try dsimp only at hSw); go_simp; try rfl)⟩ | exact Or.inr ⟨by rfl, rfl⟩
            case g75 => assumption
            (try simp only [Act.put, List.setIfInBounds_toArray, List.set_cons_zero, List.set_cons_succ])
            refine' wpAnyH_take (i := 37) (v := ?v76) ?a76 ?b76 ?c76 ?d76 ?e76 ?f76 ?g76 ?z76
            case a76 => (simp only [List.getElem?_toArray, List.getElem?_cons_succ, List.getElem?_cons_zero]; try rfl)
            case b76 | c76 | d76 => kernel_rfl
            case e76 => exact fun _ _ _ h => h
            case f76 => first | exact Or.inl ⟨by rfl, by (intro w hSw; (try dsimp only at hSw); go_simp; try rfl)⟩ | exact Or.inr ⟨by rfl, rfl⟩
            case g76 => assumption
            (try simp only [Act.put, List.setIfInBounds_toArray, List.set_cons_zero, List.set_cons_succ])
            refine wpAnyH_done (by kernel_rfl) ?_ _
            refine NoPanic.normal ?_
            go_wp2_with fail
            go_meet
            exact ⟨by simp_all, chainB hcut0_.out hb hcut0_.out.size⟩
       | true =>
        obtain rfl : L3 = true := htr.out rfl rfl
        have hb := Below.refl w8.heap.size w8
        refine wp_region_noPanic ?_
        refine wp_region_held_drew (S := (fun w' => w'.cell? ⟨w.heap.size, 0, none⟩ = some (.int .u64 ae) ∧ w'.cell? ⟨w.heap.size, 1, none⟩ = some (.slice A i ca) ∧ w'.cell? ⟨w.heap.size + 1, 0, none⟩ = some (.int .u64 be) ∧ w'.cell? ⟨w.heap.size + 1, 1, none⟩ = some (.slice B i cb) ∧ w'.cell? ⟨w.heap.size + 1 + 1, 0, none⟩ = some (.int .u64 ce) ∧ w'.cell? ⟨w.heap.size + 1 + 1, 1, none⟩ = some (.slice C i cc))) (by kernel_rfl) (⟨a0_, a1_, b0_, b1_, c0_, c1_⟩) (fun hHeld => ?_)
        refine' wpAnyH_take (i := 0) (v := ?v77) ?a77 ?b77 ?c77 ?d77 ?e77 ?f77 ?g77 ?z77
        case a77 => (simp only [List.getElem?_toArray, List.getElem?_cons_succ, List.getElem?_cons_zero]; try rfl)
        case b77 | c77 | d77 => kernel_rfl
        case e77 => exact fun _ _ _ h => h
        case f77 => first | exact Or.inl ⟨by rfl, by (intro w hSw; (try dsimp only at hSw); go_simp; try rfl)⟩ | exact Or.inr ⟨by rfl, rfl⟩
        case g77 => assumption
        (try simp only [Act.put, List.setIfInBounds_toArray, List.set_cons_zero, List.set_cons_succ])
        refine' wpAnyH_take (i := 1) (v := ?v78) ?a78 ?b78 ?c78 ?d78 ?e78 ?f78 ?g78 ?z78
        case a78 => (simp only [List.getElem?_toArray, List.getElem?_cons_succ, List.getElem?_cons_zero]; try rfl)
        case b78 | c78 | d78 => kernel_rfl
        case e78 => exact fun _ _ _ h => h
        case f78 => first | exact Or.inl ⟨by rfl, by (intro w hSw; (try dsimp only at hSw); go_simp; try rfl)⟩ | exact Or.inr ⟨by rfl, rfl⟩
        case g78 => assumption
        (try simp only [Act.put, List.setIfInBounds_toArray, List.set_cons_zero, List.set_cons_succ])
        refine wpAnyH_ready (rs := [2]) (by kernel_rfl) (by simp) ?_
        refine' (AllReadyH.cons (i := 2) ?ho2x79 (fun K hK => ?st2x79) AllReadyH.nil)
        case ho2x79 => (simp only [List.getElem?_toArray, List.getElem?_cons_succ, List.getElem?_cons_zero]; try rfl)
        case st2x79 =>
         go_simp
         refine (leq_any _ _ ⟨ae, al⟩ ⟨ae, al⟩ _ (hva.out.below (by first | exact hb | go_grown)) (hva.out.below (by first | exact hb | go_grown))).mono ?_; rw [leqT_refl]; rintro e_ w_ ⟨rfl, hb_⟩; replace hb := chainB (B := w8.heap.size) (a := w8) (by go_grown) hb_ (by have := hb.size; first | omega | (simp; done) | (simp; omega)); clear hb_
         refine hK.out _ _ ?_ (fun hHeld => ?_)
         · exact ⟨(hba.out.below hb).cell 0 rfl, (hba.out.below hb).cell 1 rfl, (hbb.out.below hb).cell 0 rfl, (hbb.out.below hb).cell 1 rfl, (hbc.out.below hb).cell 0 rfl, (hbc.out.below hb).cell 1 rfl⟩
         clear hK K
         (try simp only [Act.put, List.setIfInBounds_toArray, List.set_cons_zero, List.set_cons_succ])
         refine' wpAnyH_take (i := 3) (v := ?v80) ?a80 ?b80 ?c80 ?d80 ?e80 ?f80 ?g80 ?z80
         case a80 => (simp only [List.getElem?_toArray, List.getElem?_cons_succ, List.getElem?_cons_zero]; try rfl)
         case b80 | c80 | d80 => kernel_rfl
         case e80 => exact fun _ _ _ h => h
         case f80 => first | exact Or.inl ⟨by rfl, by (intro w hSw; (try dsimp only at hSw); go_simp; try rfl)⟩ | exact Or.inr ⟨by rfl, rfl⟩
         case g80 => assumption
         (try simp only [Act.put, List.setIfInBounds_toArray, List.set_cons_zero, List.set_cons_succ])
         refine' wpAnyH_take (i := 4) (v := ?v81) ?a81 ?b81 ?c81 ?d81 ?e81 ?f81 ?g81 ?z81
         case a81 => (simp only [List.getElem?_toArray, List.getElem?_cons_succ, List.getElem?_cons_zero]; try rfl)
         case b81 | c81 | d81 => kernel_rfl
         case e81 => exact fun _ _ _ h => h
         case f81 => first | exact Or.inl ⟨by rfl, by (intro w hSw; (try dsimp only at hSw); go_simp; try rfl)⟩ | exact Or.inr ⟨by rfl, rfl⟩
         case g81 => assumption
         (try simp only [Act.put, List.setIfInBounds_toArray, List.set_cons_zero, List.set_cons_succ])
         refine' wpAnyH_take (i := 5) (v := ?v82) ?a82 ?b82 ?c82 ?d82 ?e82 ?f82 ?g82 ?z82
         case a82 => (simp only [List.getElem?_toArray, List.getElem?_cons_succ, List.getElem?_cons_zero]; try rfl)
         case b82 | c82 | d82 => kernel_rfl
         case e82 => exact fun _ _ _ h => h
         case f82 => first | exact Or.inl ⟨by rfl, by (intro w hSw; (try dsimp only at hSw); go_simp; try rfl)⟩ | exact Or.inr ⟨by rfl, rfl⟩
         case g82 => assumption
         (try simp only [Act.put, List.setIfInBounds_toArray, List.set_cons_zero, List.set_cons_succ])
         refine' wpAnyH_take (i := 6) (v := ?v83) ?a83 ?b83 ?c83 ?d83 ?e83 ?f83 ?g83 ?z83
         case a83 => (simp only [List.getElem?_toArray, List.getElem?_cons_succ, List.getElem?_cons_zero]; try rfl)
         case b83 | c83 | d83 => kernel_rfl
         case e83 => exact fun _ _ _ h => h
         case f83 => first | exact Or.inl ⟨by rfl, by (intro w hSw; (try dsimp only at hSw); go_simp; try rfl)⟩ | exact Or.inr ⟨by rfl, rfl⟩
         case g83 => assumption
         (try simp only [Act.put, List.setIfInBounds_toArray, List.set_cons_zero, List.set_cons_succ])
         refine' wpAnyH_take (i := 7) (v := ?v84) ?a84 ?b84 ?c84 ?d84 ?e84 ?f84 ?g84 ?z84
         case a84 => (simp only [List.getElem?_toArray, List.getElem?_cons_succ, List.getElem?_cons_zero]; try rfl)
         case b84 | c84 | d84 => kernel_rfl
         case e84 => exact fun _ _ _ h => h
         case f84 => first | exact Or.inl ⟨by rfl, by (intro w hSw; (try dsimp only at hSw); go_simp; try rfl)⟩ | exact Or.inr ⟨by rfl, rfl⟩
         case g84 => assumption
         (try simp only [Act.put, List.setIfInBounds_toArray, List.set_cons_zero, List.set_cons_succ])
         refine' wpAnyH_take (i := 8) (v := ?v85) ?a85 ?b85 ?c85 ?d85 ?e85 ?f85 ?g85 ?z85
         case a85 => (simp only [List.getElem?_toArray, List.getElem?_cons_succ, List.getElem?_cons_zero]; try rfl)
         case b85 | c85 | d85 => kernel_rfl
         case e85 => exact fun _ _ _ h => h
         case f85 => first | exact Or.inl ⟨by rfl, by (intro w hSw; (try dsimp only at hSw); go_simp; try rfl)⟩ | exact Or.inr ⟨by rfl, rfl⟩
         case g85 => assumption
         (try simp only [Act.put, List.setIfInBounds_toArray, List.set_cons_zero, List.set_cons_succ])
         refine' wpAnyH_take (i := 9) (v := ?v86) ?a86 ?b86 ?c86 ?d86 ?e86 ?f86 ?g86 ?z86
         case a86 => (simp only [List.getElem?_toArray, List.getElem?_cons_succ, List.getElem?_cons_zero]; try rfl)
         case b86 | c86 | d86 => kernel_rfl
         case e86 => exact fun _ _ _ h => h
         case f86 => first | exact Or.inl ⟨by rfl, by (intro w hSw; (try dsimp only at hSw); go_simp; try rfl)⟩ | exact Or.inr ⟨by rfl, rfl⟩
         case g86 => assumption
         (try simp only [Act.put, List.setIfInBounds_toArray, List.set_cons_zero, List.set_cons_succ])
         refine' wpAnyH_take (i := 10) (v := ?v87) ?a87 ?b87 ?c87 ?d87 ?e87 ?f87 ?g87 ?z87
         case a87 => (simp only [List.getElem?_toArray, List.getElem?_cons_succ, List.getElem?_cons_zero]; try rfl)
         case b87 | c87 | d87 => kernel_rfl
         case e87 => exact fun _ _ _ h => h
         case f87 => first | exact Or.inl ⟨by rfl, by (intro w hSw; (try dsimp only at hSw); go_simp; try rfl)⟩ | exact Or.inr ⟨by rfl, rfl⟩
         case g87 => assumption
         (try simp only [Act.put, List.setIfInBounds_toArray, List.set_cons_zero, List.set_cons_succ])
         refine' wpAnyH_take (i := 11) (v := ?v88) ?a88 ?b88 ?c88 ?d88 ?e88 ?f88 ?g88 ?z88
         case a88 => (simp only [List.getElem?_toArray, List.getElem?_cons_succ, List.getElem?_cons_zero]; try rfl)
         case b88 | c88 | d88 => kernel_rfl
         case e88 => exact fun _ _ _ h => h
         case f88 => first | exact Or.inl ⟨by rfl, by (intro w hSw; (try dsimp only at hSw); go_simp; try rfl)⟩ | exact Or.inr ⟨by rfl, rfl⟩
         case g88 => assumption
         (try simp only [Act.put, List.setIfInBounds_toArray, List.set_cons_zero, List.set_cons_succ])
         refine' wpAnyH_take (i := 12) (v := ?v89) ?a89 ?b89 ?c89 ?d89 ?e89 ?f89 ?g89 ?z89
         case a89 => (simp only [List.getElem?_toArray, List.getElem?_cons_succ, List.getElem?_cons_zero]; try rfl)
         case b89 | c89 | d89 => kernel_rfl
         case e89 => exact fun _ _ _ h => h
         case f89 => first | exact Or.inl ⟨by rfl, by (intro w hSw; (try dsimp only at hSw); go_simp; try rfl)⟩ | exact Or.inr ⟨by rfl, rfl⟩
         case g89 => assumption
         (try simp only [Act.put, List.setIfInBounds_toArray, List.set_cons_zero, List.set_cons_succ])
         refine' wpAnyH_take (i := 13) (v := ?v90) ?a90 ?b90 ?c90 ?d90 ?e90 ?f90 ?g90 ?z90
         case a90 => (simp only [List.getElem?_toArray, List.getElem?_cons_succ, List.getElem?_cons_zero]; try rfl)
         case b90 | c90 | d90 => kernel_rfl
         case e90 => exact fun _ _ _ h => h
         case f90 => first | exact Or.inl ⟨by rfl, by (intro w hSw; (try dsimp only at hSw); go_simp; try rfl)⟩ | exact Or.inr ⟨by rfl, rfl⟩
         case g90 => assumption
         (try simp only [Act.put, List.setIfInBounds_toArray, List.set_cons_zero, List.set_cons_succ])
         refine' wpAnyH_take (i := 14) (v := ?v91) ?a91 ?b91 ?c91 ?d91 ?e91 ?f91 ?g91 ?z91
         case a91 => (simp only [List.getElem?_toArray, List.getElem?_cons_succ, List.getElem?_cons_zero]; try rfl)
         case b91 | c91 | d91 => kernel_rfl
         case e91 => exact fun _ _ _ h => h
         case f91 => first | exact Or.inl ⟨by rfl, by (intro w hSw; (try dsimp only at hSw); go_simp; try rfl)⟩ | exact Or.inr ⟨by rfl, rfl⟩
         case g91 => assumption
         (try simp only [Act.put, List.setIfInBounds_toArray, List.set_cons_zero, List.set_cons_succ])
         refine' wpAnyH_take (i := 15) (v := ?v92) ?a92 ?b92 ?c92 ?d92 ?e92 ?f92 ?g92 ?z92
         case a92 => (simp only [List.getElem?_toArray, List.getElem?_cons_succ, List.getElem?_cons_zero]; try rfl)
         case b92 | c92 | d92 => kernel_rfl
         case e92 => exact fun _ _ _ h => h
         case f92 => first | exact Or.inl ⟨by rfl, by (intro w hSw; (try dsimp only at hSw); go_simp; try rfl)⟩ | exact Or.inr ⟨by rfl, rfl⟩
         case g92 => assumption
         (try simp only [Act.put, List.setIfInBounds_toArray, List.set_cons_zero, List.set_cons_succ])
         refine' wpAnyH_take (i := 16) (v := ?v93) ?a93 ?b93 ?c93 ?d93 ?e93 ?f93 ?g93 ?z93
         case a93 => (simp only [List.getElem?_toArray, List.getElem?_cons_succ, List.getElem?_cons_zero]; try rfl)
         case b93 | c93 | d93 => kernel_rfl
         case e93 => exact fun _ _ _ h => h
         case f93 => first | exact Or.inl ⟨by rfl, by (intro w hSw; (try dsimp only at hSw); go_simp; try rfl)⟩ | exact Or.inr ⟨by rfl, rfl⟩
         case g93 => assumption
         (try simp only [Act.put, List.setIfInBounds_toArray, List.set_cons_zero, List.set_cons_succ])
         refine' wpAnyH_take (i := 17) (v := ?v94) ?a94 ?b94 ?c94 ?d94 ?e94 ?f94 ?g94 ?z94
         case a94 => (simp only [List.getElem?_toArray, List.getElem?_cons_succ, List.getElem?_cons_zero]; try rfl)
         case b94 | c94 | d94 => kernel_rfl
         case e94 => exact fun _ _ _ h => h
         case f94 => first | exact Or.inl ⟨by rfl, by (intro w hSw; (try dsimp only at hSw); go_simp; try rfl)⟩ | exact Or.inr ⟨by rfl, rfl⟩
         case g94 => assumption
         (try simp only [Act.put, List.setIfInBounds_toArray, List.set_cons_zero, List.set_cons_succ])
         refine' wpAnyH_take (i := 18) (v := ?v95) ?a95 ?b95 ?c95 ?d95 ?e95 ?f95 ?g95 ?z95
         case a95 => (simp only [List.getElem?_toArray, List.getElem?_cons_succ, List.getElem?_cons_zero]; try rfl)
         case b95 | c95 | d95 => kernel_rfl
         case e95 => exact fun _ _ _ h => h
         case f95 => first | exact Or.inl ⟨by rfl, by (intro w hSw; (try dsimp only at hSw); go_simp; try rfl)⟩ | exact Or.inr ⟨by rfl, rfl⟩
         case g95 => assumption
         (try simp only [Act.put, List.setIfInBounds_toArray, List.set_cons_zero, List.set_cons_succ])
         refine' wpAnyH_take (i := 19) (v := ?v96) ?a96 ?b96 ?c96 ?d96 ?e96 ?f96 ?g96 ?z96
         case a96 => (simp only [List.getElem?_toArray, List.getElem?_cons_succ, List.getElem?_cons_zero]; try rfl)
         case b96 | c96 | d96 => kernel_rfl
         case e96 => exact fun _ _ _ h => h
         case f96 => first | exact Or.inl ⟨by rfl, by (intro w hSw; (try dsimp only at hSw); go_simp; try rfl)⟩ | exact Or.inr ⟨by rfl, rfl⟩
         case g96 => assumption
         (try simp only [Act.put, List.setIfInBounds_toArray, List.set_cons_zero, List.set_cons_succ])
         refine wpAnyH_ready (rs := [20]) (by kernel_rfl) (by simp) ?_
         refine' (AllReadyH.cons (i := 20) ?ho20x97 (fun K hK => ?st20x97) AllReadyH.nil)
         case ho20x97 => (simp only [List.getElem?_toArray, List.getElem?_cons_succ, List.getElem?_cons_zero]; try rfl)
         case st20x97 =>
          go_simp
          refine (stampCmp_any _ _ ⟨ae, al⟩ ⟨be, bl⟩ _ (hva.out.below (by first | exact hb | go_grown)) (hvb.out.below (by first | exact hb | go_grown))).mono ?_; rw [hKc.out]; rintro e_ w_ ⟨rfl, hb_⟩; replace hb := chainB (B := w8.heap.size) (a := w8) (by go_grown) hb_ (by have := hb.size; first | omega | (simp; done) | (simp; omega)); clear hb_
          refine hK.out _ _ ?_ (fun hHeld => ?_)
          · exact ⟨(hba.out.below hb).cell 0 rfl, (hba.out.below hb).cell 1 rfl, (hbb.out.below hb).cell 0 rfl, (hbb.out.below hb).cell 1 rfl, (hbc.out.below hb).cell 0 rfl, (hbc.out.below hb).cell 1 rfl⟩
          clear hK K
          (try simp only [Act.put, List.setIfInBounds_toArray, List.set_cons_zero, List.set_cons_succ])
          refine' wpAnyH_take (i := 21) (v := ?v98) ?a98 ?b98 ?c98 ?d98 ?e98 ?f98 ?g98 ?z98
          case a98 => (simp only [List.getElem?_toArray, List.getElem?_cons_succ, List.getElem?_cons_zero]; try rfl)
          case b98 | c98 | d98 => kernel_rfl
          case e98 => exact fun _ _ _ h => h
          case f98 => first | exact Or.inl ⟨by rfl, by (intro w hSw; (try dsimp only at hSw); go_simp; try rfl)⟩ | exact Or.inr ⟨by rfl, rfl⟩
          case g98 => assumption
          (try simp only [Act.put, List.setIfInBounds_toArray, List.set_cons_zero, List.set_cons_succ])
          refine' wpAnyH_take (i := 22) (v := ?v99) ?a99 ?b99 ?c99 ?d99 ?e99 ?f99 ?g99 ?z99
          case a99 => (simp only [List.getElem?_toArray, List.getElem?_cons_succ, List.getElem?_cons_zero]; try rfl)
          case b99 | c99 | d99 => kernel_rfl
          case e99 => exact fun _ _ _ h => h
          case f99 => first | exact Or.inl ⟨by rfl, by (intro w hSw; (try dsimp only at hSw); go_simp; try rfl)⟩ | exact Or.inr ⟨by rfl, rfl⟩
          case g99 => assumption
          (try simp only [Act.put, List.setIfInBounds_toArray, List.set_cons_zero, List.set_cons_succ])
          refine' wpAnyH_take (i := 23) (v := ?v100) ?a100 ?b100 ?c100 ?d100 ?e100 ?f100 ?g100 ?z100
          case a100 => (simp only [List.getElem?_toArray, List.getElem?_cons_succ, List.getElem?_cons_zero]; try rfl)
          case b100 | c100 | d100 => kernel_rfl
          case e100 => exact fun _ _ _ h => h
          case f100 => first | exact Or.inl ⟨by rfl, by (intro w hSw; (try dsimp only at hSw); go_simp; try rfl)⟩ | exact Or.inr ⟨by rfl, rfl⟩
          case g100 => assumption
          (try simp only [Act.put, List.setIfInBounds_toArray, List.set_cons_zero, List.set_cons_succ])
          refine' wpAnyH_take (i := 24) (v := ?v101) ?a101 ?b101 ?c101 ?d101 ?e101 ?f101 ?g101 ?z101
          case a101 => (simp only [List.getElem?_toArray, List.getElem?_cons_succ, List.getElem?_cons_zero]; try rfl)
          case b101 | c101 | d101 => kernel_rfl
          case e101 => exact fun _ _ _ h => h
          case f101 => first | exact Or.inl ⟨by rfl, by (intro w hSw; (try dsimp only at hSw); go_simp; try rfl)⟩ | exact Or.inr ⟨by rfl, rfl⟩
          case g101 => assumption
          (try simp only [Act.put, List.setIfInBounds_toArray, List.set_cons_zero, List.set_cons_succ])
          refine' wpAnyH_take (i := 25) (v := ?v102) ?a102 ?b102 ?c102 ?d102 ?e102 ?f102 ?g102 ?z102
          case a102 => (simp only [List.getElem?_toArray, List.getElem?_cons_succ, List.getElem?_cons_zero]; try rfl)
          case b102 | c102 | d102 => kernel_rfl
          case e102 => exact fun _ _ _ h => h
          case f102 => first | exact Or.inl ⟨by rfl, by (intro w hSw; (try dsimp only at hSw); go_simp; try rfl)⟩ | exact Or.inr ⟨by rfl, rfl⟩
          case g102 => assumption
          (try simp only [Act.put, List.setIfInBounds_toArray, List.set_cons_zero, List.set_cons_succ])
          refine' wpAnyH_take (i := 26) (v := ?v103) ?a103 ?b103 ?c103 ?d103 ?e103 ?f103 ?g103 ?z103
          case a103 => (simp only [List.getElem?_toArray, List.getElem?_cons_succ, List.getElem?_cons_zero]; try rfl)
          case b103 | c103 | d103 => kernel_rfl
          case e103 => exact fun _ _ _ h => h
          case f103 => first | exact Or.inl ⟨by rfl, by (intro w hSw; (try dsimp only at hSw); go_simp; try rfl)⟩ | exact Or.inr ⟨by rfl, rfl⟩
          case g103 => assumption
          (try simp only [Act.put, List.setIfInBounds_toArray, List.set_cons_zero, List.set_cons_succ])
          refine' wpAnyH_take (i := 27) (v := ?v104) ?a104 ?b104 ?c104 ?d104 ?e104 ?f104 ?g104 ?z104
          case a104 => (simp only [List.getElem?_toArray, List.getElem?_cons_succ, List.getElem?_cons_zero]; try rfl)
          case b104 | c104 | d104 => kernel_rfl
          case e104 => exact fun _ _ _ h => h
          case f104 => first | exact Or.inl ⟨by rfl, by (intro w hSw; (try dsimp only at hSw); go_simp; try rfl)⟩ | exact Or.inr ⟨by rfl, rfl⟩
          case g104 => assumption
          (try simp only [Act.put, List.setIfInBounds_toArray, List.set_cons_zero, List.set_cons_succ])
          refine' wpAnyH_take (i := 28) (v := ?v105) ?a105 ?b105 ?c105 ?d105 ?e105 ?f105 ?g105 ?z105
          case a105 => (simp only [List.getElem?_toArray, List.getElem?_cons_succ, List.getElem?_cons_zero]; try rfl)
          case b105 | c105 | d105 => kernel_rfl
          case e105 => exact fun _ _ _ h => h
          case f105 => first | exact Or.inl ⟨by rfl, by (intro w hSw; (try dsimp only at hSw); go_simp; try rfl)⟩ | exact Or.inr ⟨by rfl, rfl⟩
          case g105 => assumption
          (try simp only [Act.put, List.setIfInBounds_toArray, List.set_cons_zero, List.set_cons_succ])
          refine' wpAnyH_take (i := 31) (v := ?v106) ?a106 ?b106 ?c106 ?d106 ?e106 ?f106 ?g106 ?z106
          case a106 => (simp only [List.getElem?_toArray, List.getElem?_cons_succ, List.getElem?_cons_zero]; try rfl)
          case b106 | c106 | d106 => kernel_rfl
          case e106 => exact fun _ _ _ h => h
          case f106 => first | exact Or.inl ⟨by rfl, by (intro w hSw; (try dsimp only at hSw); go_simp; try rfl)⟩ | exact Or.inr ⟨by rfl, rfl⟩
          case g106 => assumption
          (try simp only [Act.put, List.setIfInBounds_toArray, List.set_cons_zero, List.set_cons_succ])
          refine' wpAnyH_take (i := 32) (v := ?v107) ?a107 ?b107 ?c107 ?d107 ?e107 ?f107 ?g107 ?z107
          case a107 => (simp only [List.getElem?_toArray, List.getElem?_cons_succ, List.getElem?_cons_zero]; try rfl)
          case b107 | c107 | d107 => kernel_rfl
          case e107 => exact fun _ _ _ h => h
          case f107 => first | exact Or.inl ⟨by rfl, by (intro w hSw; (try dsimp only at hSw); go_simp; try rfl)⟩ | exact Or.inr ⟨by rfl, rfl⟩
          case g107 => assumption
          (try simp only [Act.put, List.setIfInBounds_toArray, List.set_cons_zero, List.set_cons_succ])
          refine wpAnyH_ready (rs := [29]) (by kernel_rfl) (by simp) ?_
          refine' (AllReadyH.cons (i := 29) ?ho29x108 (fun K hK => ?st29x108) AllReadyH.nil)
          case ho29x108 => (simp only [List.getElem?_toArray, List.getElem?_cons_succ, List.getElem?_cons_zero]; try rfl)
          case st29x108 =>
           go_simp
           refine (leq_any _ _ ⟨be, bl⟩ ⟨ae, al⟩ _ (hvb.out.below (by first | exact hb | go_grown)) (hva.out.below (by first | exact hb | go_grown))).mono ?_; rw [hM.out]; rintro e_ w_ ⟨rfl, hb_⟩; replace hb := chainB (B := w8.heap.size) (a := w8) (by go_grown) hb_ (by have := hb.size; first | omega | (simp; done) | (simp; omega)); clear hb_
           refine hK.out _ _ ?_ (fun hHeld => ?_)
           · exact ⟨(hba.out.below hb).cell 0 rfl, (hba.out.below hb).cell 1 rfl, (hbb.out.below hb).cell 0 rfl, (hbb.out.below hb).cell 1 rfl, (hbc.out.below hb).cell 0 rfl, (hbc.out.below hb).cell 1 rfl⟩
           clear hK K
           (try simp only [Act.put, List.setIfInBounds_toArray, List.set_cons_zero, List.set_cons_succ])
           refine' wpAnyH_take (i := 30) (v := ?v109) ?a109 ?b109 ?c109 ?d109 ?e109 ?f109 ?g109 ?z109
           case a109 => (simp only [List.getElem?_toArray, List.getElem?_cons_succ, List.getElem?_cons_zero]; try rfl)
           case b109 | c109 | d109 => kernel_rfl
           case e109 => exact fun _ _ _ h => h
           case f109 => first | exact Or.inl ⟨by rfl, by (intro w hSw; (try dsimp only at hSw); go_simp; try rfl)⟩ | exact Or.inr ⟨by rfl, rfl⟩
           case g109 => assumption
           (try simp only [Act.put, List.setIfInBounds_toArray, List.set_cons_zero, List.set_cons_succ])
           refine wpAnyH_ready (rs := [33]) (by kernel_rfl) (by simp) ?_
           refine' (AllReadyH.cons (i := 33) ?ho33x110 (fun K hK => ?st33x110) AllReadyH.nil)
           case ho33x110 => (simp only [List.getElem?_toArray, List.getElem?_cons_succ, List.getElem?_cons_zero]; try rfl)
           case st33x110 =>
            go_simp
            refine (stampCmp_any _ _ ⟨ae, al⟩ ⟨be, bl⟩ _ (hva.out.below (by first | exact hb | go_grown)) (hvb.out.below (by first | exact hb | go_grown))).mono ?_; rw [hKc.out]; rintro e_ w_ ⟨rfl, hb_⟩; replace hb := chainB (B := w8.heap.size) (a := w8) (by go_grown) hb_ (by have := hb.size; first | omega | (simp; done) | (simp; omega)); clear hb_
            refine hK.out _ _ ?_ (fun hHeld => ?_)
            · exact ⟨(hba.out.below hb).cell 0 rfl, (hba.out.below hb).cell 1 rfl, (hbb.out.below hb).cell 0 rfl, (hbb.out.below hb).cell 1 rfl, (hbc.out.below hb).cell 0 rfl, (hbc.out.below hb).cell 1 rfl⟩
            clear hK K
            (try simp only [Act.put, List.setIfInBounds_toArray, List.set_cons_zero, List.set_cons_succ])
            refine' wpAnyH_take (i := 34) (v := ?v111) ?a111 ?b111 ?c111 ?d111 ?e111 ?f111 ?g111 ?z111
            case a111 => (simp only [List.getElem?_toArray, List.getElem?_cons_succ, List.getElem?_cons_zero]; try rfl)
            case b111 | c111 | d111 => kernel_rfl
            case e111 => exact fun _ _ _ h => h
            case f111 => first | exact Or.inl ⟨by rfl, by (intro w hSw; (try dsimp only at hSw); go_simp; try rfl)⟩ | exact Or.inr ⟨by rfl, rfl⟩
            case g111 => assumption
            (try simp only [Act.put, List.setIfInBounds_toArray, List.set_cons_zero, List.set_cons_succ])
            refine' wpAnyH_take (i := 35) (v := ?v112) ?a112 ?b112 ?c112 ?d112 ?e112 ?f112 ?g112 ?z112
            case a112 => (simp only [List.getElem?_toArray, List.getElem?_cons_succ, List.getElem?_cons_zero]; try rfl)
            case b112 | c112 | d112 => kernel_rfl
            case e112 => exact fun _ _ _ h => h
            case f112 => first | exact Or.inl ⟨by rfl, by (intro w hSw; (try dsimp only at hSw); go_simp; try rfl)⟩ | exact Or.inr ⟨by rfl, rfl⟩
            case g112 => assumption
            (try simp only [Act.put, List.setIfInBounds_toArray, List.set_cons_zero, List.set_cons_succ])
            refine' wpAnyH_take (i := 36) (v := ?v113) ?a113 ?b113 ?c113 ?d113 ?e113 ?f113 ?g113 ?z113
            case a113 => (simp only [List.getElem?_toArray, List.getElem?_cons_succ, List.getElem?_cons_zero]; try rfl)
            case b113 | c113 | d113 => kernel_rfl
            case e113 => exact fun _ _ _ h => h
            case f113 => first | exact Or.inl ⟨by rfl, by (intro w hSw; (try dsimp only at hSw); go_simp; try rfl)⟩ | exact Or.inr ⟨by rfl, rfl⟩
            case g113 => assumption
            (try simp only [Act.put, List.setIfInBounds_toArray, List.set_cons_zero, List.set_cons_succ])
            refine' wpAnyH_take (i := 37) (v := ?v114) ?a114 ?b114 ?c114 ?d114 ?e114 ?f114 ?g114 ?z114
            case a114 => (simp only [List.getElem?_toArray, List.getElem?_cons_succ, List.getElem?_cons_zero]; try rfl)
            case b114 | c114 | d114 => kernel_rfl
            case e114 => exact fun _ _ _ h => h
            case f114 => first | exact Or.inl ⟨by rfl, by (intro w hSw; (try dsimp only at hSw); go_simp; try rfl)⟩ | exact Or.inr ⟨by rfl, rfl⟩
            case g114 => assumption
            (try simp only [Act.put, List.setIfInBounds_toArray, List.set_cons_zero, List.set_cons_succ])
            refine wpAnyH_done (by kernel_rfl) ?_ _
            refine NoPanic.normal ?_
            go_wp2_with fail
            go_meet
            exact ⟨by simp_all, chainB hcut0_.out hb hcut0_.out.size⟩
    case rest =>
      obtain ⟨w9, rfl⟩ : ∃ x, x = wc := ⟨_, rfl⟩
      obtain ⟨rfl, hb_⟩ := hcut
      clear a0_ a1_ b0_ b1_ c0_ c1_ X0_ X1_ Y0_ Y1_ al_ bl_ cl_ Xl_ Yl_
      have hc_ : Below w8.heap.size w8 w9 := chainB (by first | exact Below.refl _ _ | go_grown) hb_ (by first | exact Nat.le_refl _ | (simp; done) | (simp; omega))
      replace hva := Lib.hid (hva.out.below hc_)
      replace hvb := Lib.hid (hvb.out.below hc_)
      replace hvc := Lib.hid (hvc.out.below hc_)
      replace hba := Lib.hid (hba.out.below hc_)
      replace hbb := Lib.hid (hbb.out.below hc_)
      replace hbc := Lib.hid (hbc.out.below hc_)
      replace hpw := Lib.hid (hpw.out.below hc_)
      replace hvX := Lib.hid (hvX.out.below hc_)
      replace hX := Lib.hid (hX.out.below hc_)
      replace hvY := Lib.hid (hvY.out.below hc_)
      replace hY := Lib.hid (hY.out.below hc_)
      replace hall := Lib.hid (chainB hall.out hc_ hall.out.size)
      clear hc_
      clear hb_
      have a0_ := hba.out.cell 0 rfl; have a1_ := hba.out.cell 1 rfl; have al_ := hba.out.lt
      have b0_ := hbb.out.cell 0 rfl; have b1_ := hbb.out.cell 1 rfl; have bl_ := hbb.out.lt
      have c0_ := hbc.out.cell 0 rfl; have c1_ := hbc.out.cell 1 rfl; have cl_ := hbc.out.lt
      have X0_ := hX.out.cell 0 rfl; have X1_ := hX.out.cell 1 rfl; have Xl_ := hX.out.lt
      have Y0_ := hY.out.cell 0 rfl; have Y1_ := hY.out.cell 1 rfl; have Yl_ := hY.out.lt
      go_wp2_with fail
      clear a0_ a1_ b0_ b1_ c0_ c1_ X0_ X1_ Y0_ Y1_ al_ bl_ cl_ Xl_ Yl_
      refine (leq_any _ _ ⟨ae, al⟩ X _ (hva.out.below (by first | exact Below.refl _ _ | go_grown)) (hvX.out.below (by first | exact Below.refl _ _ | go_grown))).mono ?_
      rw [lXH.out]
      rintro e_ w10 ⟨rfl, hb_⟩
      have hc_ : Below w9.heap.size w9 w10 := chainB (by first | exact Below.refl _ _ | go_grown) hb_ (by first | exact Nat.le_refl _ | (simp; done) | (simp; omega))
      replace hva := Lib.hid (hva.out.below hc_)
      replace hvb := Lib.hid (hvb.out.below hc_)
      replace hvc := Lib.hid (hvc.out.below hc_)
      replace hba := Lib.hid (hba.out.below hc_)
      replace hbb := Lib.hid (hbb.out.below hc_)
      replace hbc := Lib.hid (hbc.out.below hc_)
      replace hpw := Lib.hid (hpw.out.below hc_)
      replace hvX := Lib.hid (hvX.out.below hc_)
      replace hX := Lib.hid (hX.out.below hc_)
      replace hvY := Lib.hid (hvY.out.below hc_)
      replace hY := Lib.hid (hY.out.below hc_)
      replace hall := Lib.hid (chainB hall.out hc_ hall.out.size)
      clear hc_
      clear hb_
      have a0_ := hba.out.cell 0 rfl; have a1_ := hba.out.cell 1 rfl; have al_ := hba.out.lt
      have b0_ := hbb.out.cell 0 rfl; have b1_ := hbb.out.cell 1 rfl; have bl_ := hbb.out.lt
      have c0_ := hbc.out.cell 0 rfl; have c1_ := hbc.out.cell 1 rfl; have cl_ := hbc.out.lt
      have X0_ := hX.out.cell 0 rfl; have X1_ := hX.out.cell 1 rfl; have Xl_ := hX.out.lt
      have Y0_ := hY.out.cell 0 rfl; have Y1_ := hY.out.cell 1 rfl; have Yl_ := hY.out.lt
      go_wp2_with fail
      clear a0_ a1_ b0_ b1_ c0_ c1_ X0_ X1_ Y0_ Y1_ al_ bl_ cl_ Xl_ Yl_
      refine (leq_any _ _ ⟨be, bl⟩ X _ (hvb.out.below (by first | exact Below.refl _ _ | go_grown)) (hvX.out.below (by first | exact Below.refl _ _ | go_grown))).mono ?_
      rw [lXH2.out]
      rintro e_ w11 ⟨rfl, hb_⟩
      have hc_ : Below w10.heap.size w10 w11 := chainB (by first | exact Below.refl _ _ | go_grown) hb_ (by first | exact Nat.le_refl _ | (simp; done) | (simp; omega))
      replace hva := Lib.hid (hva.out.below hc_)
      replace hvb := Lib.hid (hvb.out.below hc_)
      replace hvc := Lib.hid (hvc.out.below hc_)
      replace hba := Lib.hid (hba.out.below hc_)
      replace hbb := Lib.hid (hbb.out.below hc_)
      replace hbc := Lib.hid (hbc.out.below hc_)
      replace hpw := Lib.hid (hpw.out.below hc_)
      replace hvX := Lib.hid (hvX.out.below hc_)
      replace hX := Lib.hid (hX.out.below hc_)
      replace hvY := Lib.hid (hvY.out.below hc_)
      replace hY := Lib.hid (hY.out.below hc_)
      replace hall := Lib.hid (chainB hall.out hc_ hall.out.size)
      clear hc_
      clear hb_
      have a0_ := hba.out.cell 0 rfl; have a1_ := hba.out.cell 1 rfl; have al_ := hba.out.lt
      have b0_ := hbb.out.cell 0 rfl; have b1_ := hbb.out.cell 1 rfl; have bl_ := hbb.out.lt
      have c0_ := hbc.out.cell 0 rfl; have c1_ := hbc.out.cell 1 rfl; have cl_ := hbc.out.lt
      have X0_ := hX.out.cell 0 rfl; have X1_ := hX.out.cell 1 rfl; have Xl_ := hX.out.lt
      have Y0_ := hY.out.cell 0 rfl; have Y1_ := hY.out.cell 1 rfl; have Yl_ := hY.out.lt
      go_wp2_with fail
      clear a0_ a1_ b0_ b1_ c0_ c1_ X0_ X1_ Y0_ Y1_ al_ bl_ cl_ Xl_ Yl_
      refine (leq_any _ _ Y ⟨ae, al⟩ _ (hvY.out.below (by first | exact Below.refl _ _ | go_grown)) (hva.out.below (by first | exact Below.refl _ _ | go_grown))).mono ?_
      rw [lYH.out]
      rintro e_ w12 ⟨rfl, hb_⟩
      have hc_ : Below w11.heap.size w11 w12 := chainB (by first | exact Below.refl _ _ | go_grown) hb_ (by first | exact Nat.le_refl _ | (simp; done) | (simp; omega))
      replace hva := Lib.hid (hva.out.below hc_)
      replace hvb := Lib.hid (hvb.out.below hc_)
      replace hvc := Lib.hid (hvc.out.below hc_)
      replace hba := Lib.hid (hba.out.below hc_)
      replace hbb := Lib.hid (hbb.out.below hc_)
      replace hbc := Lib.hid (hbc.out.below hc_)
      replace hpw := Lib.hid (hpw.out.below hc_)
      replace hvX := Lib.hid (hvX.out.below hc_)
      replace hX := Lib.hid (hX.out.below hc_)
      replace hvY := Lib.hid (hvY.out.below hc_)
      replace hY := Lib.hid (hY.out.below hc_)
      replace hall := Lib.hid (chainB hall.out hc_ hall.out.size)
      clear hc_
      clear hb_
      have a0_ := hba.out.cell 0 rfl; have a1_ := hba.out.cell 1 rfl; have al_ := hba.out.lt
      have b0_ := hbb.out.cell 0 rfl; have b1_ := hbb.out.cell 1 rfl; have bl_ := hbb.out.lt
      have c0_ := hbc.out.cell 0 rfl; have c1_ := hbc.out.cell 1 rfl; have cl_ := hbc.out.lt
      have X0_ := hX.out.cell 0 rfl; have X1_ := hX.out.cell 1 rfl; have Xl_ := hX.out.lt
      have Y0_ := hY.out.cell 0 rfl; have Y1_ := hY.out.cell 1 rfl; have Yl_ := hY.out.lt
      go_wp2_with fail
      clear a0_ a1_ b0_ b1_ c0_ c1_ X0_ X1_ Y0_ Y1_ al_ bl_ cl_ Xl_ Yl_
      refine (leq_any _ _ Y ⟨be, bl⟩ _ (hvY.out.below (by first | exact Below.refl _ _ | go_grown)) (hvb.out.below (by first | exact Below.refl _ _ | go_grown))).mono ?_
      rw [lYH2.out]
      rintro e_ w13 ⟨rfl, hb_⟩
      have hc_ : Below w12.heap.size w12 w13 := chainB (by first | exact Below.refl _ _ | go_grown) hb_ (by first | exact Nat.le_refl _ | (simp; done) | (simp; omega))
      replace hva := Lib.hid (hva.out.below hc_)
      replace hvb := Lib.hid (hvb.out.below hc_)
      replace hvc := Lib.hid (hvc.out.below hc_)
      replace hba := Lib.hid (hba.out.below hc_)
      replace hbb := Lib.hid (hbb.out.below hc_)
      replace hbc := Lib.hid (hbc.out.below hc_)
      replace hpw := Lib.hid (hpw.out.below hc_)
      replace hvX := Lib.hid (hvX.out.below hc_)
      replace hX := Lib.hid (hX.out.below hc_)
      replace hvY := Lib.hid (hvY.out.below hc_)
      replace hY := Lib.hid (hY.out.below hc_)
      replace hall := Lib.hid (chainB hall.out hc_ hall.out.size)
      clear hc_
      clear hb_
      have a0_ := hba.out.cell 0 rfl; have a1_ := hba.out.cell 1 rfl; have al_ := hba.out.lt
      have b0_ := hbb.out.cell 0 rfl; have b1_ := hbb.out.cell 1 rfl; have bl_ := hbb.out.lt
      have c0_ := hbc.out.cell 0 rfl; have c1_ := hbc.out.cell 1 rfl; have cl_ := hbc.out.lt
      have X0_ := hX.out.cell 0 rfl; have X1_ := hX.out.cell 1 rfl; have Xl_ := hX.out.lt
      have Y0_ := hY.out.cell 0 rfl; have Y1_ := hY.out.cell 1 rfl; have Yl_ := hY.out.lt
      go_upto_region 14 with fail
      go_cut [16] (fun c wx => c = .bool true ∧ Below w13.heap.size w13 wx)
      case first =>
        have hcut0_ := Lib.hid (Below.refl w13.heap.size w13)
        cases L3 with
        | false =>
         cases N1 with
         | false =>
          simp only [Bool.and_true, Bool.true_and, Bool.and_false, Bool.false_and] at hjc hcm
          have hb := Below.refl w13.heap.size w13
          refine wp_region_noPanic ?_
          refine wp_region_held_drew (S := (fun w' => w'.cell? ⟨w.heap.size, 0, none⟩ = some (.int .u64 ae) ∧ w'.cell? ⟨w.heap.size, 1, none⟩ = some (.slice A i ca) ∧ w'.cell? ⟨w.heap.size + 1, 0, none⟩ = some (.int .u64 be) ∧ w'.cell? ⟨w.heap.size + 1, 1, none⟩ = some (.slice B i cb) ∧ w'.cell? ⟨w.heap.size + 1 + 1, 0, none⟩ = some (.int .u64 ce) ∧ w'.cell? ⟨w.heap.size + 1 + 1, 1, none⟩ = some (.slice C i cc) ∧ w'.cell? ⟨w4.heap.size, 0, none⟩ = some (.int .u64 X.e) ∧ w'.cell? ⟨w4.heap.size, 1, none⟩ = some (.slice VX nX cX) ∧ w'.cell? ⟨w5.heap.size, 0, none⟩ = some (.int .u64 Y.e) ∧ w'.cell? ⟨w5.heap.size, 1, none⟩ = some (.slice VY nY cY))) (by kernel_rfl) (⟨a0_, a1_, b0_, b1_, c0_, c1_, X0_, X1_, Y0_, Y1_⟩) (fun hHeld => ?_)
          refine' wpAnyH_take (i := 0) (v := ?v115) ?a115 ?b115 ?c115 ?d115 ?e115 ?f115 ?g115 ?z115
          case a115 => (simp only [List.getElem?_toArray, List.getElem?_cons_succ, List.getElem?_cons_zero]; try rfl)
          case b115 | c115 | d115 => kernel_rfl
          case e115 => exact fun _ _ _ h => h
          case f115 => first | exact Or.inl ⟨by rfl, by (intro w hSw; (try dsimp only at hSw); go_simp; try rfl)⟩ | exact Or.inr ⟨by rfl, rfl⟩
          case g115 => assumption
          (try simp only [Act.put, List.setIfInBounds_toArray, List.set_cons_zero, List.set_cons_succ])
          refine' wpAnyH_take (i := 1) (v := ?v116) ?a116 ?b116 ?c116 ?d116 ?e116 ?f116 ?g116 ?z116
          case a116 => (simp only [List.getElem?_toArray, List.getElem?_cons_succ, List.getElem?_cons_zero]; try rfl)
          case b116 | c116 | d116 => kernel_rfl
          case e116 => exact fun _ _ _ h => h
          case f116 => first | exact Or.inl ⟨by rfl, by (intro w hSw; (try dsimp only at hSw); go_simp; try rfl)⟩ | exact Or.inr ⟨by rfl, rfl⟩
          case g116 => assumption
          (try simp only [Act.put, List.setIfInBounds_toArray, List.set_cons_zero, List.set_cons_succ])
          refine' wpAnyH_take (i := 3) (v := ?v117) ?a117 ?b117 ?c117 ?d117 ?e117 ?f117 ?g117 ?z117
          case a117 => (simp only [List.getElem?_toArray, List.getElem?_cons_succ, List.getElem?_cons_zero]; try rfl)
          case b117 | c117 | d117 => kernel_rfl
          case e117 => exact fun _ _ _ h => h
          case f117 => first | exact Or.inl ⟨by rfl, by (intro w hSw; (try dsimp only at hSw); go_simp; try rfl)⟩ | exact Or.inr ⟨by rfl, rfl⟩
          case g117 => assumption
          (try simp only [Act.put, List.setIfInBounds_toArray, List.set_cons_zero, List.set_cons_succ])
          refine wpAnyH_ready (rs := [2]) (by kernel_rfl) (by simp) ?_
          refine' (AllReadyH.cons (i := 2) ?ho2x118 (fun K hK => ?st2x118) AllReadyH.nil)
          case ho2x118 => (simp only [List.getElem?_toArray, List.getElem?_cons_succ, List.getElem?_cons_zero]; try rfl)
          case st2x118 =>
           go_simp
           refine (leq_any _ _ X ⟨ce, cl⟩ _ (hvX.out.below (by first | exact hb | go_grown)) (hvc.out.below (by first | exact hb | go_grown))).mono ?_; rw [hjc.out]; rintro e_ w_ ⟨rfl, hb_⟩; replace hb := chainB (B := w13.heap.size) (a := w13) (by go_grown) hb_ (by have := hb.size; first | omega | (simp; done) | (simp; omega)); clear hb_
           refine hK.out _ _ ?_ (fun hHeld => ?_)
           · exact ⟨(hba.out.below hb).cell 0 rfl, (hba.out.below hb).cell 1 rfl, (hbb.out.below hb).cell 0 rfl, (hbb.out.below hb).cell 1 rfl, (hbc.out.below hb).cell 0 rfl, (hbc.out.below hb).cell 1 rfl, (hX.out.below hb).cell 0 rfl, (hX.out.below hb).cell 1 rfl, (hY.out.below hb).cell 0 rfl, (hY.out.below hb).cell 1 rfl⟩
           clear hK K
           (try simp only [Act.put, List.setIfInBounds_toArray, List.set_cons_zero, List.set_cons_succ])
           refine' wpAnyH_take (i := 4) (v := ?v119) ?a119 ?b119 ?c119 ?d119 ?e119 ?f119 ?g119 ?z119
           case a119 => (simp only [List.getElem?_toArray, List.getElem?_cons_succ, List.getElem?_cons_zero]; try rfl)
           case b119 | c119 | d119 => kernel_rfl
           case e119 => exact fun _ _ _ h => h
           case f119 => first | exact Or.inl ⟨by rfl, by (intro w hSw; (try dsimp only at hSw); go_simp; try rfl)⟩ | exact Or.inr ⟨by rfl, rfl⟩
           case g119 => assumption
           (try simp only [Act.put, List.setIfInBounds_toArray, List.set_cons_zero, List.set_cons_succ])
           refine' wpAnyH_take (i := 5) (v := undef) ?a120 ?b120 ?c120 ?d120 ?e120 ?f120 ?g120 ?z120
           case a120 => (simp only [List.getElem?_toArray, List.getElem?_cons_succ, List.getElem?_cons_zero]; try rfl)
           case b120 | c120 | d120 => kernel_rfl
           case e120 => exact fun _ _ _ h => h
           case f120 => first | exact Or.inl ⟨by rfl, by (intro w hSw; (try dsimp only at hSw); go_simp; try rfl)⟩ | exact Or.inr ⟨by rfl, rfl⟩
           case g120 => assumption
           (try simp only [Act.put, List.setIfInBounds_toArray, List.set_cons_zero, List.set_cons_succ])
           refine' wpAnyH_take (i := 6) (v := ?v121) ?a121 ?b121 ?c121 ?d121 ?e121 ?f121 ?g121 ?z121
           case a121 => (simp only [List.getElem?_toArray, List.getElem?_cons_succ, List.getElem?_cons_zero]; try rfl)
           case b121 | c121 | d121 => kernel_rfl
           case e121 => exact fun _ _ _ h => h
           case f121 => first | exact Or.inl ⟨by rfl, by (intro w hSw; (try dsimp only at hSw); go_simp; try rfl)⟩ | exact Or.inr ⟨by rfl, rfl⟩
           case g121 => assumption
           (try simp only [Act.put, List.setIfInBounds_toArray, List.set_cons_zero, List.set_cons_succ])
           refine' wpAnyH_take (i := 7) (v := ?v122) ?a122 ?b122 ?c122 ?d122 ?e122 ?f122 ?g122 ?z122
           case a122 => (simp only [List.getElem?_toArray, List.getElem?_cons_succ, List.getElem?_cons_zero]; try rfl)
           case b122 | c122 | d122 => kernel_rfl
           case e122 => exact fun _ _ _ h => h
           case f122 => first | exact Or.inl ⟨by rfl, by (intro w hSw; (try dsimp only at hSw); go_simp; try rfl)⟩ | exact Or.inr ⟨by rfl, rfl⟩
           case g122 => assumption
           (try simp only [Act.put, List.setIfInBounds_toArray, List.set_cons_zero, List.set_cons_succ])
           refine' wpAnyH_take (i := 8) (v := ?v123) ?a123 ?b123 ?c123 ?d123 ?e123 ?f123 ?g123 ?z123
           case a123 => (simp only [List.getElem?_toArray, List.getElem?_cons_succ, List.getElem?_cons_zero]; try rfl)
           case b123 | c123 | d123 => kernel_rfl
           case e123 => exact fun _ _ _ h => h
           case f123 => first | exact Or.inl ⟨by rfl, by (intro w hSw; (try dsimp only at hSw); go_simp; try rfl)⟩ | exact Or.inr ⟨by rfl, rfl⟩
           case g123 => assumption
           (try simp only [Act.put, List.setIfInBounds_toArray, List.set_cons_zero, List.set_cons_succ])
           refine' wpAnyH_take (i := 9) (v := ?v124) ?a124 ?b124 ?c124 ?d124 ?e124 ?f124 ?g124 ?z124
           case a124 => (simp only [List.getElem?_toArray, List.getElem?_cons_succ, List.getElem?_cons_zero]; try rfl)
           case b124 | c124 | d124 => kernel_rfl
           case e124 => exact fun _ _ _ h => h
           case f124 => first | exact Or.inl ⟨by rfl, by (intro w hSw; (try dsimp only at hSw); go_simp; try rfl)⟩ | exact Or.inr ⟨by rfl, rfl⟩
           case g124 => assumption
           (try simp only [Act.put, List.setIfInBounds_toArray, List.set_cons_zero, List.set_cons_succ])
           refine' wpAnyH_take (i := 10) (v := ?v125) ?a125 ?b125 ?c125 ?d125 ?e125 ?f125 ?g125 ?z125
           case a125 => (simp only [List.getElem?_toArray, List.getElem?_cons_succ, List.getElem?_cons_zero]; try rfl)
           case b125 | c125 | d125 => kernel_rfl
           case e125 => exact fun _ _ _ h => h
           case f125 => first | exact Or.inl ⟨by rfl, by (intro w hSw; (try dsimp only at hSw); go_simp; try rfl)⟩ | exact Or.inr ⟨by rfl, rfl⟩
           case g125 => assumption
           (try simp only [Act.put, List.setIfInBounds_toArray, List.set_cons_zero, List.set_cons_succ])
           refine' wpAnyH_take (i := 12) (v := ?v126) ?a126 ?b126 ?c126 ?d126 ?e126 ?f126 ?g126 ?z126
           case a126 => (simp only [List.getElem?_toArray, List.getElem?_cons_succ, List.getElem?_cons_zero]; try rfl)
           case b126 | c126 | d126 => kernel_rfl
           case e126 => exact fun _ _ _ h => h
           case f126 => first | exact Or.inl ⟨by rfl, by (intro w hSw; (try dsimp only at hSw); go_simp; try rfl)⟩ | exact Or.inr ⟨by rfl, rfl⟩
           case g126 => assumption
           (try simp only [Act.put, List.setIfInBounds_toArray, List.set_cons_zero, List.set_cons_succ])
           refine' wpAnyH_take (i := 13) (v := ?v127) ?a127 ?b127 ?c127 ?d127 ?e127 ?f127 ?g127 ?z127
           case a127 => (simp only [List.getElem?_toArray, List.getElem?_cons_succ, List.getElem?_cons_zero]; try rfl)
           case b127 | c127 | d127 => kernel_rfl
           case e127 => exact fun _ _ _ h => h
           case f127 => first | exact Or.inl ⟨by rfl, by (intro w hSw; (try dsimp only at hSw); go_simp; try rfl)⟩ | exact Or.inr ⟨by rfl, rfl⟩
           case g127 => assumption
           (try simp only [Act.put, List.setIfInBounds_toArray, List.set_cons_zero, List.set_cons_succ])
           refine wpAnyH_ready (rs := [11]) (by kernel_rfl) (by simp) ?_
           refine' (AllReadyH.cons (i := 11) ?ho11x128 (fun K hK => ?st11x128) AllReadyH.nil)
           case ho11x128 => (simp only [List.getElem?_toArray, List.getElem?_cons_succ, List.getElem?_cons_zero]; try rfl)
           case st11x128 =>
            go_simp
            refine (leq_any _ _ ⟨ce, cl⟩ Y _ (hvc.out.below (by first | exact hb | go_grown)) (hvY.out.below (by first | exact hb | go_grown))).mono ?_; rw [hcm.out]; rintro e_ w_ ⟨rfl, hb_⟩; replace hb := chainB (B := w13.heap.size) (a := w13) (by go_grown) hb_ (by have := hb.size; first | omega | (simp; done) | (simp; omega)); clear hb_
            refine hK.out _ _ ?_ (fun hHeld => ?_)
            · exact ⟨(hba.out.below hb).cell 0 rfl, (hba.out.below hb).cell 1 rfl, (hbb.out.below hb).cell 0 rfl, (hbb.out.below hb).cell 1 rfl, (hbc.out.below hb).cell 0 rfl, (hbc.out.below hb).cell 1 rfl, (hX.out.below hb).cell 0 rfl, (hX.out.below hb).cell 1 rfl, (hY.out.below hb).cell 0 rfl, (hY.out.below hb).cell 1 rfl⟩
            clear hK K
            (try simp only [Act.put, List.setIfInBounds_toArray, List.set_cons_zero, List.set_cons_succ])
            refine wpAnyH_ready (rs := [14]) (by kernel_rfl) (by simp) ?_
            refine' (AllReadyH.cons (i := 14) ?ho14x129 (fun K hK => ?st14x129) AllReadyH.nil)
            case ho14x129 => (simp only [List.getElem?_toArray, List.getElem?_cons_succ, List.getElem?_cons_zero]; try rfl)
            case st14x129 =>
             go_simp
             refine (leq_any _ _ ⟨ce, cl⟩ ⟨ae, al⟩ _ (hvc.out.below (by first | exact hb | go_grown)) (hva.out.below (by first | exact hb | go_grown))).mono ?_; rw [hN1.out]; rintro e_ w_ ⟨rfl, hb_⟩; replace hb := chainB (B := w13.heap.size) (a := w13) (by go_grown) hb_ (by have := hb.size; first | omega | (simp; done) | (simp; omega)); clear hb_
             refine hK.out _ _ ?_ (fun hHeld => ?_)
             · exact ⟨(hba.out.below hb).cell 0 rfl, (hba.out.below hb).cell 1 rfl, (hbb.out.below hb).cell 0 rfl, (hbb.out.below hb).cell 1 rfl, (hbc.out.below hb).cell 0 rfl, (hbc.out.below hb).cell 1 rfl, (hX.out.below hb).cell 0 rfl, (hX.out.below hb).cell 1 rfl, (hY.out.below hb).cell 0 rfl, (hY.out.below hb).cell 1 rfl⟩
             clear hK K
             (try simp only [Act.put, List.setIfInBounds_toArray, List.set_cons_zero, List.set_cons_succ])
             refine' wpAnyH_take (i := 15) (v := ?v130) ?a130 ?b130 ?c130 ?d130 ?e130 ?f130 ?g130 ?z130
             case a130 => (simp only [List.getElem?_toArray, List.getElem?_cons_succ, List.getElem?_cons_zero]; try rfl)
             case b130 | c130 | d130 => kernel_rfl
             case e130 => exact fun _ _ _ h => h
             case f130 => first | exact Or.inl ⟨by rfl, by (intro w hSw; (try dsimp only at hSw); go_simp; try rfl)⟩ | exact Or.inr ⟨by rfl, rfl⟩
             case g130 => assumption
             (try simp only [Act.put, List.setIfInBounds_toArray, List.set_cons_zero, List.set_cons_succ])
             refine' wpAnyH_take (i := 16) (v := undef) ?a131 ?b131 ?c131 ?d131 ?e131 ?f131 ?g131 ?z131
             case a131 => (simp only [List.getElem?_toArray, List.getElem?_cons_succ, List.getElem?_cons_zero]; try rfl)
             case b131 | c131 | d131 => kernel_rfl
             case e131 => exact fun _ _ _ h => h
             case f131 => first | exact Or.inl ⟨by rfl, by (intro w hSw; (try dsimp only at hSw); go_simp; try rfl)⟩ | exact Or.inr ⟨by rfl, rfl⟩
             case g131 => assumption
             (try simp only [Act.put, List.setIfInBounds_toArray, List.set_cons_zero, List.set_cons_succ])
             refine' wpAnyH_take (i := 17) (v := undef) ?a132 ?b132 ?c132 ?d132 ?e132 ?f132 ?g132 ?z132
             case a132 => (simp only [List.getElem?_toArray, List.getElem?_cons_succ, List.getElem?_cons_zero]; try rfl)
             case b132 | c132 | d132 => kernel_rfl
             case e132 => exact fun _ _ _ h => h
             case f132 => first | exact Or.inl ⟨by rfl, by (intro w hSw; (try dsimp only at hSw); go_simp; try rfl)⟩ | exact Or.inr ⟨by rfl, rfl⟩
             case g132 => assumption
             (try simp only [Act.put, List.setIfInBounds_toArray, List.set_cons_zero, List.set_cons_succ])
             refine' wpAnyH_take (i := 18) (v := undef) ?a133 ?b133 ?c133 ?d133 ?e133 ?f133 ?g133 ?z133
             case a133 => (simp only [List.getElem?_toArray, List.getElem?_cons_succ, List.getElem?_cons_zero]; try rfl)
             case b133 | c133 | d133 => kernel_rfl
             case e133 => exact fun _ _ _ h => h
             case f133 => first | exact Or.inl ⟨by rfl, by (intro w hSw; (try dsimp only at hSw); go_simp; try rfl)⟩ | exact Or.inr ⟨by rfl, rfl⟩
             case g133 => assumption
             (try simp only [Act.put, List.setIfInBounds_toArray, List.set_cons_zero, List.set_cons_succ])
             refine' wpAnyH_take (i := 19) (v := ?v134) ?a134 ?b134 ?c134 ?d134 ?e134 ?f134 ?g134 ?z134
             case a134 => (simp only [List.getElem?_toArray, List.getElem?_cons_succ, List.getElem?_cons_zero]; try rfl)
             case b134 | c134 | d134 => kernel_rfl
             case e134 => exact fun _ _ _ h => h
             case f134 => first | exact Or.inl ⟨by rfl, by (intro w hSw; (try dsimp only at hSw); go_simp; try rfl)⟩ | exact Or.inr ⟨by rfl, rfl⟩
             case g134 => assumption
             (try simp only [Act.put, List.setIfInBounds_toArray, List.set_cons_zero, List.set_cons_succ])
             refine' wpAnyH_take (i := 20) (v := ?v135) ?a135 ?b135 ?c135 ?d135 ?e135 ?f135 ?g135 ?z135
             case a135 => (simp only [List.getElem?_toArray, List.getElem?_cons_succ, List.getElem?_cons_zero]; try rfl)
             case b135 | c135 | d135 => kernel_rfl
             case e135 => exact fun _ _ _ h => h
             case f135 => first | exact Or.inl ⟨by rfl, by (intro w hSw; (try dsimp only at hSw); go_simp; try rfl)⟩ | exact Or.inr ⟨by rfl, rfl⟩
             case g135 => assumption
             (try simp only [Act.put, List.setIfInBounds_toArray, List.set_cons_zero, List.set_cons_succ])
             refine' wpAnyH_take (i := 21) (v := ?v136) ?a136 ?b136 ?c136 ?d136 ?e136 ?f136 ?g136 ?z136
             case a136 => (simp only [List.getElem?_toArray, List.getElem?_cons_succ, List.getElem?_cons_zero]; try rfl)
             case b136 | c136 | d136 => kernel_rfl
             case e136 => exact fun _ _ _ h => h
             case f136 => first | exact Or.inl ⟨by rfl, by (intro w hSw; (try dsimp only at hSw); go_simp; try rfl)⟩ | exact Or.inr ⟨by rfl, rfl⟩
             case g136 => assumption
             (try simp only [Act.put, List.setIfInBounds_toArray, List.set_cons_zero, List.set_cons_succ])
             refine' wpAnyH_take (i := 22) (v := ?v137) ?a137 ?b137 ?c137 ?d137 ?e137 ?f137 ?g137 ?z137
             case a137 => (simp only [List.getElem?_toArray, List.getElem?_cons_succ, List.getElem?_cons_zero]; try rfl)
             case b137 | c137 | d137 => kernel_rfl
             case e137 => exact fun _ _ _ h => h
             case f137 => first | exact Or.inl ⟨by rfl, by (intro w hSw; (try dsimp only at hSw); go_simp; try rfl)⟩ | exact Or.inr ⟨by rfl, rfl⟩
             case g137 => assumption
             (try simp only [Act.put, List.setIfInBounds_toArray, List.set_cons_zero, List.set_cons_succ])
             refine wpAnyH_done (by kernel_rfl) ?_ _
             refine NoPanic.normal ?_
             go_wp2_with fail
             go_meet
             exact ⟨by simp_all, chainB hcut0_.out hb hcut0_.out.size⟩
         | true =>
          cases N2 with
          | false =>
           simp only [Bool.and_true, Bool.true_and, Bool.and_false, Bool.false_and] at hjc hcm
           have hb := Below.refl w13.heap.size w13
           refine wp_region_noPanic ?_
           refine wp_region_held_drew (S := (fun w' => w'.cell? ⟨w.heap.size, 0, none⟩ = some (.int .u64 ae) ∧ w'.cell? ⟨w.heap.size, 1, none⟩ = some (.slice A i ca) ∧ w'.cell? ⟨w.heap.size + 1, 0, none⟩ = some (.int .u64 be) ∧ w'.cell? ⟨w.heap.size + 1, 1, none⟩ = some (.slice B i cb) ∧ w'.cell? ⟨w.heap.size + 1 + 1, 0, none⟩ = some (.int .u64 ce) ∧ w'.cell? ⟨w.heap.size + 1 + 1, 1, none⟩ = some (.slice C i cc) ∧ w'.cell? ⟨w4.heap.size, 0, none⟩ = some (.int .u64 X.e) ∧ w'.cell? ⟨w4.heap.size, 1, none⟩ = some (.slice VX nX cX) ∧ w'.cell? ⟨w5.heap.size, 0, none⟩ = some (.int .u64 Y.e) ∧ w'.cell? ⟨w5.heap.size, 1, none⟩ = some (.slice VY nY cY))) (by kernel_rfl) (⟨a0_, a1_, b0_, b1_, c0_, c1_, X0_, X1_, Y0_, Y1_⟩) (fun hHeld => ?_)
           refine' wpAnyH_take (i := 0) (v := ?v138) ?a138 ?b138 ?c138 ?d138 ?e138 ?f138 ?g138 ?z138
           case a138 => (simp only [List.getElem?_toArray, List.getElem?_cons_succ, List.getElem?_cons_zero]; try rfl)
           case b138 | c138 | d138 => kernel_rfl
           case e138 => exact fun _ _ _ h => h
           case f138 => first | exact Or.inl ⟨by rfl, by (intro w hSw; (try dsimp only at hSw); go_simp; try rfl)⟩ | exact Or.inr ⟨by rfl, rfl⟩
           case g138 => assumption
           (try simp only [Act.put, List.setIfInBounds_toArray, List.set_cons_zero, List.set_cons_succ])
           refine' wpAnyH_take (i := 1) (v := ?v139) ?a139 ?b139 ?c139 ?d139 ?e139 ?f139 ?g139 ?z139
           case a139 => (simp only [List.getElem?_toArray, List.getElem?_cons_succ, List.getElem?_cons_zero]; try rfl)
           case b139 | c139 | d139 => kernel_rfl
           case e139 => exact fun _ _ _ h => h
           case f139 => first | exact Or.inl ⟨by rfl, by (intro w hSw; (try dsimp only at hSw); go_simp; try rfl)⟩ | exact Or.inr ⟨by rfl, rfl⟩
           case g139 => assumption
           (try simp only [Act.put, List.setIfInBounds_toArray, List.set_cons_zero, List.set_cons_succ])
           refine' wpAnyH_take (i := 3) (v := ?v140) ?a140 ?b140 ?c140 ?d140 ?e140 ?f140 ?g140 ?z140
           case a140 => (simp only [List.getElem?_toArray, List.getElem?_cons_succ, List.getElem?_cons_zero]; try rfl)
           case b140 | c140 | d140 => kernel_rfl
           case e140 => exact fun _ _ _ h => h
           case f140 => first | exact Or.inl ⟨by rfl, by (intro w hSw; (try dsimp only at hSw); go_simp; try rfl)⟩ | exact Or.inr ⟨by rfl, rfl⟩
           case g140 => assumption
           (try simp only [Act.put, List.setIfInBounds_toArray, List.set_cons_zero, List.set_cons_succ])
           refine wpAnyH_ready (rs := [2]) (by kernel_rfl) (by simp) ?_
           refine' (AllReadyH.cons (i := 2) ?ho2x141 (fun K hK => ?st2x141) AllReadyH.nil)
           case ho2x141 => (simp only [List.getElem?_toArray, List.getElem?_cons_succ, List.getElem?_cons_zero]; try rfl)
           case st2x141 =>
            go_simp
            refine (leq_any _ _ X ⟨ce, cl⟩ _ (hvX.out.below (by first | exact hb | go_grown)) (hvc.out.below (by first | exact hb | go_grown))).mono ?_; rw [hjc.out]; rintro e_ w_ ⟨rfl, hb_⟩; replace hb := chainB (B := w13.heap.size) (a := w13) (by go_grown) hb_ (by have := hb.size; first | omega | (simp; done) | (simp; omega)); clear hb_
            refine hK.out _ _ ?_ (fun hHeld => ?_)
            · exact ⟨(hba.out.below hb).cell 0 rfl, (hba.out.below hb).cell 1 rfl, (hbb.out.below hb).cell 0 rfl, (hbb.out.below hb).cell 1 rfl, (hbc.out.below hb).cell 0 rfl, (hbc.out.below hb).cell 1 rfl, (hX.out.below hb).cell 0 rfl, (hX.out.below hb).cell 1 rfl, (hY.out.below hb).cell 0 rfl, (hY.out.below hb).cell 1 rfl⟩
            clear hK K
            (try simp only [Act.put, List.setIfInBounds_toArray, List.set_cons_zero, List.set_cons_succ])
            refine' wpAnyH_take (i := 4) (v := ?v142) ?a142 ?b142 ?c142 ?d142 ?e142 ?f142 ?g142 ?z142
            case a142 => (simp only [List.getElem?_toArray, List.getElem?_cons_succ, List.getElem?_cons_zero]; try rfl)
            case b142 | c142 | d142 => kernel_rfl
            case e142 => exact fun _ _ _ h => h
            case f142 => first | exact Or.inl ⟨by rfl, by (intro w hSw; (try dsimp only at hSw); go_simp; try rfl)⟩ | exact Or.inr ⟨by rfl, rfl⟩
            case g142 => assumption
            (try simp only [Act.put, List.setIfInBounds_toArray, List.set_cons_zero, List.set_cons_succ])
            refine' wpAnyH_take (i := 5) (v := undef) ?a143 ?b143 ?c143 ?d143 ?e143 ?f143 ?g143 ?z143
            case a143 => (simp only [List.getElem?_toArray, List.getElem?_cons_succ, List.getElem?_cons_zero]; try rfl)
            case b143 | c143 | d143 => kernel_rfl
            case e143 => exact fun _ _ _ h => h
            case f143 => first | exact Or.inl ⟨by rfl, by (intro w hSw; (try dsimp only at hSw); go_simp; try rfl)⟩ | exact Or.inr ⟨by rfl, rfl⟩
            case g143 => assumption
            (try simp only [Act.put, List.setIfInBounds_toArray, List.set_cons_zero, List.set_cons_succ])
            refine' wpAnyH_take (i := 6) (v := ?v144) ?a144 ?b144 ?c144 ?d144 ?e144 ?f144 ?g144 ?z144
            case a144 => (simp only [List.getElem?_toArray, List.getElem?_cons_succ, List.getElem?_cons_zero]; try rfl)
            case b144 | c144 | d144 => kernel_rfl
            case e144 => exact fun _ _ _ h => h
            case f144 => first | exact Or.inl ⟨by rfl, by (intro w hSw; (try dsimp only at hSw); go_simp; try rfl)⟩ | exact Or.inr ⟨by rfl, rfl⟩
            case g144 => assumption
            (try simp only [Act.put, List.setIfInBounds_toArray, List.set_cons_zero, List.set_cons_succ])
            refine' wpAnyH_take (i := 7) (v := ?v145) ?a145 ?b145 ?c145 ?d145 ?e145 ?f145 ?g145 ?z145
            case a145 => (simp only [List.getElem?_toArray, List.getElem?_cons_succ, List.getElem?_cons_zero]; try rfl)
            case b145 | c145 | d145 => kernel_rfl
            case e145 => exact fun _ _ _ h => h
            case f145 => first | exact Or.inl ⟨by rfl, by (intro w hSw; (try dsimp only at hSw); go_simp; try rfl)⟩ | exact Or.inr ⟨by rfl, rfl⟩
            case g145 => assumption
            (try simp only [Act.put, List.setIfInBounds_toArray, List.set_cons_zero, List.set_cons_succ])
            refine' wpAnyH_take (i := 8) (v := ?v146) ?a146 ?b146 ?c146 ?d146 ?e146 ?f146 ?g146 ?z146
            case a146 => (simp only [List.getElem?_toArray, List.getElem?_cons_succ, List.getElem?_cons_zero]; try rfl)
            case b146 | c146 | d146 => kernel_rfl
            case e146 => exact fun _ _ _ h => h
            case f146 => first | exact Or.inl ⟨by rfl, by (intro w hSw; (try dsimp only at hSw); go_simp; try rfl)⟩ | exact Or.inr ⟨by rfl, rfl⟩
            case g146 => assumption
            (try simp only [Act.put, List.setIfInBounds_toArray, List.set_cons_zero, List.set_cons_succ])
            refine' wpAnyH_take (i := 9) (v := ?v147) ?a147 ?b147 ?c147 ?d147 ?e147 ?f147 ?g147 ?z147
            case a147 => (simp only [List.getElem?_toArray, List.getElem?_cons_succ, List.getElem?_cons_zero]; try rfl)
            case b147 | c147 | d147 => kernel_rfl
            case e147 => exact fun _ _ _ h => h
            case f147 => first | exact Or.inl ⟨by rfl, by (intro w hSw; (try dsimp only at hSw); go_simp; try rfl)⟩ | exact Or.inr ⟨by rfl, rfl⟩
            case g147 => assumption
            (try simp only [Act.put, List.setIfInBounds_toArray, List.set_cons_zero, List.set_cons_succ])
            refine' wpAnyH_take (i := 10) (v := ?v148) ?a148 ?b148 ?c148 ?d148 ?e148 ?f148 ?g148 ?z148
            case a148 => (simp only [List.getElem?_toArray, List.getElem?_cons_succ, List.getElem?_cons_zero]; try rfl)
            case b148 | c148 | d148 => kernel_rfl
            case e148 => exact fun _ _ _ h => h
            case f148 => first | exact Or.inl ⟨by rfl, by (intro w hSw; (try dsimp only at hSw); go_simp; try rfl)⟩ | exact Or.inr ⟨by rfl, rfl⟩
            case g148 => assumption
            (try simp only [Act.put, List.setIfInBounds_toArray, List.set_cons_zero, List.set_cons_succ])
            refine' wpAnyH_take (i := 12) (v := ?v149) ?a149 ?b149 ?c149 ?d149 ?e149 ?f149 ?g149 ?z149
            case a149 => (simp only [List.getElem?_toArray, List.getElem?_cons_succ, List.getElem?_cons_zero]; try rfl)
            case b149 | c149 | d149 => kernel_rfl
            case e149 => exact fun _ _ _ h => h
            case f149 => first | exact Or.inl ⟨by rfl, by (intro w hSw; (try dsimp only at hSw); go_simp; try rfl)⟩ | exact Or.inr ⟨by rfl, rfl⟩
            case g149 => assumption
            (try simp only [Act.put, List.setIfInBounds_toArray, List.set_cons_zero, List.set_cons_succ])
            refine' wpAnyH_take (i := 13) (v := ?v150) ?a150 ?b150 ?c150 ?d150 ?e150 ?f150 ?g150 ?z150
            case a150 => (simp only [List.getElem?_toArray, List.getElem?_cons_succ, List.getElem?_cons_zero]; try rfl)
            case b150 | c150 | d150 => kernel_rfl
            case e150 => exact fun _ _ _ h => h
            case f150 => first | exact Or.inl ⟨by rfl, by (intro w hSw; (try dsimp only at hSw); go_simp; try rfl)⟩ | exact Or.inr ⟨by rfl, rfl⟩
            case g150 => assumption
            (try simp only [Act.put, List.setIfInBounds_toArray, List.set_cons_zero, List.set_cons_succ])
            refine wpAnyH_ready (rs := [11]) (by kernel_rfl) (by simp) ?_
            refine' (AllReadyH.cons (i := 11) ?ho11x151 (fun K hK => ?st11x151) AllReadyH.nil)
            case ho11x151 => (simp only [List.getElem?_toArray, List.getElem?_cons_succ, List.getElem?_cons_zero]; try rfl)
            case st11x151 =>
             go_simp
             refine (leq_any _ _ ⟨ce, cl⟩ Y _ (hvc.out.below (by first | exact hb | go_grown)) (hvY.out.below (by first | exact hb | go_grown))).mono ?_; rw [hcm.out]; rintro e_ w_ ⟨rfl, hb_⟩; replace hb := chainB (B := w13.heap.size) (a := w13) (by go_grown) hb_ (by have := hb.size; first | omega | (simp; done) | (simp; omega)); clear hb_
             refine hK.out _ _ ?_ (fun hHeld => ?_)
             · exact ⟨(hba.out.below hb).cell 0 rfl, (hba.out.below hb).cell 1 rfl, (hbb.out.below hb).cell 0 rfl, (hbb.out.below hb).cell 1 rfl, (hbc.out.below hb).cell 0 rfl, (hbc.out.below hb).cell 1 rfl, (hX.out.below hb).cell 0 rfl, (hX.out.below hb).cell 1 rfl, (hY.out.below hb).cell 0 rfl, (hY.out.below hb).cell 1 rfl⟩
             clear hK K
             (try simp only [Act.put, List.setIfInBounds_toArray, List.set_cons_zero, List.set_cons_succ])
             refine wpAnyH_ready (rs := [14]) (by kernel_rfl) (by simp) ?_
             refine' (AllReadyH.cons (i := 14) ?ho14x152 (fun K hK => ?st14x152) AllReadyH.nil)
             case ho14x152 => (simp only [List.getElem?_toArray, List.getElem?_cons_succ, List.getElem?_cons_zero]; try rfl)
             case st14x152 =>
              go_simp
              refine (leq_any _ _ ⟨ce, cl⟩ ⟨ae, al⟩ _ (hvc.out.below (by first | exact hb | go_grown)) (hva.out.below (by first | exact hb | go_grown))).mono ?_; rw [hN1.out]; rintro e_ w_ ⟨rfl, hb_⟩; replace hb := chainB (B := w13.heap.size) (a := w13) (by go_grown) hb_ (by have := hb.size; first | omega | (simp; done) | (simp; omega)); clear hb_
              refine hK.out _ _ ?_ (fun hHeld => ?_)
              · exact ⟨(hba.out.below hb).cell 0 rfl, (hba.out.below hb).cell 1 rfl, (hbb.out.below hb).cell 0 rfl, (hbb.out.below hb).cell 1 rfl, (hbc.out.below hb).cell 0 rfl, (hbc.out.below hb).cell 1 rfl, (hX.out.below hb).cell 0 rfl, (hX.out.below hb).cell 1 rfl, (hY.out.below hb).cell 0 rfl, (hY.out.below hb).cell 1 rfl⟩
              clear hK K
              (try simp only [Act.put, List.setIfInBounds_toArray, List.set_cons_zero, List.set_cons_succ])
              refine' wpAnyH_take (i := 15) (v := ?v153) ?a153 ?b153 ?c153 ?d153 ?e153 ?f153 ?g153 ?z153
              case a153 => (simp only [List.getElem?_toArray, List.getElem?_cons_succ, List.getElem?_cons_zero]; try rfl)
              case b153 | c153 | d153 => kernel_rfl
              case e153 => exact fun _ _ _ h => h
              case f153 => first | exact Or.inl ⟨by rfl, by (intro w hSw; (try dsimp only at hSw); go_simp; try rfl)⟩ | exact Or.inr ⟨by rfl, rfl⟩
              case g153 => assumption
              (try simp only [Act.put, List.setIfInBounds_toArray, List.set_cons_zero, List.set_cons_succ])
              refine' wpAnyH_take (i := 16) (v := ?v154) ?a154 ?b154 ?c154 ?d154 ?e154 ?f154 ?g154 ?z154
              case a154 => (simp only [List.getElem?_toArray, List.getElem?_cons_succ, List.getElem?_cons_zero]; try rfl)
              case b154 | c154 | d154 => kernel_rfl
              case e154 => exact fun _ _ _ h => h
              case f154 => first | exact Or.inl ⟨by rfl, by (intro w hSw; (try dsimp only at hSw); go_simp; try rfl)⟩ | exact Or.inr ⟨by rfl, rfl⟩
              case g154 => assumption
              (try simp only [Act.put, List.setIfInBounds_toArray, List.set_cons_zero, List.set_cons_succ])
              refine' wpAnyH_take (i := 17) (v := ?v155) ?a155 ?b155 ?c155 ?d155 ?e155 ?f155 ?g155 ?z155
              case a155 => (simp only [List.getElem?_toArray, List.getElem?_cons_succ, List.getElem?_cons_zero]; try rfl)
              case b155 | c155 | d155 => kernel_rfl
              case e155 => exact fun _ _ _ h => h
              case f155 => first | exact Or.inl ⟨by rfl, by (intro w hSw; (try dsimp only at hSw); go_simp; try rfl)⟩ | exact Or.inr ⟨by rfl, rfl⟩
              case g155 => assumption
              (try simp only [Act.put, List.setIfInBounds_toArray, List.set_cons_zero, List.set_cons_succ])
              refine wpAnyH_ready (rs := [18]) (by kernel_rfl) (by simp) ?_
              refine' (AllReadyH.cons (i := 18) ?ho18x156 (fun K hK => ?st18x156) AllReadyH.nil)
              case ho18x156 => (simp only [List.getElem?_toArray, List.getElem?_cons_succ, List.getElem?_cons_zero]; try rfl)
              case st18x156 =>
               go_simp
               refine (leq_any _ _ ⟨ce, cl⟩ ⟨be, bl⟩ _ (hvc.out.below (by first | exact hb | go_grown)) (hvb.out.below (by first | exact hb | go_grown))).mono ?_; rw [hN2.out]; rintro e_ w_ ⟨rfl, hb_⟩; replace hb := chainB (B := w13.heap.size) (a := w13) (by go_grown) hb_ (by have := hb.size; first | omega | (simp; done) | (simp; omega)); clear hb_
               refine hK.out _ _ ?_ (fun hHeld => ?_)
               · exact ⟨(hba.out.below hb).cell 0 rfl, (hba.out.below hb).cell 1 rfl, (hbb.out.below hb).cell 0 rfl, (hbb.out.below hb).cell 1 rfl, (hbc.out.below hb).cell 0 rfl, (hbc.out.below hb).cell 1 rfl, (hX.out.below hb).cell 0 rfl, (hX.out.below hb).cell 1 rfl, (hY.out.below hb).cell 0 rfl, (hY.out.below hb).cell 1 rfl⟩
               clear hK K
               (try simp only [Act.put, List.setIfInBounds_toArray, List.set_cons_zero, List.set_cons_succ])
               refine' wpAnyH_take (i := 19) (v := ?v157) ?a157 ?b157 ?c157 ?d157 ?e157 ?f157 ?g157 ?z157
               case a157 => (simp only [List.getElem?_toArray, List.getElem?_cons_succ, List.getElem?_cons_zero]; try rfl)
               case b157 | c157 | d157 => kernel_rfl
               case e157 => exact fun _ _ _ h => h
               case f157 => first | exact Or.inl ⟨by rfl, by (intro w hSw; (try dsimp only at hSw); go_simp; try rfl)⟩ | exact Or.inr ⟨by rfl, rfl⟩
               case g157 => assumption
               (try simp only [Act.put, List.setIfInBounds_toArray, List.set_cons_zero, List.set_cons_succ])
               refine' wpAnyH_take (i := 20) (v := ?v158) ?a158 ?b158 ?c158 ?d158 ?e158 ?f158 ?g158 ?z158
               case a158 => (simp only [List.getElem?_toArray, List.getElem?_cons_succ, List.getElem?_cons_zero]; try rfl)
               case b158 | c158 | d158 => kernel_rfl
               case e158 => exact fun _ _ _ h => h
               case f158 => first | exact Or.inl ⟨by rfl, by (intro w hSw; (try dsimp only at hSw); go_simp; try rfl)⟩ | exact Or.inr ⟨by rfl, rfl⟩
               case g158 => assumption
               (try simp only [Act.put, List.setIfInBounds_toArray, List.set_cons_zero, List.set_cons_succ])
               refine' wpAnyH_take (i := 21) (v := ?v159) ?a159 ?b159 ?c159 ?d159 ?e159 ?f159 ?g159 ?z159
               case a159 => (simp only [List.getElem?_toArray, List.getElem?_cons_succ, List.getElem?_cons_zero]; try rfl)
               case b159 | c159 | d159 => kernel_rfl
               case e159 => exact fun _ _ _ h => h
               case f159 => first | exact Or.inl ⟨by rfl, by (intro w hSw; (try dsimp only at hSw); go_simp; try rfl)⟩ | exact Or.inr ⟨by rfl, rfl⟩
               case g159 => assumption
               (try simp only [Act.put, List.setIfInBounds_toArray, List.set_cons_zero, List.set_cons_succ])
               refine' wpAnyH_take (i := 22) (v := ?v160) ?a160 ?b160 ?c160 ?d160 ?e160 ?f160 ?g160 ?z160
               case a160 => (simp only [List.getElem?_toArray, List.getElem?_cons_succ, List.getElem?_cons_zero]; try rfl)
               case b160 | c160 | d160 => kernel_rfl
               case e160 => exact fun _ _ _ h => h
               case f160 => first | exact Or.inl ⟨by rfl, by (intro w hSw; (try dsimp only at hSw); go_simp; try rfl)⟩ | exact Or.inr ⟨by rfl, rfl⟩
               case g160 => assumption
               (try simp only [Act.put, List.setIfInBounds_toArray, List.set_cons_zero, List.set_cons_succ])
               refine wpAnyH_done (by kernel_rfl) ?_ _
               refine NoPanic.normal ?_
               go_wp2_with fail
               go_meet
               exact ⟨by simp_all, chainB hcut0_.out hb hcut0_.out.size⟩
          | true =>
           simp only [Bool.and_true, Bool.true_and, Bool.and_false, Bool.false_and] at hjc hcm
           have hb := Below.refl w13.heap.size w13
           refine wp_region_noPanic ?_
           refine wp_region_held_drew (S := (fun w' => w'.cell? ⟨w.heap.size, 0, none⟩ = some (.int .u64 ae) ∧ w'.cell? ⟨w.heap.size, 1, none⟩ = some (.slice A i ca) ∧ w'.cell? ⟨w.heap.size + 1, 0, none⟩ = some (.int .u64 be) ∧ w'.cell? ⟨w.heap.size + 1, 1, none⟩ = some (.slice B i cb) ∧ w'.cell? ⟨w.heap.size + 1 + 1, 0, none⟩ = some (.int .u64 ce) ∧ w'.cell? ⟨w.heap.size + 1 + 1, 1, none⟩ = some (.slice C i cc) ∧ w'.cell? ⟨w4.heap.size, 0, none⟩ = some (.int .u64 X.e) ∧ w'.cell? ⟨w4.heap.size, 1, none⟩ = some (.slice VX nX cX) ∧ w'.cell? ⟨w5.heap.size, 0, none⟩ = some (.int .u64 Y.e) ∧ w'.cell? ⟨w5.heap.size, 1, none⟩ = some (.slice VY nY cY))) (by kernel_rfl) (⟨a0_, a1_, b0_, b1_, c0_, c1_, X0_, X1_, Y0_, Y1_⟩) (fun hHeld => ?_)
           refine' wpAnyH_take (i := 0) (v := ?v161) ?a161 ?b161 ?c161 ?d161 ?e161 ?f161 ?g161 ?z161
           case a161 => (simp only [List.getElem?_toArray, List.getElem?_cons_succ, List.getElem?_cons_zero]; try rfl)
           case b161 | c161 | d161 => kernel_rfl
           case e161 => exact fun _ _ _ h => h
           case f161 => first | exact Or.inl ⟨by rfl, by (intro w hSw; (try dsimp only at hSw); go_simp; try rfl)⟩ | exact Or.inr ⟨by rfl, rfl⟩
           case g161 => assumption
           (try simp only [Act.put, List.setIfInBounds_toArray, List.set_cons_zero, List.set_cons_succ])
           refine' wpAnyH_take (i := 1) (v := ?v162) ?a162 ?b162 ?c162 ?d162 ?e162 ?f162 ?g162 ?z162
           case a162 => (simp only [List.getElem?_toArray, List.getElem?_cons_succ, List.getElem?_cons_zero]; try rfl)
           case b162 | c162 | d162 => kernel_rfl
           case e162 => exact fun _ _ _ h => h
           case f162 => first | exact Or.inl ⟨by rfl, by (intro w hSw; (try dsimp only at hSw); go_simp; try rfl)⟩ | exact Or.inr ⟨by rfl, rfl⟩
           case g162 => assumption
           (try simp only [Act.put, List.setIfInBounds_toArray, List.set_cons_zero, List.set_cons_succ])
           refine' wpAnyH_take (i := 3) (v := ?v163) ?a163 ?b163 ?c163 ?d163 ?e163 ?f163 ?g163 ?z163
           case a163 => (simp only [List.getElem?_toArray, List.getElem?_cons_succ, List.getElem?_cons_zero]; try rfl)
           case b163 | c163 | d163 => kernel_rfl
           case e163 => exact fun _ _ _ h => h
           case f163 => first | exact Or.inl ⟨by rfl, by (intro w hSw; (try dsimp only at hSw); go_simp; try rfl)⟩ | exact Or.inr ⟨by rfl, rfl⟩
           case g163 => assumption
           (try simp only [Act.put, List.setIfInBounds_toArray, List.set_cons_zero, List.set_cons_succ])
           refine wpAnyH_ready (rs := [2]) (by kernel_rfl) (by simp) ?_
           refine' (AllReadyH.cons (i := 2) ?ho2x164 (fun K hK => ?st2x164) AllReadyH.nil)
           case ho2x164 => (simp only [List.getElem?_toArray, List.getElem?_cons_succ, List.getElem?_cons_zero]; try rfl)
           case st2x164 =>
            go_simp
            refine (leq_any _ _ X ⟨ce, cl⟩ _ (hvX.out.below (by first | exact hb | go_grown)) (hvc.out.below (by first | exact hb | go_grown))).mono ?_; rw [hjc.out]; rintro e_ w_ ⟨rfl, hb_⟩; replace hb := chainB (B := w13.heap.size) (a := w13) (by go_grown) hb_ (by have := hb.size; first | omega | (simp; done) | (simp; omega)); clear hb_
            refine hK.out _ _ ?_ (fun hHeld => ?_)
            · exact ⟨(hba.out.below hb).cell 0 rfl, (hba.out.below hb).cell 1 rfl, (hbb.out.below hb).cell 0 rfl, (hbb.out.below hb).cell 1 rfl, (hbc.out.below hb).cell 0 rfl, (hbc.out.below hb).cell 1 rfl, (hX.out.below hb).cell 0 rfl, (hX.out.below hb).cell 1 rfl, (hY.out.below hb).cell 0 rfl, (hY.out.below hb).cell 1 rfl⟩
            clear hK K
            (try simp only [Act.put, List.setIfInBounds_toArray, List.set_cons_zero, List.set_cons_succ])
            refine' wpAnyH_take (i := 4) (v := ?v165) ?a165 ?b165 ?c165 ?d165 ?e165 ?f165 ?g165 ?z165
            case a165 => (simp only [List.getElem?_toArray, List.getElem?_cons_succ, List.getElem?_cons_zero]; try rfl)
            case b165 | c165 | d165 => kernel_rfl
            case e165 => exact fun _ _ _ h => h
            case f165 => first | exact Or.inl ⟨by rfl, by (intro w hSw; (try dsimp only at hSw); go_simp; try rfl)⟩ | exact Or.inr ⟨by rfl, rfl⟩
            case g165 => assumption
            (try simp only [Act.put, List.setIfInBounds_toArray, List.set_cons_zero, List.set_cons_succ])
            refine' wpAnyH_take (i := 5) (v := undef) ?a166 ?b166 ?c166 ?d166 ?e166 ?f166 ?g166 ?z166
            case a166 => (simp only [List.getElem?_toArray, List.getElem?_cons_succ, List.getElem?_cons_zero]; try rfl)
            case b166 | c166 | d166 => kernel_rfl
            case e166 => exact fun _ _ _ h => h
            case f166 => first | exact Or.inl ⟨by rfl, by (intro w hSw; (try dsimp only at hSw); go_simp; try rfl)⟩ | exact Or.inr ⟨by rfl, rfl⟩
            case g166 => assumption
            (try simp only [Act.put, List.setIfInBounds_toArray, List.set_cons_zero, List.set_cons_succ])
            refine' wpAnyH_take (i := 6) (v := ?v167) ?a167 ?b167 ?c167 ?d167 ?e167 ?f167 ?g167 ?z167
            case a167 => (simp only [List.getElem?_toArray, List.getElem?_cons_succ, List.getElem?_cons_zero]; try rfl)
            case b167 | c167 | d167 => kernel_rfl
            case e167 => exact fun _ _ _ h => h
            case f167 => first | exact Or.inl ⟨by rfl, by (intro w hSw; (try dsimp only at hSw); go_simp; try rfl)⟩ | exact Or.inr ⟨by rfl, rfl⟩
            case g167 => assumption
            (try simp only [Act.put, List.setIfInBounds_toArray, List.set_cons_zero, List.set_cons_succ])
            refine' wpAnyH_take (i := 7) (v := ?v168) ?a168 ?b168 ?c168 ?d168 ?e168 ?f168 ?g168 ?z168
            case a168 => (simp only [List.getElem?_toArray, List.getElem?_cons_succ, List.getElem?_cons_zero]; try rfl)
            case b168 | c168 | d168 => kernel_rfl
            case e168 => exact fun _ _ _ h => h
            case f168 => first | exact Or.inl ⟨by rfl, by (intro w hSw; (try dsimp only at hSw); go_simp; try rfl)⟩ | exact Or.inr ⟨by rfl, rfl⟩
            case g168 => assumption
            (try simp only [Act.put, List.setIfInBounds_toArray, List.set_cons_zero, List.set_cons_succ])
            refine' wpAnyH_take (i := 8) (v := ?v169) ?a169 ?b169 ?c169 ?d169 ?e169 ?f169 ?g169 ?z169
            case a169 => (simp only [List.getElem?_toArray, List.getElem?_cons_succ, List.getElem?_cons_zero]; try rfl)
            case b169 | c169 | d169 => kernel_rfl
            case e169 => exact fun _ _ _ h => h
            case f169 => first | exact Or.inl ⟨by rfl, by (intro w hSw; (try dsimp only at hSw); go_simp; try rfl)⟩ | exact Or.inr ⟨by rfl, rfl⟩
            case g169 => assumption
            (try simp only [Act.put, List.setIfInBounds_toArray, List.set_cons_zero, List.set_cons_succ])
            refine' wpAnyH_take (i := 9) (v := ?v170) ?a170 ?b170 ?c170 ?d170 ?e170 ?f170 ?g170 ?z170
            case a170 => (simp only [List.getElem?_toArray, List.getElem?_cons_succ, List.getElem?_cons_zero]; try rfl)
            case b170 | c170 | d170 => kernel_rfl
            case e170 => exact fun _ _ _ h => h
            case f170 => first | exact Or.inl ⟨by rfl, by (intro w hSw; (try dsimp only at hSw); go_simp; try rfl)⟩ | exact Or.inr ⟨by rfl, rfl⟩
            case g170 => assumption
            (try simp only [Act.put, List.setIfInBounds_toArray, List.set_cons_zero, List.set_cons_succ])
            refine' wpAnyH_take (i := 10) (v := ?v171) ?a171 ?b171 ?c171 ?d171 ?e171 ?f171 ?g171 ?z171
            case a171 => (simp only [List.getElem?_toArray, List.getElem?_cons_succ, List.getElem?_cons_zero]; try rfl)
            case b171 | c171 | d171 => kernel_rfl
            case e171 => exact fun _ _ _ h => h
            case f171 => first | exact Or.inl ⟨by rfl, by (intro w hSw; (try dsimp only at hSw); go_simp; try rfl)⟩ | exact Or.inr ⟨by rfl, rfl⟩
            case g171 => assumption
            (try simp only [Act.put, List.setIfInBounds_toArray, List.set_cons_zero, List.set_cons_succ])
            refine' wpAnyH_take (i := 12) (v := ?v172) ?a172 ?b172 ?c172 ?d172 ?e172 ?f172 ?g172 ?z172
            case a172 => (simp only [List.getElem?_toArray, List.getElem?_cons_succ, List.getElem?_cons_zero]; try rfl)
            case b172 | c172 | d172 => kernel_rfl
            case e172 => exact fun _ _ _ h => h
            case f172 => first | exact Or.inl ⟨by rfl, by (intro w hSw; (try dsimp only at hSw); go_simp; try rfl)⟩ | exact Or.inr ⟨by rfl, rfl⟩
            case g172 => assumption
            (try simp only [Act.put, List.setIfInBounds_toArray, List.set_cons_zero, List.set_cons_succ])
            refine' wpAnyH_take (i := 13) (v := ?v173) ?a173 ?b173 ?c173 ?d173 ?e173 ?f173 ?g173 ?z173
            case a173 => (simp only [List.getElem?_toArray, List.getElem?_cons_succ, List.getElem?_cons_zero]; try rfl)
            case b173 | c173 | d173 => kernel_rfl
            case e173 => exact fun _ _ _ h => h
            case f173 => first | exact Or.inl ⟨by rfl, by (intro w hSw; (try dsimp only at hSw); go_simp; try rfl)⟩ | exact Or.inr ⟨by rfl, rfl⟩
            case g173 => assumption
            (try simp only [Act.put, List.setIfInBounds_toArray, List.set_cons_zero, List.set_cons_succ])
            refine wpAnyH_ready (rs := [11]) (by kernel_rfl) (by simp) ?_
            refine' (AllReadyH.cons (i := 11) ?ho11x174 (fun K hK => ?st11x174) AllReadyH.nil)
            case ho11x174 => (simp only [List.getElem?_toArray, List.getElem?_cons_succ, List.getElem?_cons_zero]; try rfl)
            case st11x174 =>
             go_simp
             refine (leq_any _ _ ⟨ce, cl⟩ Y _ (hvc.out.below (by first | exact hb | go_grown)) (hvY.out.below (by first | exact hb | go_grown))).mono ?_; rw [hcm.out]; rintro e_ w_ ⟨rfl, hb_⟩; replace hb := chainB (B := w13.heap.size) (a := w13) (by go_grown) hb_ (by have := hb.size; first | omega | (simp; done) | (simp; omega)); clear hb_
             refine hK.out _ _ ?_ (fun hHeld => ?_)
             · exact ⟨(hba.out.below hb).cell 0 rfl, (hba.out.below hb).cell 1 rfl, (hbb.out.below hb).cell 0 rfl, (hbb.out.below hb).cell 1 rfl, (hbc.out.below hb).cell 0 rfl, (hbc.out.below hb).cell 1 rfl, (hX.out.below hb).cell 0 rfl, (hX.out.below hb).cell 1 rfl, (hY.out.below hb).cell 0 rfl, (hY.out.below hb).cell 1 rfl⟩
             clear hK K
             (try simp only [Act.put, List.setIfInBounds_toArray, List.set_cons_zero, List.set_cons_succ])
             refine wpAnyH_ready (rs := [14]) (by kernel_rfl) (by simp) ?_
             refine' (AllReadyH.cons (i := 14) ?ho14x175 (fun K hK => ?st14x175) AllReadyH.nil)
             case ho14x175 => (simp only [List.getElem?_toArray, List.getElem?_cons_succ, List.getElem?_cons_zero]; try rfl)
             case st14x175 =>
              go_simp
              refine (leq_any _ _ ⟨ce, cl⟩ ⟨ae, al⟩ _ (hvc.out.below (by first | exact hb | go_grown)) (hva.out.below (by first | exact hb | go_grown))).mono ?_; rw [hN1.out]; rintro e_ w_ ⟨rfl, hb_⟩; replace hb := chainB (B := w13.heap.size) (a := w13) (by go_grown) hb_ (by have := hb.size; first | omega | (simp; done) | (simp; omega)); clear hb_
              refine hK.out _ _ ?_ (fun hHeld => ?_)
              · exact ⟨(hba.out.below hb).cell 0 rfl, (hba.out.below hb).cell 1 rfl, (hbb.out.below hb).cell 0 rfl, (hbb.out.below hb).cell 1 rfl, (hbc.out.below hb).cell 0 rfl, (hbc.out.below hb).cell 1 rfl, (hX.out.below hb).cell 0 rfl, (hX.out.below hb).cell 1 rfl, (hY.out.below hb).cell 0 rfl, (hY.out.below hb).cell 1 rfl⟩
              clear hK K
              (try simp only [Act.put, List.setIfInBounds_toArray, List.set_cons_zero, List.set_cons_succ])
              refine' wpAnyH_take (i := 15) (v := ?v176) ?a176 ?b176 ?c176 ?d176 ?e176 ?f176 ?g176 ?z176
              case a176 => (simp only [List.getElem?_toArray, List.getElem?_cons_succ, List.getElem?_cons_zero]; try rfl)
              case b176 | c176 | d176 => kernel_rfl
              case e176 => exact fun _ _ _ h => h
              case f176 => first | exact Or.inl ⟨by rfl, by (intro w hSw; (try dsimp only at hSw); go_simp; try rfl)⟩ | exact Or.inr ⟨by rfl, rfl⟩
              case g176 => assumption
              (try simp only [Act.put, List.setIfInBounds_toArray, List.set_cons_zero, List.set_cons_succ])
              refine' wpAnyH_take (i := 16) (v := ?v177) ?a177 ?b177 ?c177 ?d177 ?e177 ?f177 ?g177 ?z177
              case a177 => (simp only [List.getElem?_toArray, List.getElem?_cons_succ, List.getElem?_cons_zero]; try rfl)
              case b177 | c177 | d177 => kernel_rfl
              case e177 => exact fun _ _ _ h => h
              case f177 => first | exact Or.inl ⟨by rfl, by (intro w hSw; (try dsimp only at hSw); go_simp; try rfl)⟩ | exact Or.inr ⟨by rfl, rfl⟩
              case g177 => assumption
              (try simp only [Act.put, List.setIfInBounds_toArray, List.set_cons_zero, List.set_cons_succ])
              refine' wpAnyH_take (i := 17) (v := ?v178) ?a178 ?b178 ?c178 ?d178 ?e178 ?f178 ?g178 ?z178
              case a178 => (simp only [List.getElem?_toArray, List.getElem?_cons_succ, List.getElem?_cons_zero]; try rfl)
              case b178 | c178 | d178 => kernel_rfl
              case e178 => exact fun _ _ _ h => h
              case f178 => first | exact Or.inl ⟨by rfl, by (intro w hSw; (try dsimp only at hSw); go_simp; try rfl)⟩ | exact Or.inr ⟨by rfl, rfl⟩
              case g178 => assumption
              (try simp only [Act.put, List.setIfInBounds_toArray, List.set_cons_zero, List.set_cons_succ])
              refine wpAnyH_ready (rs := [18]) (by kernel_rfl) (by simp) ?_
              refine' (AllReadyH.cons (i := 18) ?ho18x179 (fun K hK => ?st18x179) AllReadyH.nil)
              case ho18x179 => (simp only [List.getElem?_toArray, List.getElem?_cons_succ, List.getElem?_cons_zero]; try rfl)
              case st18x179 =>
               go_simp
               refine (leq_any _ _ ⟨ce, cl⟩ ⟨be, bl⟩ _ (hvc.out.below (by first | exact hb | go_grown)) (hvb.out.below (by first | exact hb | go_grown))).mono ?_; rw [hN2.out]; rintro e_ w_ ⟨rfl, hb_⟩; replace hb := chainB (B := w13.heap.size) (a := w13) (by go_grown) hb_ (by have := hb.size; first | omega | (simp; done) | (simp; omega)); clear hb_
               refine hK.out _ _ ?_ (fun hHeld => ?_)
               · exact ⟨(hba.out.below hb).cell 0 rfl, (hba.out.below hb).cell 1 rfl, (hbb.out.below hb).cell 0 rfl, (hbb.out.below hb).cell 1 rfl, (hbc.out.below hb).cell 0 rfl, (hbc.out.below hb).cell 1 rfl, (hX.out.below hb).cell 0 rfl, (hX.out.below hb).cell 1 rfl, (hY.out.below hb).cell 0 rfl, (hY.out.below hb).cell 1 rfl⟩
               clear hK K
               (try simp only [Act.put, List.setIfInBounds_toArray, List.set_cons_zero, List.set_cons_succ])
               refine' wpAnyH_take (i := 19) (v := ?v180) ?a180 ?b180 ?c180 ?d180 ?e180 ?f180 ?g180 ?z180
               case a180 => (simp only [List.getElem?_toArray, List.getElem?_cons_succ, List.getElem?_cons_zero]; try rfl)
               case b180 | c180 | d180 => kernel_rfl
               case e180 => exact fun _ _ _ h => h
               case f180 => first | exact Or.inl ⟨by rfl, by (intro w hSw; (try dsimp only at hSw); go_simp; try rfl)⟩ | exact Or.inr ⟨by rfl, rfl⟩
               case g180 => assumption
               (try simp only [Act.put, List.setIfInBounds_toArray, List.set_cons_zero, List.set_cons_succ])
               refine' wpAnyH_take (i := 20) (v := ?v181) ?a181 ?b181 ?c181 ?d181 ?e181 ?f181 ?g181 ?z181
               case a181 => (simp only [List.getElem?_toArray, List.getElem?_cons_succ, List.getElem?_cons_zero]; try rfl)
               case b181 | c181 | d181 => kernel_rfl
               case e181 => exact fun _ _ _ h => h
               case f181 => first | exact Or.inl ⟨by rfl, by (intro w hSw; (try dsimp only at hSw); go_simp; try rfl)⟩ | exact Or.inr ⟨by rfl, rfl⟩
               case g181 => assumption
               (try simp only [Act.put, List.setIfInBounds_toArray, List.set_cons_zero, List.set_cons_succ])
               refine' wpAnyH_take (i := 21) (v := ?v182) ?a182 ?b182 ?c182 ?d182 ?e182 ?f182 ?g182 ?z182
               case a182 => (simp only [List.getElem?_toArray, List.getElem?_cons_succ, List.getElem?_cons_zero]; try rfl)
               case b182 | c182 | d182 => kernel_rfl
               case e182 => exact fun _ _ _ h => h
               case f182 => first | exact Or.inl ⟨by rfl, by (intro w hSw; (try dsimp only at hSw); go_simp; try rfl)⟩ | exact Or.inr ⟨by rfl, rfl⟩
               case g182 => assumption
               (try simp only [Act.put, List.setIfInBounds_toArray, List.set_cons_zero, List.set_cons_succ])
               refine' wpAnyH_take (i := 22) (v := ?v183) ?a183 ?b183 ?c183 ?d183 ?e183 ?f183 ?g183 ?z183
               case a183 => (simp only [List.getElem?_toArray, List.getElem?_cons_succ, List.getElem?_cons_zero]; try rfl)
               case b183 | c183 | d183 => kernel_rfl
               case e183 => exact fun _ _ _ h => h
               case f183 => first | exact Or.inl ⟨by rfl, by (intro w hSw; (try dsimp only at hSw); go_simp; try rfl)⟩ | exact Or.inr ⟨by rfl, rfl⟩
               case g183 => assumption
               (try simp only [Act.put, List.setIfInBounds_toArray, List.set_cons_zero, List.set_cons_succ])
               refine wpAnyH_done (by kernel_rfl) ?_ _
               refine NoPanic.normal ?_
               go_wp2_with fail
               go_meet
               exact ⟨by simp_all, chainB hcut0_.out hb hcut0_.out.size⟩
        | true =>
         cases L2 with
         | false =>
          cases N1 with
          | false =>
           simp only [Bool.and_true, Bool.true_and, Bool.and_false, Bool.false_and] at hjc hcm
           have hb := Below.refl w13.heap.size w13
           refine wp_region_noPanic ?_
           refine wp_region_held_drew (S := (fun w' => w'.cell? ⟨w.heap.size, 0, none⟩ = some (.int .u64 ae) ∧ w'.cell? ⟨w.heap.size, 1, none⟩ = some (.slice A i ca) ∧ w'.cell? ⟨w.heap.size + 1, 0, none⟩ = some (.int .u64 be) ∧ w'.cell? ⟨w.heap.size + 1, 1, none⟩ = some (.slice B i cb) ∧ w'.cell? ⟨w.heap.size + 1 + 1, 0, none⟩ = some (.int .u64 ce) ∧ w'.cell? ⟨w.heap.size + 1 + 1, 1, none⟩ = some (.slice C i cc) ∧ w'.cell? ⟨w4.heap.size, 0, none⟩ = some (.int .u64 X.e) ∧ w'.cell? ⟨w4.heap.size, 1, none⟩ = some (.slice VX nX cX) ∧ w'.cell? ⟨w5.heap.size, 0, none⟩ = some (.int .u64 Y.e) ∧ w'.cell? ⟨w5.heap.size, 1, none⟩ = some (.slice VY nY cY))) (by kernel_rfl) (⟨a0_, a1_, b0_, b1_, c0_, c1_, X0_, X1_, Y0_, Y1_⟩) (fun hHeld => ?_)
           refine' wpAnyH_take (i := 0) (v := ?v184) ?a184 ?b184 ?c184 ?d184 ?e184 ?f184 ?g184 ?z184
           case a184 => (simp only [List.getElem?_toArray, List.getElem?_cons_succ, List.getElem?_cons_zero]; try rfl)
           case b184 | c184 | d184 => kernel_rfl
           case e184 => exact fun _ _ _ h => h
           case f184 => first | exact Or.inl ⟨by rfl, by (intro w hSw; (try dsimp only at hSw); go_simp; try rfl)⟩ | exact Or.inr ⟨by rfl, rfl⟩
           case g184 => assumption
           (try simp only [Act.put, List.setIfInBounds_toArray, List.set_cons_zero, List.set_cons_succ])
           refine' wpAnyH_take (i := 1) (v := ?v185) ?a185 ?b185 ?c185 ?d185 ?e185 ?f185 ?g185 ?z185
           case a185 => (simp only [List.getElem?_toArray, List.getElem?_cons_succ, List.getElem?_cons_zero]; try rfl)
           case b185 | c185 | d185 => kernel_rfl
           case e185 => exact fun _ _ _ h => h
           case f185 => first | exact Or.inl ⟨by rfl, by (intro w hSw; (try dsimp only at hSw); go_simp; try rfl)⟩ | exact Or.inr ⟨by rfl, rfl⟩
           case g185 => assumption
           (try simp only [Act.put, List.setIfInBounds_toArray, List.set_cons_zero, List.set_cons_succ])
           refine' wpAnyH_take (i := 3) (v := ?v186) ?a186 ?b186 ?c186 ?d186 ?e186 ?f186 ?g186 ?z186
           case a186 => (simp only [List.getElem?_toArray, List.getElem?_cons_succ, List.getElem?_cons_zero]; try rfl)
           case b186 | c186 | d186 => kernel_rfl
           case e186 => exact fun _ _ _ h => h
           case f186 => first | exact Or.inl ⟨by rfl, by (intro w hSw; (try dsimp only at hSw); go_simp; try rfl)⟩ | exact Or.inr ⟨by rfl, rfl⟩
           case g186 => assumption
           (try simp only [Act.put, List.setIfInBounds_toArray, List.set_cons_zero, List.set_cons_succ])
           refine wpAnyH_ready (rs := [2]) (by kernel_rfl) (by simp) ?_
           refine' (AllReadyH.cons (i := 2) ?ho2x187 (fun K hK => ?st2x187) AllReadyH.nil)
           case ho2x187 => (simp only [List.getElem?_toArray, List.getElem?_cons_succ, List.getElem?_cons_zero]; try rfl)
           case st2x187 =>
            go_simp
            refine (leq_any _ _ X ⟨ce, cl⟩ _ (hvX.out.below (by first | exact hb | go_grown)) (hvc.out.below (by first | exact hb | go_grown))).mono ?_; rw [hjc.out]; rintro e_ w_ ⟨rfl, hb_⟩; replace hb := chainB (B := w13.heap.size) (a := w13) (by go_grown) hb_ (by have := hb.size; first | omega | (simp; done) | (simp; omega)); clear hb_
            refine hK.out _ _ ?_ (fun hHeld => ?_)
            · exact ⟨(hba.out.below hb).cell 0 rfl, (hba.out.below hb).cell 1 rfl, (hbb.out.below hb).cell 0 rfl, (hbb.out.below hb).cell 1 rfl, (hbc.out.below hb).cell 0 rfl, (hbc.out.below hb).cell 1 rfl, (hX.out.below hb).cell 0 rfl, (hX.out.below hb).cell 1 rfl, (hY.out.below hb).cell 0 rfl, (hY.out.below hb).cell 1 rfl⟩
            clear hK K
            (try simp only [Act.put, List.setIfInBounds_toArray, List.set_cons_zero, List.set_cons_succ])
            refine' wpAnyH_take (i := 4) (v := ?v188) ?a188 ?b188 ?c188 ?d188 ?e188 ?f188 ?g188 ?z188
            case a188 => (simp only [List.getElem?_toArray, List.getElem?_cons_succ, List.getElem?_cons_zero]; try rfl)
            case b188 | c188 | d188 => kernel_rfl
            case e188 => exact fun _ _ _ h => h
            case f188 => first | exact Or.inl ⟨by rfl, by (intro w hSw; (try dsimp only at hSw); go_simp; try rfl)⟩ | exact Or.inr ⟨by rfl, rfl⟩
            case g188 => assumption
            (try simp only [Act.put, List.setIfInBounds_toArray, List.set_cons_zero, List.set_cons_succ])
            refine' wpAnyH_take (i := 5) (v := ?v189) ?a189 ?b189 ?c189 ?d189 ?e189 ?f189 ?g189 ?z189
            case a189 => (simp only [List.getElem?_toArray, List.getElem?_cons_succ, List.getElem?_cons_zero]; try rfl)
            case b189 | c189 | d189 => kernel_rfl
            case e189 => exact fun _ _ _ h => h
            case f189 => first | exact Or.inl ⟨by rfl, by (intro w hSw; (try dsimp only at hSw); go_simp; try rfl)⟩ | exact Or.inr ⟨by rfl, rfl⟩
            case g189 => assumption
            (try simp only [Act.put, List.setIfInBounds_toArray, List.set_cons_zero, List.set_cons_succ])
            refine' wpAnyH_take (i := 6) (v := ?v190) ?a190 ?b190 ?c190 ?d190 ?e190 ?f190 ?g190 ?z190
            case a190 => (simp only [List.getElem?_toArray, List.getElem?_cons_succ, List.getElem?_cons_zero]; try rfl)
            case b190 | c190 | d190 => kernel_rfl
            case e190 => exact fun _ _ _ h => h
            case f190 => first | exact Or.inl ⟨by rfl, by (intro w hSw; (try dsimp only at hSw); go_simp; try rfl)⟩ | exact Or.inr ⟨by rfl, rfl⟩
            case g190 => assumption
            (try simp only [Act.put, List.setIfInBounds_toArray, List.set_cons_zero, List.set_cons_succ])
            refine' wpAnyH_take (i := 7) (v := ?v191) ?a191 ?b191 ?c191 ?d191 ?e191 ?f191 ?g191 ?z191
            case a191 => (simp only [List.getElem?_toArray, List.getElem?_cons_succ, List.getElem?_cons_zero]; try rfl)
            case b191 | c191 | d191 => kernel_rfl
            case e191 => exact fun _ _ _ h => h
            case f191 => first | exact Or.inl ⟨by rfl, by (intro w hSw; (try dsimp only at hSw); go_simp; try rfl)⟩ | exact Or.inr ⟨by rfl, rfl⟩
            case g191 => assumption
            (try simp only [Act.put, List.setIfInBounds_toArray, List.set_cons_zero, List.set_cons_succ])
            refine' wpAnyH_take (i := 8) (v := ?v192) ?a192 ?b192 ?c192 ?d192 ?e192 ?f192 ?g192 ?z192
            case a192 => (simp only [List.getElem?_toArray, List.getElem?_cons_succ, List.getElem?_cons_zero]; try rfl)
            case b192 | c192 | d192 => kernel_rfl
            case e192 => exact fun _ _ _ h => h
            case f192 => first | exact Or.inl ⟨by rfl, by (intro w hSw; (try dsimp only at hSw); go_simp; try rfl)⟩ | exact Or.inr ⟨by rfl, rfl⟩
            case g192 => assumption
            (try simp only [Act.put, List.setIfInBounds_toArray, List.set_cons_zero, List.set_cons_succ])
            refine' wpAnyH_take (i := 9) (v := ?v193) ?a193 ?b193 ?c193 ?d193 ?e193 ?f193 ?g193 ?z193
            case a193 => (simp only [List.getElem?_toArray, List.getElem?_cons_succ, List.getElem?_cons_zero]; try rfl)
            case b193 | c193 | d193 => kernel_rfl
            case e193 => exact fun _ _ _ h => h
            case f193 => first | exact Or.inl ⟨by rfl, by (intro w hSw; (try dsimp only at hSw); go_simp; try rfl)⟩ | exact Or.inr ⟨by rfl, rfl⟩
            case g193 => assumption
            (try simp only [Act.put, List.setIfInBounds_toArray, List.set_cons_zero, List.set_cons_succ])
            refine' wpAnyH_take (i := 10) (v := ?v194) ?a194 ?b194 ?c194 ?d194 ?e194 ?f194 ?g194 ?z194
            case a194 => (simp only [List.getElem?_toArray, List.getElem?_cons_succ, List.getElem?_cons_zero]; try rfl)
            case b194 | c194 | d194 => kernel_rfl
            case e194 => exact fun _ _ _ h => h
            case f194 => first | exact Or.inl ⟨by rfl, by (intro w hSw; (try dsimp only at hSw); go_simp; try rfl)⟩ | exact Or.inr ⟨by rfl, rfl⟩
            case g194 => assumption
            (try simp only [Act.put, List.setIfInBounds_toArray, List.set_cons_zero, List.set_cons_succ])
            refine' wpAnyH_take (i := 12) (v := ?v195) ?a195 ?b195 ?c195 ?d195 ?e195 ?f195 ?g195 ?z195
            case a195 => (simp only [List.getElem?_toArray, List.getElem?_cons_succ, List.getElem?_cons_zero]; try rfl)
            case b195 | c195 | d195 => kernel_rfl
            case e195 => exact fun _ _ _ h => h
            case f195 => first | exact Or.inl ⟨by rfl, by (intro w hSw; (try dsimp only at hSw); go_simp; try rfl)⟩ | exact Or.inr ⟨by rfl, rfl⟩
            case g195 => assumption
            (try simp only [Act.put, List.setIfInBounds_toArray, List.set_cons_zero, List.set_cons_succ])
            refine' wpAnyH_take (i := 13) (v := ?v196) ?a196 ?b196 ?c196 ?d196 ?e196 ?f196 ?g196 ?z196
            case a196 => (simp only [List.getElem?_toArray, List.getElem?_cons_succ, List.getElem?_cons_zero]; try rfl)
            case b196 | c196 | d196 => kernel_rfl
            case e196 => exact fun _ _ _ h => h
            case f196 => first | exact Or.inl ⟨by rfl, by (intro w hSw; (try dsimp only at hSw); go_simp; try rfl)⟩ | exact Or.inr ⟨by rfl, rfl⟩
            case g196 => assumption
            (try simp only [Act.put, List.setIfInBounds_toArray, List.set_cons_zero, List.set_cons_succ])
            refine wpAnyH_ready (rs := [11]) (by kernel_rfl) (by simp) ?_
            refine' (AllReadyH.cons (i := 11) ?ho11x197 (fun K hK => ?st11x197) AllReadyH.nil)
            case ho11x197 => (simp only [List.getElem?_toArray, List.getElem?_cons_succ, List.getElem?_cons_zero]; try rfl)
            case st11x197 =>
             go_simp
             refine (leq_any _ _ ⟨ce, cl⟩ Y _ (hvc.out.below (by first | exact hb | go_grown)) (hvY.out.below (by first | exact hb | go_grown))).mono ?_; rw [hcm.out]; rintro e_ w_ ⟨rfl, hb_⟩; replace hb := chainB (B := w13.heap.size) (a := w13) (by go_grown) hb_ (by have := hb.size; first | omega | (simp; done) | (simp; omega)); clear hb_
             refine hK.out _ _ ?_ (fun hHeld => ?_)
             · exact ⟨(hba.out.below hb).cell 0 rfl, (hba.out.below hb).cell 1 rfl, (hbb.out.below hb).cell 0 rfl, (hbb.out.below hb).cell 1 rfl, (hbc.out.below hb).cell 0 rfl, (hbc.out.below hb).cell 1 rfl, (hX.out.below hb).cell 0 rfl, (hX.out.below hb).cell 1 rfl, (hY.out.below hb).cell 0 rfl, (hY.out.below hb).cell 1 rfl⟩
             clear hK K
             (try simp only [Act.put, List.setIfInBounds_toArray, List.set_cons_zero, List.set_cons_succ])
             refine wpAnyH_ready (rs := [14]) (by kernel_rfl) (by simp) ?_
             refine' (AllReadyH.cons (i := 14) ?ho14x198 (fun K hK => ?st14x198) AllReadyH.nil)
             case ho14x198 => (simp only [List.getElem?_toArray, List.getElem?_cons_succ, List.getElem?_cons_zero]; try rfl)
             case st14x198 =>
              go_simp
              refine (leq_any _ _ ⟨ce, cl⟩ ⟨ae, al⟩ _ (hvc.out.below (by first | exact hb | go_grown)) (hva.out.below (by first | exact hb | go_grown))).mono ?_; rw [hN1.out]; rintro e_ w_ ⟨rfl, hb_⟩; replace hb := chainB (B := w13.heap.size) (a := w13) (by go_grown) hb_ (by have := hb.size; first | omega | (simp; done) | (simp; omega)); clear hb_
              refine hK.out _ _ ?_ (fun hHeld => ?_)
              · exact ⟨(hba.out.below hb).cell 0 rfl, (hba.out.below hb).cell 1 rfl, (hbb.out.below hb).cell 0 rfl, (hbb.out.below hb).cell 1 rfl, (hbc.out.below hb).cell 0 rfl, (hbc.out.below hb).cell 1 rfl, (hX.out.below hb).cell 0 rfl, (hX.out.below hb).cell 1 rfl, (hY.out.below hb).cell 0 rfl, (hY.out.below hb).cell 1 rfl⟩
              clear hK K
              (try simp only [Act.put, List.setIfInBounds_toArray, List.set_cons_zero, List.set_cons_succ])
              refine' wpAnyH_take (i := 15) (v := ?v199) ?a199 ?b199 ?c199 ?d199 ?e199 ?f199 ?g199 ?z199
              case a199 => (simp only [List.getElem?_toArray, List.getElem?_cons_succ, List.getElem?_cons_zero]; try rfl)
              case b199 | c199 | d199 => kernel_rfl
              case e199 => exact fun _ _ _ h => h
              case f199 => first | exact Or.inl ⟨by rfl, by (intro w hSw; (try dsimp only at hSw); go_simp; try rfl)⟩ | exact Or.inr ⟨by rfl, rfl⟩
              case g199 => assumption
              (try simp only [Act.put, List.setIfInBounds_toArray, List.set_cons_zero, List.set_cons_succ])
              refine' wpAnyH_take (i := 16) (v := undef) ?a200 ?b200 ?c200 ?d200 ?e200 ?f200 ?g200 ?z200
              case a200 => (simp only [List.getElem?_toArray, List.getElem?_cons_succ, List.getElem?_cons_zero]; try rfl)
              case b200 | c200 | d200 => kernel_rfl
              case e200 => exact fun _ _ _ h => h
              case f200 => first | exact Or.inl ⟨by rfl, by (intro w hSw; (try dsimp only at hSw); go_simp; try rfl)⟩ | exact Or.inr ⟨by rfl, rfl⟩
              case g200 => assumption
              (try simp only [Act.put, List.setIfInBounds_toArray, List.set_cons_zero, List.set_cons_succ])
              refine' wpAnyH_take (i := 17) (v := undef) ?a201 ?b201 ?c201 ?d201 ?e201 ?f201 ?g201 ?z201
              case a201 => (simp only [List.getElem?_toArray, List.getElem?_cons_succ, List.getElem?_cons_zero]; try rfl)
              case b201 | c201 | d201 => kernel_rfl
              case e201 => exact fun _ _ _ h => h
              case f201 => first | exact Or.inl ⟨by rfl, by (intro w hSw; (try dsimp only at hSw); go_simp; try rfl)⟩ | exact Or.inr ⟨by rfl, rfl⟩
              case g201 => assumption
              (try simp only [Act.put, List.setIfInBounds_toArray, List.set_cons_zero, List.set_cons_succ])
              refine' wpAnyH_take (i := 18) (v := undef) ?a202 ?b202 ?c202 ?d202 ?e202 ?f202 ?g202 ?z202
              case a202 => (simp only [List.getElem?_toArray, List.getElem?_cons_succ, List.getElem?_cons_zero]; try rfl)
              case b202 | c202 | d202 => kernel_rfl
              case e202 => exact fun _ _ _ h => h
              case f202 => first | exact Or.inl ⟨by rfl, by (intro w hSw; (try dsimp only at hSw); go_simp; try rfl)⟩ | exact Or.inr ⟨by rfl, rfl⟩
              case g202 => assumption
              (try simp only [Act.put, List.setIfInBounds_toArray, List.set_cons_zero, List.set_cons_succ])
              refine' wpAnyH_take (i := 19) (v := ?v203) ?a203 ?b203 ?c203 ?d203 ?e203 ?f203 ?g203 ?z203
              case a203 => (simp only [List.getElem?_toArray, List.getElem?_cons_succ, List.getElem?_cons_zero]; try rfl)
              case b203 | c203 | d203 => kernel_rfl
              case e203 => exact fun _ _ _ h => h
              case f203 => first | exact Or.inl ⟨by rfl, by (intro w hSw; (try dsimp only at hSw); go_simp; try rfl)⟩ | exact Or.inr ⟨by rfl, rfl⟩
              case g203 => assumption
              (try simp only [Act.put, List.setIfInBounds_toArray, List.set_cons_zero, List.set_cons_succ])
              refine' wpAnyH_take (i := 20) (v := ?v204) ?a204 ?b204 ?c204 ?d204 ?e204 ?f204 ?g204 ?z204
              case a204 => (simp only [List.getElem?_toArray, List.getElem?_cons_succ, List.getElem?_cons_zero]; try rfl)
              case b204 | c204 | d204 => kernel_rfl
              case e204 => exact fun _ _ _ h => h
              case f204 => first | exact Or.inl ⟨by rfl, by (intro w hSw; (try dsimp only at hSw); go_simp; try rfl)⟩ | exact Or.inr ⟨by rfl, rfl⟩
              case g204 => assumption
              (try simp only [Act.put, List.setIfInBounds_toArray, List.set_cons_zero, List.set_cons_succ])
              refine' wpAnyH_take (i := 21) (v := ?v205) ?a205 ?b205 ?c205 ?d205 ?e205 ?f205 ?g205 ?z205
              case a205 => (simp only [List.getElem?_toArray, List.getElem?_cons_succ, List.getElem?_cons_zero]; try rfl)
              case b205 | c205 | d205 => kernel_rfl
              case e205 => exact fun _ _ _ h => h
              case f205 => first | exact Or.inl ⟨by rfl, by (intro w hSw; (try dsimp only at hSw); go_simp; try rfl)⟩ | exact Or.inr ⟨by rfl, rfl⟩
              case g205 => assumption
              (try simp only [Act.put, List.setIfInBounds_toArray, List.set_cons_zero, List.set_cons_succ])
              refine' wpAnyH_take (i := 22) (v := ?v206) ?a206 ?b206 ?c206 ?d206 ?e206 ?f206 ?g206 ?z206
              case a206 => (simp only [List.getElem?_toArray, List.getElem?_cons_succ, List.getElem?_cons_zero]; try rfl)
              case b206 | c206 | d206 => kernel_rfl
              case e206 => exact fun _ _ _ h => h
              case f206 => first | exact Or.inl ⟨by rfl, by (intro w hSw; (try dsimp only at hSw); go_simp; try rfl)⟩ | exact Or.inr ⟨by rfl, rfl⟩
              case g206 => assumption
              (try simp only [Act.put, List.setIfInBounds_toArray, List.set_cons_zero, List.set_cons_succ])
              refine wpAnyH_done (by kernel_rfl) ?_ _
              refine NoPanic.normal ?_
              go_wp2_with fail
              go_meet
              exact ⟨by simp_all, chainB hcut0_.out hb hcut0_.out.size⟩
          | true =>
           cases N2 with
           | false =>
            simp only [Bool.and_true, Bool.true_and, Bool.and_false, Bool.false_and] at hjc hcm
            have hb := Below.refl w13.heap.size w13
            refine wp_region_noPanic ?_
            refine wp_region_held_drew (S := (fun w' => w'.cell? ⟨w.heap.size, 0, none⟩ = some (.int .u64 ae) ∧ w'.cell? ⟨w.heap.size, 1, none⟩ = some (.slice A i ca) ∧ w'.cell? ⟨w.heap.size + 1, 0, none⟩ = some (.int .u64 be) ∧ w'.cell? ⟨w.heap.size + 1, 1, none⟩ = some (.slice B i cb) ∧ w'.cell? ⟨w.heap.size + 1 + 1, 0, none⟩ = some (.int .u64 ce) ∧ w'.cell? ⟨w.heap.size + 1 + 1, 1, none⟩ = some (.slice C i cc) ∧ w'.cell? ⟨w4.heap.size, 0, none⟩ = some (.int .u64 X.e) ∧ w'.cell? ⟨w4.heap.size, 1, none⟩ = some (.slice VX nX cX) ∧ w'.cell? ⟨w5.heap.size, 0, none⟩ = some (.int .u64 Y.e) ∧ w'.cell? ⟨w5.heap.size, 1, none⟩ = some (.slice VY nY cY))) (by kernel_rfl) (⟨a0_, a1_, b0_, b1_, c0_, c1_, X0_, X1_, Y0_, Y1_⟩) (fun hHeld => ?_)
            refine' wpAnyH_take (i := 0) (v := ?v207) ?a207 ?b207 ?c207 ?d207 ?e207 ?f207 ?g207 ?z207
            case a207 => (simp only [List.getElem?_toArray, List.getElem?_cons_succ, List.getElem?_cons_zero]; try rfl)
            case b207 | c207 | d207 => kernel_rfl
            case e207 => exact fun _ _ _ h => h
            case f207 => first | exact Or.inl ⟨by rfl, by (intro w hSw; (try dsimp only at hSw); go_simp; try rfl)⟩ | exact Or.inr ⟨by rfl, rfl⟩
            case g207 => assumption
            (try simp only [Act.put, List.setIfInBounds_toArray, List.set_cons_zero, List.set_cons_succ])
            refine' wpAnyH_take (i := 1) (v := ?v208) ?a208 ?b208 ?c208 ?d208 ?e208 ?f208 ?g208 ?z208
            case a208 => (simp only [List.getElem?_toArray, List.getElem?_cons_succ, List.getElem?_cons_zero]; try rfl)
            case b208 | c208 | d208 => kernel_rfl
            case e208 => exact fun _ _ _ h => h
            case f208 => first | exact Or.inl ⟨by rfl, by (intro w hSw; (try dsimp only at hSw); go_simp; try rfl)⟩ | exact Or.inr ⟨by rfl, rfl⟩
            case g208 => assumption
            (try simp only [Act.put, List.setIfInBounds_toArray, List.set_cons_zero, List.set_cons_succ])
            refine' wpAnyH_take (i := 3) (v := ?v209) ?a209 ?b209 ?c209 ?d209 ?e209 ?f209 ?g209 ?z209
            case a209 => (simp only [List.getElem?_toArray, List.getElem?_cons_succ, List.getElem?_cons_zero]; try rfl)
            case b209 | c209 | d209 => kernel_rfl
            case e209 => exact fun _ _ _ h => h
            case f209 => first | exact Or.inl ⟨by rfl, by (intro w hSw; (try dsimp only at hSw); go_simp; try rfl)⟩ | exact Or.inr ⟨by rfl, rfl⟩
            case g209 => assumption
            (try simp only [Act.put, List.setIfInBounds_toArray, List.set_cons_zero, List.set_cons_succ])
            refine wpAnyH_ready (rs := [2]) (by kernel_rfl) (by simp) ?_
            refine' (AllReadyH.cons (i := 2) ?ho2x210 (fun K hK => ?st2x210) AllReadyH.nil)
            case ho2x210 => (simp only [List.getElem?_toArray, List.getElem?_cons_succ, List.getElem?_cons_zero]; try rfl)
            case st2x210 =>
             go_simp
             refine (leq_any _ _ X ⟨ce, cl⟩ _ (hvX.out.below (by first | exact hb | go_grown)) (hvc.out.below (by first | exact hb | go_grown))).mono ?_; rw [hjc.out]; rintro e_ w_ ⟨rfl, hb_⟩; replace hb := chainB (B := w13.heap.size) (a := w13) (by go_grown) hb_ (by have := hb.size; first | omega | (simp; done) | (simp; omega)); clear hb_
             refine hK.out _ _ ?_ (fun hHeld => ?_)
             · exact ⟨(hba.out.below hb).cell 0 rfl, (hba.out.below hb).cell 1 rfl, (hbb.out.below hb).cell 0 rfl, (hbb.out.below hb).cell 1 rfl, (hbc.out.below hb).cell 0 rfl, (hbc.out.below hb).cell 1 rfl, (hX.out.below hb).cell 0 rfl, (hX.out.below hb).cell 1 rfl, (hY.out.below hb).cell 0 rfl, (hY.out.below hb).cell 1 rfl⟩
             clear hK K
             (try simp only [Act.put, List.setIfInBounds_toArray, List.set_cons_zero, List.set_cons_succ])
             refine' wpAnyH_take (i := 4) (v := ?v211) ?a211 ?b211 ?c211 ?d211 ?e211 ?f211 ?g211 ?z211
             case a211 => (simp only [List.getElem?_toArray, List.getElem?_cons_succ, List.getElem?_cons_zero]; try rfl)
             case b211 | c211 | d211 => kernel_rfl
             case e211 => exact fun _ _ _ h => h
             case f211 => first | exact Or.inl ⟨by rfl, by (intro w hSw; (try dsimp only at hSw); go_simp; try rfl)⟩ | exact Or.inr ⟨by rfl, rfl⟩
             case g211 => assumption
             (try simp only [Act.put, List.setIfInBounds_toArray, List.set_cons_zero, List.set_cons_succ])
             refine' wpAnyH_take (i := 5) (v := ?v212) ?a212 ?b212 ?c212 ?d212 ?e212 ?f212 ?g212 ?z212
             case a212 => (simp only [List.getElem?_toArray, List.getElem?_cons_succ, List.getElem?_cons_zero]; try rfl)
             case b212 | c212 | d212 => kernel_rfl
             case e212 => exact fun _ _ _ h => h
             case f212 => first | exact Or.inl ⟨by rfl, by (intro w hSw; (try dsimp only at hSw); go_simp; try rfl)⟩ | exact Or.inr ⟨by rfl, rfl⟩
             case g212 => assumption
             (try simp only [Act.put, List.setIfInBounds_toArray, List.set_cons_zero, List.set_cons_succ])
             refine' wpAnyH_take (i := 6) (v := ?v213) ?a213 ?b213 ?c213 ?d213 ?e213 ?f213 ?g213 ?z213
             case a213 => (simp only [List.getElem?_toArray, List.getElem?_cons_succ, List.getElem?_cons_zero]; try rfl)
             case b213 | c213 | d213 => kernel_rfl
             case e213 => exact fun _ _ _ h => h
             case f213 => first | exact Or.inl ⟨by rfl, by (intro w hSw; (try dsimp only at hSw); go_simp; try rfl)⟩ | exact Or.inr ⟨by rfl, rfl⟩
             case g213 => assumption
             (try simp only [Act.put, List.setIfInBounds_toArray, List.set_cons_zero, List.set_cons_succ])
             refine' wpAnyH_take (i := 7) (v := ?v214) ?a214 ?b214 ?c214 ?d214 ?e214 ?f214 ?g214 ?z214
             case a214 => (simp only [List.getElem?_toArray, List.getElem?_cons_succ, List.getElem?_cons_zero]; try rfl)
             case b214 | c214 | d214 => kernel_rfl
             case e214 => exact fun _ _ _ h => h
             case f214 => first | exact Or.inl ⟨by rfl, by (intro w hSw; (try dsimp only at hSw); go_simp; try rfl)⟩ | exact Or.inr ⟨by rfl, rfl⟩
             case g214 => assumption
             (try simp only [Act.put, List.setIfInBounds_toArray, List.set_cons_zero, List.set_cons_succ])
             refine' wpAnyH_take (i := 8) (v := ?v215) ?a215 ?b215 ?c215 ?d215 ?e215 ?f215 ?g215 ?z215
             case a215 => (simp only [List.getElem?_toArray, List.getElem?_cons_succ, List.getElem?_cons_zero]; try rfl)
             case b215 | c215 | d215 => kernel_rfl
             case e215 => exact fun _ _ _ h => h
             case f215 => first | exact Or.inl ⟨by rfl, by (intro w hSw; (try dsimp only at hSw); go_simp; try rfl)⟩ | exact Or.inr ⟨by rfl, rfl⟩
             case g215 => assumption
             (try simp only [Act.put, List.setIfInBounds_toArray, List.set_cons_zero, List.set_cons_succ])
             refine' wpAnyH_take (i := 9) (v := ?v216) ?a216 ?b216 ?c216 ?d216 ?e216 ?f216 ?g216 ?z216
             case a216 => (simp only [List.getElem?_toArray, List.getElem?_cons_succ, List.getElem?_cons_zero]; try rfl)
             case b216 | c216 | d216 => kernel_rfl
             case e216 => exact fun _ _ _ h => h
             case f216 => first | exact Or.inl ⟨by rfl, by (intro w hSw; (try dsimp only at hSw); go_simp; try rfl)⟩ | exact Or.inr ⟨by rfl, rfl⟩
             case g216 => assumption
             (try simp only [Act.put, List.setIfInBounds_toArray, List.set_cons_zero, List.set_cons_succ])
             refine' wpAnyH_take (i := 10) (v := ?v217) ?a217 ?b217 ?c217 ?d217 ?e217 ?f217 ?g217 ?z217
             case a217 => (simp only [List.getElem?_toArray, List.getElem?_cons_succ, List.getElem?_cons_zero]; try rfl)
             case b217 | c217 | d217 => kernel_rfl
             case e217 => exact fun _ _ _ h => h
             case f217 => first | exact Or.inl ⟨by rfl, by (intro w hSw; (try dsimp only at hSw); go_simp; try rfl)⟩ | exact Or.inr ⟨by rfl, rfl⟩
             case g217 => assumption
             (try simp only [Act.put, List.setIfInBounds_toArray, List.set_cons_zero, List.set_cons_succ])
             refine' wpAnyH_take (i := 12) (v := ?v218) ?a218 ?b218 ?c218 ?d218 ?e218 ?f218 ?g218 ?z218
             case a218 => (simp only [List.getElem?_toArray, List.getElem?_cons_succ, List.getElem?_cons_zero]; try rfl)
             case b218 | c218 | d218 => kernel_rfl
             case e218 => exact fun _ _ _ h => h
             case f218 => first | exact Or.inl ⟨by rfl, by (intro w hSw; (try dsimp only at hSw); go_simp; try rfl)⟩ | exact Or.inr ⟨by rfl, rfl⟩
             case g218 => assumption
             (try simp only [Act.put, List.setIfInBounds_toArray, List.set_cons_zero, List.set_cons_succ])
             refine' wpAnyH_take (i := 13) (v := ?v219) ?a219 ?b219 ?c219 ?d219 ?e219 ?f219 ?g219 ?z219
             case a219 => (simp only [List.getElem?_toArray, List.getElem?_cons_succ, List.getElem?_cons_zero]; try rfl)
             case b219 | c219 | d219 => kernel_rfl
             case e219 => exact fun _ _ _ h => h
             case f219 => first | exact Or.inl ⟨by rfl, by (intro w hSw; (try dsimp only at hSw); go_simp; try rfl)⟩ | exact Or.inr ⟨by rfl, rfl⟩
             case g219 => assumption
             (try simp only [Act.put, List.setIfInBounds_toArray, List.set_cons_zero, List.set_cons_succ])
             refine wpAnyH_ready (rs := [11]) (by kernel_rfl) (by simp) ?_
             refine' (AllReadyH.cons (i := 11) ?ho11x220 (fun K hK => ?st11x220) AllReadyH.nil)
             case ho11x220 => (simp only [List.getElem?_toArray, List.getElem?_cons_succ, List.getElem?_cons_zero]; try rfl)
             case st11x220 =>
              go_simp
              refine (leq_any _ _ ⟨ce, cl⟩ Y _ (hvc.out.below (by first | exact hb | go_grown)) (hvY.out.below (by first | exact hb | go_grown))).mono ?_; rw [hcm.out]; rintro e_ w_ ⟨rfl, hb_⟩; replace hb := chainB (B := w13.heap.size) (a := w13) (by go_grown) hb_ (by have := hb.size; first | omega | (simp; done) | (simp; omega)); clear hb_
              refine hK.out _ _ ?_ (fun hHeld => ?_)
              · exact ⟨(hba.out.below hb).cell 0 rfl, (hba.out.below hb).cell 1 rfl, (hbb.out.below hb).cell 0 rfl, (hbb.out.below hb).cell 1 rfl, (hbc.out.below hb).cell 0 rfl, (hbc.out.below hb).cell 1 rfl, (hX.out.below hb).cell 0 rfl, (hX.out.below hb).cell 1 rfl, (hY.out.below hb).cell 0 rfl, (hY.out.below hb).cell 1 rfl⟩
              clear hK K
              (try simp only [Act.put, List.setIfInBounds_toArray, List.set_cons_zero, List.set_cons_succ])
              refine wpAnyH_ready (rs := [14]) (by kernel_rfl) (by simp) ?_
              refine' (AllReadyH.cons (i := 14) ?ho14x221 (fun K hK => ?st14x221) AllReadyH.nil)
              case ho14x221 => (simp only [List.getElem?_toArray, List.getElem?_cons_succ, List.getElem?_cons_zero]; try rfl)
              case st14x221 =>
               go_simp
               refine (leq_any _ _ ⟨ce, cl⟩ ⟨ae, al⟩ _ (hvc.out.below (by first | exact hb | go_grown)) (hva.out.below (by first | exact hb | go_grown))).mono ?_; rw [hN1.out]; rintro e_ w_ ⟨rfl, hb_⟩; replace hb := chainB (B := w13.heap.size) (a := w13) (by go_grown) hb_ (by have := hb.size; first | omega | (simp; done) | (simp; omega)); clear hb_
               refine hK.out _ _ ?_ (fun hHeld => ?_)
               · exact ⟨(hba.out.below hb).cell 0 rfl, (hba.out.below hb).cell 1 rfl, (hbb.out.below hb).cell 0 rfl, (hbb.out.below hb).cell 1 rfl, (hbc.out.below hb).cell 0 rfl, (hbc.out.below hb).cell 1 rfl, (hX.out.below hb).cell 0 rfl, (hX.out.below hb).cell 1 rfl, (hY.out.below hb).cell 0 rfl, (hY.out.below hb).cell 1 rfl⟩
               clear hK K
               (try simp only [Act.put, List.setIfInBounds_toArray, List.set_cons_zero, List.set_cons_succ])
               refine' wpAnyH_take (i := 15) (v := ?v222) ?a222 ?b222 ?c222 ?d222 ?e222 ?f222 ?g222 ?z222
               case a222 => (simp only [List.getElem?_toArray, List.getElem?_cons_succ, List.getElem?_cons_zero]; try rfl)
               case b222 | c222 | d222 => kernel_rfl
               case e222 => exact fun _ _ _ h => h
               case f222 => first | exact Or.inl ⟨by rfl, by (intro w hSw; (try dsimp only at hSw); go_simp; try rfl)⟩ | exact Or.inr ⟨by rfl, rfl⟩
               case g222 => assumption
               (try simp only [Act.put, List.setIfInBounds_toArray, List.set_cons_zero, List.set_cons_succ])
               refine' wpAnyH_take (i := 16) (v := ?v223) ?a223 ?b223 ?c223 ?d223 ?e223 ?f223 ?g223 ?z223
               case a223 => (simp only [List.getElem?_toArray, List.getElem?_cons_succ, List.getElem?_cons_zero]; try rfl)
               case b223 | c223 | d223 => kernel_rfl
               case e223 => exact fun _ _ _ h => h
               case f223 => first | exact Or.inl ⟨by rfl, by (intro w hSw; (try dsimp only at hSw); go_simp; try rfl)⟩ | exact Or.inr ⟨by rfl, rfl⟩
               case g223 => assumption
               (try simp only [Act.put, List.setIfInBounds_toArray, List.set_cons_zero, List.set_cons_succ])
               refine' wpAnyH_take (i := 17) (v := ?v224) ?a224 ?b224 ?c224 ?d224 ?e224 ?f224 ?g224 ?z224
               case a224 => (simp only [List.getElem?_toArray, List.getElem?_cons_succ, List.getElem?_cons_zero]; try rfl)
               case b224 | c224 | d224 => kernel_rfl
               case e224 => exact fun _ _ _ h => h
               case f224 => first | exact Or.inl ⟨by rfl, by (intro w hSw; (try dsimp only at hSw); go_simp; try rfl)⟩ | exact Or.inr ⟨by rfl, rfl⟩
               case g224 => assumption
               (try simp only [Act.put, List.setIfInBounds_toArray, List.set_cons_zero, List.set_cons_succ])
               refine wpAnyH_ready (rs := [18]) (by kernel_rfl) (by simp) ?_
               refine' (AllReadyH.cons (i := 18) ?ho18x225 (fun K hK => ?st18x225) AllReadyH.nil)
               case ho18x225 => (simp only [List.getElem?_toArray, List.getElem?_cons_succ, List.getElem?_cons_zero]; try rfl)
               case st18x225 =>
                go_simp
                refine (leq_any _ _ ⟨ce, cl⟩ ⟨be, bl⟩ _ (hvc.out.below (by first | exact hb | go_grown)) (hvb.out.below (by first | exact hb | go_grown))).mono ?_; rw [hN2.out]; rintro e_ w_ ⟨rfl, hb_⟩; replace hb := chainB (B := w13.heap.size) (a := w13) (by go_grown) hb_ (by have := hb.size; first | omega | (simp; done) | (simp; omega)); clear hb_
                refine hK.out _ _ ?_ (fun hHeld => ?_)
                · exact ⟨(hba.out.below hb).cell 0 rfl, (hba.out.below hb).cell 1 rfl, (hbb.out.below hb).cell 0 rfl, (hbb.out.below hb).cell 1 rfl, (hbc.out.below hb).cell 0 rfl, (hbc.out.below hb).cell 1 rfl, (hX.out.below hb).cell 0 rfl, (hX.out.below hb).cell 1 rfl, (hY.out.below hb).cell 0 rfl, (hY.out.below hb).cell 1 rfl⟩
                clear hK K
                (try simp only [Act.put, List.setIfInBounds_toArray, List.set_cons_zero, List.set_cons_succ])
                refine' wpAnyH_take (i := 19) (v := ?v226) ?a226 ?b226 ?c226 ?d226 ?e226 ?f226 ?g226 ?z226
                case a226 => (simp only [List.getElem?_toArray, List.getElem?_cons_succ, List.getElem?_cons_zero]; try rfl)
                case b226 | c226 | d226 => kernel_rfl
                case e226 => exact fun _ _ _ h => h
                case f226 => first | exact Or.inl ⟨by rfl, by (intro w hSw; (try dsimp only at hSw); go_simp; try rfl)⟩ | exact Or.inr ⟨by rfl, rfl⟩
                case g226 => assumption
                (try simp only [Act.put, List.setIfInBounds_toArray, List.set_cons_zero, List.set_cons_succ])
                refine' wpAnyH_take (i := 20) (v := ?v227) ?a227 ?b227 ?c227 ?d227 ?e227 ?f227 ?g227 ?z227
                case a227 => (simp only [List.getElem?_toArray, List.getElem?_cons_succ, List.getElem?_cons_zero]; try rfl)
                case b227 | c227 | d227 => kernel_rfl
                case e227 => exact fun _ _ _ h => h
                case f227 => first | exact Or.inl ⟨by rfl, by (intro w hSw; (try dsimp only at hSw); go_simp; try rfl)⟩ | exact Or.inr ⟨by rfl, rfl⟩
                case g227 => assumption
                (try simp only [Act.put, List.setIfInBounds_toArray, List.set_cons_zero, List.set_cons_succ])
                refine' wpAnyH_take (i := 21) (v := ?v228) ?a228 ?b228 ?c228 ?d228 ?e228 ?f228 ?g228 ?z228
                case a228 => (simp only [List.getElem?_toArray, List.getElem?_cons_succ, List.getElem?_cons_zero]; try rfl)
                case b228 | c228 | d228 => kernel_rfl
                case e228 => exact fun _ _ _ h => h
                case f228 => first | exact Or.inl ⟨by rfl, by (intro w hSw; (try dsimp only at hSw); go_simp; try rfl)⟩ | exact Or.inr ⟨by rfl, rfl⟩
                case g228 => assumption
                (try simp only [Act.put, List.setIfInBounds_toArray, List.set_cons_zero, List.set_cons_succ])
                refine' wpAnyH_take (i := 22) (v := ?v229) ?a229 ?b229 ?c229 ?d229 ?e229 ?f229 ?g229 ?z229
                case a229 => (simp only [List.getElem?_toArray, List.getElem?_cons_succ, List.getElem?_cons_zero]; try rfl)
                case b229 | c229 | d229 => kernel_rfl
                case e229 => exact fun _ _ _ h => h
                case f229 => first | exact Or.inl ⟨by rfl, by (intro w hSw; (try dsimp only at hSw); go_simp; try rfl)⟩ | exact Or.inr ⟨by rfl, rfl⟩
                case g229 => assumption
                (try simp only [Act.put, List.setIfInBounds_toArray, List.set_cons_zero, List.set_cons_succ])
                refine wpAnyH_done (by kernel_rfl) ?_ _
                refine NoPanic.normal ?_
                go_wp2_with fail
                go_meet
                exact ⟨by simp_all, chainB hcut0_.out hb hcut0_.out.size⟩
           | true =>
            simp only [Bool.and_true, Bool.true_and, Bool.and_false, Bool.false_and] at hjc hcm
            have hb := Below.refl w13.heap.size w13
            refine wp_region_noPanic ?_
            refine wp_region_held_drew (S := (fun w' => w'.cell? ⟨w.heap.size, 0, none⟩ = some (.int .u64 ae) ∧ w'.cell? ⟨w.heap.size, 1, none⟩ = some (.slice A i ca) ∧ w'.cell? ⟨w.heap.size + 1, 0, none⟩ = some (.int .u64 be) ∧ w'.cell? ⟨w.heap.size + 1, 1, none⟩ = some (.slice B i cb) ∧ w'.cell? ⟨w.heap.size + 1 + 1, 0, none⟩ = some (.int .u64 ce) ∧ w'.cell? ⟨w.heap.size + 1 + 1, 1, none⟩ = some (.slice C i cc) ∧ w'.cell? ⟨w4.heap.size, 0, none⟩ = some (.int .u64 X.e) ∧ w'.cell? ⟨w4.heap.size, 1, none⟩ = some (.slice VX nX cX) ∧ w'.cell? ⟨w5.heap.size, 0, none⟩ = some (.int .u64 Y.e) ∧ w'.cell? ⟨w5.heap.size, 1, none⟩ = some (.slice VY nY cY))) (by kernel_rfl) (⟨a0_, a1_, b0_, b1_, c0_, c1_, X0_, X1_, Y0_, Y1_⟩) (fun hHeld => ?_)
            refine' wpAnyH_take (i := 0) (v := ?v230) ?a230 ?b230 ?c230 ?d230 ?e230 ?f230 ?g230 ?z230
            case a230 => (simp only [List.getElem?_toArray, List.getElem?_cons_succ, List.getElem?_cons_zero]; try rfl)
            case b230 | c230 | d230 => kernel_rfl
            case e230 => exact fun _ _ _ h => h
            case f230 => first | exact Or.inl ⟨by rfl, by (intro w hSw; (try dsimp only at hSw); go_simp; try rfl)⟩ | exact Or.inr ⟨by rfl, rfl⟩
            case g230 => assumption
            (try simp only [Act.put, List.setIfInBounds_toArray, List.set_cons_zero, List.set_cons_succ])
            refine' wpAnyH_take (i := 1) (v := ?v231) ?a231 ?b231 ?c231 ?d231 ?e231 ?f231 ?g231 ?z231
            case a231 => (simp only [List.getElem?_toArray, List.getElem?_cons_succ, List.getElem?_cons_zero]; try rfl)
            case b231 | c231 | d231 => kernel_rfl
            case e231 => exact fun _ _ _ h => h
            case f231 => first | exact Or.inl ⟨by rfl, by (intro w hSw; (try dsimp only at hSw); go_simp; try rfl)⟩ | exact Or.inr ⟨by rfl, rfl⟩
            case g231 => assumption
            (try simp only [Act.put, List.setIfInBounds_toArray, List.set_cons_zero, List.set_cons_succ])
            refine' wpAnyH_take (i := 3) (v := ?v232) ?a232 ?b232 ?c232 ?d232 ?e232 ?f232 ?g232 ?z232
            case a232 => (simp only [List.getElem?_toArray, List.getElem?_cons_succ, List.getElem?_cons_zero]; try rfl)
            case b232 | c232 | d232 => kernel_rfl
            case e232 => exact fun _ _ _ h => h
            case f232 => first | exact Or.inl ⟨by rfl, by (intro w hSw; (try dsimp only at hSw); go_simp; try rfl)⟩ | exact Or.inr ⟨by rfl, rfl⟩
            case g232 => assumption
            (try simp only [Act.put, List.setIfInBounds_toArray, List.set_cons_zero, List.set_cons_succ])
            refine wpAnyH_ready (rs := [2]) (by kernel_rfl) (by simp) ?_
            refine' (AllReadyH.cons (i := 2) ?ho2x233 (fun K hK => ?st2x233) AllReadyH.nil)
            case ho2x233 => (simp only [List.getElem?_toArray, List.getElem?_cons_succ, List.getElem?_cons_zero]; try rfl)
            case st2x233 =>
             go_simp
             refine (leq_any _ _ X ⟨ce, cl⟩ _ (hvX.out.below (by first | exact hb | go_grown)) (hvc.out.below (by first | exact hb | go_grown))).mono ?_; rw [hjc.out]; rintro e_ w_ ⟨rfl, hb_⟩; replace hb := chainB (B := w13.heap.size) (a := w13) (by go_grown) hb_ (by have := hb.size; first | omega | (simp; done) | (simp; omega)); clear hb_
             refine hK.out _ _ ?_ (fun hHeld => ?_)
             · exact ⟨(hba.out.below hb).cell 0 rfl, (hba.out.below hb).cell 1 rfl, (hbb.out.below hb).cell 0 rfl, (hbb.out.below hb).cell 1 rfl, (hbc.out.below hb).cell 0 rfl, (hbc.out.below hb).cell 1 rfl, (hX.out.below hb).cell 0 rfl, (hX.out.below hb).cell 1 rfl, (hY.out.below hb).cell 0 rfl, (hY.out.below hb).cell 1 rfl⟩
             clear hK K
             (try simp only [Act.put, List.setIfInBounds_toArray, List.set_cons_zero, List.set_cons_succ])
             refine' wpAnyH_take (i := 4) (v := ?v234) ?a234 ?b234 ?c234 ?d234 ?e234 ?f234 ?g234 ?z234
             case a234 => (simp only [List.getElem?_toArray, List.getElem?_cons_succ, List.getElem?_cons_zero]; try rfl)
             case b234 | c234 | d234 => kernel_rfl
             case e234 => exact fun _ _ _ h => h
             case f234 => first | exact Or.inl ⟨by rfl, by (intro w hSw; (try dsimp only at hSw); go_simp; try rfl)⟩ | exact Or.inr ⟨by rfl, rfl⟩
             case g234 => assumption
             (try simp only [Act.put, List.setIfInBounds_toArray, List.set_cons_zero, List.set_cons_succ])
             refine' wpAnyH_take (i := 5) (v := ?v235) ?a235 ?b235 ?c235 ?d235 ?e235 ?f235 ?g235 ?z235
             case a235 => (simp only [List.getElem?_toArray, List.getElem?_cons_succ, List.getElem?_cons_zero]; try rfl)
             case b235 | c235 | d235 => kernel_rfl
             case e235 => exact fun _ _ _ h => h
             case f235 => first | exact Or.inl ⟨by rfl, by (intro w hSw; (try dsimp only at hSw); go_simp; try rfl)⟩ | exact Or.inr ⟨by rfl, rfl⟩
             case g235 => assumption
             (try simp only [Act.put, List.setIfInBounds_toArray, List.set_cons_zero, List.set_cons_succ])
             refine' wpAnyH_take (i := 6) (v := ?v236) ?a236 ?b236 ?c236 ?d236 ?e236 ?f236 ?g236 ?z236
             case a236 => (simp only [List.getElem?_toArray, List.getElem?_cons_succ, List.getElem?_cons_zero]; try rfl)
             case b236 | c236 | d236 => kernel_rfl
             case e236 => exact fun _ _ _ h => h
             case f236 => first | exact Or.inl ⟨by rfl, by (intro w hSw; (try dsimp only at hSw); go_simp; try rfl)⟩ | exact Or.inr ⟨by rfl, rfl⟩
             case g236 => assumption
             (try simp only [Act.put, List.setIfInBounds_toArray, List.set_cons_zero, List.set_cons_succ])
             refine' wpAnyH_take (i := 7) (v := ?v237) ?a237 ?b237 ?c237 ?d237 ?e237 ?f237 ?g237 ?z237
             case a237 => (simp only [List.getElem?_toArray, List.getElem?_cons_succ, List.getElem?_cons_zero]; try rfl)
             case b237 | c237 | d237 => kernel_rfl
             case e237 => exact fun _ _ _ h => h
             case f237 => first | exact Or.inl ⟨by rfl, by (intro w hSw; (try dsimp only at hSw); go_simp; try rfl)⟩ | exact Or.inr ⟨by rfl, rfl⟩
             case g237 => assumption
             (try simp only [Act.put, List.setIfInBounds_toArray, List.set_cons_zero, List.set_cons_succ])
             refine' wpAnyH_take (i := 8) (v := ?v238) ?a238 ?b238 ?c238 ?d238 ?e238 ?f238 ?g238 ?z238
             case a238 => (simp only [List.getElem?_toArray, List.getElem?_cons_succ, List.getElem?_cons_zero]; try rfl)
             case b238 | c238 | d238 => kernel_rfl
             case e238 => exact fun _ _ _ h => h
             case f238 => first | exact Or.inl ⟨by rfl, by (intro w hSw; (try dsimp only at hSw); go_simp; try rfl)⟩ | exact Or.inr ⟨by rfl, rfl⟩
             case g238 => assumption
             (try simp only [Act.put, List.setIfInBounds_toArray, List.set_cons_zero, List.set_cons_succ])
             refine' wpAnyH_take (i := 9) (v := ?v239) ?a239 ?b239 ?c239 ?d239 ?e239 ?f239 ?g239 ?z239
             case a239 => (simp only [List.getElem?_toArray, List.getElem?_cons_succ, List.getElem?_cons_zero]; try rfl)
             case b239 | c239 | d239 => kernel_rfl
             case e239 => exact fun _ _ _ h => h
             case f239 => first | exact Or.inl ⟨by rfl, by (intro w hSw; (try dsimp only at hSw); go_simp; try rfl)⟩ | exact Or.inr ⟨by rfl, rfl⟩
             case g239 => assumption
             (try simp only [Act.put, List.setIfInBounds_toArray, List.set_cons_zero, List.set_cons_succ])
             refine' wpAnyH_take (i := 10) (v := ?v240) ?a240 ?b240 ?c240 ?d240 ?e240 ?f240 ?g240 ?z240
             case a240 => (simp only [List.getElem?_toArray, List.getElem?_cons_succ, List.getElem?_cons_zero]; try rfl)
             case b240 | c240 | d240 => kernel_rfl
             case e240 => exact fun _ _ _ h => h
             case f240 => first | exact Or.inl ⟨by rfl, by (intro w hSw; (try dsimp only at hSw); go_simp; try rfl)⟩ | exact Or.inr ⟨by rfl, rfl⟩
             case g240 => assumption
             (try simp only [Act.put, List.setIfInBounds_toArray, List.set_cons_zero, List.set_cons_succ])
             refine' wpAnyH_take (i := 12) (v := ?v241) ?a241 ?b241 ?c241 ?d241 ?e241 ?f241 ?g241 ?z241
             case a241 => (simp only [List.getElem?_toArray, List.getElem?_cons_succ, List.getElem?_cons_zero]; try rfl)
             case b241 | c241 | d241 => kernel_rfl
             case e241 => exact fun _ _ _ h => h
             case f241 => first | exact Or.inl ⟨by rfl, by (intro w hSw; (try dsimp only at hSw); go_simp; try rfl)⟩ | exact Or.inr ⟨by rfl, rfl⟩
             case g241 => assumption
             (try simp only [Act.put, List.setIfInBounds_toArray, List.set_cons_zero, List.set_cons_succ])
             refine' wpAnyH_take (i := 13) (v := ?v242) ?a242 ?b242 ?c242 ?d242 ?e242 ?f242 ?g242 ?z242
             case a242 => (simp only [List.getElem?_toArray, List.getElem?_cons_succ, List.getElem?_cons_zero]; try rfl)
             case b242 | c242 | d242 => kernel_rfl
             case e242 => exact fun _ _ _ h => h
             case f242 => first | exact Or.inl ⟨by rfl, by (intro w hSw; (try dsimp only at hSw); go_simp; try rfl)⟩ | exact Or.inr ⟨by rfl, rfl⟩
             case g242 => assumption
             (try simp only [Act.put, List.setIfInBounds_toArray, List.set_cons_zero, List.set_cons_succ])
             refine wpAnyH_ready (rs := [11]) (by kernel_rfl) (by simp) ?_
             refine' (AllReadyH.cons (i := 11) ?ho11x243 (fun K hK => ?st11x243) AllReadyH.nil)
             case ho11x243 => (simp only [List.getElem?_toArray, List.getElem?_cons_succ, List.getElem?_cons_zero]; try rfl)
             case st11x243 =>
              go_simp
              refine (leq_any _ _ ⟨ce, cl⟩ Y _ (hvc.out.below (by first | exact hb | go_grown)) (hvY.out.below (by first | exact hb | go_grown))).mono ?_; rw [hcm.out]; rintro e_ w_ ⟨rfl, hb_⟩; replace hb := chainB (B := w13.heap.size) (a := w13) (by go_grown) hb_ (by have := hb.size; first | omega | (simp; done) | (simp; omega)); clear hb_
              refine hK.out _ _ ?_ (fun hHeld => ?_)
              · exact ⟨(hba.out.below hb).cell 0 rfl, (hba.out.below hb).cell 1 rfl, (hbb.out.below hb).cell 0 rfl, (hbb.out.below hb).cell 1 rfl, (hbc.out.below hb).cell 0 rfl, (hbc.out.below hb).cell 1 rfl, (hX.out.below hb).cell 0 rfl, (hX.out.below hb).cell 1 rfl, (hY.out.below hb).cell 0 rfl, (hY.out.below hb).cell 1 rfl⟩
              clear hK K
              (try simp only [Act.put, List.setIfInBounds_toArray, List.set_cons_zero, List.set_cons_succ])
              refine wpAnyH_ready (rs := [14]) (by kernel_rfl) (by simp) ?_
              refine' (AllReadyH.cons (i := 14) ?ho14x244 (fun K hK => ?st14x244) AllReadyH.nil)
              case ho14x244 => (simp only [List.getElem?_toArray, List.getElem?_cons_succ, List.getElem?_cons_zero]; try rfl)
              case st14x244 =>
               go_simp
               refine (leq_any _ _ ⟨ce, cl⟩ ⟨ae, al⟩ _ (hvc.out.below (by first | exact hb | go_grown)) (hva.out.below (by first | exact hb | go_grown))).mono ?_; rw [hN1.out]; rintro e_ w_ ⟨rfl, hb_⟩; replace hb := chainB (B := w13.heap.size) (a := w13) (by go_grown) hb_ (by have := hb.size; first | omega | (simp; done) | (simp; omega)); clear hb_
               refine hK.out _ _ ?_ (fun hHeld => ?_)
               · exact ⟨(hba.out.below hb).cell 0 rfl, (hba.out.below hb).cell 1 rfl, (hbb.out.below hb).cell 0 rfl, (hbb.out.below hb).cell 1 rfl, (hbc.out.below hb).cell 0 rfl, (hbc.out.below hb).cell 1 rfl, (hX.out.below hb).cell 0 rfl, (hX.out.below hb).cell 1 rfl, (hY.out.below hb).cell 0 rfl, (hY.out.below hb).cell 1 rfl⟩
               clear hK K
               (try simp only [Act.put, List.setIfInBounds_toArray, List.set_cons_zero, List.set_cons_succ])
               refine' wpAnyH_take (i := 15) (v := ?v245) ?a245 ?b245 ?c245 ?d245 ?e245 ?f245 ?g245 ?z245
               case a245 => (simp only [List.getElem?_toArray, List.getElem?_cons_succ, List.getElem?_cons_zero]; try rfl)
               case b245 | c245 | d245 => kernel_rfl
               case e245 => exact fun _ _ _ h => h
               case f245 => first | exact Or.inl ⟨by rfl, by (intro w hSw; (try dsimp only at hSw); go_simp; try rfl)⟩ | exact Or.inr ⟨by rfl, rfl⟩
               case g245 => assumption
               (try simp only [Act.put, List.setIfInBounds_toArray, List.set_cons_zero, List.set_cons_succ])
               refine' wpAnyH_take (i := 16) (v := ?v246) ?a246 ?b246 ?c246 ?d246 ?e246 ?f246 ?g246 ?z246
               case a246 => (simp only [List.getElem?_toArray, List.getElem?_cons_succ, List.getElem?_cons_zero]; try rfl)
               case b246 | c246 | d246 => kernel_rfl
               case e246 => exact fun _ _ _ h => h
               case f246 => first | exact Or.inl ⟨by rfl, by (intro w hSw; (try dsimp only at hSw); go_simp; try rfl)⟩ | exact Or.inr ⟨by rfl, rfl⟩
               case g246 => assumption
               (try simp only [Act.put, List.setIfInBounds_toArray, List.set_cons_zero, List.set_cons_succ])
               refine' wpAnyH_take (i := 17) (v := ?v247) ?a247 ?b247 ?c247 ?d247 ?e247 ?f247 ?g247 ?z247
               case a247 => (simp only [List.getElem?_toArray, List.getElem?_cons_succ, List.getElem?_cons_zero]; try rfl)
               case b247 | c247 | d247 => kernel_rfl
               case e247 => exact fun _ _ _ h => h
               case f247 => first | exact Or.inl ⟨by rfl, by (intro w hSw; (try dsimp only at hSw); go_simp; try rfl)⟩ | exact Or.inr ⟨by rfl, rfl⟩
               case g247 => assumption
               (try simp only [Act.put, List.setIfInBounds_toArray, List.set_cons_zero, List.set_cons_succ])
               refine wpAnyH_ready (rs := [18]) (by kernel_rfl) (by simp) ?_
               refine' (AllReadyH.cons (i := 18) ?ho18x248 (fun K hK => ?st18x248) AllReadyH.nil)
               case ho18x248 => (simp only [List.getElem?_toArray, List.getElem?_cons_succ, List.getElem?_cons_zero]; try rfl)
               case st18x248 =>
                go_simp
                refine (leq_any _ _ ⟨ce, cl⟩ ⟨be, bl⟩ _ (hvc.out.below (by first | exact hb | go_grown)) (hvb.out.below (by first | exact hb | go_grown))).mono ?_; rw [hN2.out]; rintro e_ w_ ⟨rfl, hb_⟩; replace hb := chainB (B := w13.heap.size) (a := w13) (by go_grown) hb_ (by have := hb.size; first | omega | (simp; done) | (simp; omega)); clear hb_
                refine hK.out _ _ ?_ (fun hHeld => ?_)
                · exact ⟨(hba.out.below hb).cell 0 rfl, (hba.out.below hb).cell 1 rfl, (hbb.out.below hb).cell 0 rfl, (hbb.out.below hb).cell 1 rfl, (hbc.out.below hb).cell 0 rfl, (hbc.out.below hb).cell 1 rfl, (hX.out.below hb).cell 0 rfl, (hX.out.below hb).cell 1 rfl, (hY.out.below hb).cell 0 rfl, (hY.out.below hb).cell 1 rfl⟩
                clear hK K
                (try simp only [Act.put, List.setIfInBounds_toArray, List.set_cons_zero, List.set_cons_succ])
                refine' wpAnyH_take (i := 19) (v := ?v249) ?a249 ?b249 ?c249 ?d249 ?e249 ?f249 ?g249 ?z249
                case a249 => (simp only [List.getElem?_toArray, List.getElem?_cons_succ, List.getElem?_cons_zero]; try rfl)
                case b249 | c249 | d249 => kernel_rfl
                case e249 => exact fun _ _ _ h => h
                case f249 => first | exact Or.inl ⟨by rfl, by (intro w hSw; (try dsimp only at hSw); go_simp; try rfl)⟩ | exact Or.inr ⟨by rfl, rfl⟩
                case g249 => assumption
                (try simp only [Act.put, List.setIfInBounds_toArray, List.set_cons_zero, List.set_cons_succ])
                refine' wpAnyH_take (i := 20) (v := ?v250) ?a250 ?b250 ?c250 ?d250 ?e250 ?f250 ?g250 ?z250
                case a250 => (simp only [List.getElem?_toArray, List.getElem?_cons_succ, List.getElem?_cons_zero]; try rfl)
                case b250 | c250 | d250 => kernel_rfl
                case e250 => exact fun _ _ _ h => h
                case f250 => first | exact Or.inl ⟨by rfl, by (intro w hSw; (try dsimp only at hSw); go_simp; try rfl)⟩ | exact Or.inr ⟨by rfl, rfl⟩
                case g250 => assumption
                (try simp only [Act.put, List.setIfInBounds_toArray, List.set_cons_zero, List.set_cons_succ])
                refine' wpAnyH_take (i := 21) (v := ?v251) ?a251 ?b251 ?c251 ?d251 ?e251 ?f251 ?g251 ?z251
                case a251 => (simp only [List.getElem?_toArray, List.getElem?_cons_succ, List.getElem?_cons_zero]; try rfl)
                case b251 | c251 | d251 => kernel_rfl
                case e251 => exact fun _ _ _ h => h
                case f251 => first | exact Or.inl ⟨by rfl, by (intro w hSw; (try dsimp only at hSw); go_simp; try rfl)⟩ | exact Or.inr ⟨by rfl, rfl⟩
                case g251 => assumption
                (try simp only [Act.put, List.setIfInBounds_toArray, List.set_cons_zero, List.set_cons_succ])
                refine' wpAnyH_take (i := 22) (v := ?v252) ?a252 ?b252 ?c252 ?d252 ?e252 ?f252 ?g252 ?z252
                case a252 => (simp only [List.getElem?_toArray, List.getElem?_cons_succ, List.getElem?_cons_zero]; try rfl)
                case b252 | c252 | d252 => kernel_rfl
                case e252 => exact fun _ _ _ h => h
                case f252 => first | exact Or.inl ⟨by rfl, by (intro w hSw; (try dsimp only at hSw); go_simp; try rfl)⟩ | exact Or.inr ⟨by rfl, rfl⟩
                case g252 => assumption
                (try simp only [Act.put, List.setIfInBounds_toArray, List.set_cons_zero, List.set_cons_succ])
                refine wpAnyH_done (by kernel_rfl) ?_ _
                refine NoPanic.normal ?_
                go_wp2_with fail
                go_meet
                exact ⟨by simp_all, chainB hcut0_.out hb hcut0_.out.size⟩
         | true =>
          cases N1 with
          | false =>
           simp only [Bool.and_true, Bool.true_and, Bool.and_false, Bool.false_and] at hjc hcm
           have hb := Below.refl w13.heap.size w13
           refine wp_region_noPanic ?_
           refine wp_region_held_drew (S := (fun w' => w'.cell? ⟨w.heap.size, 0, none⟩ = some (.int .u64 ae) ∧ w'.cell? ⟨w.heap.size, 1, none⟩ = some (.slice A i ca) ∧ w'.cell? ⟨w.heap.size + 1, 0, none⟩ = some (.int .u64 be) ∧ w'.cell? ⟨w.heap.size + 1, 1, none⟩ = some (.slice B i cb) ∧ w'.cell? ⟨w.heap.size + 1 + 1, 0, none⟩ = some (.int .u64 ce) ∧ w'.cell? ⟨w.heap.size + 1 + 1, 1, none⟩ = some (.slice C i cc) ∧ w'.cell? ⟨w4.heap.size, 0, none⟩ = some (.int .u64 X.e) ∧ w'.cell? ⟨w4.heap.size, 1, none⟩ = some (.slice VX nX cX) ∧ w'.cell? ⟨w5.heap.size, 0, none⟩ = some (.int .u64 Y.e) ∧ w'.cell? ⟨w5.heap.size, 1, none⟩ = some (.slice VY nY cY))) (by kernel_rfl) (⟨a0_, a1_, b0_, b1_, c0_, c1_, X0_, X1_, Y0_, Y1_⟩) (fun hHeld => ?_)
           refine' wpAnyH_take (i := 0) (v := ?v253) ?a253 ?b253 ?c253 ?d253 ?e253 ?f253 ?g253 ?z253
           case a253 => (simp only [List.getElem?_toArray, List.getElem?_cons_succ, List.getElem?_cons_zero]; try rfl)
           case b253 | c253 | d253 => kernel_rfl
           case e253 => exact fun _ _ _ h => h
           case f253 => first | exact Or.inl ⟨by rfl, by (intro w hSw; (try dsimp only at hSw); go_simp; try rfl)⟩ | exact Or.inr ⟨by rfl, rfl⟩
           case g253 => assumption
           (try simp only [Act.put, List.setIfInBounds_toArray, List.set_cons_zero, List.set_cons_succ])
           refine' wpAnyH_take (i := 1) (v := ?v254) ?a254 ?b254 ?c254 ?d254 ?e254 ?f254 ?g254 ?z254
           case a254 => (simp only [List.getElem?_toArray, List.getElem?_cons_succ, List.getElem?_cons_zero]; try rfl)
           case b254 | c254 | d254 => kernel_rfl
           case e254 => exact fun _ _ _ h => h
           case f254 => first | exact Or.inl ⟨by rfl, by (intro w hSw; (try dsimp only at hSw); go_simp; try rfl)⟩ | exact Or.inr ⟨by rfl, rfl⟩
           case g254 => assumption
           (try simp only [Act.put, List.setIfInBounds_toArray, List.set_cons_zero, List.set_cons_succ])
           refine' wpAnyH_take (i := 3) (v := ?v255) ?a255 ?b255 ?c255 ?d255 ?e255 ?f255 ?g255 ?z255
           case a255 => (simp only [List.getElem?_toArray, List.getElem?_cons_succ, List.getElem?_cons_zero]; try rfl)
           case b255 | c255 | d255 => kernel_rfl
           case e255 => exact fun _ _ _ h => h
           case f255 => first | exact Or.inl ⟨by rfl, by (intro w hSw; (try dsimp only at hSw); go_simp; try rfl)⟩ | exact Or.inr ⟨by rfl, rfl⟩
           case g255 => assumption
           (try simp only [Act.put, List.setIfInBounds_toArray, List.set_cons_zero, List.set_cons_succ])
           refine wpAnyH_ready (rs := [2]) (by kernel_rfl) (by simp) ?_
           refine' (AllReadyH.cons (i := 2) ?ho2x256 (fun K hK => ?st2x256) AllReadyH.nil)
           case ho2x256 => (simp only [List.getElem?_toArray, List.getElem?_cons_succ, List.getElem?_cons_zero]; try rfl)
           case st2x256 =>
            go_simp
            refine (leq_any _ _ X ⟨ce, cl⟩ _ (hvX.out.below (by first | exact hb | go_grown)) (hvc.out.below (by first | exact hb | go_grown))).mono ?_; rw [hjc.out]; rintro e_ w_ ⟨rfl, hb_⟩; replace hb := chainB (B := w13.heap.size) (a := w13) (by go_grown) hb_ (by have := hb.size; first | omega | (simp; done) | (simp; omega)); clear hb_
            refine hK.out _ _ ?_ (fun hHeld => ?_)
            · exact ⟨(hba.out.below hb).cell 0 rfl, (hba.out.below hb).cell 1 rfl, (hbb.out.below hb).cell 0 rfl, (hbb.out.below hb).cell 1 rfl, (hbc.out.below hb).cell 0 rfl, (hbc.out.below hb).cell 1 rfl, (hX.out.below hb).cell 0 rfl, (hX.out.below hb).cell 1 rfl, (hY.out.below hb).cell 0 rfl, (hY.out.below hb).cell 1 rfl⟩
            clear hK K
            (try simp only [Act.put, List.setIfInBounds_toArray, List.set_cons_zero, List.set_cons_succ])
            refine' wpAnyH_take (i := 4) (v := ?v257) ?a257 ?b257 ?c257 ?d257 ?e257 ?f257 ?g257 ?z257
            case a257 => (simp only [List.getElem?_toArray, List.getElem?_cons_succ, List.getElem?_cons_zero]; try rfl)
            case b257 | c257 | d257 => kernel_rfl
            case e257 => exact fun _ _ _ h => h
            case f257 => first | exact Or.inl ⟨by rfl, by (intro w hSw; (try dsimp only at hSw); go_simp; try rfl)⟩ | exact Or.inr ⟨by rfl, rfl⟩
            case g257 => assumption
            (try simp only [Act.put, List.setIfInBounds_toArray, List.set_cons_zero, List.set_cons_succ])
            refine' wpAnyH_take (i := 5) (v := ?v258) ?a258 ?b258 ?c258 ?d258 ?e258 ?f258 ?g258 ?z258
            case a258 => (simp only [List.getElem?_toArray, List.getElem?_cons_succ, List.getElem?_cons_zero]; try rfl)
            case b258 | c258 | d258 => kernel_rfl
            case e258 => exact fun _ _ _ h => h
            case f258 => first | exact Or.inl ⟨by rfl, by (intro w hSw; (try dsimp only at hSw); go_simp; try rfl)⟩ | exact Or.inr ⟨by rfl, rfl⟩
            case g258 => assumption
            (try simp only [Act.put, List.setIfInBounds_toArray, List.set_cons_zero, List.set_cons_succ])
            refine' wpAnyH_take (i := 6) (v := ?v259) ?a259 ?b259 ?c259 ?d259 ?e259 ?f259 ?g259 ?z259
            case a259 => (simp only [List.getElem?_toArray, List.getElem?_cons_succ, List.getElem?_cons_zero]; try rfl)
            case b259 | c259 | d259 => kernel_rfl
            case e259 => exact fun _ _ _ h => h
            case f259 => first | exact Or.inl ⟨by rfl, by (intro w hSw; (try dsimp only at hSw); go_simp; try rfl)⟩ | exact Or.inr ⟨by rfl, rfl⟩
            case g259 => assumption
            (try simp only [Act.put, List.setIfInBounds_toArray, List.set_cons_zero, List.set_cons_succ])
            refine' wpAnyH_take (i := 7) (v := ?v260) ?a260 ?b260 ?c260 ?d260 ?e260 ?f260 ?g260 ?z260
            case a260 => (simp only [List.getElem?_toArray, List.getElem?_cons_succ, List.getElem?_cons_zero]; try rfl)
            case b260 | c260 | d260 => kernel_rfl
            case e260 => exact fun _ _ _ h => h
            case f260 => first | exact Or.inl ⟨by rfl, by (intro w hSw; (try dsimp only at hSw); go_simp; try rfl)⟩ | exact Or.inr ⟨by rfl, rfl⟩
            case g260 => assumption
            (try simp only [Act.put, List.setIfInBounds_toArray, List.set_cons_zero, List.set_cons_succ])
            refine' wpAnyH_take (i := 8) (v := ?v261) ?a261 ?b261 ?c261 ?d261 ?e261 ?f261 ?g261 ?z261
            case a261 => (simp only [List.getElem?_toArray, List.getElem?_cons_succ, List.getElem?_cons_zero]; try rfl)
            case b261 | c261 | d261 => kernel_rfl
            case e261 => exact fun _ _ _ h => h
            case f261 => first | exact Or.inl ⟨by rfl, by (intro w hSw; (try dsimp only at hSw); go_simp; try rfl)⟩ | exact Or.inr ⟨by rfl, rfl⟩
            case g261 => assumption
            (try simp only [Act.put, List.setIfInBounds_toArray, List.set_cons_zero, List.set_cons_succ])
            refine' wpAnyH_take (i := 9) (v := ?v262) ?a262 ?b262 ?c262 ?d262 ?e262 ?f262 ?g262 ?z262
            case a262 => (simp only [List.getElem?_toArray, List.getElem?_cons_succ, List.getElem?_cons_zero]; try rfl)
            case b262 | c262 | d262 => kernel_rfl
            case e262 => exact fun _ _ _ h => h
            case f262 => first | exact Or.inl ⟨by rfl, by (intro w hSw; (try dsimp only at hSw); go_simp; try rfl)⟩ | exact Or.inr ⟨by rfl, rfl⟩
            case g262 => assumption
            (try simp only [Act.put, List.setIfInBounds_toArray, List.set_cons_zero, List.set_cons_succ])
            refine' wpAnyH_take (i := 10) (v := ?v263) ?a263 ?b263 ?c263 ?d263 ?e263 ?f263 ?g263 ?z263
            case a263 => (simp only [List.getElem?_toArray, List.getElem?_cons_succ, List.getElem?_cons_zero]; try rfl)
            case b263 | c263 | d263 => kernel_rfl
            case e263 => exact fun _ _ _ h => h
            case f263 => first | exact Or.inl ⟨by rfl, by (intro w hSw; (try dsimp only at hSw); go_simp; try rfl)⟩ | exact Or.inr ⟨by rfl, rfl⟩
            case g263 => assumption
            (try simp only [Act.put, List.setIfInBounds_toArray, List.set_cons_zero, List.set_cons_succ])
            refine' wpAnyH_take (i := 12) (v := ?v264) ?a264 ?b264 ?c264 ?d264 ?e264 ?f264 ?g264 ?z264
            case a264 => (simp only [List.getElem?_toArray, List.getElem?_cons_succ, List.getElem?_cons_zero]; try rfl)
            case b264 | c264 | d264 => kernel_rfl
            case e264 => exact fun _ _ _ h => h
            case f264 => first | exact Or.inl ⟨by rfl, by (intro w hSw; (try dsimp only at hSw); go_simp; try rfl)⟩ | exact Or.inr ⟨by rfl, rfl⟩
            case g264 => assumption
            (try simp only [Act.put, List.setIfInBounds_toArray, List.set_cons_zero, List.set_cons_succ])
            refine' wpAnyH_take (i := 13) (v := ?v265) ?a265 ?b265 ?c265 ?d265 ?e265 ?f265 ?g265 ?z265
            case a265 => (simp only [List.getElem?_toArray, List.getElem?_cons_succ, List.getElem?_cons_zero]; try rfl)
            case b265 | c265 | d265 => kernel_rfl
            case e265 => exact fun _ _ _ h => h
            case f265 => first | exact Or.inl ⟨by rfl, by (intro w hSw; (try dsimp only at hSw); go_simp; try rfl)⟩ | exact Or.inr ⟨by rfl, rfl⟩
            case g265 => assumption
            (try simp only [Act.put, List.setIfInBounds_toArray, List.set_cons_zero, List.set_cons_succ])
            refine wpAnyH_ready (rs := [11]) (by kernel_rfl) (by simp) ?_
            refine' (AllReadyH.cons (i := 11) ?ho11x266 (fun K hK => ?st11x266) AllReadyH.nil)
            case ho11x266 => (simp only [List.getElem?_toArray, List.getElem?_cons_succ, List.getElem?_cons_zero]; try rfl)
            case st11x266 =>
             go_simp
             refine (leq_any _ _ ⟨ce, cl⟩ Y _ (hvc.out.below (by first | exact hb | go_grown)) (hvY.out.below (by first | exact hb | go_grown))).mono ?_; rw [hcm.out]; rintro e_ w_ ⟨rfl, hb_⟩; replace hb := chainB (B := w13.heap.size) (a := w13) (by go_grown) hb_ (by have := hb.size; first | omega | (simp; done) | (simp; omega)); clear hb_
             refine hK.out _ _ ?_ (fun hHeld => ?_)
             · exact ⟨(hba.out.below hb).cell 0 rfl, (hba.out.below hb).cell 1 rfl, (hbb.out.below hb).cell 0 rfl, (hbb.out.below hb).cell 1 rfl, (hbc.out.below hb).cell 0 rfl, (hbc.out.below hb).cell 1 rfl, (hX.out.below hb).cell 0 rfl, (hX.out.below hb).cell 1 rfl, (hY.out.below hb).cell 0 rfl, (hY.out.below hb).cell 1 rfl⟩
             clear hK K
             (try simp only [Act.put, List.setIfInBounds_toArray, List.set_cons_zero, List.set_cons_succ])
             refine wpAnyH_ready (rs := [14]) (by kernel_rfl) (by simp) ?_
             refine' (AllReadyH.cons (i := 14) ?ho14x267 (fun K hK => ?st14x267) AllReadyH.nil)
             case ho14x267 => (simp only [List.getElem?_toArray, List.getElem?_cons_succ, List.getElem?_cons_zero]; try rfl)
             case st14x267 =>
              go_simp
              refine (leq_any _ _ ⟨ce, cl⟩ ⟨ae, al⟩ _ (hvc.out.below (by first | exact hb | go_grown)) (hva.out.below (by first | exact hb | go_grown))).mono ?_; rw [hN1.out]; rintro e_ w_ ⟨rfl, hb_⟩; replace hb := chainB (B := w13.heap.size) (a := w13) (by go_grown) hb_ (by have := hb.size; first | omega | (simp; done) | (simp; omega)); clear hb_
              refine hK.out _ _ ?_ (fun hHeld => ?_)
              · exact ⟨(hba.out.below hb).cell 0 rfl, (hba.out.below hb).cell 1 rfl, (hbb.out.below hb).cell 0 rfl, (hbb.out.below hb).cell 1 rfl, (hbc.out.below hb).cell 0 rfl, (hbc.out.below hb).cell 1 rfl, (hX.out.below hb).cell 0 rfl, (hX.out.below hb).cell 1 rfl, (hY.out.below hb).cell 0 rfl, (hY.out.below hb).cell 1 rfl⟩
              clear hK K
              (try simp only [Act.put, List.setIfInBounds_toArray, List.set_cons_zero, List.set_cons_succ])
              refine' wpAnyH_take (i := 15) (v := ?v268) ?a268 ?b268 ?c268 ?d268 ?e268 ?f268 ?g268 ?z268
              case a268 => (simp only [List.getElem?_toArray, List.getElem?_cons_succ, List.getElem?_cons_zero]; try rfl)
              case b268 | c268 | d268 => kernel_rfl
              case e268 => exact fun _ _ _ h => h
              case f268 => first | exact Or.inl ⟨by rfl, by (intro w hSw; (try dsimp only at hSw); go_simp; try rfl)⟩ | exact Or.inr ⟨by rfl, rfl⟩
              case g268 => assumption
              (try simp only [Act.put, List.setIfInBounds_toArray, List.set_cons_zero, List.set_cons_succ])
              refine' wpAnyH_take (i := 16) (v := undef) ?a269 ?b269 ?c269 ?d269 ?e269 ?f269 ?g269 ?z269
              case a269 => (simp only [List.getElem?_toArray, List.getElem?_cons_succ, List.getElem?_cons_zero]; try rfl)
              case b269 | c269 | d269 => kernel_rfl
              case e269 => exact fun _ _ _ h => h
              case f269 => first | exact Or.inl ⟨by rfl, by (intro w hSw; (try dsimp only at hSw); go_simp; try rfl)⟩ | exact Or.inr ⟨by rfl, rfl⟩
              case g269 => assumption
              (try simp only [Act.put, List.setIfInBounds_toArray, List.set_cons_zero, List.set_cons_succ])
              refine' wpAnyH_take (i := 17) (v := undef) ?a270 ?b270 ?c270 ?d270 ?e270 ?f270 ?g270 ?z270
              case a270 => (simp only [List.getElem?_toArray, List.getElem?_cons_succ, List.getElem?_cons_zero]; try rfl)
              case b270 | c270 | d270 => kernel_rfl
              case e270 => exact fun _ _ _ h => h
              case f270 => first | exact Or.inl ⟨by rfl, by (intro w hSw; (try dsimp only at hSw); go_simp; try rfl)⟩ | exact Or.inr ⟨by rfl, rfl⟩
              case g270 => assumption
              (try simp only [Act.put, List.setIfInBounds_toArray, List.set_cons_zero, List.set_cons_succ])
              refine' wpAnyH_take (i := 18) (v := undef) ?a271 ?b271 ?c271 ?d271 ?e271 ?f271 ?g271 ?z271
              case a271 => (simp only [List.getElem?_toArray, List.getElem?_cons_succ, List.getElem?_cons_zero]; try rfl)
              case b271 | c271 | d271 => kernel_rfl
              case e271 => exact fun _ _ _ h => h
              case f271 => first | exact Or.inl ⟨by rfl, by (intro w hSw; (try dsimp only at hSw); go_simp; try rfl)⟩ | exact Or.inr ⟨by rfl, rfl⟩
              case g271 => assumption
              (try simp only [Act.put, List.setIfInBounds_toArray, List.set_cons_zero, List.set_cons_succ])
              refine' wpAnyH_take (i := 19) (v := ?v272) ?a272 ?b272 ?c272 ?d272 ?e272 ?f272 ?g272 ?z272
              case a272 => (simp only [List.getElem?_toArray, List.getElem?_cons_succ, List.getElem?_cons_zero]; try rfl)
              case b272 | c272 | d272 => kernel_rfl
              case e272 => exact fun _ _ _ h => h
              case f272 => first | exact Or.inl ⟨by rfl, by (intro w hSw; (try dsimp only at hSw); go_simp; try rfl)⟩ | exact Or.inr ⟨by rfl, rfl⟩
              case g272 => assumption
              (try simp only [Act.put, List.setIfInBounds_toArray, List.set_cons_zero, List.set_cons_succ])
              refine' wpAnyH_take (i := 20) (v := ?v273) ?a273 ?b273 ?c273 ?d273 ?e273 ?f273 ?g273 ?z273
              case a273 => (simp only [List.getElem?_toArray, List.getElem?_cons_succ, List.getElem?_cons_zero]; try rfl)
              case b273 | c273 | d273 => kernel_rfl
              case e273 => exact fun _ _ _ h => h
              case f273 => first | exact Or.inl ⟨by rfl, by (intro w hSw; (try dsimp only at hSw); go_simp; try rfl)⟩ | exact Or.inr ⟨by rfl, rfl⟩
              case g273 => assumption
              (try simp only [Act.put, List.setIfInBounds_toArray, List.set_cons_zero, List.set_cons_succ])
              refine' wpAnyH_take (i := 21) (v := ?v274) ?a274 ?b274 ?c274 ?d274 ?e274 ?f274 ?g274 ?z274
              case a274 => (simp only [List.getElem?_toArray, List.getElem?_cons_succ, List.getElem?_cons_zero]; try rfl)
              case b274 | c274 | d274 => kernel_rfl
              case e274 => exact fun _ _ _ h => h
              case f274 => first | exact Or.inl ⟨by rfl, by (intro w hSw; (try dsimp only at hSw); go_simp; try rfl)⟩ | exact Or.inr ⟨by rfl, rfl⟩
              case g274 => assumption
              (try simp only [Act.put, List.setIfInBounds_toArray, List.set_cons_zero, List.set_cons_succ])
              refine' wpAnyH_take (i := 22) (v := ?v275) ?a275 ?b275 ?c275 ?d275 ?e275 ?f275 ?g275 ?z275
              case a275 => (simp only [List.getElem?_toArray, List.getElem?_cons_succ, List.getElem?_cons_zero]; try rfl)
              case b275 | c275 | d275 => kernel_rfl
              case e275 => exact fun _ _ _ h => h
              case f275 => first | exact Or.inl ⟨by rfl, by (intro w hSw; (try dsimp only at hSw); go_simp; try rfl)⟩ | exact Or.inr ⟨by rfl, rfl⟩
              case g275 => assumption
              (try simp only [Act.put, List.setIfInBounds_toArray, List.set_cons_zero, List.set_cons_succ])
              refine wpAnyH_done (by kernel_rfl) ?_ _
              refine NoPanic.normal ?_
              go_wp2_with fail
              go_meet
              exact ⟨by simp_all, chainB hcut0_.out hb hcut0_.out.size⟩
          | true =>
           cases N2 with
           | false =>
            simp only [Bool.and_true, Bool.true_and, Bool.and_false, Bool.false_and] at hjc hcm
            have hb := Below.refl w13.heap.size w13
            refine wp_region_noPanic ?_
            refine wp_region_held_drew (S := (fun w' => w'.cell? ⟨w.heap.size, 0, none⟩ = some (.int .u64 ae) ∧ w'.cell? ⟨w.heap.size, 1, none⟩ = some (.slice A i ca) ∧ w'.cell? ⟨w.heap.size + 1, 0, none⟩ = some (.int .u64 be) ∧ w'.cell? ⟨w.heap.size + 1, 1, none⟩ = some (.slice B i cb) ∧ w'.cell? ⟨w.heap.size + 1 + 1, 0, none⟩ = some (.int .u64 ce) ∧ w'.cell? ⟨w.heap.size + 1 + 1, 1, none⟩ = some (.slice C i cc) ∧ w'.cell? ⟨w4.heap.size, 0, none⟩ = some (.int .u64 X.e) ∧ w'.cell? ⟨w4.heap.size, 1, none⟩ = some (.slice VX nX cX) ∧ w'.cell? ⟨w5.heap.size, 0, none⟩ = some (.int .u64 Y.e) ∧ w'.cell? ⟨w5.heap.size, 1, none⟩ = some (.slice VY nY cY))) (by kernel_rfl) (⟨a0_, a1_, b0_, b1_, c0_, c1_, X0_, X1_, Y0_, Y1_⟩) (fun hHeld => ?_)
            refine' wpAnyH_take (i := 0) (v := ?v276) ?a276 ?b276 ?c276 ?d276 ?e276 ?f276 ?g276 ?z276
            case a276 => (simp only [List.getElem?_toArray, List.getElem?_cons_succ, List.getElem?_cons_zero]; try rfl)
            case b276 | c276 | d276 => kernel_rfl
            case e276 => exact fun _ _ _ h => h
            case f276 => first | exact Or.inl ⟨by rfl, by (intro w hSw; (try dsimp only at hSw); go_simp; try rfl)⟩ | exact Or.inr ⟨by rfl, rfl⟩
            case g276 => assumption
            (try simp only [Act.put, List.setIfInBounds_toArray, List.set_cons_zero, List.set_cons_succ])
            refine' wpAnyH_take (i := 1) (v := ?v277) ?a277 ?b277 ?c277 ?d277 ?e277 ?f277 ?g277 ?z277
            case a277 => (simp only [List.getElem?_toArray, List.getElem?_cons_succ, List.getElem?_cons_zero]; try rfl)
            case b277 | c277 | d277 => kernel_rfl
            case e277 => exact fun _ _ _ h => h
            case f277 => first | exact Or.inl ⟨by rfl, by (intro w hSw; (try dsimp only at hSw); go_simp; try rfl)⟩ | exact Or.inr ⟨by rfl, rfl⟩
            case g277 => assumption
            (try simp only [Act.put, List.setIfInBounds_toArray, List.set_cons_zero, List.set_cons_succ])
            refine' wpAnyH_take (i := 3) (v := ?v278) ?a278 ?b278 ?c278 ?d278 ?e278 ?f278 ?g278 ?z278
            case a278 => (simp only [List.getElem?_toArray, List.getElem?_cons_succ, List.getElem?_cons_zero]; try rfl)
            case b278 | c278 | d278 => kernel_rfl
            case e278 => exact fun _ _ _ h => h
            case f278 => first | exact Or.inl ⟨by rfl, by (intro w hSw; (try dsimp only at hSw); go_simp; try rfl)⟩ | exact Or.inr ⟨by rfl, rfl⟩
            case g278 => assumption
            (try simp only [Act.put, List.setIfInBounds_toArray, List.set_cons_zero, List.set_cons_succ])
            refine wpAnyH_ready (rs := [2]) (by kernel_rfl) (by simp) ?_
            refine' (AllReadyH.cons (i := 2) ?ho2x279 (fun K hK => ?st2x279) AllReadyH.nil)
            case ho2x279 => (simp only [List.getElem?_toArray, List.getElem?_cons_succ, List.getElem?_cons_zero]; try rfl)
            case st2x279 =>
             go_simp
             refine (leq_any _ _ X ⟨ce, cl⟩ _ (hvX.out.below (by first | exact hb | go_grown)) (hvc.out.below (by first | exact hb | go_grown))).mono ?_; rw [hjc.out]; rintro e_ w_ ⟨rfl, hb_⟩; replace hb := chainB (B := w13.heap.size) (a := w13) (by go_grown) hb_ (by have := hb.size; first | omega | (simp; done) | (simp; omega)); clear hb_
             refine hK.out _ _ ?_ (fun hHeld => ?_)
             · exact ⟨(hba.out.below hb).cell 0 rfl, (hba.out.below hb).cell 1 rfl, (hbb.out.below hb).cell 0 rfl, (hbb.out.below hb).cell 1 rfl, (hbc.out.below hb).cell 0 rfl, (hbc.out.below hb).cell 1 rfl, (hX.out.below hb).cell 0 rfl, (hX.out.below hb).cell 1 rfl, (hY.out.below hb).cell 0 rfl, (hY.out.below hb).cell 1 rfl⟩
             clear hK K
             (try simp only [Act.put, List.setIfInBounds_toArray, List.set_cons_zero, List.set_cons_succ])
             refine' wpAnyH_take (i := 4) (v := ?v280) ?a280 ?b280 ?c280 ?d280 ?e280 ?f280 ?g280 ?z280
             case a280 => (simp only [List.getElem?_toArray, List.getElem?_cons_succ, List.getElem?_cons_zero]; try rfl)
             case b280 | c280 | d280 => kernel_rfl
             case e280 => exact fun _ _ _ h => h
             case f280 => first | exact Or.inl ⟨by rfl, by (intro w hSw; (try dsimp only at hSw); go_simp; try rfl)⟩ | exact Or.inr ⟨by rfl, rfl⟩
             case g280 => assumption
             (try simp only [Act.put, List.setIfInBounds_toArray, List.set_cons_zero, List.set_cons_succ])
             refine' wpAnyH_take (i := 5) (v := ?v281) ?a281 ?b281 ?c281 ?d281 ?e281 ?f281 ?g281 ?z281
             case a281 => (simp only [List.getElem?_toArray, List.getElem?_cons_succ, List.getElem?_cons_zero]; try rfl)
             case b281 | c281 | d281 => kernel_rfl
             case e281 => exact fun _ _ _ h => h
             case f281 => first | exact Or.inl ⟨by rfl, by (intro w hSw; (try dsimp only at hSw); go_simp; try rfl)⟩ | exact Or.inr ⟨by rfl, rfl⟩
             case g281 => assumption
             (try simp only [Act.put, List.setIfInBounds_toArray, List.set_cons_zero, List.set_cons_succ])
             refine' wpAnyH_take (i := 6) (v := ?v282) ?a282 ?b282 ?c282 ?d282 ?e282 ?f282 ?g282 ?z282
             case a282 => (simp only [List.getElem?_toArray, List.getElem?_cons_succ, List.getElem?_cons_zero]; try rfl)
             case b282 | c282 | d282 => kernel_rfl
             case e282 => exact fun _ _ _ h => h
             case f282 => first | exact Or.inl ⟨by rfl, by (intro w hSw; (try dsimp only at hSw); go_simp; try rfl)⟩ | exact Or.inr ⟨by rfl, rfl⟩
             case g282 => assumption
             (try simp only [Act.put, List.setIfInBounds_toArray, List.set_cons_zero, List.set_cons_succ])
             refine' wpAnyH_take (i := 7) (v := ?v283) ?a283 ?b283 ?c283 ?d283 ?e283 ?f283 ?g283 ?z283
             case a283 => (simp only [List.getElem?_toArray, List.getElem?_cons_succ, List.getElem?_cons_zero]; try rfl)
             case b283 | c283 | d283 => kernel_rfl
             case e283 => exact fun _ _ _ h => h
             case f283 => first | exact Or.inl ⟨by rfl, by (intro w hSw; (try dsimp only at hSw); go_simp; try rfl)⟩ | exact Or.inr ⟨by rfl, rfl⟩
             case g283 => assumption
             (try simp only [Act.put, List.setIfInBounds_toArray, List.set_cons_zero, List.set_cons_succ])
             refine' wpAnyH_take (i := 8) (v := ?v284) ?a284 ?b284 ?c284 ?d284 ?e284 ?f284 ?g284 ?z284
             case a284 => (simp only [List.getElem?_toArray, List.getElem?_cons_succ, List.getElem?_cons_zero]; try rfl)
             case b284 | c284 | d284 => kernel_rfl
             case e284 => exact fun _ _ _ h => h
             case f284 => first | exact Or.inl ⟨by rfl, by (intro w hSw; (try dsimp only at hSw); go_simp; try rfl)⟩ | exact Or.inr ⟨by rfl, rfl⟩
             case g284 => assumption
             (try simp only [Act.put, List.setIfInBounds_toArray, List.set_cons_zero, List.set_cons_succ])
             refine' wpAnyH_take (i := 9) (v := ?v285) ?a285 ?b285 ?c285 ?d285 ?e285 ?f285 ?g285 ?z285
             case a285 => (simp only [List.getElem?_toArray, List.getElem?_cons_succ, List.getElem?_cons_zero]; try rfl)
             case b285 | c285 | d285 => kernel_rfl
             case e285 => exact fun _ _ _ h => h
             case f285 => first | exact Or.inl ⟨by rfl, by (intro w hSw; (try dsimp only at hSw); go_simp; try rfl)⟩ | exact Or.inr ⟨by rfl, rfl⟩
             case g285 => assumption
             (try simp only [Act.put, List.setIfInBounds_toArray, List.set_cons_zero, List.set_cons_succ])
             refine' wpAnyH_take (i := 10) (v := ?v286) ?a286 ?b286 ?c286 ?d286 ?e286 ?f286 ?g286 ?z286
             case a286 => (simp only [List.getElem?_toArray, List.getElem?_cons_succ, List.getElem?_cons_zero]; try rfl)
             case b286 | c286 | d286 => kernel_rfl
             case e286 => exact fun _ _ _ h => h
             case f286 => first | exact Or.inl ⟨by rfl, by (intro w hSw; (try dsimp only at hSw); go_simp; try rfl)⟩ | exact Or.inr ⟨by rfl, rfl⟩
             case g286 => assumption
             (try simp only [Act.put, List.setIfInBounds_toArray, List.set_cons_zero, List.set_cons_succ])
             refine' wpAnyH_take (i := 12) (v := ?v287) ?a287 ?b287 ?c287 ?d287 ?e287 ?f287 ?g287 ?z287
             case a287 => (simp only [List.getElem?_toArray, List.getElem?_cons_succ, List.getElem?_cons_zero]; try rfl)
             case b287 | c287 | d287 => kernel_rfl
             case e287 => exact fun _ _ _ h => h
             case f287 => first | exact Or.inl ⟨by rfl, by (intro w hSw; (try dsimp only at hSw); go_simp; try rfl)⟩ | exact Or.inr ⟨by rfl, rfl⟩
             case g287 => assumption
             (try simp only [Act.put, List.setIfInBounds_toArray, List.set_cons_zero, List.set_cons_succ])
             refine' wpAnyH_take (i := 13) (v := ?v288) ?a288 ?b288 ?c288 ?d288 ?e288 ?f288 ?g288 ?z288
             case a288 => (simp only [List.getElem?_toArray, List.getElem?_cons_succ, List.getElem?_cons_zero]; try rfl)
             case b288 | c288 | d288 => kernel_rfl
             case e288 => exact fun _ _ _ h => h
             case f288 => first | exact Or.inl ⟨by rfl, by (intro w hSw; (try dsimp only at hSw); go_simp; try rfl)⟩ | exact Or.inr ⟨by rfl, rfl⟩
             case g288 => assumption
             (try simp only [Act.put, List.setIfInBounds_toArray, List.set_cons_zero, List.set_cons_succ])
             refine wpAnyH_ready (rs := [11]) (by kernel_rfl) (by simp) ?_
             refine' (AllReadyH.cons (i := 11) ?ho11x289 (fun K hK => ?st11x289) AllReadyH.nil)
             case ho11x289 => (simp only [List.getElem?_toArray, List.getElem?_cons_succ, List.getElem?_cons_zero]; try rfl)
             case st11x289 =>
              go_simp
              refine (leq_any _ _ ⟨ce, cl⟩ Y _ (hvc.out.below (by first | exact hb | go_grown)) (hvY.out.below (by first | exact hb | go_grown))).mono ?_; rw [hcm.out]; rintro e_ w_ ⟨rfl, hb_⟩; replace hb := chainB (B := w13.heap.size) (a := w13) (by go_grown) hb_ (by have := hb.size; first | omega | (simp; done) | (simp; omega)); clear hb_
              refine hK.out _ _ ?_ (fun hHeld => ?_)
              · exact ⟨(hba.out.below hb).cell 0 rfl, (hba.out.below hb).cell 1 rfl, (hbb.out.below hb).cell 0 rfl, (hbb.out.below hb).cell 1 rfl, (hbc.out.below hb).cell 0 rfl, (hbc.out.below hb).cell 1 rfl, (hX.out.below hb).cell 0 rfl, (hX.out.below hb).cell 1 rfl, (hY.out.below hb).cell 0 rfl, (hY.out.below hb).cell 1 rfl⟩
              clear hK K
              (try simp only [Act.put, List.setIfInBounds_toArray, List.set_cons_zero, List.set_cons_succ])
              refine wpAnyH_ready (rs := [14]) (by kernel_rfl) (by simp) ?_
              refine' (AllReadyH.cons (i := 14) ?ho14x290 (fun K hK => ?st14x290) AllReadyH.nil)
              case ho14x290 => (simp only [List.getElem?_toArray, List.getElem?_cons_succ, List.getElem?_cons_zero]; try rfl)
              case st14x290 =>
               go_simp
               refine (leq_any _ _ ⟨ce, cl⟩ ⟨ae, al⟩ _ (hvc.out.below (by first | exact hb | go_grown)) (hva.out.below (by first | exact hb | go_grown))).mono ?_; rw [hN1.out]; rintro e_ w_ ⟨rfl, hb_⟩; replace hb := chainB (B := w13.heap.size) (a := w13) (by go_grown) hb_ (by have := hb.size; first | omega | (simp; done) | (simp; omega)); clear hb_
               refine hK.out _ _ ?_ (fun hHeld => ?_)
               · exact ⟨(hba.out.below hb).cell 0 rfl, (hba.out.below hb).cell 1 rfl, (hbb.out.below hb).cell 0 rfl, (hbb.out.below hb).cell 1 rfl, (hbc.out.below hb).cell 0 rfl, (hbc.out.below hb).cell 1 rfl, (hX.out.below hb).cell 0 rfl, (hX.out.below hb).cell 1 rfl, (hY.out.below hb).cell 0 rfl, (hY.out.below hb).cell 1 rfl⟩
               clear hK K
               (try simp only [Act.put, List.setIfInBounds_toArray, List.set_cons_zero, List.set_cons_succ])
               refine' wpAnyH_take (i := 15) (v := ?v291) ?a291 ?b291 ?c291 ?d291 ?e291 ?f291 ?g291 ?z291
               case a291 => (simp only [List.getElem?_toArray, List.getElem?_cons_succ, List.getElem?_cons_zero]; try rfl)
               case b291 | c291 | d291 => kernel_rfl
               case e291 => exact fun _ _ _ h => h
               case f291 => first | exact Or.inl ⟨by rfl, by (intro w hSw; (try dsimp only at hSw); go_simp; try rfl)⟩ | exact Or.inr ⟨by rfl, rfl⟩
               case g291 => assumption
               (try simp only [Act.put, List.setIfInBounds_toArray, List.set_cons_zero, List.set_cons_succ])
               refine' wpAnyH_take (i := 16) (v := ?v292) ?a292 ?b292 ?c292 ?d292 ?e292 ?f292 ?g292 ?z292
               case a292 => (simp only [List.getElem?_toArray, List.getElem?_cons_succ, List.getElem?_cons_zero]; try rfl)
               case b292 | c292 | d292 => kernel_rfl
               case e292 => exact fun _ _ _ h => h
               case f292 => first | exact Or.inl ⟨by rfl, by (intro w hSw; (try dsimp only at hSw); go_simp; try rfl)⟩ | exact Or.inr ⟨by rfl, rfl⟩
               case g292 => assumption
               (try simp only [Act.put, List.setIfInBounds_toArray, List.set_cons_zero, List.set_cons_succ])
               refine' wpAnyH_take (i := 17) (v := ?v293) ?a293 ?b293 ?c293 ?d293 ?e293 ?f293 ?g293 ?z293
               case a293 => (simp only [List.getElem?_toArray, List.getElem?_cons_succ, List.getElem?_cons_zero]; try rfl)
               case b293 | c293 | d293 => kernel_rfl
               case e293 => exact fun _ _ _ h => h
               case f293 => first | exact Or.inl ⟨by rfl, by (intro w hSw; (try dsimp only at hSw); go_simp; try rfl)⟩ | exact Or.inr ⟨by rfl, rfl⟩
               case g293 => assumption
               (try simp only [Act.put, List.setIfInBounds_toArray, List.set_cons_zero, List.set_cons_succ])
               refine wpAnyH_ready (rs := [18]) (by kernel_rfl) (by simp) ?_
               refine' (AllReadyH.cons (i := 18) ?ho18x294 (fun K hK => ?st18x294) AllReadyH.nil)
               case ho18x294 => (simp only [List.getElem?_toArray, List.getElem?_cons_succ, List.getElem?_cons_zero]; try rfl)
               case st18x294 =>
                go_simp
                refine (leq_any _ _ ⟨ce, cl⟩ ⟨be, bl⟩ _ (hvc.out.below (by first | exact hb | go_grown)) (hvb.out.below (by first | exact hb | go_grown))).mono ?_; rw [hN2.out]; rintro e_ w_ ⟨rfl, hb_⟩; replace hb := chainB (B := w13.heap.size) (a := w13) (by go_grown) hb_ (by have := hb.size; first | omega | (simp; done) | (simp; omega)); clear hb_
                refine hK.out _ _ ?_ (fun hHeld => ?_)
                · exact ⟨(hba.out.below hb).cell 0 rfl, (hba.out.below hb).cell 1 rfl, (hbb.out.below hb).cell 0 rfl, (hbb.out.below hb).cell 1 rfl, (hbc.out.below hb).cell 0 rfl, (hbc.out.below hb).cell 1 rfl, (hX.out.below hb).cell 0 rfl, (hX.out.below hb).cell 1 rfl, (hY.out.below hb).cell 0 rfl, (hY.out.below hb).cell 1 rfl⟩
                clear hK K
                (try simp only [Act.put, List.setIfInBounds_toArray, List.set_cons_zero, List.set_cons_succ])
                refine' wpAnyH_take (i := 19) (v := ?v295) ?a295 ?b295 ?c295 ?d295 ?e295 ?f295 ?g295 ?z295
                case a295 => (simp only [List.getElem?_toArray, List.getElem?_cons_succ, List.getElem?_cons_zero]; try rfl)
                case b295 | c295 | d295 => kernel_rfl
                case e295 => exact fun _ _ _ h => h
                case f295 => first | exact Or.inl ⟨by rfl, by (intro w hSw; (try dsimp only at hSw); go_simp; try rfl)⟩ | exact Or.inr ⟨by rfl, rfl⟩
                case g295 => assumption
                (try simp only [Act.put, List.setIfInBounds_toArray, List.set_cons_zero, List.set_cons_succ])
                refine' wpAnyH_take (i := 20) (v := ?v296) ?a296 ?b296 ?c296 ?d296 ?e296 ?f296 ?g296 ?z296
                case a296 => (simp only [List.getElem?_toArray, List.getElem?_cons_succ, List.getElem?_cons_zero]; try rfl)
                case b296 | c296 | d296 => kernel_rfl
                case e296 => exact fun _ _ _ h => h
                case f296 => first | exact Or.inl ⟨by rfl, by (intro w hSw; (try dsimp only at hSw); go_simp; try rfl)⟩ | exact Or.inr ⟨by rfl, rfl⟩
                case g296 => assumption
                (try simp only [Act.put, List.setIfInBounds_toArray, List.set_cons_zero, List.set_cons_succ])
                refine' wpAnyH_take (i := 21) (v := ?v297) ?a297 ?b297 ?c297 ?d297 ?e297 ?f297 ?g297 ?z297
                case a297 => (simp only [List.getElem?_toArray, List.getElem?_cons_succ, List.getElem?_cons_zero]; try rfl)
                case b297 | c297 | d297 => kernel_rfl
                case e297 => exact fun _ _ _ h => h
                case f297 => first | exact Or.inl ⟨by rfl, by (intro w hSw; (try dsimp only at hSw); go_simp; try rfl)⟩ | exact Or.inr ⟨by rfl, rfl⟩
                case g297 => assumption
                (try simp only [Act.put, List.setIfInBounds_toArray, List.set_cons_zero, List.set_cons_succ])
                refine' wpAnyH_take (i := 22) (v := ?v298) ?a298 ?b298 ?c298 ?d298 ?e298 ?f298 ?g298 ?z298
                case a298 => (simp only [List.getElem?_toArray, List.getElem?_cons_succ, List.getElem?_cons_zero]; try rfl)
                case b298 | c298 | d298 => kernel_rfl
                case e298 => exact fun _ _ _ h => h
                case f298 => first | exact Or.inl ⟨by rfl, by (intro w hSw; (try dsimp only at hSw); go_simp; try rfl)⟩ | exact Or.inr ⟨by rfl, rfl⟩
                case g298 => assumption
                (try simp only [Act.put, List.setIfInBounds_toArray, List.set_cons_zero, List.set_cons_succ])
                refine wpAnyH_done (by kernel_rfl) ?_ _
                refine NoPanic.normal ?_
                go_wp2_with fail
                go_meet
                exact ⟨by simp_all, chainB hcut0_.out hb hcut0_.out.size⟩
           | true =>
            simp only [Bool.and_true, Bool.true_and, Bool.and_false, Bool.false_and] at hjc hcm
            have hb := Below.refl w13.heap.size w13
            refine wp_region_noPanic ?_
            refine wp_region_held_drew (S := (fun w' => w'.cell? ⟨w.heap.size, 0, none⟩ = some (.int .u64 ae) ∧ w'.cell? ⟨w.heap.size, 1, none⟩ = some (.slice A i ca) ∧ w'.cell? ⟨w.heap.size + 1, 0, none⟩ = some (.int .u64 be) ∧ w'.cell? ⟨w.heap.size + 1, 1, none⟩ = some (.slice B i cb) ∧ w'.cell? ⟨w.heap.size + 1 + 1, 0, none⟩ = some (.int .u64 ce) ∧ w'.cell? ⟨w.heap.size + 1 + 1, 1, none⟩ = some (.slice C i cc) ∧ w'.cell? ⟨w4.heap.size, 0, none⟩ = some (.int .u64 X.e) ∧ w'.cell? ⟨w4.heap.size, 1, none⟩ = some (.slice VX nX cX) ∧ w'.cell? ⟨w5.heap.size, 0, none⟩ = some (.int .u64 Y.e) ∧ w'.cell? ⟨w5.heap.size, 1, none⟩ = some (.slice VY nY cY))) (by kernel_rfl) (⟨a0_, a1_, b0_, b1_, c0_, c1_, X0_, X1_, Y0_, Y1_⟩) (fun hHeld => ?_)
            refine' wpAnyH_take (i := 0) (v := ?v299) ?a299 ?b299 ?c299 ?d299 ?e299 ?f299 ?g299 ?z299
            case a299 => (simp only [List.getElem?_toArray, List.getElem?_cons_succ, List.getElem?_cons_zero]; try rfl)
            case b299 | c299 | d299 => kernel_rfl
            case e299 => exact fun _ _ _ h => h
            case f299 => first | exact Or.inl ⟨by rfl, by (intro w hSw; (try dsimp only at hSw); go_simp; try rfl)⟩ | exact Or.inr ⟨by rfl, rfl⟩
            case g299 => assumption
            (try simp only [Act.put, List.setIfInBounds_toArray, List.set_cons_zero, List.set_cons_succ])
            refine' wpAnyH_take (i := 1) (v := ?v300) ?a300 ?b300 ?c300 ?d300 ?e300 ?f300 ?g300 ?z300
            case a300 => (simp only [List.getElem?_toArray, List.getElem?_cons_succ, List.getElem?_cons_zero]; try rfl)
            case b300 | c300 | d300 => kernel_rfl
            case e300 => exact fun _ _ _ h => h
            case f300 => first | exact Or.inl ⟨by rfl, by (intro w hSw; (try dsimp only at hSw); go_simp; try rfl)⟩ | exact Or.inr ⟨by rfl, rfl⟩
            case g300 => assumption
            (try simp only [Act.put, List.setIfInBounds_toArray, List.set_cons_zero, List.set_cons_succ])
            refine' wpAnyH_take (i := 3) (v := ?v301) ?a301 ?b301 ?c301 ?d301 ?e301 ?f301 ?g301 ?z301
            case a301 => (simp only [List.getElem?_toArray, List.getElem?_cons_succ, List.getElem?_cons_zero]; try rfl)
            case b301 | c301 | d301 => kernel_rfl
            case e301 => exact fun _ _ _ h => h
            case f301 => first | exact Or.inl ⟨by rfl, by (intro w hSw; (try dsimp only at hSw); go_simp; try rfl)⟩ | exact Or.inr ⟨by rfl, rfl⟩
            case g301 => assumption
            (try simp only [Act.put, List.setIfInBounds_toArray, List.set_cons_zero, List.set_cons_succ])
            refine wpAnyH_ready (rs := [2]) (by kernel_rfl) (by simp) ?_
            refine' (AllReadyH.cons (i := 2) ?ho2x302 (fun K hK => ?st2x302) AllReadyH.nil)
            case ho2x302 => (simp only [List.getElem?_toArray, List.getElem?_cons_succ, List.getElem?_cons_zero]; try rfl)
            case st2x302 =>
             go_simp
             refine (leq_any _ _ X ⟨ce, cl⟩ _ (hvX.out.below (by first | exact hb | go_grown)) (hvc.out.below (by first | exact hb | go_grown))).mono ?_; rw [hjc.out]; rintro e_ w_ ⟨rfl, hb_⟩; replace hb := chainB (B := w13.heap.size) (a := w13) (by go_grown) hb_ (by have := hb.size; first | omega | (simp; done) | (simp; omega)); clear hb_
             refine hK.out _ _ ?_ (fun hHeld => ?_)
             · exact ⟨(hba.out.below hb).cell 0 rfl, (hba.out.below hb).cell 1 rfl, (hbb.out.below hb).cell 0 rfl, (hbb.out.below hb).cell 1 rfl, (hbc.out.below hb).cell 0 rfl, (hbc.out.below hb).cell 1 rfl, (hX.out.below hb).cell 0 rfl, (hX.out.below hb).cell 1 rfl, (hY.out.below hb).cell 0 rfl, (hY.out.below hb).cell 1 rfl⟩
             clear hK K
             (try simp only [Act.put, List.setIfInBounds_toArray, List.set_cons_zero, List.set_cons_succ])
             refine' wpAnyH_take (i := 4) (v := ?v303) ?a303 ?b303 ?c303 ?d303 ?e303 ?f303 ?g303 ?z303
             case a303 => (simp only [List.getElem?_toArray, List.getElem?_cons_succ, List.getElem?_cons_zero]; try rfl)
             case b303 | c303 | d303 => kernel_rfl
             case e303 => exact fun _ _ _ h => h
             case f303 => first | exact Or.inl ⟨by rfl, by (intro w hSw; (try dsimp only at hSw); go_simp; try rfl)⟩ | exact Or.inr ⟨by rfl, rfl⟩
             case g303 => assumption
             (try simp only [Act.put, List.setIfInBounds_toArray, List.set_cons_zero, List.set_cons_succ])
             refine' wpAnyH_take (i := 5) (v := ?v304) ?a304 ?b304 ?c304 ?d304 ?e304 ?f304 ?g304 ?z304
             case a304 => (simp only [List.getElem?_toArray, List.getElem?_cons_succ, List.getElem?_cons_zero]; try rfl)
             case b304 | c304 | d304 => kernel_rfl
             case e304 => exact fun _ _ _ h => h
             case f304 => first | exact Or.inl ⟨by rfl, by (intro w hSw; (try dsimp only at hSw); go_simp; try rfl)⟩ | exact Or.inr ⟨by rfl, rfl⟩
             case g304 => assumption
             (try simp only [Act.put, List.setIfInBounds_toArray, List.set_cons_zero, List.set_cons_succ])
             refine' wpAnyH_take (i := 6) (v := ?v305) ?a305 ?b305 ?c305 ?d305 ?e305 ?f305 ?g305 ?z305
             case a305 => (simp only [List.getElem?_toArray, List.getElem?_cons_succ, List.getElem?_cons_zero]; try rfl)
             case b305 | c305 | d305 => kernel_rfl
             case e305 => exact fun _ _ _ h => h
             case f305 => first | exact Or.inl ⟨by rfl, by (intro w hSw; (try dsimp only at hSw); go_simp; try rfl)⟩ | exact Or.inr ⟨by rfl, rfl⟩
             case g305 => assumption
             (try simp only [Act.put, List.setIfInBounds_toArray, List.set_cons_zero, List.set_cons_succ])
             refine' wpAnyH_take (i := 7) (v := ?v306) ?a306 ?b306 ?c306 ?d306 ?e306 ?f306 ?g306 ?z306
             case a306 => (simp only [List.getElem?_toArray, List.getElem?_cons_succ, List.getElem?_cons_zero]; try rfl)
             case b306 | c306 | d306 => kernel_rfl
             case e306 => exact fun _ _ _ h => h
             case f306 => first | exact Or.inl ⟨by rfl, by (intro w hSw; (try dsimp only at hSw); go_simp; try rfl)⟩ | exact Or.inr ⟨by rfl, rfl⟩
             case g306 => assumption
             (try simp only [Act.put, List.setIfInBounds_toArray, List.set_cons_zero, List.set_cons_succ])
             refine' wpAnyH_take (i := 8) (v := ?v307) ?a307 ?b307 ?c307 ?d307 ?e307 ?f307 ?g307 ?z307
             case a307 => (simp only [List.getElem?_toArray, List.getElem?_cons_succ, List.getElem?_cons_zero]; try rfl)
             case b307 | c307 | d307 => kernel_rfl
             case e307 => exact fun _ _ _ h => h
             case f307 => first | exact Or.inl ⟨by rfl, by (intro w hSw; (try dsimp only at hSw); go_simp; try rfl)⟩ | exact Or.inr ⟨by rfl, rfl⟩
             case g307 => assumption
             (try simp only [Act.put, List.setIfInBounds_toArray, List.set_cons_zero, List.set_cons_succ])
             refine' wpAnyH_take (i := 9) (v := ?v308) ?a308 ?b308 ?c308 ?d308 ?e308 ?f308 ?g308 ?z308
             case a308 => (simp only [List.getElem?_toArray, List.getElem?_cons_succ, List.getElem?_cons_zero]; try rfl)
             case b308 | c308 | d308 => kernel_rfl
             case e308 => exact fun _ _ _ h => h
             case f308 => first | exact Or.inl ⟨by rfl, by (intro w hSw; (try dsimp only at hSw); go_simp; try rfl)⟩ | exact Or.inr ⟨by rfl, rfl⟩
             case g308 => assumption
             (try simp only [Act.put, List.setIfInBounds_toArray, List.set_cons_zero, List.set_cons_succ])
             refine' wpAnyH_take (i := 10) (v := ?v309) ?a309 ?b309 ?c309 ?d309 ?e309 ?f309 ?g309 ?z309
             case a309 => (simp only [List.getElem?_toArray, List.getElem?_cons_succ, List.getElem?_cons_zero]; try rfl)
             case b309 | c309 | d309 => kernel_rfl
             case e309 => exact fun _ _ _ h => h
             case f309 => first | exact Or.inl ⟨by rfl, by (intro w hSw; (try dsimp only at hSw); go_simp; try rfl)⟩ | exact Or.inr ⟨by rfl, rfl⟩
             case g309 => assumption
             (try simp only [Act.put, List.setIfInBounds_toArray, List.set_cons_zero, List.set_cons_succ])
             refine' wpAnyH_take (i := 12) (v := ?v310) ?a310 ?b310 ?c310 ?d310 ?e310 ?f310 ?g310 ?z310
             case a310 => (simp only [List.getElem?_toArray, List.getElem?_cons_succ, List.getElem?_cons_zero]; try rfl)
             case b310 | c310 | d310 => kernel_rfl
             case e310 => exact fun _ _ _ h => h
             case f310 => first | exact Or.inl ⟨by rfl, by (intro w hSw; (try dsimp only at hSw); go_simp; try rfl)⟩ | exact Or.inr ⟨by rfl, rfl⟩
             case g310 => assumption
             (try simp only [Act.put, List.setIfInBounds_toArray, List.set_cons_zero, List.set_cons_succ])
             refine' wpAnyH_take (i := 13) (v := ?v311) ?a311 ?b311 ?c311 ?d311 ?e311 ?f311 ?g311 ?z311
             case a311 => (simp only [List.getElem?_toArray, List.getElem?_cons_succ, List.getElem?_cons_zero]; try rfl)
             case b311 | c311 | d311 => kernel_rfl
             case e311 => exact fun _ _ _ h => h
             case f311 => first | exact Or.inl ⟨by rfl, by (intro w hSw; (try dsimp only at hSw); go_simp; try rfl)⟩ | exact Or.inr ⟨by rfl, rfl⟩
             case g311 => assumption
             (try simp only [Act.put, List.setIfInBounds_toArray, List.set_cons_zero, List.set_cons_succ])
             refine wpAnyH_ready (rs := [11]) (by kernel_rfl) (by simp) ?_
             refine' (AllReadyH.cons (i := 11) ?ho11x312 (fun K hK => ?st11x312) AllReadyH.nil)
             case ho11x312 => (simp only [List.getElem?_toArray, List.getElem?_cons_succ, List.getElem?_cons_zero]; try rfl)
             case st11x312 =>
              go_simp
              refine (leq_any _ _ ⟨ce, cl⟩ Y _ (hvc.out.below (by first | exact hb | go_grown)) (hvY.out.below (by first | exact hb | go_grown))).mono ?_; rw [hcm.out]; rintro e_ w_ ⟨rfl, hb_⟩; replace hb := chainB (B := w13.heap.size) (a := w13) (by go_grown) hb_ (by have := hb.size; first | omega | (simp; done) | (simp; omega)); clear hb_
              refine hK.out _ _ ?_ (fun hHeld => ?_)
              · exact ⟨(hba.out.below hb).cell 0 rfl, (hba.out.below hb).cell 1 rfl, (hbb.out.below hb).cell 0 rfl, (hbb.out.below hb).cell 1 rfl, (hbc.out.below hb).cell 0 rfl, (hbc.out.below hb).cell 1 rfl, (hX.out.below hb).cell 0 rfl, (hX.out.below hb).cell 1 rfl, (hY.out.below hb).cell 0 rfl, (hY.out.below hb).cell 1 rfl⟩
              clear hK K
              (try simp only [Act.put, List.setIfInBounds_toArray, List.set_cons_zero, List.set_cons_succ])
              refine wpAnyH_ready (rs := [14]) (by kernel_rfl) (by simp) ?_
              refine' (AllReadyH.cons (i := 14) ?ho14x313 (fun K hK => ?st14x313) AllReadyH.nil)
              case ho14x313 => (simp only [List.getElem?_toArray, List.getElem?_cons_succ, List.getElem?_cons_zero]; try rfl)
              case st14x313 =>
               go_simp
               refine (leq_any _ _ ⟨ce, cl⟩ ⟨ae, al⟩ _ (hvc.out.below (by first | exact hb | go_grown)) (hva.out.below (by first | exact hb | go_grown))).mono ?_; rw [hN1.out]; rintro e_ w_ ⟨rfl, hb_⟩; replace hb := chainB (B := w13.heap.size) (a := w13) (by go_grown) hb_ (by have := hb.size; first | omega | (simp; done) | (simp; omega)); clear hb_
               refine hK.out _ _ ?_ (fun hHeld => ?_)
               · exact ⟨(hba.out.below hb).cell 0 rfl, (hba.out.below hb).cell 1 rfl, (hbb.out.below hb).cell 0 rfl, (hbb.out.below hb).cell 1 rfl, (hbc.out.below hb).cell 0 rfl, (hbc.out.below hb).cell 1 rfl, (hX.out.below hb).cell 0 rfl, (hX.out.below hb).cell 1 rfl, (hY.out.below hb).cell 0 rfl, (hY.out.below hb).cell 1 rfl⟩
               clear hK K
               (try simp only [Act.put, List.setIfInBounds_toArray, List.set_cons_zero, List.set_cons_succ])
               refine' wpAnyH_take (i := 15) (v := ?v314) ?a314 ?b314 ?c314 ?d314 ?e314 ?f314 ?g314 ?z314
               case a314 => (simp only [List.getElem?_toArray, List.getElem?_cons_succ, List.getElem?_cons_zero]; try rfl)
               case b314 | c314 | d314 => kernel_rfl
               case e314 => exact fun _ _ _ h => h
               case f314 => first | exact Or.inl ⟨by rfl, by (intro w hSw; (try dsimp only at hSw); go_simp; try rfl)⟩ | exact Or.inr ⟨by rfl, rfl⟩
               case g314 => assumption
               (try simp only [Act.put, List.setIfInBounds_toArray, List.set_cons_zero, List.set_cons_succ])
               refine' wpAnyH_take (i := 16) (v := ?v315) ?a315 ?b315 ?c315 ?d315 ?e315 ?f315 ?g315 ?z315
               case a315 => (simp only [List.getElem?_toArray, List.getElem?_cons_succ, List.getElem?_cons_zero]; try rfl)
               case b315 | c315 | d315 => kernel_rfl
               case e315 => exact fun _ _ _ h => h
               case f315 => first | exact Or.inl ⟨by rfl, by (intro w hSw; (try dsimp only at hSw); go_simp; try rfl)⟩ | exact Or.inr ⟨by rfl, rfl⟩
               case g315 => assumption
               (try simp only [Act.put, List.setIfInBounds_toArray, List.set_cons_zero, List.set_cons_succ])
               refine' wpAnyH_take (i := 17) (v := ?v316) ?a316 ?b316 ?c316 ?d316 ?e316 ?f316 ?g316 ?z316
               case a316 => (simp only [List.getElem?_toArray, List.getElem?_cons_succ, List.getElem?_cons_zero]; try rfl)
               case b316 | c316 | d316 => kernel_rfl
               case e316 => exact fun _ _ _ h => h
               case f316 => first | exact Or.inl ⟨by rfl, by (intro w hSw; (try dsimp only at hSw); go_simp; try rfl)⟩ | exact Or.inr ⟨by rfl, rfl⟩
               case g316 => assumption
               (try simp only [Act.put, List.setIfInBounds_toArray, List.set_cons_zero, List.set_cons_succ])
               refine wpAnyH_ready (rs := [18]) (by kernel_rfl) (by simp) ?_
               refine' (AllReadyH.cons (i := 18) ?ho18x317 (fun K hK => ?st18x317) AllReadyH.nil)
               case ho18x317 => (simp only [List.getElem?_toArray, List.getElem?_cons_succ, List.getElem?_cons_zero]; try rfl)
               case st18x317 =>
                go_simp
                refine (leq_any _ _ ⟨ce, cl⟩ ⟨be, bl⟩ _ (hvc.out.below (by first | exact hb | go_grown)) (hvb.out.below (by first | exact hb | go_grown))).mono ?_; rw [hN2.out]; rintro e_ w_ ⟨rfl, hb_⟩; replace hb := chainB (B := w13.heap.size) (a := w13) (by go_grown) hb_ (by have := hb.size; first | omega | (simp; done) | (simp; omega)); clear hb_
                refine hK.out _ _ ?_ (fun hHeld => ?_)
                · exact ⟨(hba.out.below hb).cell 0 rfl, (hba.out.below hb).cell 1 rfl, (hbb.out.below hb).cell 0 rfl, (hbb.out.below hb).cell 1 rfl, (hbc.out.below hb).cell 0 rfl, (hbc.out.below hb).cell 1 rfl, (hX.out.below hb).cell 0 rfl, (hX.out.below hb).cell 1 rfl, (hY.out.below hb).cell 0 rfl, (hY.out.below hb).cell 1 rfl⟩
                clear hK K
                (try simp only [Act.put, List.setIfInBounds_toArray, List.set_cons_zero, List.set_cons_succ])
                refine' wpAnyH_take (i := 19) (v := ?v318) ?a318 ?b318 ?c318 ?d318 ?e318 ?f318 ?g318 ?z318
                case a318 => (simp only [List.getElem?_toArray, List.getElem?_cons_succ, List.getElem?_cons_zero]; try rfl)
                case b318 | c318 | d318 => kernel_rfl
                case e318 => exact fun _ _ _ h => h
                case f318 => first | exact Or.inl ⟨by rfl, by (intro w hSw; (try dsimp only at hSw); go_simp; try rfl)⟩ | exact Or.inr ⟨by rfl, rfl⟩
                case g318 => assumption
                (try simp only [Act.put, List.setIfInBounds_toArray, List.set_cons_zero, List.set_cons_succ])
                refine' wpAnyH_take (i := 20) (v := ?v319) ?a319 ?b319 ?c319 ?d319 ?e319 ?f319 ?g319 ?z319
                case a319 => (simp only [List.getElem?_toArray, List.getElem?_cons_succ, List.getElem?_cons_zero]; try rfl)
                case b319 | c319 | d319 => kernel_rfl
                case e319 => exact fun _ _ _ h => h
                case f319 => first | exact Or.inl ⟨by rfl, by (intro w hSw; (try dsimp only at hSw); go_simp; try rfl)⟩ | exact Or.inr ⟨by rfl, rfl⟩
                case g319 => assumption
                (try simp only [Act.put, List.setIfInBounds_toArray, List.set_cons_zero, List.set_cons_succ])
                refine' wpAnyH_take (i := 21) (v := ?v320) ?a320 ?b320 ?c320 ?d320 ?e320 ?f320 ?g320 ?z320
                case a320 => (simp only [List.getElem?_toArray, List.getElem?_cons_succ, List.getElem?_cons_zero]; try rfl)
                case b320 | c320 | d320 => kernel_rfl
                case e320 => exact fun _ _ _ h => h
                case f320 => first | exact Or.inl ⟨by rfl, by (intro w hSw; (try dsimp only at hSw); go_simp; try rfl)⟩ | exact Or.inr ⟨by rfl, rfl⟩
                case g320 => assumption
                (try simp only [Act.put, List.setIfInBounds_toArray, List.set_cons_zero, List.set_cons_succ])
                refine' wpAnyH_take (i := 22) (v := ?v321) ?a321 ?b321 ?c321 ?d321 ?e321 ?f321 ?g321 ?z321
                case a321 => (simp only [List.getElem?_toArray, List.getElem?_cons_succ, List.getElem?_cons_zero]; try rfl)
                case b321 | c321 | d321 => kernel_rfl
                case e321 => exact fun _ _ _ h => h
                case f321 => first | exact Or.inl ⟨by rfl, by (intro w hSw; (try dsimp only at hSw); go_simp; try rfl)⟩ | exact Or.inr ⟨by rfl, rfl⟩
                case g321 => assumption
                (try simp only [Act.put, List.setIfInBounds_toArray, List.set_cons_zero, List.set_cons_succ])
                refine wpAnyH_done (by kernel_rfl) ?_ _
                refine NoPanic.normal ?_
                go_wp2_with fail
                go_meet
                exact ⟨by simp_all, chainB hcut0_.out hb hcut0_.out.size⟩
      case rest =>
        obtain ⟨w14, rfl⟩ : ∃ x, x = wc := ⟨_, rfl⟩
        obtain ⟨rfl, hb_⟩ := hcut
        clear a0_ a1_ b0_ b1_ c0_ c1_ X0_ X1_ Y0_ Y1_ al_ bl_ cl_ Xl_ Yl_
        have hc_ : Below w13.heap.size w13 w14 := chainB (by first | exact Below.refl _ _ | go_grown) hb_ (by first | exact Nat.le_refl _ | (simp; done) | (simp; omega))
        replace hva := Lib.hid (hva.out.below hc_)
        replace hvb := Lib.hid (hvb.out.below hc_)
        replace hvc := Lib.hid (hvc.out.below hc_)
        replace hba := Lib.hid (hba.out.below hc_)
        replace hbb := Lib.hid (hbb.out.below hc_)
        replace hbc := Lib.hid (hbc.out.below hc_)
        replace hpw := Lib.hid (hpw.out.below hc_)
        replace hvX := Lib.hid (hvX.out.below hc_)
        replace hX := Lib.hid (hX.out.below hc_)
        replace hvY := Lib.hid (hvY.out.below hc_)
        replace hY := Lib.hid (hY.out.below hc_)
        replace hall := Lib.hid (chainB hall.out hc_ hall.out.size)
        clear hc_
        clear hb_
        have a0_ := hba.out.cell 0 rfl; have a1_ := hba.out.cell 1 rfl; have al_ := hba.out.lt
        have b0_ := hbb.out.cell 0 rfl; have b1_ := hbb.out.cell 1 rfl; have bl_ := hbb.out.lt
        have c0_ := hbc.out.cell 0 rfl; have c1_ := hbc.out.cell 1 rfl; have cl_ := hbc.out.lt
        have X0_ := hX.out.cell 0 rfl; have X1_ := hX.out.cell 1 rfl; have Xl_ := hX.out.lt
        have Y0_ := hY.out.cell 0 rfl; have Y1_ := hY.out.cell 1 rfl; have Yl_ := hY.out.lt
        go_wp2_with fail
        go_ret
        exact ⟨rfl, chainB hall.out (by first | exact Below.refl _ _ | go_grown) hall.out.size⟩
   ·
    subst eij
    have ejb : ((i : Int) == (k : Int)) = false := by simp only [beq_eq_false_iff_ne]; omega
    have hbc0 := Lib.hid (show leqT ⟨be, bl⟩ ⟨ce, cl⟩ = false by unfold leqT; rw [if_neg (by have := hjH.out; have := hkH.out; simp only; omega)])
    obtain ⟨L, hL_⟩ : ∃ x, leqT ⟨ae, al⟩ ⟨be, bl⟩ = x := ⟨_, rfl⟩
    have hL := Lib.hid hL_
    clear hL_
    go_wp2_with fail
    clear a0_ a1_ b0_ b1_ c0_ c1_ al_ bl_ cl_
    refine (leq_any _ _ ⟨ae, al⟩ ⟨be, bl⟩ _ (hva.out.below (by first | exact Below.refl _ _ | go_grown)) (hvb.out.below (by first | exact Below.refl _ _ | go_grown))).mono ?_
    rw [hL.out]
    rintro e_ w4 ⟨rfl, hb_⟩
    have hc_ : Below w3.heap.size w3 w4 := chainB (by first | exact Below.refl _ _ | go_grown) hb_ (by first | exact Nat.le_refl _ | (simp; done) | (simp; omega))
    replace hva := Lib.hid (hva.out.below hc_)
    replace hvb := Lib.hid (hvb.out.below hc_)
    replace hvc := Lib.hid (hvc.out.below hc_)
    replace hba := Lib.hid (hba.out.below hc_)
    replace hbb := Lib.hid (hbb.out.below hc_)
    replace hbc := Lib.hid (hbc.out.below hc_)
    replace hpw := Lib.hid (hpw.out.below hc_)
    replace hall := Lib.hid (chainB hall.out hc_ hall.out.size)
    clear hc_
    clear hb_
    cases L with
    | false =>
     have a0_ := hba.out.cell 0 rfl; have a1_ := hba.out.cell 1 rfl; have al_ := hba.out.lt
     have b0_ := hbb.out.cell 0 rfl; have b1_ := hbb.out.cell 1 rfl; have bl_ := hbb.out.lt
     have c0_ := hbc.out.cell 0 rfl; have c1_ := hbc.out.cell 1 rfl; have cl_ := hbc.out.lt
     go_wp2_with fail
     go_ret
     exact ⟨rfl, chainB hall.out (by first | exact Below.refl _ _ | go_grown) hall.out.size⟩
    | true =>
     have a0_ := hba.out.cell 0 rfl; have a1_ := hba.out.cell 1 rfl; have al_ := hba.out.lt
     have b0_ := hbb.out.cell 0 rfl; have b1_ := hbb.out.cell 1 rfl; have bl_ := hbb.out.lt
     have c0_ := hbc.out.cell 0 rfl; have c1_ := hbc.out.cell 1 rfl; have cl_ := hbc.out.lt
     go_wp2_with fail
     clear a0_ a1_ b0_ b1_ c0_ c1_ al_ bl_ cl_
     refine (leq_any _ _ ⟨be, bl⟩ ⟨ce, cl⟩ _ (hvb.out.below (by first | exact Below.refl _ _ | go_grown)) (hvc.out.below (by first | exact Below.refl _ _ | go_grown))).mono ?_
     rw [hbc0.out]
     rintro e_ w5 ⟨rfl, hb_⟩
     have hc_ : Below w4.heap.size w4 w5 := chainB (by first | exact Below.refl _ _ | go_grown) hb_ (by first | exact Nat.le_refl _ | (simp; done) | (simp; omega))
     replace hva := Lib.hid (hva.out.below hc_)
     replace hvb := Lib.hid (hvb.out.below hc_)
     replace hvc := Lib.hid (hvc.out.below hc_)
     replace hba := Lib.hid (hba.out.below hc_)
     replace hbb := Lib.hid (hbb.out.below hc_)
     replace hbc := Lib.hid (hbc.out.below hc_)
     replace hpw := Lib.hid (hpw.out.below hc_)
     replace hall := Lib.hid (chainB hall.out hc_ hall.out.size)
     clear hc_
     clear hb_
     have a0_ := hba.out.cell 0 rfl; have a1_ := hba.out.cell 1 rfl; have al_ := hba.out.lt
     have b0_ := hbb.out.cell 0 rfl; have b1_ := hbb.out.cell 1 rfl; have bl_ := hbb.out.lt
     have c0_ := hbc.out.cell 0 rfl; have c1_ := hbc.out.cell 1 rfl; have cl_ := hbc.out.lt
     go_wp2_with fail
     go_ret
     exact ⟨rfl, chainB hall.out (by first | exact Below.refl _ _ | go_grown) hall.out.size⟩
  ·
   have eib : ((i : Int) == (j : Int)) = false := by simp only [beq_eq_false_iff_ne]; omega
   have hab0 := Lib.hid (show leqT ⟨ae, al⟩ ⟨be, bl⟩ = false by unfold leqT; rw [if_neg (by have := hiH.out; have := hjH.out; simp only; omega)])
   go_wp2_with fail
   clear a0_ a1_ b0_ b1_ c0_ c1_ al_ bl_ cl_
   refine (leq_any _ _ ⟨ae, al⟩ ⟨be, bl⟩ _ (hva.out.below (by first | exact Below.refl _ _ | go_grown)) (hvb.out.below (by first | exact Below.refl _ _ | go_grown))).mono ?_
   rw [hab0.out]
   rintro e_ w4 ⟨rfl, hb_⟩
   have hc_ : Below w3.heap.size w3 w4 := chainB (by first | exact Below.refl _ _ | go_grown) hb_ (by first | exact Nat.le_refl _ | (simp; done) | (simp; omega))
   replace hva := Lib.hid (hva.out.below hc_)
   replace hvb := Lib.hid (hvb.out.below hc_)
   replace hvc := Lib.hid (hvc.out.below hc_)
   replace hba := Lib.hid (hba.out.below hc_)
   replace hbb := Lib.hid (hbb.out.below hc_)
   replace hbc := Lib.hid (hbc.out.below hc_)
   replace hpw := Lib.hid (hpw.out.below hc_)
   replace hall := Lib.hid (chainB hall.out hc_ hall.out.size)
   clear hc_
   clear hb_
   have a0_ := hba.out.cell 0 rfl; have a1_ := hba.out.cell 1 rfl; have al_ := hba.out.lt
   have b0_ := hbb.out.cell 0 rfl; have b1_ := hbb.out.cell 1 rfl; have bl_ := hbb.out.lt
   have c0_ := hbc.out.cell 0 rfl; have c1_ := hbc.out.cell 1 rfl; have cl_ := hbc.out.lt
   go_wp2_with fail
   go_ret
   exact ⟨rfl, chainB hall.out (by first | exact Below.refl _ _ | go_grown) hall.out.size⟩
end Go.Proofs.YtkpjbmbdndkalaaDoor
