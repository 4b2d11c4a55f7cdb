/-
  The law StampTells answers true, at this program: of any two times and any depth. Condition: the table of the powers of ten lies as its initialiser lays it; numbers of their kinds.
-/
import Derived.Test.YtkpjbmbdndkalaaDoorStG
import Derived.Test.YtkpjbmbdndkalaaDoorStCmpT
import Derived.Test.YtkpjbmbdndkalaaDoorStChMeet
import Derived.Test.YtkpjbmbdndkalaaDoorStRc
import Derived.Test.YtkpjbmbdndkalaaDoorStPp
import Derived.Test.YtkpjbmbdndkalaaDoorStJm
import Derived.Test.YtkpjbmbdndkalaaDoorStBk
import Derived.Deep.DeepCutAuto
set_option linter.unusedVariables false
set_option linter.unusedSimpArgs false
namespace Go.Proofs.YtkpjbmbdndkalaaDoor
open Go.RowKit Go.Lib

theorem LentW.grown {B : Nat} {v : Value} {l : List Int} {w w' : World} {g : Nat} (h : LentW B v l w) (hg : w.grownBy w' (some g)) (hB : g < B) : LentW B v l w' := by
  obtain ⟨k, cap, rfl, h⟩ := h
  exact ⟨k, cap, rfl, h.grown hg hB⟩
theorem LentW.lt {B g n c : Nat} {l : List Int} {w : World} (h : LentW B (.slice (some ⟨g, 0, none⟩) n c) l w) : B ≤ g ∧ g < w.heap.size := by
  obtain ⟨k, cap, e, h⟩ := h
  obtain ⟨e1, _, _⟩ := Value.slice.inj e
  obtain rfl : g = k := by simpa using e1
  exact row_lt h (b := g) rfl
theorem LentW.keepT {B g n c : Nat} {l : List Int} {w w' : World} (h : LentW B (.slice (some ⟨g, 0, none⟩) n c) l w) (hg : w.grownBy w' (some g)) : KeepT w w' := by
  obtain ⟨k, cap, e, h⟩ := h
  obtain ⟨e1, _, _⟩ := Value.slice.inj e
  obtain rfl : g = k := by simpa using e1
  exact KeepT.own (fun _ _ _ h _ => h) h hg
theorem chosen_le {f : Int → Int → Int} {a b : Tm} (h : a.l.length ≤ 40) : (chosenT f a b).l.length ≤ 1000000000 := by
  unfold chosenT
  split
  · rename_i e; rw [show (⟨f a.e b.e, zipL f a.l b.l⟩ : Tm).l = zipL f a.l b.l from rfl, zipL_len _ _ _ e]; omega
  · simp
theorem wrap_small (x : Int) (h : x = 0 ∨ x = 40) : IntKind.i64.wrap x = x := by
  rcases h with rfl | rfl <;> decide
theorem chosenE_or (a b : Tm) : chosenE a b = 0 ∨ chosenE a b = 40 := by unfold chosenE; split <;> simp
theorem checkT_or (t : Tm) (d : Int) : checkT t d = 0 ∨ checkT t d = 40 := by unfold checkT; split <;> simp
theorem apt_of {B w w' : Nat} {v u : Value} (h : ∀ b, v.ownBlock = some b → b < B) (h' : ∀ b, u.ownBlock = some b → B ≤ b) : Apt v u := fun b h1 h2 => by
  have := h b h1
  have := h' b h2
  omega
/-- The book's list of lists, of two. -/
def RowsV (B : Nat) (v : Value) (vs : List Value) (w : World) : Prop := w.ownsRow B 23 1 v vs.length vs
theorem RowsV.below {B : Nat} {v : Value} {vs : List Value} {w w' : World} (h : RowsV B v vs w) (hb : Below w.heap.size w w') : RowsV B v vs w' := ownsRow_below h hb
theorem RowsV.row {B B' : Nat} {v : Value} {vs : List Value} {w : World} (h : RowsV B v vs w) (hB : B' ≤ B) : w.ownsRow B' 23 1 v vs.length vs := ownsRow_low h hB
set_option maxHeartbeats 2000000 in
set_option maxRecDepth 1000000 in
theorem stampTells_any (va vb : Value) (a b : Tm) (d : Int) (w : World) (hT : Pows w) (ha : TmV w va a) (hb : TmV w vb b) (wa : TmW a) (wb : TmW b) (wd : -9223372036854775808 ≤ d ∧ d ≤ 9223372036854775807) :
    Calls Tryd.prog 3 #[va, vb, .int .i64 d] w fun e w' => e = .returned (.bool true) ∧ Below w.heap.size w w' := by
  obtain ⟨ae, al⟩ := a
  obtain ⟨be, bl⟩ := b
  obtain ⟨ss, rfl, has⟩ := ha
  obtain ⟨bs, rfl, hbs⟩ := hb
  simp only at has hbs
  obtain ⟨A, i, ca, rfl, hi, hic, hca⟩ := has.form
  obtain ⟨B, j, cb, rfl, hj, hjc, hcb⟩ := hbs.form
  obtain ⟨W0, hW0, hwW, hA, hB, hzz⟩ := boxes2 w [.int .u64 ae, .slice A i ca] [.int .u64 be, .slice B j cb] 25 25
  have hva0 := Lib.hid (show TmV W0 (.agg #[.int .u64 ae, .slice A i ca]) ⟨ae, al⟩ from ⟨_, rfl, has.below hwW⟩)
  have hvb0 := Lib.hid (show TmV W0 (.agg #[.int .u64 be, .slice B j cb]) ⟨be, bl⟩ from ⟨_, rfl, hbs.below hwW⟩)
  have hba0 := Lib.hid hA; have hbb0 := Lib.hid hB; have hall := Lib.hid hwW; have hpw0 := Lib.hid (hT.below hwW); have hch := Lib.hid (Below.refl W0.heap.size W0); have hw00 := Lib.hid (show w.heap.size ≤ W0.heap.size from hwW.size)
  have hva := hva0; have hvb := hvb0; have hba := hba0; have hbb := hbb0; have hpw := hpw0
  have hiH := Lib.hid hi; have hjH := Lib.hid hj; have waH := Lib.hid wa; have wbH := Lib.hid wb
  clear has hbs hA hB hwW hzz hT hi hj wa wb
  go_enter Tryd.func3, Tryd.ntmps3
  have a0_ := hba.out.cell 0 rfl; have a1_ := hba.out.cell 1 rfl; have al_ := hba.out.lt
  have b0_ := hbb.out.cell 0 rfl; have b1_ := hbb.out.cell 1 rfl; have bl_ := hbb.out.lt
  go_wp2_with fail
  clear a0_ a1_ b0_ b1_ al_ bl_
  refine (much_any _ [⟨ae, al⟩, ⟨be, bl⟩] _ (tms2 _ _ _ _ _ _ _ _ _ _ _ _ hiH.out.symm hjH.out.symm hic hca hjc hcb)).mono ?_
  rintro e_ w1 ⟨rfl, hw_⟩
  have hb_ := (show ∀ {a b : World}, a = b → Below a.heap.size a b from fun h => h ▸ Below.refl _ _) hw_
  clear hw_
  have hc_ : Below W0.heap.size W0 w1 := chainB (by first | exact Below.refl _ _ | go_grown) hb_ (by first | exact Nat.le_refl _ | (simp; done) | (simp; omega))
  replace hva := Lib.hid (hva.out.below hc_)
  replace hvb := Lib.hid (hvb.out.below hc_)
  replace hba := Lib.hid (hba.out.below hc_)
  replace hbb := Lib.hid (hbb.out.below hc_)
  replace hpw := Lib.hid (hpw.out.below hc_)
  replace hall := Lib.hid (chainB hall.out hc_ hall.out.size)
  replace hch := Lib.hid (chainB hch.out hc_ hch.out.size)
  clear hc_
  clear hb_
  obtain ⟨X, hX⟩ : ∃ x, (([⟨ae, al⟩, ⟨be, bl⟩] : List Tm).any (fun x => decide (40 < x.l.length))) = x := ⟨_, rfl⟩
  rw [hX]
  have hX1 := Lib.hid hX
  clear hX
  cases X with
  | true =>
    have a0_ := hba.out.cell 0 rfl; have a1_ := hba.out.cell 1 rfl; have al_ := hba.out.lt
    have b0_ := hbb.out.cell 0 rfl; have b1_ := hbb.out.cell 1 rfl; have bl_ := hbb.out.lt
    go_wp2_with fail
    go_ret
    exact ⟨rfl, chainB hall.out (by first | exact Below.refl _ _ | go_grown) hall.out.size⟩
  | false =>
    obtain ⟨l1, l2⟩ : al.length ≤ 40 ∧ bl.length ≤ 40 := by
      have := hX1.out
      simpa using this
    have la40 := Lib.hid l1; have lb40 := Lib.hid l2
    have laH := Lib.hid (Nat.le_trans l1 (show 40 ≤ 1099511627776 by decide)); have lbH := Lib.hid (Nat.le_trans l2 (show 40 ≤ 1099511627776 by decide))
    clear hX1 l1 l2
    have a0_ := hba.out.cell 0 rfl; have a1_ := hba.out.cell 1 rfl; have al_ := hba.out.lt
    have b0_ := hbb.out.cell 0 rfl; have b1_ := hbb.out.cell 1 rfl; have bl_ := hbb.out.lt
    go_wp2_with fail
    have hq_ := Lib.hid (show W0.heap.size ≤ w1.heap.size from hch.out.size)
    clear a0_ a1_ b0_ b1_ al_ bl_
    refine (lentTime_any _ ⟨ae, al⟩ _ (hva.out.below (by first | exact Below.refl _ _ | go_grown)) laH.out).mono ?_
    rintro e_ w2 ⟨u, rfl, hl_, hb_⟩
    have hc_ : Below w1.heap.size w1 w2 := chainB (by first | exact Below.refl _ _ | go_grown) hb_ (by first | exact Nat.le_refl _ | (simp; done) | (simp; omega))
    replace hva := Lib.hid (hva.out.below hc_)
    replace hvb := Lib.hid (hvb.out.below hc_)
    replace hba := Lib.hid (hba.out.below hc_)
    replace hbb := Lib.hid (hbb.out.below hc_)
    replace hpw := Lib.hid (hpw.out.below hc_)
    replace hall := Lib.hid (chainB hall.out hc_ hall.out.size)
    replace hch := Lib.hid (chainB hch.out hc_ hch.out.size)
    obtain ⟨s, rfl, hl2_⟩ := hl_
    obtain ⟨gx, cx, rfl, hl3_⟩ := hl2_
    obtain ⟨nx, hn_⟩ : ∃ n, (⟨ae, al⟩ : Tm).l.length = n := ⟨_, rfl⟩
    have hlx := Lib.hid (show LentW W0.heap.size (.slice (some ⟨gx, 0, none⟩) nx cx) (⟨ae, al⟩ : Tm).l w2 from LentW.low ⟨gx, cx, by rw [hn_], hl3_⟩ (by have := hq_.out; simp; try omega))
    rw [hn_]
    clear hl3_ hn_
    have hgx := Lib.hid (hlx.out.lt.2)
    clear hc_
    clear hb_
    have a0_ := hba.out.cell 0 rfl; have a1_ := hba.out.cell 1 rfl; have al_ := hba.out.lt
    have b0_ := hbb.out.cell 0 rfl; have b1_ := hbb.out.cell 1 rfl; have bl_ := hbb.out.lt
    go_wp2_with fail
    have hq2 := Lib.hid (show W0.heap.size ≤ w2.heap.size from hch.out.size)
    clear a0_ a1_ b0_ b1_ al_ bl_
    refine (lentTime_any _ ⟨be, bl⟩ _ (hvb.out.below (by first | exact Below.refl _ _ | go_grown)) lbH.out).mono ?_
    rintro e_ w3 ⟨u, rfl, hl_, hb_⟩
    have hc_ : Below w2.heap.size w2 w3 := chainB (by first | exact Below.refl _ _ | go_grown) hb_ (by first | exact Nat.le_refl _ | (simp; done) | (simp; omega))
    replace hva := Lib.hid (hva.out.below hc_)
    replace hvb := Lib.hid (hvb.out.below hc_)
    replace hba := Lib.hid (hba.out.below hc_)
    replace hbb := Lib.hid (hbb.out.below hc_)
    replace hpw := Lib.hid (hpw.out.below hc_)
    replace hlx := Lib.hid (hlx.out.below hc_)
    replace hall := Lib.hid (chainB hall.out hc_ hall.out.size)
    replace hch := Lib.hid (chainB hch.out hc_ hch.out.size)
    have hX := Lib.hid ((has_at _ (w2.heap.size) [.int .u64 (⟨ae, al⟩ : Tm).e, .slice (some ⟨gx, 0, none⟩) nx cx] 25 (by first | rfl | (simp; done))).below hb_)
    obtain ⟨s, rfl, hl2_⟩ := hl_
    obtain ⟨gy, cy, rfl, hl3_⟩ := hl2_
    obtain ⟨ny, hn_⟩ : ∃ n, (⟨be, bl⟩ : Tm).l.length = n := ⟨_, rfl⟩
    have hly := Lib.hid (show LentW w2.heap.size (.slice (some ⟨gy, 0, none⟩) ny cy) (⟨be, bl⟩ : Tm).l w3 from LentW.low ⟨gy, cy, by rw [hn_], hl3_⟩ (by have := hq_.out; simp; try omega))
    rw [hn_]
    clear hl3_ hn_
    have hgy := Lib.hid (hly.out.lt.2)
    have hbxy := Lib.hid hc_.size
    have hwy := Lib.hid hall.out.size
    have hs3 := Lib.hid (Nat.le_refl w3.heap.size)
    clear hc_
    clear hb_
    obtain ⟨E, hE_⟩ : ∃ x, chosenE ⟨ae, al⟩ ⟨be, bl⟩ = x := ⟨_, rfl⟩
    obtain ⟨J, hJ_⟩ : ∃ x, chosenT max ⟨ae, al⟩ ⟨be, bl⟩ = x := ⟨_, rfl⟩
    obtain ⟨M, hM_⟩ : ∃ x, chosenT min ⟨ae, al⟩ ⟨be, bl⟩ = x := ⟨_, rfl⟩
    obtain ⟨K, hK_⟩ : ∃ x, cmpT ⟨ae, al⟩ ⟨be, bl⟩ = x := ⟨_, rfl⟩
    obtain ⟨L, hL_⟩ : ∃ x, leqT ⟨ae, al⟩ ⟨be, bl⟩ = x := ⟨_, rfl⟩
    obtain ⟨R, hR_⟩ : ∃ x, printT ⟨ae, al⟩ = x := ⟨_, rfl⟩
    obtain ⟨C, hC_⟩ : ∃ x, checkT ⟨ae, al⟩ d = x := ⟨_, rfl⟩
    have hEw : IntKind.i64.wrap E = E := hE_ ▸ wrap_small _ (chosenE_or _ _)
    have hCw : IntKind.i64.wrap C = C := hC_ ▸ wrap_small _ (checkT_or _ _)
    have hJl := Lib.hid (show J.l.length ≤ 1000000000 from hJ_ ▸ chosen_le la40.out); have hMl := Lib.hid (show M.l.length ≤ 1000000000 from hM_ ▸ chosen_le la40.out)
    have hE := Lib.hid hE_; have hJe := Lib.hid hJ_; have hMe := Lib.hid hM_; have hK := Lib.hid hK_; have hL := Lib.hid hL_; have hR := Lib.hid hR_; have hC := Lib.hid hC_
    clear hE_ hJ_ hM_ hK_ hL_ hR_ hC_
    have hbase_ := Lib.hid (Nat.le_refl w3.heap.size)
    have a0_ := hba.out.cell 0 rfl; have a1_ := hba.out.cell 1 rfl; have al_ := hba.out.lt
    have b0_ := hbb.out.cell 0 rfl; have b1_ := hbb.out.cell 1 rfl; have bl_ := hbb.out.lt
    have X0_ := hX.out.cell 0 rfl; have X1_ := hX.out.cell 1 rfl; have Xl_ := hX.out.lt
    go_wp2_with fail
    clear a0_ a1_ b0_ b1_ X0_ X1_ al_ bl_ Xl_
    refine (join_any _ _ ⟨ae, al⟩ ⟨be, bl⟩ _ ⟨_, rfl, (hlx.out.below (by first | exact Below.refl _ _ | go_grown)).words⟩ ⟨_, rfl, (hly.out.below (by first | exact Below.refl _ _ | go_grown)).words⟩ waH.out wbH.out laH.out).mono ?_
    rw [hJe.out, hE.out]
    rintro e_ w4 ⟨v, rfl, ho_, hb_⟩
    have hc_ : Below w3.heap.size w3 w4 := chainB (by first | exact Below.refl _ _ | go_grown) hb_ (by first | exact Nat.le_refl _ | (simp; done) | (simp; omega))
    replace hva := Lib.hid (hva.out.below hc_)
    replace hvb := Lib.hid (hvb.out.below hc_)
    replace hba := Lib.hid (hba.out.below hc_)
    replace hbb := Lib.hid (hbb.out.below hc_)
    replace hpw := Lib.hid (hpw.out.below hc_)
    replace hlx := Lib.hid (hlx.out.below hc_)
    replace hX := Lib.hid (hX.out.below hc_)
    replace hly := Lib.hid (hly.out.below hc_)
    replace hall := Lib.hid (chainB hall.out hc_ hall.out.size)
    replace hch := Lib.hid (chainB hch.out hc_ hch.out.size)
    replace hs3 := Lib.hid (Nat.le_trans hs3.out hc_.size)
    have hY := Lib.hid ((has_at _ (w3.heap.size) [.int .u64 (⟨be, bl⟩ : Tm).e, .slice (some ⟨gy, 0, none⟩) ny cy] 25 (by first | rfl | (simp; done))).below hb_)
    obtain ⟨VJ, nJ, cJ, rfl, hn_, hc1_, hd_⟩ := ho_.words.form
    have hoJ := Lib.hid (show OwnW w3.heap.size (.slice VJ nJ cJ) J.l w4 from ho_.low (by first | exact Nat.le_refl _ | (have := hbase_.out; simp; done) | (have := hbase_.out; simp; omega)))
    have hjl := Lib.hid (show ∀ b, (Value.slice VJ nJ cJ).ownBlock = some b → b < w4.heap.size from fun b hb => (row_lt hoJ.out hb).2)
    have hby := Lib.hid (show w3.heap.size ≤ w4.heap.size from hc_.size)
    replace hbase_ := Lib.hid (show w3.heap.size ≤ w4.heap.size from hc_.size)
    clear ho_ hn_ hc1_ hd_
    clear hc_
    clear hb_
    have a0_ := hba.out.cell 0 rfl; have a1_ := hba.out.cell 1 rfl; have al_ := hba.out.lt
    have b0_ := hbb.out.cell 0 rfl; have b1_ := hbb.out.cell 1 rfl; have bl_ := hbb.out.lt
    have X0_ := hX.out.cell 0 rfl; have X1_ := hX.out.cell 1 rfl; have Xl_ := hX.out.lt
    have Y0_ := hY.out.cell 0 rfl; have Y1_ := hY.out.cell 1 rfl; have Yl_ := hY.out.lt
    go_wp2_with fail
    clear a0_ a1_ b0_ b1_ X0_ X1_ Y0_ Y1_ al_ bl_ Xl_ Yl_
    refine (meet_any _ _ ⟨ae, al⟩ ⟨be, bl⟩ _ ⟨_, rfl, (hlx.out.below (by first | exact Below.refl _ _ | go_grown)).words⟩ ⟨_, rfl, (hly.out.below (by first | exact Below.refl _ _ | go_grown)).words⟩ waH.out wbH.out laH.out).mono ?_
    rw [hMe.out, hE.out]
    rintro e_ w5 ⟨v, rfl, ho_, hb_⟩
    have hc_ : Below w4.heap.size w4 w5 := chainB (by first | exact Below.refl _ _ | go_grown) hb_ (by first | exact Nat.le_refl _ | (simp; done) | (simp; omega))
    replace hva := Lib.hid (hva.out.below hc_)
    replace hvb := Lib.hid (hvb.out.below hc_)
    replace hba := Lib.hid (hba.out.below hc_)
    replace hbb := Lib.hid (hbb.out.below hc_)
    replace hpw := Lib.hid (hpw.out.below hc_)
    replace hlx := Lib.hid (hlx.out.below hc_)
    replace hX := Lib.hid (hX.out.below hc_)
    replace hly := Lib.hid (hly.out.below hc_)
    replace hY := Lib.hid (hY.out.below hc_)
    replace hoJ := Lib.hid (hoJ.out.below hc_)
    replace hall := Lib.hid (chainB hall.out hc_ hall.out.size)
    replace hch := Lib.hid (chainB hch.out hc_ hch.out.size)
    replace hs3 := Lib.hid (Nat.le_trans hs3.out hc_.size)
    have hJ := Lib.hid ((has_at _ (w4.heap.size) [.int .u64 J.e, .slice VJ nJ cJ] 25 (by first | rfl | (simp; done))).below hb_)
    obtain ⟨VM, nM, cM, rfl, hn_, hc1_, hd_⟩ := ho_.words.form
    have hoM := Lib.hid (show OwnW w3.heap.size (.slice VM nM cM) M.l w5 from ho_.low (by first | exact Nat.le_refl _ | (have := hbase_.out; simp; done) | (have := hbase_.out; simp; omega)))
    have hjm := Lib.hid (show Apt (.slice VJ nJ cJ) (.slice VM nM cM) from fun b h1 h2 => by
      have := hjl.out b h1
      have := (row_lt ho_ h2).1
      simp only [World.size_alloc] at this
      omega)
    clear ho_ hn_ hc1_ hd_
    clear hc_
    clear hb_
    have a0_ := hba.out.cell 0 rfl; have a1_ := hba.out.cell 1 rfl; have al_ := hba.out.lt
    have b0_ := hbb.out.cell 0 rfl; have b1_ := hbb.out.cell 1 rfl; have bl_ := hbb.out.lt
    have X0_ := hX.out.cell 0 rfl; have X1_ := hX.out.cell 1 rfl; have Xl_ := hX.out.lt
    have Y0_ := hY.out.cell 0 rfl; have Y1_ := hY.out.cell 1 rfl; have Yl_ := hY.out.lt
    have J0_ := hJ.out.cell 0 rfl; have J1_ := hJ.out.cell 1 rfl; have Jl_ := hJ.out.lt
    go_wp2_with fail
    clear a0_ a1_ b0_ b1_ X0_ X1_ Y0_ Y1_ J0_ J1_ al_ bl_ Xl_ Yl_ Jl_
    refine (stampCmp_any _ _ ⟨ae, al⟩ ⟨be, bl⟩ _ ⟨_, rfl, (hlx.out.below (by first | exact Below.refl _ _ | go_grown)).words⟩ ⟨_, rfl, (hly.out.below (by first | exact Below.refl _ _ | go_grown)).words⟩).mono ?_
    rw [hK.out]
    rintro e_ w6 ⟨rfl, hb_⟩
    have hc_ : Below w5.heap.size w5 w6 := chainB (by first | exact Below.refl _ _ | go_grown) hb_ (by first | exact Nat.le_refl _ | (simp; done) | (simp; omega))
    replace hva := Lib.hid (hva.out.below hc_)
    replace hvb := Lib.hid (hvb.out.below hc_)
    replace hba := Lib.hid (hba.out.below hc_)
    replace hbb := Lib.hid (hbb.out.below hc_)
    replace hpw := Lib.hid (hpw.out.below hc_)
    replace hlx := Lib.hid (hlx.out.below hc_)
    replace hX := Lib.hid (hX.out.below hc_)
    replace hly := Lib.hid (hly.out.below hc_)
    replace hY := Lib.hid (hY.out.below hc_)
    replace hoJ := Lib.hid (hoJ.out.below hc_)
    replace hJ := Lib.hid (hJ.out.below hc_)
    replace hoM := Lib.hid (hoM.out.below hc_)
    replace hall := Lib.hid (chainB hall.out hc_ hall.out.size)
    replace hch := Lib.hid (chainB hch.out hc_ hch.out.size)
    replace hs3 := Lib.hid (Nat.le_trans hs3.out hc_.size)
    have hM := Lib.hid ((has_at _ (w5.heap.size) [.int .u64 M.e, .slice VM nM cM] 25 (by first | rfl | (simp; done))).below hb_)
    clear hc_
    clear hb_
    have a0_ := hba.out.cell 0 rfl; have a1_ := hba.out.cell 1 rfl; have al_ := hba.out.lt
    have b0_ := hbb.out.cell 0 rfl; have b1_ := hbb.out.cell 1 rfl; have bl_ := hbb.out.lt
    have X0_ := hX.out.cell 0 rfl; have X1_ := hX.out.cell 1 rfl; have Xl_ := hX.out.lt
    have Y0_ := hY.out.cell 0 rfl; have Y1_ := hY.out.cell 1 rfl; have Yl_ := hY.out.lt
    have J0_ := hJ.out.cell 0 rfl; have J1_ := hJ.out.cell 1 rfl; have Jl_ := hJ.out.lt
    have M0_ := hM.out.cell 0 rfl; have M1_ := hM.out.cell 1 rfl; have Ml_ := hM.out.lt
    go_wp2_with fail
    clear a0_ a1_ b0_ b1_ X0_ X1_ Y0_ Y1_ J0_ J1_ M0_ M1_ al_ bl_ Xl_ Yl_ Jl_ Ml_
    refine (leq_any _ _ ⟨ae, al⟩ ⟨be, bl⟩ _ ⟨_, rfl, (hlx.out.below (by first | exact Below.refl _ _ | go_grown)).words⟩ ⟨_, rfl, (hly.out.below (by first | exact Below.refl _ _ | go_grown)).words⟩).mono ?_
    rw [hL.out]
    rintro e_ w7 ⟨rfl, hb_⟩
    have hc_ : Below w6.heap.size w6 w7 := chainB (by first | exact Below.refl _ _ | go_grown) hb_ (by first | exact Nat.le_refl _ | (simp; done) | (simp; omega))
    replace hva := Lib.hid (hva.out.below hc_)
    replace hvb := Lib.hid (hvb.out.below hc_)
    replace hba := Lib.hid (hba.out.below hc_)
    replace hbb := Lib.hid (hbb.out.below hc_)
    replace hpw := Lib.hid (hpw.out.below hc_)
    replace hlx := Lib.hid (hlx.out.below hc_)
    replace hX := Lib.hid (hX.out.below hc_)
    replace hly := Lib.hid (hly.out.below hc_)
    replace hY := Lib.hid (hY.out.below hc_)
    replace hoJ := Lib.hid (hoJ.out.below hc_)
    replace hJ := Lib.hid (hJ.out.below hc_)
    replace hoM := Lib.hid (hoM.out.below hc_)
    replace hM := Lib.hid (hM.out.below hc_)
    replace hall := Lib.hid (chainB hall.out hc_ hall.out.size)
    replace hch := Lib.hid (chainB hch.out hc_ hch.out.size)
    replace hs3 := Lib.hid (Nat.le_trans hs3.out hc_.size)
    clear hc_
    clear hb_
    have a0_ := hba.out.cell 0 rfl; have a1_ := hba.out.cell 1 rfl; have al_ := hba.out.lt
    have b0_ := hbb.out.cell 0 rfl; have b1_ := hbb.out.cell 1 rfl; have bl_ := hbb.out.lt
    have X0_ := hX.out.cell 0 rfl; have X1_ := hX.out.cell 1 rfl; have Xl_ := hX.out.lt
    have Y0_ := hY.out.cell 0 rfl; have Y1_ := hY.out.cell 1 rfl; have Yl_ := hY.out.lt
    have J0_ := hJ.out.cell 0 rfl; have J1_ := hJ.out.cell 1 rfl; have Jl_ := hJ.out.lt
    have M0_ := hM.out.cell 0 rfl; have M1_ := hM.out.cell 1 rfl; have Ml_ := hM.out.lt
    go_wp2_with fail
    clear a0_ a1_ b0_ b1_ X0_ X1_ Y0_ Y1_ J0_ J1_ M0_ M1_ al_ bl_ Xl_ Yl_ Jl_ Ml_
    refine (print_any _ ⟨ae, al⟩ _ ⟨_, rfl, (hlx.out.below (by first | exact Below.refl _ _ | go_grown)).words⟩ waH.out laH.out (hpw.out.below (by first | exact Below.refl _ _ | go_grown))).mono ?_
    rw [hR.out]
    rintro e_ w8 ⟨rfl, hb_⟩
    have hc_ : Below w7.heap.size w7 w8 := chainB (by first | exact Below.refl _ _ | go_grown) hb_ (by first | exact Nat.le_refl _ | (simp; done) | (simp; omega))
    replace hva := Lib.hid (hva.out.below hc_)
    replace hvb := Lib.hid (hvb.out.below hc_)
    replace hba := Lib.hid (hba.out.below hc_)
    replace hbb := Lib.hid (hbb.out.below hc_)
    replace hpw := Lib.hid (hpw.out.below hc_)
    replace hlx := Lib.hid (hlx.out.below hc_)
    replace hX := Lib.hid (hX.out.below hc_)
    replace hly := Lib.hid (hly.out.below hc_)
    replace hY := Lib.hid (hY.out.below hc_)
    replace hoJ := Lib.hid (hoJ.out.below hc_)
    replace hJ := Lib.hid (hJ.out.below hc_)
    replace hoM := Lib.hid (hoM.out.below hc_)
    replace hM := Lib.hid (hM.out.below hc_)
    replace hall := Lib.hid (chainB hall.out hc_ hall.out.size)
    replace hch := Lib.hid (chainB hch.out hc_ hch.out.size)
    replace hs3 := Lib.hid (Nat.le_trans hs3.out hc_.size)
    clear hc_
    clear hb_
    have a0_ := hba.out.cell 0 rfl; have a1_ := hba.out.cell 1 rfl; have al_ := hba.out.lt
    have b0_ := hbb.out.cell 0 rfl; have b1_ := hbb.out.cell 1 rfl; have bl_ := hbb.out.lt
    have X0_ := hX.out.cell 0 rfl; have X1_ := hX.out.cell 1 rfl; have Xl_ := hX.out.lt
    have Y0_ := hY.out.cell 0 rfl; have Y1_ := hY.out.cell 1 rfl; have Yl_ := hY.out.lt
    have J0_ := hJ.out.cell 0 rfl; have J1_ := hJ.out.cell 1 rfl; have Jl_ := hJ.out.lt
    have M0_ := hM.out.cell 0 rfl; have M1_ := hM.out.cell 1 rfl; have Ml_ := hM.out.lt
    go_wp2_with fail
    clear a0_ a1_ b0_ b1_ X0_ X1_ Y0_ Y1_ J0_ J1_ M0_ M1_ al_ bl_ Xl_ Yl_ Jl_ Ml_
    refine (stampCheck_any _ ⟨ae, al⟩ d _ ⟨_, rfl, (hlx.out.below (by first | exact Below.refl _ _ | go_grown)).words⟩).mono ?_
    rw [hC.out]
    rintro e_ w9 ⟨rfl, hb_⟩
    have hc_ : Below w8.heap.size w8 w9 := chainB (by first | exact Below.refl _ _ | go_grown) hb_ (by first | exact Nat.le_refl _ | (simp; done) | (simp; omega))
    replace hva := Lib.hid (hva.out.below hc_)
    replace hvb := Lib.hid (hvb.out.below hc_)
    replace hba := Lib.hid (hba.out.below hc_)
    replace hbb := Lib.hid (hbb.out.below hc_)
    replace hpw := Lib.hid (hpw.out.below hc_)
    replace hlx := Lib.hid (hlx.out.below hc_)
    replace hX := Lib.hid (hX.out.below hc_)
    replace hly := Lib.hid (hly.out.below hc_)
    replace hY := Lib.hid (hY.out.below hc_)
    replace hoJ := Lib.hid (hoJ.out.below hc_)
    replace hJ := Lib.hid (hJ.out.below hc_)
    replace hoM := Lib.hid (hoM.out.below hc_)
    replace hM := Lib.hid (hM.out.below hc_)
    replace hall := Lib.hid (chainB hall.out hc_ hall.out.size)
    replace hch := Lib.hid (chainB hch.out hc_ hch.out.size)
    replace hs3 := Lib.hid (Nat.le_trans hs3.out hc_.size)
    clear hc_
    clear hb_
    have a0_ := hba.out.cell 0 rfl; have a1_ := hba.out.cell 1 rfl; have al_ := hba.out.lt
    have b0_ := hbb.out.cell 0 rfl; have b1_ := hbb.out.cell 1 rfl; have bl_ := hbb.out.lt
    have X0_ := hX.out.cell 0 rfl; have X1_ := hX.out.cell 1 rfl; have Xl_ := hX.out.lt
    have Y0_ := hY.out.cell 0 rfl; have Y1_ := hY.out.cell 1 rfl; have Yl_ := hY.out.lt
    have J0_ := hJ.out.cell 0 rfl; have J1_ := hJ.out.cell 1 rfl; have Jl_ := hJ.out.lt
    have M0_ := hM.out.cell 0 rfl; have M1_ := hM.out.cell 1 rfl; have Ml_ := hM.out.lt
    go_wp2_with fail
    clear a0_ a1_ b0_ b1_ X0_ X1_ Y0_ Y1_ J0_ J1_ M0_ M1_ al_ bl_ Xl_ Yl_ Jl_ Ml_
    refine (wholeTime_any _ _ _ ⟨ae, al⟩ _ ⟨_, rfl, hlx.out.below (by first | exact Below.refl _ _ | go_grown)⟩ (hva.out.below (by first | exact Below.refl _ _ | go_grown)) laH.out).mono ?_
    rintro e_ w10 ⟨rfl, hb_⟩
    have hc_ : Below w9.heap.size w9 w10 := chainB (by first | exact Below.refl _ _ | go_grown) hb_ (by first | exact Nat.le_refl _ | (simp; done) | (simp; omega))
    replace hva := Lib.hid (hva.out.below hc_)
    replace hvb := Lib.hid (hvb.out.below hc_)
    replace hba := Lib.hid (hba.out.below hc_)
    replace hbb := Lib.hid (hbb.out.below hc_)
    replace hpw := Lib.hid (hpw.out.below hc_)
    replace hlx := Lib.hid (hlx.out.below hc_)
    replace hX := Lib.hid (hX.out.below hc_)
    replace hly := Lib.hid (hly.out.below hc_)
    replace hY := Lib.hid (hY.out.below hc_)
    replace hoJ := Lib.hid (hoJ.out.below hc_)
    replace hJ := Lib.hid (hJ.out.below hc_)
    replace hoM := Lib.hid (hoM.out.below hc_)
    replace hM := Lib.hid (hM.out.below hc_)
    replace hall := Lib.hid (chainB hall.out hc_ hall.out.size)
    replace hch := Lib.hid (chainB hch.out hc_ hch.out.size)
    replace hs3 := Lib.hid (Nat.le_trans hs3.out hc_.size)
    clear hc_
    clear hb_
    have a0_ := hba.out.cell 0 rfl; have a1_ := hba.out.cell 1 rfl; have al_ := hba.out.lt
    have b0_ := hbb.out.cell 0 rfl; have b1_ := hbb.out.cell 1 rfl; have bl_ := hbb.out.lt
    have X0_ := hX.out.cell 0 rfl; have X1_ := hX.out.cell 1 rfl; have Xl_ := hX.out.lt
    have Y0_ := hY.out.cell 0 rfl; have Y1_ := hY.out.cell 1 rfl; have Yl_ := hY.out.lt
    have J0_ := hJ.out.cell 0 rfl; have J1_ := hJ.out.cell 1 rfl; have Jl_ := hJ.out.lt
    have M0_ := hM.out.cell 0 rfl; have M1_ := hM.out.cell 1 rfl; have Ml_ := hM.out.lt
    go_wp2_with fail
    clear a0_ a1_ b0_ b1_ X0_ X1_ Y0_ Y1_ J0_ J1_ M0_ M1_ al_ bl_ Xl_ Yl_ Jl_ Ml_
    refine (wholeTime_any _ _ _ ⟨be, bl⟩ _ ⟨_, rfl, hly.out.below (by first | exact Below.refl _ _ | go_grown)⟩ (hvb.out.below (by first | exact Below.refl _ _ | go_grown)) lbH.out).mono ?_
    rintro e_ w11 ⟨rfl, hb_⟩
    have hc_ : Below w10.heap.size w10 w11 := chainB (by first | exact Below.refl _ _ | go_grown) hb_ (by first | exact Nat.le_refl _ | (simp; done) | (simp; omega))
    replace hva := Lib.hid (hva.out.below hc_)
    replace hvb := Lib.hid (hvb.out.below hc_)
    replace hba := Lib.hid (hba.out.below hc_)
    replace hbb := Lib.hid (hbb.out.below hc_)
    replace hpw := Lib.hid (hpw.out.below hc_)
    replace hlx := Lib.hid (hlx.out.below hc_)
    replace hX := Lib.hid (hX.out.below hc_)
    replace hly := Lib.hid (hly.out.below hc_)
    replace hY := Lib.hid (hY.out.below hc_)
    replace hoJ := Lib.hid (hoJ.out.below hc_)
    replace hJ := Lib.hid (hJ.out.below hc_)
    replace hoM := Lib.hid (hoM.out.below hc_)
    replace hM := Lib.hid (hM.out.below hc_)
    replace hall := Lib.hid (chainB hall.out hc_ hall.out.size)
    replace hch := Lib.hid (chainB hch.out hc_ hch.out.size)
    replace hs3 := Lib.hid (Nat.le_trans hs3.out hc_.size)
    clear hc_
    clear hb_
    have a0_ := hba.out.cell 0 rfl; have a1_ := hba.out.cell 1 rfl; have al_ := hba.out.lt
    have b0_ := hbb.out.cell 0 rfl; have b1_ := hbb.out.cell 1 rfl; have bl_ := hbb.out.lt
    have X0_ := hX.out.cell 0 rfl; have X1_ := hX.out.cell 1 rfl; have Xl_ := hX.out.lt
    have Y0_ := hY.out.cell 0 rfl; have Y1_ := hY.out.cell 1 rfl; have Yl_ := hY.out.lt
    have J0_ := hJ.out.cell 0 rfl; have J1_ := hJ.out.cell 1 rfl; have Jl_ := hJ.out.lt
    have M0_ := hM.out.cell 0 rfl; have M1_ := hM.out.cell 1 rfl; have Ml_ := hM.out.lt
    go_wp2_with fail
    clear a0_ a1_ b0_ b1_ X0_ X1_ Y0_ Y1_ J0_ J1_ M0_ M1_ al_ bl_ Xl_ Yl_ Jl_ Ml_
    refine (spoilWords_any _ _ (⟨ae, al⟩ : Tm).l _ hlx.out laH.out).mono ?_
    rintro e_ w12 ⟨rfl, g_, hBg_, hgs_, hgb_, hgr_⟩
    obtain rfl : gx = g_ := by simpa [Value.ownBlock] using hgb_
    clear hgb_
    have hkt_ := hlx.out.keepT hgr_
    clear hva
    clear hvb
    clear hba
    clear hbb
    clear hpw
    replace hall := Lib.hid (Below.grown hall.out hgr_ hall.out.size (fun b hb => by obtain rfl := Option.some.inj hb; have := hall.out.size; have := hw00.out; have := hq2.out; omega))
    replace hs3 := Lib.hid (Nat.le_trans hs3.out hgr_.size)
    replace hch := Lib.hid (Below.grown hch.out hgr_ hch.out.size (fun b hb => by obtain rfl := Option.some.inj hb; have := hq2.out; omega))
    replace hY := Lib.hid (hkt_ _ _ _ hY.out (by decide))
    replace hJ := Lib.hid (hkt_ _ _ _ hJ.out (by decide))
    replace hM := Lib.hid (hkt_ _ _ _ hM.out (by decide))
    replace hly := Lib.hid (hly.out.grown hgr_ hgx.out)
    replace hoJ := Lib.hid (hoJ.out.grown hgr_ (by have := hgx.out; have := hbxy.out; omega))
    replace hoM := Lib.hid (hoM.out.grown hgr_ (by have := hgx.out; have := hbxy.out; omega))
    clear hlx
    clear hX
    clear hgr_ hkt_ hgs_
    have Y0_ := hY.out.cell 0 rfl; have Y1_ := hY.out.cell 1 rfl; have Yl_ := hY.out.lt
    have J0_ := hJ.out.cell 0 rfl; have J1_ := hJ.out.cell 1 rfl; have Jl_ := hJ.out.lt
    have M0_ := hM.out.cell 0 rfl; have M1_ := hM.out.cell 1 rfl; have Ml_ := hM.out.lt
    go_wp2_with fail
    clear Y0_ Y1_ J0_ J1_ M0_ M1_ Yl_ Jl_ Ml_
    refine (spoilWords_any _ _ (⟨be, bl⟩ : Tm).l _ hly.out lbH.out).mono ?_
    rintro e_ w13 ⟨rfl, g_, hBg_, hgs_, hgb_, hgr_⟩
    obtain rfl : gy = g_ := by simpa [Value.ownBlock] using hgb_
    clear hgb_
    have hkt_ := hly.out.keepT hgr_
    replace hall := Lib.hid (Below.grown hall.out hgr_ hall.out.size (fun b hb => by obtain rfl := Option.some.inj hb; have := hall.out.size; have := hw00.out; have := hq2.out; omega))
    replace hs3 := Lib.hid (Nat.le_trans hs3.out hgr_.size)
    replace hch := Lib.hid (Below.grown hch.out hgr_ hch.out.size (fun b hb => by obtain rfl := Option.some.inj hb; have := hq2.out; omega))
    replace hJ := Lib.hid (hkt_ _ _ _ hJ.out (by decide))
    replace hM := Lib.hid (hkt_ _ _ _ hM.out (by decide))
    replace hoJ := Lib.hid (hoJ.out.grown hgr_ hgy.out)
    replace hoM := Lib.hid (hoM.out.grown hgr_ hgy.out)
    clear hly
    clear hY
    clear hgr_ hkt_ hgs_
    have hva := Lib.hid (hva0.out.below hch.out)
    have hvb := Lib.hid (hvb0.out.below hch.out)
    have hba := Lib.hid (hba0.out.below hch.out)
    have hbb := Lib.hid (hbb0.out.below hch.out)
    have hpw := Lib.hid (hpw0.out.below hch.out)
    have J0_ := hJ.out.cell 0 rfl; have J1_ := hJ.out.cell 1 rfl; have Jl_ := hJ.out.lt
    have M0_ := hM.out.cell 0 rfl; have M1_ := hM.out.cell 1 rfl; have Ml_ := hM.out.lt
    have a0_ := hba.out.cell 0 rfl; have a1_ := hba.out.cell 1 rfl; have al_ := hba.out.lt
    have b0_ := hbb.out.cell 0 rfl; have b1_ := hbb.out.cell 1 rfl; have bl_ := hbb.out.lt
    go_wp2_with fail
    clear J0_ J1_ M0_ M1_ a0_ a1_ b0_ b1_ Jl_ Ml_ al_ bl_
    refine (refJoin_any _ _ ⟨ae, al⟩ ⟨be, bl⟩ _ (hva.out.below (by first | exact Below.refl _ _ | go_grown)) (hvb.out.below (by first | exact Below.refl _ _ | go_grown)) laH.out).mono ?_
    rw [hJe.out, hE.out]
    rintro e_ w14 ⟨v, rfl, ho_, hb_⟩
    have hc_ : Below w13.heap.size w13 w14 := chainB (by first | exact Below.refl _ _ | go_grown) hb_ (by first | exact Nat.le_refl _ | (simp; done) | (simp; omega))
    replace hoJ := Lib.hid (hoJ.out.below hc_)
    replace hJ := Lib.hid (hJ.out.below hc_)
    replace hoM := Lib.hid (hoM.out.below hc_)
    replace hM := Lib.hid (hM.out.below hc_)
    replace hva := Lib.hid (hva.out.below hc_)
    replace hvb := Lib.hid (hvb.out.below hc_)
    replace hba := Lib.hid (hba.out.below hc_)
    replace hbb := Lib.hid (hbb.out.below hc_)
    replace hpw := Lib.hid (hpw.out.below hc_)
    replace hall := Lib.hid (chainB hall.out hc_ hall.out.size)
    replace hch := Lib.hid (chainB hch.out hc_ hch.out.size)
    replace hs3 := Lib.hid (Nat.le_trans hs3.out hc_.size)
    obtain ⟨VP, nP, cP, rfl, hn_, hc1_, hd_⟩ := ho_.words.form
    have hoP := Lib.hid ho_.words
    clear ho_ hn_ hc1_ hd_
    clear hc_
    clear hb_
    have J0_ := hJ.out.cell 0 rfl; have J1_ := hJ.out.cell 1 rfl; have Jl_ := hJ.out.lt
    have M0_ := hM.out.cell 0 rfl; have M1_ := hM.out.cell 1 rfl; have Ml_ := hM.out.lt
    have a0_ := hba.out.cell 0 rfl; have a1_ := hba.out.cell 1 rfl; have al_ := hba.out.lt
    have b0_ := hbb.out.cell 0 rfl; have b1_ := hbb.out.cell 1 rfl; have bl_ := hbb.out.lt
    go_wp2_with fail
    clear J0_ J1_ M0_ M1_ a0_ a1_ b0_ b1_ Jl_ Ml_ al_ bl_
    refine (refMeet_any _ _ ⟨ae, al⟩ ⟨be, bl⟩ _ (hva.out.below (by first | exact Below.refl _ _ | go_grown)) (hvb.out.below (by first | exact Below.refl _ _ | go_grown)) laH.out).mono ?_
    rw [hMe.out, hE.out]
    rintro e_ w15 ⟨v, rfl, ho_, hb_⟩
    have hc_ : Below w14.heap.size w14 w15 := chainB (by first | exact Below.refl _ _ | go_grown) hb_ (by first | exact Nat.le_refl _ | (simp; done) | (simp; omega))
    replace hoJ := Lib.hid (hoJ.out.below hc_)
    replace hJ := Lib.hid (hJ.out.below hc_)
    replace hoM := Lib.hid (hoM.out.below hc_)
    replace hM := Lib.hid (hM.out.below hc_)
    replace hva := Lib.hid (hva.out.below hc_)
    replace hvb := Lib.hid (hvb.out.below hc_)
    replace hba := Lib.hid (hba.out.below hc_)
    replace hbb := Lib.hid (hbb.out.below hc_)
    replace hpw := Lib.hid (hpw.out.below hc_)
    replace hoP := Lib.hid (hoP.out.below hc_)
    replace hall := Lib.hid (chainB hall.out hc_ hall.out.size)
    replace hch := Lib.hid (chainB hch.out hc_ hch.out.size)
    replace hs3 := Lib.hid (Nat.le_trans hs3.out hc_.size)
    have hP := Lib.hid ((has_at _ (w14.heap.size) [.int .u64 J.e, .slice VP nP cP] 25 (by first | rfl | (simp; done))).below hb_)
    obtain ⟨VQ, nQ, cQ, rfl, hn_, hc1_, hd_⟩ := ho_.words.form
    have hoQ := Lib.hid ho_.words
    clear ho_ hn_ hc1_ hd_
    clear hc_
    clear hb_
    have J0_ := hJ.out.cell 0 rfl; have J1_ := hJ.out.cell 1 rfl; have Jl_ := hJ.out.lt
    have M0_ := hM.out.cell 0 rfl; have M1_ := hM.out.cell 1 rfl; have Ml_ := hM.out.lt
    have a0_ := hba.out.cell 0 rfl; have a1_ := hba.out.cell 1 rfl; have al_ := hba.out.lt
    have b0_ := hbb.out.cell 0 rfl; have b1_ := hbb.out.cell 1 rfl; have bl_ := hbb.out.lt
    have P0_ := hP.out.cell 0 rfl; have P1_ := hP.out.cell 1 rfl; have Pl_ := hP.out.lt
    go_upto_region 16 with fail
    clear J0_ J1_ M0_ M1_ a0_ a1_ b0_ b1_ P0_ P1_ Jl_ Ml_ al_ bl_ Pl_
    obtain ⟨w16, hn_⟩ : ∃ x, w15.alloc (.cells #[.int .u64 M.e, .slice VQ nQ cQ] 25) = x := ⟨_, rfl⟩
    rw [hn_]
    have hb_ : Below w15.heap.size w15 w16 := by rw [← hn_]; go_grown
    have hbQ_ := hn_ ▸ (has_at _ (w15.heap.size) [.int .u64 M.e, .slice VQ nQ cQ] 25 (by first | rfl | (simp; done)))
    clear hn_
    have hc_ : Below w15.heap.size w15 w16 := chainB (by first | exact Below.refl _ _ | go_grown) hb_ (by first | exact Nat.le_refl _ | (simp; done) | (simp; omega))
    replace hoJ := Lib.hid (hoJ.out.below hc_)
    replace hJ := Lib.hid (hJ.out.below hc_)
    replace hoM := Lib.hid (hoM.out.below hc_)
    replace hM := Lib.hid (hM.out.below hc_)
    replace hva := Lib.hid (hva.out.below hc_)
    replace hvb := Lib.hid (hvb.out.below hc_)
    replace hba := Lib.hid (hba.out.below hc_)
    replace hbb := Lib.hid (hbb.out.below hc_)
    replace hpw := Lib.hid (hpw.out.below hc_)
    replace hoP := Lib.hid (hoP.out.below hc_)
    replace hP := Lib.hid (hP.out.below hc_)
    replace hoQ := Lib.hid (hoQ.out.below hc_)
    replace hall := Lib.hid (chainB hall.out hc_ hall.out.size)
    replace hch := Lib.hid (chainB hch.out hc_ hch.out.size)
    replace hs3 := Lib.hid (Nat.le_trans hs3.out hc_.size)
    have hQ := Lib.hid (hbQ_)
    clear hc_
    clear hb_ hbQ_
    have hBy := hs3
    have J0_ := hJ.out.cell 0 rfl; have J1_ := hJ.out.cell 1 rfl; have Jl_ := hJ.out.lt
    have M0_ := hM.out.cell 0 rfl; have M1_ := hM.out.cell 1 rfl; have Ml_ := hM.out.lt
    have a0_ := hba.out.cell 0 rfl; have a1_ := hba.out.cell 1 rfl; have al_ := hba.out.lt
    have b0_ := hbb.out.cell 0 rfl; have b1_ := hbb.out.cell 1 rfl; have bl_ := hbb.out.lt
    have P0_ := hP.out.cell 0 rfl; have P1_ := hP.out.cell 1 rfl; have Pl_ := hP.out.lt
    have Q0_ := hQ.out.cell 0 rfl; have Q1_ := hQ.out.cell 1 rfl; have Ql_ := hQ.out.lt
    go_wp2_with fail
    clear J0_ J1_ M0_ M1_ a0_ a1_ b0_ b1_ P0_ P1_ Q0_ Q1_ Jl_ Ml_ al_ bl_ Pl_ Ql_
    refine (bookWords_any w16.heap.size w16.heap.size (.slice none 0 0) _ [] _ (has_at _ _ _ 55 rfl) (World.ownsRow_nil _ _ _ _) (by simp) ⟨_, _, _, rfl⟩ (Nat.le_refl _) (by simp)).mono ?_
    rintro e_ v1 ⟨rfl, hb_, lv1, hk_, hr_⟩
    have hk1 := Lib.hid ((show Below w16.heap.size w16 _ by go_grown).trans hb_)
    have hbk1 := Lib.hid hk_; have hrw1 := Lib.hid hr_
    clear hb_ hk_ hr_
    have M0_ := (hM.out.below hk1.out).cell 0 rfl; have M1_ := (hM.out.below hk1.out).cell 1 rfl; have Ml_ := (hM.out.below hk1.out).lt
    go_wp2_with fail
    clear M0_ M1_ Ml_
    refine (bookWords_any w16.heap.size w16.heap.size lv1 _ _ _ hbk1.out hrw1.out (by simp) ⟨_, _, _, rfl⟩ (Nat.le_refl _) hk1.out.size).mono ?_
    rintro e_ w17 ⟨rfl, hb_, lv2, hk_, hr_⟩
    have hbB := Lib.hid (show w16.heap.size ≤ w17.heap.size from (hk1.out.trans hb_).size)
    have hb2_ := hk1.out.trans hb_
    have hc_ : Below w16.heap.size w16 w17 := chainB (by first | exact Below.refl _ _ | go_grown) hb2_ (by first | exact Nat.le_refl _ | (simp; done) | (simp; omega))
    replace hoJ := Lib.hid (hoJ.out.below hc_)
    replace hJ := Lib.hid (hJ.out.below hc_)
    replace hoM := Lib.hid (hoM.out.below hc_)
    replace hM := Lib.hid (hM.out.below hc_)
    replace hva := Lib.hid (hva.out.below hc_)
    replace hvb := Lib.hid (hvb.out.below hc_)
    replace hba := Lib.hid (hba.out.below hc_)
    replace hbb := Lib.hid (hbb.out.below hc_)
    replace hpw := Lib.hid (hpw.out.below hc_)
    replace hoP := Lib.hid (hoP.out.below hc_)
    replace hP := Lib.hid (hP.out.below hc_)
    replace hoQ := Lib.hid (hoQ.out.below hc_)
    replace hQ := Lib.hid (hQ.out.below hc_)
    replace hall := Lib.hid (chainB hall.out hc_ hall.out.size)
    replace hch := Lib.hid (chainB hch.out hc_ hch.out.size)
    replace hs3 := Lib.hid (Nat.le_trans hs3.out hc_.size)
    have hbk := Lib.hid (hk_)
    have hrw := Lib.hid ((show RowsV w16.heap.size lv2 _ _ from hr_))
    clear hc_
    clear hb_ hb2_ hk_ hr_ hk1 hbk1 hrw1
    have J0_ := hJ.out.cell 0 rfl; have J1_ := hJ.out.cell 1 rfl; have Jl_ := hJ.out.lt
    have M0_ := hM.out.cell 0 rfl; have M1_ := hM.out.cell 1 rfl; have Ml_ := hM.out.lt
    have a0_ := hba.out.cell 0 rfl; have a1_ := hba.out.cell 1 rfl; have al_ := hba.out.lt
    have b0_ := hbb.out.cell 0 rfl; have b1_ := hbb.out.cell 1 rfl; have bl_ := hbb.out.lt
    have P0_ := hP.out.cell 0 rfl; have P1_ := hP.out.cell 1 rfl; have Pl_ := hP.out.lt
    have Q0_ := hQ.out.cell 0 rfl; have Q1_ := hQ.out.cell 1 rfl; have Ql_ := hQ.out.lt
    go_wp2_with fail
    clear J0_ J1_ M0_ M1_ a0_ a1_ b0_ b1_ P0_ P1_ Q0_ Q1_ Jl_ Ml_ al_ bl_ Pl_ Ql_
    refine (sameTime_any _ _ J J _ ⟨_, rfl, (hoJ.out.below (by first | exact Below.refl _ _ | go_grown)).words⟩ ⟨_, rfl, (hoP.out.below (by first | exact Below.refl _ _ | go_grown))⟩).mono ?_
    rw [show decide (J.e = J.e ∧ J.l = J.l) = true by simp]
    rintro e_ w18 ⟨rfl, hb_⟩
    have hc_ : Below w17.heap.size w17 w18 := chainB (by first | exact Below.refl _ _ | go_grown) hb_ (by first | exact Nat.le_refl _ | (simp; done) | (simp; omega))
    replace hoJ := Lib.hid (hoJ.out.below hc_)
    replace hJ := Lib.hid (hJ.out.below hc_)
    replace hoM := Lib.hid (hoM.out.below hc_)
    replace hM := Lib.hid (hM.out.below hc_)
    replace hva := Lib.hid (hva.out.below hc_)
    replace hvb := Lib.hid (hvb.out.below hc_)
    replace hba := Lib.hid (hba.out.below hc_)
    replace hbb := Lib.hid (hbb.out.below hc_)
    replace hpw := Lib.hid (hpw.out.below hc_)
    replace hoP := Lib.hid (hoP.out.below hc_)
    replace hP := Lib.hid (hP.out.below hc_)
    replace hoQ := Lib.hid (hoQ.out.below hc_)
    replace hQ := Lib.hid (hQ.out.below hc_)
    replace hbk := Lib.hid (hbk.out.below hc_)
    replace hrw := Lib.hid (hrw.out.below hc_)
    replace hall := Lib.hid (chainB hall.out hc_ hall.out.size)
    replace hch := Lib.hid (chainB hch.out hc_ hch.out.size)
    replace hs3 := Lib.hid (Nat.le_trans hs3.out hc_.size)
    clear hc_
    clear hb_
    have J0_ := hJ.out.cell 0 rfl; have J1_ := hJ.out.cell 1 rfl; have Jl_ := hJ.out.lt
    have M0_ := hM.out.cell 0 rfl; have M1_ := hM.out.cell 1 rfl; have Ml_ := hM.out.lt
    have a0_ := hba.out.cell 0 rfl; have a1_ := hba.out.cell 1 rfl; have al_ := hba.out.lt
    have b0_ := hbb.out.cell 0 rfl; have b1_ := hbb.out.cell 1 rfl; have bl_ := hbb.out.lt
    have P0_ := hP.out.cell 0 rfl; have P1_ := hP.out.cell 1 rfl; have Pl_ := hP.out.lt
    have Q0_ := hQ.out.cell 0 rfl; have Q1_ := hQ.out.cell 1 rfl; have Ql_ := hQ.out.lt
    go_wp2_with fail
    clear J0_ J1_ M0_ M1_ a0_ a1_ b0_ b1_ P0_ P1_ Q0_ Q1_ Jl_ Ml_ al_ bl_ Pl_ Ql_
    refine (sameTime_any _ _ M M _ ⟨_, rfl, (hoM.out.below (by first | exact Below.refl _ _ | go_grown)).words⟩ ⟨_, rfl, (hoQ.out.below (by first | exact Below.refl _ _ | go_grown))⟩).mono ?_
    rw [show decide (M.e = M.e ∧ M.l = M.l) = true by simp]
    rintro e_ w19 ⟨rfl, hb_⟩
    have hc_ : Below w18.heap.size w18 w19 := chainB (by first | exact Below.refl _ _ | go_grown) hb_ (by first | exact Nat.le_refl _ | (simp; done) | (simp; omega))
    replace hoJ := Lib.hid (hoJ.out.below hc_)
    replace hJ := Lib.hid (hJ.out.below hc_)
    replace hoM := Lib.hid (hoM.out.below hc_)
    replace hM := Lib.hid (hM.out.below hc_)
    replace hva := Lib.hid (hva.out.below hc_)
    replace hvb := Lib.hid (hvb.out.below hc_)
    replace hba := Lib.hid (hba.out.below hc_)
    replace hbb := Lib.hid (hbb.out.below hc_)
    replace hpw := Lib.hid (hpw.out.below hc_)
    replace hoP := Lib.hid (hoP.out.below hc_)
    replace hP := Lib.hid (hP.out.below hc_)
    replace hoQ := Lib.hid (hoQ.out.below hc_)
    replace hQ := Lib.hid (hQ.out.below hc_)
    replace hbk := Lib.hid (hbk.out.below hc_)
    replace hrw := Lib.hid (hrw.out.below hc_)
    replace hall := Lib.hid (chainB hall.out hc_ hall.out.size)
    replace hch := Lib.hid (chainB hch.out hc_ hch.out.size)
    replace hs3 := Lib.hid (Nat.le_trans hs3.out hc_.size)
    clear hc_
    clear hb_
    have J0_ := hJ.out.cell 0 rfl; have J1_ := hJ.out.cell 1 rfl; have Jl_ := hJ.out.lt
    have M0_ := hM.out.cell 0 rfl; have M1_ := hM.out.cell 1 rfl; have Ml_ := hM.out.lt
    have a0_ := hba.out.cell 0 rfl; have a1_ := hba.out.cell 1 rfl; have al_ := hba.out.lt
    have b0_ := hbb.out.cell 0 rfl; have b1_ := hbb.out.cell 1 rfl; have bl_ := hbb.out.lt
    have P0_ := hP.out.cell 0 rfl; have P1_ := hP.out.cell 1 rfl; have Pl_ := hP.out.lt
    have Q0_ := hQ.out.cell 0 rfl; have Q1_ := hQ.out.cell 1 rfl; have Ql_ := hQ.out.lt
    go_wp2_with fail
    clear J0_ J1_ M0_ M1_ a0_ a1_ b0_ b1_ P0_ P1_ Q0_ Q1_ Jl_ Ml_ al_ bl_ Pl_ Ql_
    refine (known_any _ (hpw.out.below (by first | exact Below.refl _ _ | go_grown))).mono ?_
    rintro e_ w20 ⟨rfl, hb_⟩
    have hc_ : Below w19.heap.size w19 w20 := chainB (by first | exact Below.refl _ _ | go_grown) hb_ (by first | exact Nat.le_refl _ | (simp; done) | (simp; omega))
    replace hoJ := Lib.hid (hoJ.out.below hc_)
    replace hJ := Lib.hid (hJ.out.below hc_)
    replace hoM := Lib.hid (hoM.out.below hc_)
    replace hM := Lib.hid (hM.out.below hc_)
    replace hva := Lib.hid (hva.out.below hc_)
    replace hvb := Lib.hid (hvb.out.below hc_)
    replace hba := Lib.hid (hba.out.below hc_)
    replace hbb := Lib.hid (hbb.out.below hc_)
    replace hpw := Lib.hid (hpw.out.below hc_)
    replace hoP := Lib.hid (hoP.out.below hc_)
    replace hP := Lib.hid (hP.out.below hc_)
    replace hoQ := Lib.hid (hoQ.out.below hc_)
    replace hQ := Lib.hid (hQ.out.below hc_)
    replace hbk := Lib.hid (hbk.out.below hc_)
    replace hrw := Lib.hid (hrw.out.below hc_)
    replace hall := Lib.hid (chainB hall.out hc_ hall.out.size)
    replace hch := Lib.hid (chainB hch.out hc_ hch.out.size)
    replace hs3 := Lib.hid (Nat.le_trans hs3.out hc_.size)
    clear hc_
    clear hb_
    have J0_ := hJ.out.cell 0 rfl; have J1_ := hJ.out.cell 1 rfl; have Jl_ := hJ.out.lt
    have M0_ := hM.out.cell 0 rfl; have M1_ := hM.out.cell 1 rfl; have Ml_ := hM.out.lt
    have a0_ := hba.out.cell 0 rfl; have a1_ := hba.out.cell 1 rfl; have al_ := hba.out.lt
    have b0_ := hbb.out.cell 0 rfl; have b1_ := hbb.out.cell 1 rfl; have bl_ := hbb.out.lt
    have P0_ := hP.out.cell 0 rfl; have P1_ := hP.out.cell 1 rfl; have Pl_ := hP.out.lt
    have Q0_ := hQ.out.cell 0 rfl; have Q1_ := hQ.out.cell 1 rfl; have Ql_ := hQ.out.lt
    go_wp2_with fail
    clear J0_ J1_ M0_ M1_ a0_ a1_ b0_ b1_ P0_ P1_ Q0_ Q1_ Jl_ Ml_ al_ bl_ Pl_ Ql_
    refine (refCmp_any _ _ ⟨ae, al⟩ ⟨be, bl⟩ _ (hva.out.below (by first | exact Below.refl _ _ | go_grown)) (hvb.out.below (by first | exact Below.refl _ _ | go_grown)) waH.out wbH.out).mono ?_
    rw [hK.out]
    rintro e_ w21 ⟨rfl, hb_⟩
    have hc_ : Below w20.heap.size w20 w21 := chainB (by first | exact Below.refl _ _ | go_grown) hb_ (by first | exact Nat.le_refl _ | (simp; done) | (simp; omega))
    replace hoJ := Lib.hid (hoJ.out.below hc_)
    replace hJ := Lib.hid (hJ.out.below hc_)
    replace hoM := Lib.hid (hoM.out.below hc_)
    replace hM := Lib.hid (hM.out.below hc_)
    replace hva := Lib.hid (hva.out.below hc_)
    replace hvb := Lib.hid (hvb.out.below hc_)
    replace hba := Lib.hid (hba.out.below hc_)
    replace hbb := Lib.hid (hbb.out.below hc_)
    replace hpw := Lib.hid (hpw.out.below hc_)
    replace hoP := Lib.hid (hoP.out.below hc_)
    replace hP := Lib.hid (hP.out.below hc_)
    replace hoQ := Lib.hid (hoQ.out.below hc_)
    replace hQ := Lib.hid (hQ.out.below hc_)
    replace hbk := Lib.hid (hbk.out.below hc_)
    replace hrw := Lib.hid (hrw.out.below hc_)
    replace hall := Lib.hid (chainB hall.out hc_ hall.out.size)
    replace hch := Lib.hid (chainB hch.out hc_ hch.out.size)
    replace hs3 := Lib.hid (Nat.le_trans hs3.out hc_.size)
    clear hc_
    clear hb_
    have J0_ := hJ.out.cell 0 rfl; have J1_ := hJ.out.cell 1 rfl; have Jl_ := hJ.out.lt
    have M0_ := hM.out.cell 0 rfl; have M1_ := hM.out.cell 1 rfl; have Ml_ := hM.out.lt
    have a0_ := hba.out.cell 0 rfl; have a1_ := hba.out.cell 1 rfl; have al_ := hba.out.lt
    have b0_ := hbb.out.cell 0 rfl; have b1_ := hbb.out.cell 1 rfl; have bl_ := hbb.out.lt
    have P0_ := hP.out.cell 0 rfl; have P1_ := hP.out.cell 1 rfl; have Pl_ := hP.out.lt
    have Q0_ := hQ.out.cell 0 rfl; have Q1_ := hQ.out.cell 1 rfl; have Ql_ := hQ.out.lt
    go_wp2_with fail
    clear J0_ J1_ M0_ M1_ a0_ a1_ b0_ b1_ P0_ P1_ Q0_ Q1_ Jl_ Ml_ al_ bl_ Pl_ Ql_
    refine (refLeq_any _ _ ⟨ae, al⟩ ⟨be, bl⟩ _ (hva.out.below (by first | exact Below.refl _ _ | go_grown)) (hvb.out.below (by first | exact Below.refl _ _ | go_grown))).mono ?_
    rw [hL.out]
    rintro e_ w22 ⟨rfl, hb_⟩
    have hc_ : Below w21.heap.size w21 w22 := chainB (by first | exact Below.refl _ _ | go_grown) hb_ (by first | exact Nat.le_refl _ | (simp; done) | (simp; omega))
    replace hoJ := Lib.hid (hoJ.out.below hc_)
    replace hJ := Lib.hid (hJ.out.below hc_)
    replace hoM := Lib.hid (hoM.out.below hc_)
    replace hM := Lib.hid (hM.out.below hc_)
    replace hva := Lib.hid (hva.out.below hc_)
    replace hvb := Lib.hid (hvb.out.below hc_)
    replace hba := Lib.hid (hba.out.below hc_)
    replace hbb := Lib.hid (hbb.out.below hc_)
    replace hpw := Lib.hid (hpw.out.below hc_)
    replace hoP := Lib.hid (hoP.out.below hc_)
    replace hP := Lib.hid (hP.out.below hc_)
    replace hoQ := Lib.hid (hoQ.out.below hc_)
    replace hQ := Lib.hid (hQ.out.below hc_)
    replace hbk := Lib.hid (hbk.out.below hc_)
    replace hrw := Lib.hid (hrw.out.below hc_)
    replace hall := Lib.hid (chainB hall.out hc_ hall.out.size)
    replace hch := Lib.hid (chainB hch.out hc_ hch.out.size)
    replace hs3 := Lib.hid (Nat.le_trans hs3.out hc_.size)
    clear hc_
    clear hb_
    have J0_ := hJ.out.cell 0 rfl; have J1_ := hJ.out.cell 1 rfl; have Jl_ := hJ.out.lt
    have M0_ := hM.out.cell 0 rfl; have M1_ := hM.out.cell 1 rfl; have Ml_ := hM.out.lt
    have a0_ := hba.out.cell 0 rfl; have a1_ := hba.out.cell 1 rfl; have al_ := hba.out.lt
    have b0_ := hbb.out.cell 0 rfl; have b1_ := hbb.out.cell 1 rfl; have bl_ := hbb.out.lt
    have P0_ := hP.out.cell 0 rfl; have P1_ := hP.out.cell 1 rfl; have Pl_ := hP.out.lt
    have Q0_ := hQ.out.cell 0 rfl; have Q1_ := hQ.out.cell 1 rfl; have Ql_ := hQ.out.lt
    go_wp2_with fail
    clear J0_ J1_ M0_ M1_ a0_ a1_ b0_ b1_ P0_ P1_ Q0_ Q1_ Jl_ Ml_ al_ bl_ Pl_ Ql_
    refine (refPrint_any _ ⟨ae, al⟩ _ (hva.out.below (by first | exact Below.refl _ _ | go_grown)) waH.out laH.out).mono ?_
    rw [hR.out]
    rintro e_ w23 ⟨rfl, hb_⟩
    have hc_ : Below w22.heap.size w22 w23 := chainB (by first | exact Below.refl _ _ | go_grown) hb_ (by first | exact Nat.le_refl _ | (simp; done) | (simp; omega))
    replace hoJ := Lib.hid (hoJ.out.below hc_)
    replace hJ := Lib.hid (hJ.out.below hc_)
    replace hoM := Lib.hid (hoM.out.below hc_)
    replace hM := Lib.hid (hM.out.below hc_)
    replace hva := Lib.hid (hva.out.below hc_)
    replace hvb := Lib.hid (hvb.out.below hc_)
    replace hba := Lib.hid (hba.out.below hc_)
    replace hbb := Lib.hid (hbb.out.below hc_)
    replace hpw := Lib.hid (hpw.out.below hc_)
    replace hoP := Lib.hid (hoP.out.below hc_)
    replace hP := Lib.hid (hP.out.below hc_)
    replace hoQ := Lib.hid (hoQ.out.below hc_)
    replace hQ := Lib.hid (hQ.out.below hc_)
    replace hbk := Lib.hid (hbk.out.below hc_)
    replace hrw := Lib.hid (hrw.out.below hc_)
    replace hall := Lib.hid (chainB hall.out hc_ hall.out.size)
    replace hch := Lib.hid (chainB hch.out hc_ hch.out.size)
    replace hs3 := Lib.hid (Nat.le_trans hs3.out hc_.size)
    clear hc_
    clear hb_
    have J0_ := hJ.out.cell 0 rfl; have J1_ := hJ.out.cell 1 rfl; have Jl_ := hJ.out.lt
    have M0_ := hM.out.cell 0 rfl; have M1_ := hM.out.cell 1 rfl; have Ml_ := hM.out.lt
    have a0_ := hba.out.cell 0 rfl; have a1_ := hba.out.cell 1 rfl; have al_ := hba.out.lt
    have b0_ := hbb.out.cell 0 rfl; have b1_ := hbb.out.cell 1 rfl; have bl_ := hbb.out.lt
    have P0_ := hP.out.cell 0 rfl; have P1_ := hP.out.cell 1 rfl; have Pl_ := hP.out.lt
    have Q0_ := hQ.out.cell 0 rfl; have Q1_ := hQ.out.cell 1 rfl; have Ql_ := hQ.out.lt
    go_wp2_with fail
    clear J0_ J1_ M0_ M1_ a0_ a1_ b0_ b1_ P0_ P1_ Q0_ Q1_ Jl_ Ml_ al_ bl_ Pl_ Ql_
    refine (refCheck_any _ ⟨ae, al⟩ d _ (hva.out.below (by first | exact Below.refl _ _ | go_grown))).mono ?_
    rw [hC.out]
    rintro e_ w24 ⟨rfl, hb_⟩
    have hc_ : Below w23.heap.size w23 w24 := chainB (by first | exact Below.refl _ _ | go_grown) hb_ (by first | exact Nat.le_refl _ | (simp; done) | (simp; omega))
    replace hoJ := Lib.hid (hoJ.out.below hc_)
    replace hJ := Lib.hid (hJ.out.below hc_)
    replace hoM := Lib.hid (hoM.out.below hc_)
    replace hM := Lib.hid (hM.out.below hc_)
    replace hva := Lib.hid (hva.out.below hc_)
    replace hvb := Lib.hid (hvb.out.below hc_)
    replace hba := Lib.hid (hba.out.below hc_)
    replace hbb := Lib.hid (hbb.out.below hc_)
    replace hpw := Lib.hid (hpw.out.below hc_)
    replace hoP := Lib.hid (hoP.out.below hc_)
    replace hP := Lib.hid (hP.out.below hc_)
    replace hoQ := Lib.hid (hoQ.out.below hc_)
    replace hQ := Lib.hid (hQ.out.below hc_)
    replace hbk := Lib.hid (hbk.out.below hc_)
    replace hrw := Lib.hid (hrw.out.below hc_)
    replace hall := Lib.hid (chainB hall.out hc_ hall.out.size)
    replace hch := Lib.hid (chainB hch.out hc_ hch.out.size)
    replace hs3 := Lib.hid (Nat.le_trans hs3.out hc_.size)
    clear hc_
    clear hb_
    have J0_ := hJ.out.cell 0 rfl; have J1_ := hJ.out.cell 1 rfl; have Jl_ := hJ.out.lt
    have M0_ := hM.out.cell 0 rfl; have M1_ := hM.out.cell 1 rfl; have Ml_ := hM.out.lt
    have a0_ := hba.out.cell 0 rfl; have a1_ := hba.out.cell 1 rfl; have al_ := hba.out.lt
    have b0_ := hbb.out.cell 0 rfl; have b1_ := hbb.out.cell 1 rfl; have bl_ := hbb.out.lt
    have P0_ := hP.out.cell 0 rfl; have P1_ := hP.out.cell 1 rfl; have Pl_ := hP.out.lt
    have Q0_ := hQ.out.cell 0 rfl; have Q1_ := hQ.out.cell 1 rfl; have Ql_ := hQ.out.lt
    go_wp2_with fail
    clear J0_ J1_ M0_ M1_ a0_ a1_ b0_ b1_ P0_ P1_ Q0_ Q1_ Jl_ Ml_ al_ bl_ Pl_ Ql_
    refine (bookOwn_any w3.heap.size _ lv2 [.slice VJ nJ cJ, .slice VM nM cM] (fun i => if i = 0 then J.l.length else M.l.length) _ hbk.out (hrw.out.row (by have := hBy.out; omega)) (by simp) (fun i => by split <;> first | exact hJl.out | exact hMl.out) (fun i hi => ?_) (fun i k hi hk hne => ?_) hs3.out).mono ?_
    · match i, hi with
      | 0, _ => exact ⟨J.l, rfl, hoJ.out⟩
      | 1, _ => exact ⟨M.l, rfl, hoM.out⟩
    · match i, k, hi, hk, hne with
      | 0, 1, _, _, _ => exact hjm.out
      | 1, 0, _, _, _ => exact hjm.out.symm
      | 0, 0, _, _, h => exact absurd rfl h
      | 1, 1, _, _, h => exact absurd rfl h
    rintro e_ w25 ⟨rfl, hb_⟩
    have hfin := Lib.hid (hall.out.trans (hb_.mono hwy.out))
    clear hb_
    go_wp2_with fail
    go_ret
    exact ⟨rfl, hfin.out⟩
end Go.Proofs.YtkpjbmbdndkalaaDoor
