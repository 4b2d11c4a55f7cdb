/-
  The time that stands for another one beyond an antichain, at this program. Conditions: no more than 2^40 counters; numbers of their kinds.
-/
import Derived.Test.YtdfhchpimpbgfaaGreatDoorChJ
import Derived.LoopTactic
import Derived.BigQuiet
set_option linter.unusedVariables false
set_option linter.unusedSimpArgs false
namespace Go.Proofs.YtdfhchpimpbgfaaGreatDoor
open Go.RowKit Go.Lib

/-- What has been found so far lies in the variable's block, its counters in a block of the call's own. -/
def RelAd (t : Tm) (xs : List Td) (ob : Nat) (W0 : World) (s6 s15 : Value) (wr : World) : Prop :=
  ∃ (p : Nat) (cur : Td) (f : Bool), s15 = .int .i64 (p : Int) ∧ p ≤ xs.length ∧ s6 = .bool f ∧ f = (advO t ((tmsD xs).take p)).isSome ∧ cur.t = (advO t ((tmsD xs).take p)).getD t ∧ HasC wr ob (cellsT cur) 26 ∧ OwnW W0.heap.size (slD cur) cur.t.l wr ∧ TmW cur.t ∧ cur.t.l.length = t.l.length ∧ Below W0.heap.size W0 wr
theorem advO_step {t : Tm} {xs : List Td} {p : Nat} {d : Td} (hd : xs[p]? = some d) : advO t ((tmsD xs).take (p + 1)) = advStep t (advO t ((tmsD xs).take p)) d.t := by
  obtain ⟨hp, e⟩ := List.getElem?_eq_some_iff.1 (tms_at hd)
  rw [List.take_succ_eq_append_getElem hp, advO_snoc, e]
theorem step_no {t x : Tm} {o : Option Tm} (h : ¬ t.l.length = x.l.length) : advStep t o x = o := by unfold advStep; rw [if_neg h]
theorem step_first {t x : Tm} {o : Option Tm} (h : t.l.length = x.l.length) (ho : o.isSome = false) : advStep t o x = some (chosenT max t x) := by
  unfold advStep
  rw [if_pos h]
  cases o with
  | none => rfl
  | some m => cases ho
theorem step_more {t x : Tm} {o : Option Tm} (h : t.l.length = x.l.length) (ho : o.isSome = true) : advStep t o x = some (chosenT min (o.getD t) (chosenT max t x)) := by
  unfold advStep
  rw [if_pos h]
  cases o with
  | none => cases ho
  | some m => rfl
set_option maxHeartbeats 8000000 in
set_option maxRecDepth 1000000 in
theorem advance_any (v vt : Value) (xs : List Td) (t : Tm) (w : World) (h : TmsV w v xs) (ht : TmV w vt t) (wt : TmW t) (hs : t.l.length ≤ 1099511627776) (hw : ∀ d ∈ xs, TmW d.t) :
    Calls Tryz.prog 12 #[v, vt] w fun e w' => ∃ s, e = .returned (.agg #[.int .u64 (advT (tmsD xs) t).e, s]) ∧ OwnW w.heap.size s (advT (tmsD xs) t).l w' ∧ Below w.heap.size w w' := by
  obtain ⟨te, tl⟩ := t
  obtain ⟨st, rfl, ht⟩ := ht
  simp only at ht hs
  obtain ⟨B, k, cb, rfl, hk, hkc, hkb⟩ := ht.form
  obtain ⟨A, n, c, rfl, hlen, hnc, hc⟩ := h.form
  obtain ⟨⟨re, rl⟩, hr⟩ : ∃ r, advT (tmsD xs) ⟨te, tl⟩ = r := ⟨_, rfl⟩
  rw [hr]
  have hrH := Lib.hid hr
  clear hr
  obtain ⟨W0, hW0, hwW, hA, hR, hzz⟩ := boxes2 w [.int .u64 te, .slice B k cb] [.int .u64 0, .slice none 0 0] 26 26
  have hH := Lib.hid (h.below hwW); have htH := Lib.hid (ht.below hwW); have hAH := Lib.hid hA; have hRH := Lib.hid hR; have hwWH := Lib.hid hwW; have hlenH := Lib.hid hlen; have hwH := Lib.hid hw; have wtH := Lib.hid wt; have hsH := Lib.hid hs; have hkH := Lib.hid hk
  have a0_ := hA.cell 0 rfl; have a1_ := hA.cell 1 rfl
  clear h ht hA hR hwW hlen hw wt hs hk
  go_enter Tryz.func12, Tryz.ntmps12
  go_wp2_with fail
  refine (fresh_any _ ⟨te, tl⟩ W0 ⟨_, rfl, htH.out⟩ hsH.out).mono ?_
  rintro e w1 ⟨s0, rfl, ho0, hb1⟩
  obtain ⟨SA, sn, sc, rfl, hsn, _, _⟩ := ho0.words.form
  simp only at hsn ho0
  subst hsn
  obtain ⟨ob, hob⟩ : ∃ b, w1.heap.size = b := ⟨_, rfl⟩
  obtain ⟨w2, hw2⟩ : ∃ x, w1.alloc (.cells #[.int .u64 te, .slice SA tl.length sc] 26) = x := ⟨_, rfl⟩
  have hb12 : Below w1.heap.size w1 w2 := by rw [← hw2]; go_grown
  have hcur := Lib.hid (show HasC w2 ob (cellsT ⟨SA, sc, ⟨te, tl⟩⟩) 26 by rw [← hw2]; exact has_at _ _ _ _ hob.symm)
  have ho2 := Lib.hid (ho0.below hb12); have hb2 := Lib.hid (chainB hb1 hb12 hb1.size)
  have hobW := Lib.hid (show W0.heap.size ≤ ob by rw [← hob]; exact hb1.size)
  clear ho0 hb1 hb12 a0_ a1_
  go_wp2_with fail
  clear hw2
  go_loopw [6, 8, 9, 10, 15, 26, 29] (fun s6 s8 s9 s10 s15 s26 s29 wr => RelAd ⟨te, tl⟩ xs ob W0 s6 s15 wr) (fun _ _ _ _ s15 _ _ _ => n - (Go.RowKit.intOf s15).toNat)
  case atStart => exact ⟨0, ⟨SA, sc, ⟨te, tl⟩⟩, false, rfl, Nat.zero_le _, rfl, rfl, rfl, hcur.out, ho2.out, wtH.out, rfl, hb2.out⟩
  case round =>
    unfold RelAd at hrel
    obtain ⟨p, cur, f, rfl, hp, rfl, hf, hct, hcc, hco, hcw, hcl, hbw⟩ := hrel
    have hpn : p ≤ n := by have := hlenH.out; omega
    have hfH := Lib.hid hf; have hctH := Lib.hid hct; have hccH := Lib.hid hcc; have hcoH := Lib.hid hco; have hcwH := Lib.hid hcw; have hclH := Lib.hid hcl; have hbwH := Lib.hid hbw
    clear hp hf hct hcc hco hcw hcl hbw
    by_cases hlt : p < n
    · obtain ⟨x, hx⟩ : ∃ d, xs[p]? = some d := ⟨_, List.getElem?_eq_getElem (by have := hlenH.out; omega)⟩
      obtain ⟨ad, rfl, hba, d0_, d1_⟩ := (hH.out.below hbwH.out).at hx
      have hxr := Lib.hid (hH.out.2 x (List.mem_of_getElem? hx))
      have hxw := Lib.hid (hwH.out x (List.mem_of_getElem? hx))
      have hst := Lib.hid (advO_step (t := ⟨te, tl⟩) hx)
      clear hx
      obtain ⟨xA, xc, ⟨xe, xl⟩⟩ := x
      obtain ⟨cA, cc, ⟨ce, cl⟩⟩ := cur
      simp only at d0_ d1_
      obtain ⟨wy, hwy⟩ : ∃ z, wr.alloc (.cells #[.int .u64 xe, .slice xA xl.length xc] 26) = z := ⟨_, rfl⟩
      have hby : Below wr.heap.size wr wy := by rw [← hwy]; go_grown
      have hboxy := (show HasC wy wr.heap.size (cellsT ⟨xA, xc, ⟨xe, xl⟩⟩) 26 by rw [← hwy]; exact has_at _ _ _ _ rfl)
      have e0_ := hboxy.cell 0 rfl; have e1_ := hboxy.cell 1 rfl; have el_ := hboxy.lt
      have hbwy := Lib.hid (chainB hbwH.out hby hbwH.out.size)
      have f0_ := (hAH.out.below hbwy.out).cell 0 rfl; have f1_ := (hAH.out.below hbwy.out).cell 1 rfl; have fl_ := (hAH.out.below hbwy.out).lt
      have hccy := Lib.hid (hccH.out.below hby); have hcoy := Lib.hid (hcoH.out.below hby)
      obtain ⟨z, hz⟩ : ∃ z, chosenT max (⟨te, tl⟩ : Tm) ⟨xe, xl⟩ = z := ⟨_, rfl⟩
      obtain ⟨E, hE⟩ : ∃ E, chosenE (⟨te, tl⟩ : Tm) ⟨xe, xl⟩ = E := ⟨_, rfl⟩
      have hzw := Lib.hid (show TmW z by rw [← hz]; exact chosen_W max_or wtH.out hxw.out)
      have hzH := Lib.hid hz; have hEH := Lib.hid hE
      clear hby hboxy hz hE hccH hcoH
      go_wp2_with fail
      refine (join_any _ _ ⟨te, tl⟩ ⟨xe, xl⟩ wy ⟨_, rfl, htH.out.below hbwy.out⟩ ⟨_, rfl, hxr.out.below hbwy.out⟩ wtH.out hxw.out hsH.out).mono ?_
      rw [hzH.out, hEH.out]
      rintro e w3 ⟨V, rfl, hoV, hb3⟩
      obtain ⟨ze, zl⟩ := z
      obtain ⟨VA, vn, vc, rfl, hvn, _, _⟩ := hoV.words.form
      simp only at hvn hoV
      subst hvn
      have hbw3 := Lib.hid (chainB hbwy.out hb3 hbwy.out.size)
      have hV3 := Lib.hid (show OwnW W0.heap.size (slD ⟨VA, vc, ⟨ze, zl⟩⟩) zl w3 from hoV.low hbwy.out.size)
      have hcc3 := Lib.hid (hccy.out.below hb3); have hco3 := Lib.hid (hcoy.out.below hb3)
      obtain ⟨w4, hw4⟩ : ∃ z, w3.alloc (.cells #[.int .u64 ze, .slice VA zl.length vc] 26) = z := ⟨_, rfl⟩
      have hb4 : Below w3.heap.size w3 w4 := by rw [← hw4]; go_grown
      have hboxz := (show HasC w4 w3.heap.size (cellsT ⟨VA, vc, ⟨ze, zl⟩⟩) 26 by rw [← hw4]; exact has_at _ _ _ _ rfl)
      have hbw4 := Lib.hid (chainB hbw3.out hb4 hbw3.out.size)
      have hV4 := Lib.hid (hV3.out.below hb4); have hcc4 := Lib.hid (hcc3.out.below hb4); have hco4 := Lib.hid (hco3.out.below hb4)
      have hobz := Lib.hid (show ob ≠ w3.heap.size by have := hcc3.out.lt; omega)
      clear hoV hb3 hbw3 hV3 hcc3 hco3 hccy hcoy hwy e0_ e1_ el_ f0_ f1_ fl_ hbwy hb4 hbwH
      have g0_ := hboxz.cell 0 rfl; have g1_ := hboxz.cell 1 rfl; have gl_ := hboxz.lt
      by_cases hxy : tl.length = xl.length
      · have hE0 : E = 0 := by rw [← hEH.out]; exact if_pos hxy
        have hxyH := Lib.hid hxy
        clear hxy
        subst hE0
        have c0_ := hcc4.out.cell 0 rfl; have c1_ := hcc4.out.cell 1 rfl; have cl_ := hcc4.out.lt; have cf0_ := hcc4.out.free 0; have cf1_ := hcc4.out.free 1
        cases f with
        | false =>
          have hnew := Lib.hid (show advO ⟨te, tl⟩ ((tmsD xs).take (p + 1)) = some ⟨ze, zl⟩ by rw [hst.out, step_first hxyH.out hfH.out.symm, hzH.out])
          have hzl := Lib.hid (show zl.length = tl.length by have := chosen_len (f := max) (a := ⟨te, tl⟩) (b := ⟨xe, xl⟩) hxyH.out; rw [hzH.out] at this; exact this)
          have hset := Lib.hid ((hcc4.out.set 0 (.int .u64 ze)).set 1 (.slice VA zl.length vc))
          have hfar := Lib.hid ((hV4.out.far hcc4.out (by decide) 0 (.int .u64 ze)).far (hcc4.out.set 0 (.int .u64 ze)) (by decide) 1 (.slice VA zl.length vc))
          clear hboxz
          go_wp2_with fail
          go_roundw
          case rel =>
            first
            | exact ⟨p + 1, ⟨VA, vc, ⟨ze, zl⟩⟩, true, by go_num, by have := hlenH.out; omega, rfl, by rw [hnew.out]; rfl, by rw [hnew.out]; rfl, hset.out, hfar.out, hzw.out, hzl.out, (hbw4.out.setCell hobW.out _).setCell hobW.out _⟩
            | (repeat apply Exists.intro); refine And.intro ?_ ?_; rotate_left; (repeat (first | exact rfl | refine And.intro rfl ?_)); exact ⟨p + 1, ⟨VA, vc, ⟨ze, zl⟩⟩, true, by go_num, by have := hlenH.out; omega, rfl, by rw [hnew.out]; rfl, by rw [hnew.out]; rfl, hset.out, hfar.out, hzw.out, hzl.out, (hbw4.out.setCell hobW.out _).setCell hobW.out _⟩
          case measure => simp [Go.RowKit.intOf]; omega
        | true =>
          obtain ⟨y, hy⟩ : ∃ y, chosenT min (⟨ce, cl⟩ : Tm) ⟨ze, zl⟩ = y := ⟨_, rfl⟩
          have hnew := Lib.hid (show advO ⟨te, tl⟩ ((tmsD xs).take (p + 1)) = some y by rw [hst.out, step_more hxyH.out hfH.out.symm, hzH.out, ← hctH.out, hy])
          have hyw := Lib.hid (show TmW y by rw [← hy]; exact chosen_W min_or hcwH.out hzw.out)
          have hzl := Lib.hid (show zl.length = tl.length by have := chosen_len (f := max) (a := ⟨te, tl⟩) (b := ⟨xe, xl⟩) hxyH.out; rw [hzH.out] at this; exact this)
          have hyl := Lib.hid (show y.l.length = tl.length by rw [← hy]; exact (chosen_len (show cl.length = zl.length by rw [hzl.out]; exact hclH.out)).trans hclH.out)
          have hyH := Lib.hid hy
          clear hy hboxz
          go_wp2_with fail
          refine (meet_any _ _ ⟨ce, cl⟩ ⟨ze, zl⟩ w4 ⟨_, rfl, hco4.out.words⟩ ⟨_, rfl, hV4.out.words⟩ hcwH.out hzw.out (by rw [hclH.out]; exact hsH.out)).mono ?_
          rw [hyH.out]
          rintro e w5 ⟨Y, rfl, hoY, hb5⟩
          obtain ⟨ye, yl⟩ := y
          obtain ⟨YA, yn, yc, rfl, hyn, _, _⟩ := hoY.words.form
          simp only at hyn hoY
          subst hyn
          have hbw5 := Lib.hid (chainB hbw4.out hb5 hbw4.out.size)
          have hcc5 := Lib.hid (hcc4.out.below hb5)
          have hY5 := Lib.hid (show OwnW W0.heap.size (slD ⟨YA, yc, ⟨ye, yl⟩⟩) yl w5 from hoY.low hbw4.out.size)
          clear hoY hb5 c0_ c1_ cl_ cf0_ cf1_ g0_ g1_ gl_
          have c0_ := hcc5.out.cell 0 rfl; have c1_ := hcc5.out.cell 1 rfl; have cl_ := hcc5.out.lt; have cf0_ := hcc5.out.free 0; have cf1_ := hcc5.out.free 1
          have hset := Lib.hid ((hcc5.out.set 0 (.int .u64 ye)).set 1 (.slice YA yl.length yc))
          have hfar := Lib.hid ((hY5.out.far hcc5.out (by decide) 0 (.int .u64 ye)).far (hcc5.out.set 0 (.int .u64 ye)) (by decide) 1 (.slice YA yl.length yc))
          go_wp2_with fail
          go_roundw
          case rel =>
            first
            | exact ⟨p + 1, ⟨YA, yc, ⟨ye, yl⟩⟩, true, by go_num, by have := hlenH.out; omega, rfl, by rw [hnew.out]; rfl, by rw [hnew.out]; rfl, hset.out, hfar.out, hyw.out, hyl.out, (hbw5.out.setCell hobW.out _).setCell hobW.out _⟩
            | (repeat apply Exists.intro); refine And.intro ?_ ?_; rotate_left; (repeat (first | exact rfl | refine And.intro rfl ?_)); exact ⟨p + 1, ⟨YA, yc, ⟨ye, yl⟩⟩, true, by go_num, by have := hlenH.out; omega, rfl, by rw [hnew.out]; rfl, by rw [hnew.out]; rfl, hset.out, hfar.out, hyw.out, hyl.out, (hbw5.out.setCell hobW.out _).setCell hobW.out _⟩
          case measure => simp [Go.RowKit.intOf]; omega
      · have hE0 : E = 40 := by rw [← hEH.out]; exact if_neg hxy
        subst hE0
        have hnew := Lib.hid (show advO ⟨te, tl⟩ ((tmsD xs).take (p + 1)) = advO ⟨te, tl⟩ ((tmsD xs).take p) by rw [hst.out, step_no hxy])
        clear hboxz
        go_wp2_with fail
        go_roundw
        case rel =>
          first
          | exact ⟨p + 1, ⟨cA, cc, ⟨ce, cl⟩⟩, f, by go_num, by have := hlenH.out; omega, rfl, by rw [hnew.out]; exact hfH.out, by rw [hnew.out]; exact hctH.out, hcc4.out, hco4.out, hcwH.out, hclH.out, hbw4.out⟩
          | (repeat apply Exists.intro); refine And.intro ?_ ?_; rotate_left; (repeat (first | exact rfl | refine And.intro rfl ?_)); exact ⟨p + 1, ⟨cA, cc, ⟨ce, cl⟩⟩, f, by go_num, by have := hlenH.out; omega, rfl, by rw [hnew.out]; exact hfH.out, by rw [hnew.out]; exact hctH.out, hcc4.out, hco4.out, hcwH.out, hclH.out, hbw4.out⟩
        case measure => simp [Go.RowKit.intOf]; omega
    · obtain rfl : p = n := by omega
      have hfin := Lib.hid (show cur.t = advT (tmsD xs) ⟨te, tl⟩ by rw [hctH.out, List.take_of_length_le (show (tmsD xs).length ≤ p by simp [tmsD]; have := hlenH.out; omega)]; rfl)
      obtain ⟨cA, cc, ⟨ce, cl⟩⟩ := cur
      obtain ⟨rfl, rfl⟩ := Tm.mk.inj (show (⟨ce, cl⟩ : Tm) = ⟨re, rl⟩ from hfin.out.trans hrH.out)
      have c0_ := hccH.out.cell 0 rfl; have c1_ := hccH.out.cell 1 rfl; have cl_ := hccH.out.lt
      have hR2 := Lib.hid (hRH.out.below hbwH.out)
      have r0_ := hR2.out.cell 0 rfl; have r1_ := hR2.out.cell 1 rfl; have rl_ := hR2.out.lt; have rf0_ := hR2.out.free 0; have rf1_ := hR2.out.free 1
      have q1 := hR2.out.set 0 (.int .u64 ce); have q2 := q1.set 1 (.slice cA cl.length cc)
      have q0_ := q1.cell 0 rfl; have q1_ := q2.cell 0 rfl; have q2_ := q2.cell 1 rfl
      have q1H := Lib.hid q1
      clear q1 q2
      go_wp2_with fail
      refine bodyPost_ret (v := .agg #[.int .u64 ce, .slice cA cl.length cc]) (by simp [results, Tryz.results12, go_sem, q0_, q1_, q2_]) rfl ?_
      have hbA := hwWH.out.trans (hbwH.out.mono hwWH.out.size)
      exact ⟨_, rfl, ((hcoH.out.far hR2.out (by decide) _ _).far q1H.out (by decide) _ _).low hwWH.out.size, (hbA.setCell (by simp) _).setCell (by simp) _⟩
end Go.Proofs.YtdfhchpimpbgfaaGreatDoor
