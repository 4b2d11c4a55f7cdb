/-
  The times of one antichain that another one has not; counts that change, and how their frontier moves, at this program. Conditions: those written.
-/
import Derived.Test.YtdfhchpimpbgfaaGreatDoorChBs
import Derived.Test.YtdfhchpimpbgfaaGreatDoorChHs
import Derived.Test.YtdfhchpimpbgfaaGreatDoorChNw
import Derived.Test.YtdfhchpimpbgfaaGreatDoorChFr
import Derived.LoopTactic
import Derived.BigQuiet
set_option linter.unusedVariables false
set_option linter.unusedSimpArgs false
namespace Go.Proofs.YtdfhchpimpbgfaaGreatDoor
open Go.RowKit Go.Lib Go.Proofs Go.Shelf

section
/-- 'v = append(v, Change{..})', the one new one in the block that the statement has just laid. -/
theorem wpList_change {ops : Array Oper} {rest : List Oper} {o : Oper} {a : Act} {Q : Exit → Act → World → Prop} (hgd : o.guard = none) (s x : Operand)
    (ho : o.op = .call { callee := .builtin .append, args := #[s, x], argTypes := #[57, 57] })
    (B : Nat) (v : Value) (hs : List Hd) (w0 : World) (d : Hd) (cs : Array Value) (hcs : cs = (cellsD d).toArray) (hb : OwnHs B v hs w0) (b : Nat) (hbE : b = w0.heap.size) (hs' : a.eval s = v)
    (hx : a.eval x = .slice (some ⟨b, 0, none⟩) 1 1) (hlen : hs.length ≤ 1099511627776) (hB : B ≤ w0.heap.size)
    (h : ∀ v' w', OwnHs B v' (hs ++ [d]) w' → w0.grownBy w' v.ownBlock → wpList Tryz.prog ops Q rest (a.put o.dst v') w') : wpList Tryz.prog ops Q (o :: rest) a (w0.alloc (.cells cs 59)) := by
  obtain ⟨i, hi, hz, hsz, hby⟩ := info_parts change_info
  subst hbE
  subst hcs
  refine wpList_append_own _ hgd s x 57 ho B 59 i _ 3 40 Tryz.underlying57 hi hz hsz hby rfl (by decide) v hs.length (cellsDs hs) hs' (ownsRow_below hb (by go_grown)) ⟨w0.heap.size, 0, none⟩ 1 1 (cellsD d) hx rfl ?_ (cellsD_one _) (by unfold maxLen; omega) (by omega) (by rw [World.size_alloc]; omega) ?_
  · intro j u hj
    rw [show (⟨w0.heap.size, 0, none⟩ : Addr).add j = ⟨w0.heap.size, j, none⟩ by unfold Addr.add; split <;> simp_all, cell_new]
    simpa using hj
  · intro v' w' ho' hg _
    refine h v' w' ?_ (grown_trans (World.grownBy_alloc _ _ _) hg)
    unfold OwnHs
    rw [cellsDs_append, List.length_append]
    simpa [cellsDs] using ho'
end
def RelMi (d : Int) (xs : List Td) (bs : List Tm) (n : Nat) (w0 : World) (s7 s14 : Value) (wr : World) : Prop :=
  ∃ (p : Nat) (v : Value) (hs : List Hd), v = s7 ∧ s14 = .int .i64 (p : Int) ∧ p ≤ n ∧ OwnHs w0.heap.size v hs wr ∧ chs hs = chg d ((tmsD xs).take p) bs ∧ (∀ x ∈ hs, x.1 ∈ xs) ∧ Below w0.heap.size w0 wr
theorem chg_step {d : Int} {l bs : List Tm} {p : Nat} {x : Tm} (h : l[p]? = some x) : chg d (l.take (p + 1)) bs = chg d (l.take p) bs ++ (if hasT bs x then [] else [(x, d)]) := by
  obtain ⟨hp, rfl⟩ := List.getElem?_eq_some_iff.1 h
  unfold chg
  rw [List.take_succ_eq_append_getElem hp, List.filter_append, List.map_append]
  congr 1
  cases hh : hasT bs l[p] <;> simp [hh]
theorem chs_len (hs : List Hd) : (chs hs).length = hs.length := by simp [chs]
set_option maxHeartbeats 8000000 in
set_option maxRecDepth 1000000 in
theorem missing_any (va vb : Value) (xs ys : List Td) (d : Int) (w : World) (ha : TmsV w va xs) (hb : TmsV w vb ys) (hs : (tmsD ys).Pairwise fun a b => cmpT a b < 0) (hn : xs.length ≤ 1000000 ∧ ys.length ≤ 1000000) :
    Calls Tryz.prog 72 #[va, vb, .int .i64 d] w fun e w' => ∃ v hs, e = .returned v ∧ OwnHs w.heap.size v hs w' ∧ chs hs = chg d (tmsD xs) (tmsD ys) ∧ (∀ x ∈ hs, x.1 ∈ xs) ∧ Below w.heap.size w w' := by
  obtain ⟨A, n, c, rfl, hlen, hnc, hc⟩ := ha.form
  have haH := Lib.hid ha; have hbH := Lib.hid hb; have hsH := Lib.hid hs; have hlenH := Lib.hid hlen; have hyn := Lib.hid hn.2
  have hnb : n ≤ 1000000 := by have := hn.1; omega
  clear ha hb hs hlen hn
  go_enter Tryz.func72, Tryz.ntmps72
  go_wp2_with fail
  go_loopw [7, 9, 10, 11, 14] (fun s7 s9 s10 s11 s14 wr => RelMi d xs (tmsD ys) n w s7 s14 wr) (fun _ _ _ _ s14 _ => n - (Go.RowKit.intOf s14).toNat)
  case atStart => exact ⟨0, _, [], rfl, rfl, Nat.zero_le _, OwnHs.nil _ _, rfl, fun x hx => by simp at hx, Below.refl _ _⟩
  case round =>
    unfold RelMi at hrel
    obtain ⟨p, v7, hs, rfl, rfl, hp, ho, hch, hin, hbw⟩ := hrel
    have hoH := Lib.hid ho; have hchH := Lib.hid hch; have hinH := Lib.hid hin; have hbwH := Lib.hid hbw
    clear ho hch hin hbw
    by_cases hlt : p < n
    · obtain ⟨x, hx⟩ : ∃ d, xs[p]? = some d := ⟨_, List.getElem?_eq_getElem (by have := hlenH.out; omega)⟩
      obtain ⟨ad, rfl, hba, a0_, a1_⟩ := (haH.out.below hbwH.out).at hx
      have hxr := Lib.hid ((haH.out.2 x (List.mem_of_getElem? hx)).below hbwH.out)
      have hst := Lib.hid (chg_step (d := d) (bs := tmsD ys) (tms_at hx))
      have hmem := Lib.hid (List.mem_of_getElem? hx)
      have hlh := Lib.hid (show hs.length ≤ 1000000 by
        have h1 := congrArg List.length hchH.out
        rw [chs_len] at h1
        have h2 := chg_len d ((tmsD xs).take p) (tmsD ys)
        rw [List.length_take] at h2
        omega)
      clear hx
      obtain ⟨xA, xc, ⟨xe, xl⟩⟩ := x
      simp only at a0_ a1_
      obtain ⟨wb, hwb⟩ : ∃ y, wr.alloc (.cells #[.int .u64 xe, .slice xA xl.length xc] 26) = y := ⟨_, rfl⟩
      have hbb : Below wr.heap.size wr wb := by rw [← hwb]; go_grown
      have hbx := Lib.hid (show HasC wb wr.heap.size (cellsT ⟨xA, xc, ⟨xe, xl⟩⟩) 26 by rw [← hwb]; exact has_at _ _ _ _ rfl)
      have b0_ := hbx.out.cell 0 rfl; have b1_ := hbx.out.cell 1 rfl; have bl_ := hbx.out.lt
      have hbwB := Lib.hid (chainB hbwH.out hbb hbwH.out.size)
      have hoB := Lib.hid (ownsRow_below hoH.out hbb)
      have hxB := Lib.hid (hxr.out.below hbb)
      obtain ⟨z, hz⟩ : ∃ z, hasT (tmsD ys) ⟨xe, xl⟩ = z := ⟨_, rfl⟩
      have hzH := Lib.hid hz
      clear hbb hz hoH
      go_wp2_with fail
      refine (binT_any vb ys ⟨xA, xc, ⟨xe, xl⟩⟩ wb (hbH.out.below hbwB.out) hxB.out hsH.out hyn.out).mono ?_
      rw [hzH.out]
      rintro e w2 ⟨⟨i2, rfl⟩, hb2⟩
      have ho2 := Lib.hid (ownsRow_below hoB.out hb2); have hbw2 := Lib.hid (chainB hbwB.out hb2 hbwB.out.size)
      have hbx2 := Lib.hid (hbx.out.below hb2)
      clear hb2 b0_ b1_ bl_ hwb
      have b0_ := hbx2.out.cell 0 rfl; have b1_ := hbx2.out.cell 1 rfl; have bl_ := hbx2.out.lt
      cases z with
      | true =>
        have hst2 := Lib.hid (show chs hs = chg d ((tmsD xs).take (p + 1)) (tmsD ys) by rw [hst.out, hzH.out, hchH.out]; simp)
        go_wp2_with fail
        go_roundw
        case rel => exact ⟨p + 1, _, hs, rfl, by go_num, by omega, ho2.out, hst2.out, hinH.out, hbw2.out⟩
        case measure => simp [Go.RowKit.intOf]; omega
      | false =>
        have hst2 := Lib.hid (show chs (hs ++ [((⟨xA, xc, ⟨xe, xl⟩⟩ : Td), d)]) = chg d ((tmsD xs).take (p + 1)) (tmsD ys) by rw [hst.out, hzH.out, ← hchH.out]; simp [chs])
        have hin2 := Lib.hid (show ∀ x ∈ hs ++ [((⟨xA, xc, ⟨xe, xl⟩⟩ : Td), d)], x.1 ∈ xs by
          intro x hx
          rw [List.mem_append, List.mem_singleton] at hx
          rcases hx with hx | rfl
          · exact hinH.out x hx
          · exact hmem.out)
        go_wp2_with (at_builtin; refine wpList_change rfl _ _ rfl w.heap.size v7 hs w2 (⟨xA, xc, ⟨xe, xl⟩⟩, d) _ rfl ho2.out w2.heap.size rfl (by rfl) (by rfl) (by have := hlh.out; omega) hbw2.out.size ?_; intro v' w' ho' hg')
        have ho3 := Lib.hid ho'; have hbw3 := Lib.hid (below_grown hbw2.out ho2.out hbw2.out.size hg')
        clear ho' hg' b0_ b1_ bl_
        go_wp2_with fail
        go_roundw
        case rel => first | exact ⟨p + 1, _, _, rfl, by go_num, by omega, ho3.out, hst2.out, hin2.out, hbw3.out⟩ | exact ⟨_, _, _, _, _, ⟨p + 1, _, _, rfl, by go_num, by omega, ho3.out, hst2.out, hin2.out, hbw3.out⟩, rfl, rfl, rfl, rfl, rfl⟩
        case measure => simp [Go.RowKit.intOf]; omega
    · obtain rfl : p = n := by omega
      have hfin := Lib.hid (show chs hs = chg d (tmsD xs) (tmsD ys) by rw [hchH.out, List.take_of_length_le (show (tmsD xs).length ≤ p by simp [tmsD]; have := hlenH.out; omega)])
      go_wp2_with fail
      go_ret
      exact ⟨_, hs, rfl, hoH.out, hfin.out, hinH.out, hbwH.out⟩
theorem SlV.mapped {w w' : World} {k n mb : Nat} {v : Value} {xs : List Value} {es : Array MapEntry} {cl : Nat} (h : SlV w k v n xs) (hb : w.heap[mb]? = some (.map es cl)) (hg : w.grownBy w' (some mb)) : SlV w' k v n xs := by
  obtain ⟨h1, A, c, rfl, h2, h3, h0, h4⟩ := h
  refine ⟨h1, A, c, rfl, h2, h3, h0, fun hn => ?_⟩
  obtain ⟨ad, rfl, h5, h6⟩ := h4 hn
  refine ⟨ad, rfl, Nat.lt_of_lt_of_le h5 hg.size, fun j u hj => ?_⟩
  have h7 := h6 j u hj
  have hne : (ad.add j).block ≠ mb := by
    intro e
    unfold World.cell? at h7
    rw [e, hb] at h7
    cases h7
  have hl : (ad.add j).block < w.heap.size := by rw [add_block]; exact h5
  unfold World.cell? at h7 ⊢
  rw [hg.block _ hl (fun q => hne (Option.some.inj q))]
  exact h7
theorem RdT.mapped {w w' : World} {mb : Nat} {ds : List Td} {es : Array MapEntry} {cl : Nat} (h : RdT w ds) (hb : w.heap[mb]? = some (.map es cl)) (hg : w.grownBy w' (some mb)) : RdT w' ds := fun d hd => SlV.mapped (h d hd) hb hg
theorem TmsV.mapped {w w' : World} {mb : Nat} {v : Value} {ds : List Td} {es : Array MapEntry} {cl : Nat} (h : TmsV w v ds) (hb : w.heap[mb]? = some (.map es cl)) (hg : w.grownBy w' (some mb)) : TmsV w' v ds := ⟨h.1.mapped hb hg, h.2.mapped hb hg⟩
theorem HsV.mapped {w w' : World} {mb : Nat} {v : Value} {hs : List Hd} {es : Array MapEntry} {cl : Nat} (h : HsV w v hs) (hb : w.heap[mb]? = some (.map es cl)) (hg : w.grownBy w' (some mb)) : HsV w' v hs := ⟨h.1.mapped hb hg, fun x hx => SlV.mapped (h.2 x hx) hb hg⟩
theorem CtI.map {N cb mb : Nat} {M : Tm → Int} {w : World} (h : CtI N cb mb M w) : ∃ es cl, w.heap[mb]? = some (.map es cl) := by
  obtain ⟨_, D, ⟨es, cl, hb, _⟩, _⟩ := h
  exact ⟨es, cl, hb⟩
theorem Pows.mapped {w w' : World} {mb : Nat} {es : Array MapEntry} {cl : Nat} (h : Pows w) (hb : w.heap[mb]? = some (.map es cl)) (hg : w.grownBy w' (some mb)) : Pows w' := by
  refine ⟨?_, Nat.lt_of_lt_of_le h.size hg.size⟩
  have hv := h.pow
  have hne : 0 ≠ mb := by
    intro e
    subst e
    unfold Lib.TabIs World.var? at hv
    rw [show Tryz.prog.globalNamed "internal/strconv.uint64pow10" = some 0 by kernel_rfl] at hv
    simp only [Option.bind_some] at hv
    rw [hb] at hv
    cases hv
  unfold Lib.TabIs World.var? at hv ⊢
  rw [show Tryz.prog.globalNamed "internal/strconv.uint64pow10" = some 0 by kernel_rfl] at hv ⊢
  simp only [Option.bind_some] at hv ⊢
  rw [hg.block 0 h.size (fun q => hne (Option.some.inj q))]
  exact hv
theorem below_grownBy {w a b : World} {mb : Nat} (h : w.grownBy a (some mb)) (hb : Below a.heap.size a b) : w.grownBy b (some mb) := grown_trans h (grownD_below hb _)
theorem adds_step {M : Tm → Int} {hs : List Hd} {p : Nat} {x : Hd} (hx : hs[p]? = some x) : addsM M ((chs hs).take (p + 1)) = addM (addsM M ((chs hs).take p)) (x.1.t, x.2) := by
  obtain ⟨hp, e⟩ := List.getElem?_eq_some_iff.1 hx
  have hp' : p < (chs hs).length := by simpa [chs] using hp
  rw [List.take_succ_eq_append_getElem hp', addsM_snoc]
  congr 1
  simp [chs, e]
def RelUp (N cb mb : Nat) (M : Tm → Int) (hs : List Hd) (n : Nat) (w1 : World) (s14 : Value) (wr : World) : Prop :=
  ∃ p : Nat, s14 = .int .i64 (p : Int) ∧ p ≤ n ∧ CtI (N + p) cb mb (addsM M ((chs hs).take p)) wr ∧ w1.grownBy wr (some mb)
set_option maxHeartbeats 8000000 in
set_option maxRecDepth 1000000 in
theorem update_any (N cb mb : Nat) (M : Tm → Int) (v : Value) (hs : List Hd) (w : World) (hT : Pows w) (hc : CtI N cb mb M w) (h : HsV w v hs) (hN : N + hs.length ≤ 1000000) (hw : ∀ x ∈ hs, TmW x.1.t ∧ x.1.t.l.length ≤ 1000000 ∧ -9223372036854775808 ≤ x.2 ∧ x.2 ≤ 9223372036854775807) :
    Calls Tryz.prog 29 #[.pointer (some ⟨cb, 0, none⟩), v] w fun e w' => (∃ v' r o o', e = .returned v' ∧ Ac (posM M) o ∧ Ac (posM (addsM M (chs hs))) o' ∧ (chs r).Perm (chgL o o') ∧ Strict (chs r) ∧ HsV w' v' r) ∧ CtI (N + hs.length) cb mb (addsM M (chs hs)) w' ∧ w.grownBy w' (some mb) := by
  obtain ⟨A, n, c, rfl, hlen, hnc, hcc⟩ := h.form
  have hH := Lib.hid h; have hTH := Lib.hid hT; have hcH := Lib.hid hc; have hlenH := Lib.hid hlen; have hwH := Lib.hid hw
  have hNn : N + n ≤ 1000000 := by omega
  clear h hT hc hlen hw hN
  go_enter Tryz.func29, Tryz.ntmps29
  go_wp2_with fail
  refine (frontier_any N cb mb M w hcH.out (by omega)).mono ?_
  rintro e w1 ⟨v5, o1, rfl, hac1, ho1, hf1, hb1, hl1, _⟩
  have hac1H := Lib.hid hac1; have hT1 := Lib.hid (ho1.tms hf1.rd); have hb1H := Lib.hid hb1; have hl1H := Lib.hid hl1
  have hc1 := Lib.hid (hcH.out.below hb1); have hP1 := Lib.hid (hTH.out.below hb1); have hH1 := Lib.hid (hH.out.below hb1)
  obtain ⟨es1, cl1, hmap1⟩ := hc1.out.map
  have hmapH := Lib.hid hmap1
  clear hac1 ho1 hf1 hb1 hl1 hmap1
  go_wp2_with fail
  go_loopw [7, 14] (fun s7 s14 wr => RelUp N cb mb M hs n w1 s14 wr) (fun _ s14 _ => n - (Go.RowKit.intOf s14).toNat)
  case atStart => exact ⟨0, rfl, Nat.zero_le _, hc1.out, grownD_below (Below.refl _ _) _⟩
  case round =>
    unfold RelUp at hrel
    obtain ⟨p, rfl, hp, hcr, hgr⟩ := hrel
    have hcrH := Lib.hid hcr; have hgrH := Lib.hid hgr
    clear hcr hgr
    by_cases hlt : p < n
    · obtain ⟨x, hx⟩ : ∃ d, hs[p]? = some d := ⟨_, List.getElem?_eq_getElem (by have := hlenH.out; omega)⟩
      obtain ⟨ad, rfl, hba, a0_, a1_, a2_⟩ := (hH1.out.mapped hmapH.out hgrH.out).at hx
      have hxr := Lib.hid ((hH1.out.mapped hmapH.out hgrH.out).2 x (List.mem_of_getElem? hx))
      have hxw := Lib.hid (hwH.out x (List.mem_of_getElem? hx))
      have hst := Lib.hid (adds_step (M := M) hx)
      clear hx
      obtain ⟨⟨xA, xc, ⟨xe, xl⟩⟩, xz⟩ := x
      simp only at a0_ a1_ a2_
      obtain ⟨wb, hwb⟩ : ∃ y, wr.alloc (.cells #[.int .u64 xe, .slice xA xl.length xc, .int .i64 xz] 59) = y := ⟨_, rfl⟩
      have hbb : Below wr.heap.size wr wb := by rw [← hwb]; go_grown
      have hbx := (show HasC wb wr.heap.size (cellsH ⟨xA, xc, ⟨xe, xl⟩⟩ xz) 59 by rw [← hwb]; exact has_at _ _ _ _ rfl)
      have b0_ := hbx.cell 0 rfl; have b1_ := hbx.cell 1 rfl; have b2_ := hbx.cell 2 rfl; have bl_ := hbx.lt
      have hcB := Lib.hid (hcrH.out.below hbb); have hgB := Lib.hid (below_grownBy hgrH.out hbb); have hxB := Lib.hid (hxr.out.below hbb)
      have hPB := Lib.hid ((hP1.out.mapped hmapH.out hgrH.out).below hbb)
      clear hbb hbx hcrH hgrH
      go_wp2_with fail
      refine (add_any (N + p) cb mb _ ⟨xA, xc, ⟨xe, xl⟩⟩ xz wb hPB.out hcB.out (by omega) hxB.out hxw.out.1 hxw.out.2.1 hxw.out.2.2).mono ?_
      rintro e w2 ⟨rfl, hc2, hg2⟩
      have hc2H := Lib.hid (show CtI (N + (p + 1)) cb mb (addsM M ((chs hs).take (p + 1))) w2 by rw [hst.out]; exact hc2)
      have hg2H := Lib.hid (grown_trans hgB.out hg2)
      clear hc2 hg2 hwb b0_ b1_ b2_ bl_
      go_wp2_with fail
      go_roundw
      case rel => exact ⟨p + 1, by go_num, by omega, hc2H.out, hg2H.out⟩
      case measure => simp [Go.RowKit.intOf]; omega
    · obtain rfl : p = n := by omega
      have hall := Lib.hid (show (chs hs).take p = chs hs from List.take_of_length_le (by rw [chs_len]; have := hlenH.out; omega))
      obtain ⟨M2, hM2⟩ : ∃ M2, addsM M (chs hs) = M2 := ⟨_, rfl⟩
      have hM2H := Lib.hid hM2
      have hcF := Lib.hid (show CtI (N + p) cb mb M2 wr by have := hcrH.out; rwa [hall.out, hM2] at this)
      clear hM2 hcrH
      go_wp2_with fail
      refine (frontier_any (N + p) cb mb M2 wr hcF.out hNn).mono ?_
      rintro e w3 ⟨v8, o2, rfl, hac2, ho2, hf2, hb3, hl2, _⟩
      have hac2H := Lib.hid hac2; have hT2 := Lib.hid (ho2.tms hf2.rd); have hl2H := Lib.hid hl2
      have hg3 := Lib.hid (below_grownBy hgrH.out hb3)
      have hT1' := Lib.hid (hT1.out.mapped hmapH.out hg3.out)
      have hc3 := Lib.hid (hcF.out.below hb3)
      clear hac2 ho2 hf2 hb3 hl2 hgrH hcF
      go_wp2_with fail
      refine (missing_any v5 v8 o1 o2 (-1) w3 hT1'.out hT2.out hac2H.out.sorted ⟨by have := hl1H.out; omega, by have := hl2H.out; omega⟩).mono ?_
      rintro e w4 ⟨v26, h1, rfl, hoh1, hch1, hin1, hb4⟩
      obtain ⟨A26, c26, rfl, _, _⟩ := SlV.form (own_slV hoh1)
      have hoh1H := Lib.hid hoh1; have hch1H := Lib.hid hch1; have hin1H := Lib.hid hin1; have hb4H := Lib.hid hb4
      have hT1b := Lib.hid (hT1'.out.below hb4); have hT2b := Lib.hid (hT2.out.below hb4)
      clear hoh1 hch1 hin1 hb4
      go_wp2_with fail
      refine (missing_any v8 v5 o2 o1 1 w4 hT2b.out hT1b.out hac1H.out.sorted ⟨by have := hl2H.out; omega, by have := hl1H.out; omega⟩).mono ?_
      rintro e w5 ⟨v29, h2, rfl, hoh2, hch2, hin2, hb5⟩
      obtain ⟨A29, c29, rfl, _, _⟩ := SlV.form (own_slV hoh2)
      have hoh2H := Lib.hid hoh2; have hch2H := Lib.hid hch2; have hin2H := Lib.hid hin2
      have hb5H := Lib.hid (chainB hb4H.out hb5 hb4H.out.size)
      have hoh1c := Lib.hid (ownsRow_below hoh1H.out hb5)
      have hT1c := Lib.hid (hT1b.out.below hb5); have hT2c := Lib.hid (hT2b.out.below hb5)
      clear hoh2 hch2 hin2 hb5 hoh1H hT1b hT2b
      have hlen12 := Lib.hid (show h1.length ≤ 1000000 ∧ h2.length ≤ 1000000 by
        have e1 := congrArg List.length hch1H.out
        have e2 := congrArg List.length hch2H.out
        rw [chs_len] at e1 e2
        have l1 := chg_len (-1) (tmsD o1) (tmsD o2)
        have l2 := chg_len 1 (tmsD o2) (tmsD o1)
        simp only [tmsD, List.length_map] at l1 l2 e1 e2
        have := hl1H.out
        have := hl2H.out
        omega)
      have hsl := Lib.hid (SlsH.two_at (w := w5) (b := w5.heap.size) (own_slV hoh1c.out) (own_slV hoh2H.out) 57 rfl)
      go_wp2_with fail
      refine (concatH_any _ _ [h1, h2] _ hsl.out (by simp) (by simp; have := hlen12.out; omega)).mono ?_
      rintro e w6 ⟨v9, rfl, ho6, hb6⟩
      have hfl : ([h1, h2] : List (List Hd)).flatten = h1 ++ h2 := by simp
      rw [hfl] at ho6
      have hb6H := Lib.hid (show Below w5.heap.size w5 w6 from chainB (by go_grown) hb6 (by simp))
      have ho6H := Lib.hid (show OwnHs (w5.heap.size) v9 (h1 ++ h2) w6 from ownsRow_low ho6 (by simp))
      have hrd := Lib.hid (show RdH w5 (h1 ++ h2) from fun x hx => by
        rw [List.mem_append] at hx
        rcases hx with hx | hx
        · exact hT1c.out.2 _ (hin1H.out x hx)
        · exact hT2c.out.2 _ (hin2H.out x hx))
      have hpe := Lib.hid (show chs (h1 ++ h2) = chgL (tmsD o1) (tmsD o2) by
        unfold chgL
        rw [← hch1H.out, ← hch2H.out]
        simp [chs])
      have hnd := Lib.hid (chgL_nodup hac1H.out.sorted hac2H.out.sorted)
      have hhl : (h1 ++ h2).length ≤ 2000000 := by rw [List.length_append]; have := hlen12.out; omega
      clear ho6 hb6 hfl hsl
      obtain ⟨hh, hhE⟩ : ∃ hh, h1 ++ h2 = hh := ⟨_, rfl⟩
      rw [hhE] at ho6H hrd hpe hhl
      have hhlH := Lib.hid hhl
      clear hhE hhl
      rcases ho6H.out.slice with ⟨hvn, hon⟩ | ⟨g, cap, rfl, hgB, hgo⟩
      · subst hvn hon
        have hnil := Lib.hid (show chgL (tmsD o1) (tmsD o2) = [] by rw [← hpe.out]; rfl)
        go_wp2_with fail
        refine Calls.mono (show Calls Tryz.prog 73 #[.slice none 0 0, .func (.func 74) #[] #[]] w6 (fun e w' => e = .returned (.tuple #[]) ∧ w' = w6) from AnyF.slices_SortFunc_none Tryz.sortH none 0 (.func (.func 74) #[] #[]) w6) ?_
        rintro e w7 ⟨rfl, rfl⟩
        have hbF := Lib.hid (show Below w3.heap.size w3 w7 from chainB hb5H.out hb6H.out hb5H.out.size)
        go_wp2_with fail
        go_ret
        refine ⟨⟨_, [], _, _, rfl, hac1H.out, by rw [hM2H.out]; exact hac2H.out, ?_, List.Pairwise.nil, (OwnHs.nil 0 w7).hsv (fun x hx => by simp at hx)⟩, ?_, ?_⟩
        · rw [hnil.out]; exact List.Perm.refl _
        · rw [hM2H.out, hlenH.out]; exact hc3.out.below hbF.out
        · exact grown_trans (grownD_below hb1H.out _) (below_grownBy hg3.out hbF.out)
      · have hgH := Lib.hid hgo
        clear hgo
        go_wp2_with fail
        refine (sortH_any g cap hh w5 w6 hgH.out hrd.out hb6H.out hgB (by have := hhlH.out; omega)).mono ?_
        rintro e w7 ⟨rfl, r, hperm, hsort, ho7, hg7⟩
        have hb7 := Lib.hid (show Below w5.heap.size w5 w7 from hb6H.out.trans (below_of_grown hg7 hgB hb6H.out.size))
        have hbF := Lib.hid (show Below w3.heap.size w3 w7 from chainB hb5H.out hb7.out hb5H.out.size)
        have hpr := Lib.hid (show (chs r).Perm (chgL (tmsD o1) (tmsD o2)) by rw [← hpe.out]; exact hperm.map _)
        have hsr := Lib.hid (show Strict (chs r) from chg_sorted hpr.out hnd.out (by unfold chs; rw [List.pairwise_map]; exact hsort))
        have hv7 := Lib.hid (show HsV w7 (.slice (some ⟨g, 0, none⟩) r.length cap) r from (OwnHs.of ho7 (Nat.zero_le g)).hsv (fun x hx => (hrd.out x (hperm.mem_iff.1 hx)).below hb7.out))
        have hrl := hperm.length_eq
        rw [← hrl]
        clear hperm hsort ho7 hg7 hrl
        go_wp2_with fail
        go_ret
        refine ⟨⟨_, r, _, _, rfl, hac1H.out, by rw [hM2H.out]; exact hac2H.out, hpr.out, hsr.out, hv7.out⟩, ?_, ?_⟩
        · rw [hM2H.out, hlenH.out]; exact hc3.out.below hbF.out
        · exact grown_trans (grownD_below hb1H.out _) (below_grownBy hg3.out hbF.out)
end Go.Proofs.YtdfhchpimpbgfaaGreatDoor
