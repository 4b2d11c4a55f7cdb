/-
  The antichain beyond which lies what is beyond both, and the time that stands for another one, at this program. Conditions: those written.
-/
import Derived.Test.YtdfhchpimpbgfaaGreatDoorChC
import Derived.Test.YtdfhchpimpbgfaaGreatDoorStChJoin
import Derived.Test.YtdfhchpimpbgfaaGreatDoorStChMeet
import Derived.Maps.AppendAt
import Derived.Deep.RegionHeld3
import Derived.LoopTactic
import Derived.BigQuiet
set_option linter.unusedVariables false
set_option linter.unusedSimpArgs false
namespace Go.Proofs.YtdfhchpimpbgfaaGreatDoor
open Go.RowKit Go.Lib Go.Proofs Go.Shelf

section
/-- 'v = append(v, t)', the one new time in the block that the statement has just laid. -/
theorem wpList_time {ops : Array Oper} {rest : List Oper} {o : Oper} {a : Act} {Q : Exit → Act → World → Prop} (hgd : o.guard = none) (s x : Operand)
    (ho : o.op = .call { callee := .builtin .append, args := #[s, x], argTypes := #[22, 22] })
    (B : Nat) (v : Value) (ds : List Td) (w0 : World) (d : Td) (cs : Array Value) (hcs : cs = (cellsT d).toArray) (hb : OwnTs B v ds w0) (b : Nat) (hbE : b = w0.heap.size) (hs : a.eval s = v)
    (hx : a.eval x = .slice (some ⟨b, 0, none⟩) 1 1) (hlen : ds.length ≤ 1099511627776) (hB : B ≤ w0.heap.size)
    (h : ∀ v' w', OwnTs B v' (ds ++ [d]) w' → w0.grownBy w' v.ownBlock → (v'.ownBlock = v.ownBlock ∨ v'.ownBlock = some (b + 1)) → wpList Tryz.prog ops Q rest (a.put o.dst v') w') : wpList Tryz.prog ops Q (o :: rest) a (w0.alloc (.cells cs 26)) := by
  obtain ⟨i, hi, hz, hsz, hby⟩ := info_parts time_info
  subst hbE
  refine wpList_append_own_at _ hgd s x 22 ho B 26 i _ 2 32 Tryz.underlying22 hi hz hsz hby rfl (by decide) v ds.length (cellsTs ds) hs (ownsRow_below hb (by go_grown)) ⟨w0.heap.size, 0, none⟩ 1 1 (cellsT d) hx rfl (newsT w0 d _ cs hcs _ rfl) (cellsT_one _) (by unfold maxLen; omega) (by omega) (by rw [World.size_alloc]; omega) ?_
  intro v' w' ho' hg _ hl
  refine h v' w' ?_ (grown_trans (World.grownBy_alloc _ _ _) hg) (by simpa using hl)
  unfold OwnTs
  rw [cellsTs_append, List.length_append]
  simpa [cellsTs] using ho'
end
theorem joinO_len (x y : Tm) : (joinO x y).length ≤ 1 := by unfold joinO; split <;> simp
theorem flatJ_len (x : Tm) : ∀ b : List Tm, (b.flatMap (joinO x)).length ≤ b.length
  | [] => by simp
  | y :: b => by
    have h1 := joinO_len x y
    have h2 := flatJ_len x b
    rw [List.flatMap_cons, List.length_append, List.length_cons]
    omega
theorem joinsL_len (b : List Tm) : ∀ a : List Tm, (joinsL a b).length ≤ a.length * b.length
  | [] => by simp [joinsL]
  | x :: a => by
    have h1 := flatJ_len x b
    have h2 := joinsL_len b a
    unfold joinsL at *
    rw [List.flatMap_cons, List.length_append, List.length_cons, Nat.add_mul]
    omega
theorem flatJ_snoc {b : List Tm} {q : Nat} {y : Tm} (x : Tm) (h : b[q]? = some y) : (b.take (q + 1)).flatMap (joinO x) = (b.take q).flatMap (joinO x) ++ joinO x y := by
  obtain ⟨hq, rfl⟩ := List.getElem?_eq_some_iff.1 h
  rw [List.take_succ_eq_append_getElem hq, List.flatMap_append]
  simp
theorem joinsL_snoc {a : List Tm} {p : Nat} {x : Tm} (b : List Tm) (h : a[p]? = some x) : joinsL (a.take (p + 1)) b = joinsL (a.take p) b ++ b.flatMap (joinO x) := by
  obtain ⟨hp, rfl⟩ := List.getElem?_eq_some_iff.1 h
  unfold joinsL
  rw [List.take_succ_eq_append_getElem hp, List.flatMap_append]
  simp
/-- What is there of the joins: a row of the call's own, times that lie in blocks of its own, numbers of their kinds. -/
structure JS (L : List Tm) (v : Value) (js : List Td) (w1 wr : World) : Prop where
  own : OwnTs w1.heap.size v js wr
  rd : ∀ d ∈ js, OwnW w1.heap.size (slD d) d.t.l wr
  is : tmsD js = L
  wide : ∀ d ∈ js, TmW d.t ∧ d.t.l.length ≤ 1099511627776
  below : Below w1.heap.size w1 wr
theorem JS.to {L : List Tm} {v : Value} {js : List Td} {w1 wr wx : World} (h : JS L v js w1 wr) (hb : Below wr.heap.size wr wx) : JS L v js w1 wx :=
  ⟨ownsRow_below h.own hb, fun d hd => (h.rd d hd).below hb, h.is, h.wide, chainB h.below hb h.below.size⟩
theorem JS.eq {L L' : List Tm} {v : Value} {js : List Td} {w1 wr : World} (h : JS L v js w1 wr) (e : L = L') : JS L' v js w1 wr := e ▸ h
theorem JS.tms {L : List Tm} {v : Value} {js : List Td} {w1 wr : World} (h : JS L v js w1 wr) : TmsV wr v js := h.own.tms fun d hd => (h.rd d hd).words
theorem JS.len {L : List Tm} {v : Value} {js : List Td} {w1 wr : World} (h : JS L v js w1 wr) : js.length = L.length := by rw [← h.is]; simp [tmsD]
theorem JS.app {L : List Tm} {v v' : Value} {js : List Td} {w1 w0 w' : World} {d : Td} (h : JS L v js w1 w0) (hd : OwnW w1.heap.size (slD d) d.t.l w0) (hw : TmW d.t ∧ d.t.l.length ≤ 1099511627776) (ho : OwnTs w1.heap.size v' (js ++ [d]) w') (hg : w0.grownBy w' v.ownBlock) : JS (L ++ [d.t]) v' (js ++ [d]) w1 w' := by
  refine ⟨ho, fun x hx => ?_, by rw [← h.is]; simp [tmsD], fun x hx => ?_, below_grown h.below h.own h.below.size hg⟩
  · rw [List.mem_append, List.mem_singleton] at hx
    rcases hx with hx | rfl
    · exact ownsRow_grown (h.rd x hx) h.own hg (by decide)
    · exact ownsRow_grown hd h.own hg (by decide)
  · rw [List.mem_append, List.mem_singleton] at hx
    rcases hx with hx | rfl
    · exact h.wide x hx
    · exact hw
def RelJ1 (a b : List Tm) (n : Nat) (w1 : World) (s5 s18 : Value) (wr : World) : Prop := ∃ (p : Nat) (v : Value) (js : List Td), v = s5 ∧ s18 = .int .i64 (p : Int) ∧ p ≤ n ∧ JS (joinsL (a.take p) b) v js w1 wr
def RelJ2 (L : List Tm) (x : Td) (b : List Tm) (n b8 : Nat) (w1 : World) (s5 s24 : Value) (wr : World) : Prop :=
  ∃ (q : Nat) (v : Value) (js : List Td), v = s5 ∧ s24 = .int .i64 (q : Int) ∧ q ≤ n ∧ JS (L ++ (b.take q).flatMap (joinO x.t)) v js w1 wr ∧ HasC wr b8 (cellsT x) 26 ∧ v.ownBlock ≠ some b8
set_option maxHeartbeats 8000000 in
set_option maxRecDepth 1000000 in
theorem join_all (va vb : Value) (xs ys : List Td) (w : World) (ha : TmsV w va xs) (hb : TmsV w vb ys) (hn : xs.length ≤ 1000 ∧ ys.length ≤ 1000) (hw : ∀ d ∈ xs ++ ys, TmW d.t ∧ d.t.l.length ≤ 1099511627776) :
    Calls Tryz.prog 10 #[va, vb] w fun e w' => (OutOf (fun z => upL (tmsD xs) z ∧ upL (tmsD ys) z) w.heap.size e w' ∧ ∃ v r, e = .returned v ∧ TmsV w' v r ∧ (Ac (fun z => upL (tmsD xs) z ∧ upL (tmsD ys) z) (tmsD r)) ∧ r.length ≤ xs.length * ys.length ∧ ∀ d ∈ r, TmW d.t ∧ d.t.l.length ≤ 1099511627776) ∧ Below w.heap.size w w' := by
  have haH := Lib.hid ha; have hbH := Lib.hid hb; have hwH := Lib.hid hw; have hnH := Lib.hid hn
  have hwx := Lib.hid (show ∀ t ∈ tmsD xs, TmW t ∧ t.l.length ≤ 1099511627776 by intro t ht; obtain ⟨d, hd, rfl⟩ := List.mem_map.1 ht; exact hw d (by simp [hd]))
  have hwy := Lib.hid (show ∀ t ∈ tmsD ys, TmW t ∧ t.l.length ≤ 1099511627776 by intro t ht; obtain ⟨d, hd, rfl⟩ := List.mem_map.1 ht; exact hw d (by simp [hd]))
  clear ha hb hw hn
  go_enter Tryz.func10, Tryz.ntmps10
  go_wp2_with fail
  refine (of_any vb ys w hbH.out (by have := hnH.out; omega) (fun d hd => (hwH.out d (by simp [hd])).2)).mono ?_
  rintro e wb ⟨v2, o2, rfl, hac2, ho2, hf2, hb2, hl2, hs2⟩
  have hac2H := Lib.hid hac2; have ho2H := Lib.hid (ho2.tms hf2.rd); have hb2H := Lib.hid hb2; have hl2H := Lib.hid hl2; have hs2H := Lib.hid hs2
  clear hac2 ho2 hf2 hb2 hl2 hs2
  go_wp2_with fail
  refine (of_any va xs wb (haH.out.below hb2H.out) (by have := hnH.out; omega) (fun d hd => (hwH.out d (by simp [hd])).2)).mono ?_
  rintro e w1 ⟨v1, o1, rfl, hac1, ho1, hf1, hb1, hl1, hs1⟩
  have hac1H := Lib.hid hac1; have ho1H := Lib.hid (ho1.tms hf1.rd); have hb1H := Lib.hid (chainB hb2H.out hb1 hb2H.out.size); have hl1H := Lib.hid hl1; have hs1H := Lib.hid hs1
  replace ho2H := Lib.hid (ho2H.out.below hb1)
  clear hac1 ho1 hf1 hb1 hl1 hs1 hb2H
  obtain ⟨A1, n1, c1, rfl, hn1, hnc1, hc1⟩ := ho1H.out.form
  obtain ⟨A2, n2, c2, rfl, hn2, hnc2, hc2⟩ := ho2H.out.form
  have hn1H := Lib.hid hn1; have hn2H := Lib.hid hn2
  have hk1 : n1 ≤ 1000 := by have := hl1H.out; have := hnH.out; omega
  have hk2 : n2 ≤ 1000 := by have := hl2H.out; have := hnH.out; omega
  clear hn1 hn2
  go_wp2_with fail
  go_loopw [5, 8, 10, 11, 12, 18] (fun s5 s8 s10 s11 s12 s18 wr => RelJ1 (tmsD o1) (tmsD o2) n1 w1 s5 s18 wr) (fun _ _ _ _ _ s18 _ => n1 - (Go.RowKit.intOf s18).toNat)
  case atStart => exact ⟨0, _, [], rfl, rfl, Nat.zero_le _, ⟨OwnTs.nil _ _, fun d hd => by simp at hd, rfl, fun d hd => by simp at hd, Below.refl _ _⟩⟩
  case round =>
    unfold RelJ1 at hrel
    obtain ⟨p, v5, js, rfl, rfl, hp, hjs⟩ := hrel
    have hjsH := Lib.hid hjs
    by_cases hlt : p < n1
    · obtain ⟨x, hx⟩ : ∃ d, o1[p]? = some d := ⟨_, List.getElem?_eq_getElem (by have := hn1H.out; omega)⟩
      obtain ⟨ad, rfl, hba, a0_, a1_⟩ := (ho1H.out.below hjs.below).at hx
      have hxr := Lib.hid (ho1H.out.2 x (List.mem_of_getElem? hx))
      have hxw := Lib.hid (hwx.out x.t (hs1H.out x.t (List.mem_map.2 ⟨x, List.mem_of_getElem? hx, rfl⟩)))
      have hsn := Lib.hid (joinsL_snoc (tmsD o2) (tms_at hx))
      have hlow := Lib.hid (fun g (hg : v5.ownBlock = some g) => (own_lt hjs.own g hg).2)
      clear hx
      obtain ⟨xA, xc, ⟨xe, xl⟩⟩ := x
      simp only at a0_ a1_
      obtain ⟨b8, hb8⟩ : ∃ b, wr.heap.size = b := ⟨_, rfl⟩
      obtain ⟨wo, hwo⟩ : ∃ y, wr.alloc (.cells #[.int .u64 xe, .slice xA xl.length xc] 26) = y := ⟨_, rfl⟩
      have hbo : Below wr.heap.size wr wo := by rw [← hwo]; go_grown
      have hboxo := Lib.hid (show HasC wo b8 (cellsT ⟨xA, xc, ⟨xe, xl⟩⟩) 26 by rw [← hwo]; exact has_at _ _ _ _ hb8.symm)
      have hjo := Lib.hid (hjs.to hbo)
      obtain ⟨L, hL⟩ : ∃ L, joinsL ((tmsD o1).take p) (tmsD o2) = L := ⟨_, rfl⟩
      rw [hL] at hjo hsn
      have hLl := Lib.hid (show L.length ≤ p * n2 by
        have h1 := joinsL_len (tmsD o2) ((tmsD o1).take p)
        rw [hL] at h1
        have h2 : ((tmsD o1).take p).length ≤ p := by rw [List.length_take]; omega
        have h3 : (tmsD o2).length = n2 := by simp [tmsD, hn2H.out]
        rw [h3] at h1
        exact Nat.le_trans h1 (Nat.mul_le_mul_right _ h2))
      have hb8H := Lib.hid hb8
      have hlo8 := Lib.hid (show b8 < wo.heap.size by have := hboxo.out.lt; exact this)
      clear hbo hjs hjsH hL
      go_wp2_with fail
      clear hwo hb8
      go_loopw [5, 10, 11, 12, 24] (fun s5 s10 s11 s12 s24 wx => RelJ2 L ⟨xA, xc, ⟨xe, xl⟩⟩ (tmsD o2) n2 b8 w1 s5 s24 wx) (fun _ _ _ _ s24 _ => n2 - (Go.RowKit.intOf s24).toNat)
      case atStart => exact ⟨0, _, js, rfl, rfl, Nat.zero_le _, hjo.out.eq (by simp), hboxo.out, fun hg => by have := hlow.out _ hg; have := hb8H.out; omega⟩
      case round =>
        unfold RelJ2 at hrel
        obtain ⟨q, v6, js2, rfl, rfl, hq, hj2, hbx, hne⟩ := hrel
        have hj2H := Lib.hid hj2; have hbxH := Lib.hid hbx; have hneH := Lib.hid hne
        clear hbx hne
        by_cases hlt2 : q < n2
        · obtain ⟨y, hy⟩ : ∃ d, o2[q]? = some d := ⟨_, List.getElem?_eq_getElem (by have := hn2H.out; omega)⟩
          obtain ⟨bd, rfl, hbb, d0_, d1_⟩ := (ho2H.out.below hj2.below).at hy
          have hyr := Lib.hid (ho2H.out.2 y (List.mem_of_getElem? hy))
          have hyw := Lib.hid (hwy.out y.t (hs2H.out y.t (List.mem_map.2 ⟨y, List.mem_of_getElem? hy, rfl⟩)))
          have hsn2 := Lib.hid (flatJ_snoc (⟨xe, xl⟩ : Tm) (tms_at hy))
          have hjl := Lib.hid (show js2.length ≤ 1100000 by
            rw [hj2.len, List.length_append]
            show L.length + (((tmsD o2).take q).flatMap (joinO ⟨xe, xl⟩)).length ≤ 1100000
            have h1 := hLl.out
            have h2 := flatJ_len (⟨xe, xl⟩ : Tm) ((tmsD o2).take q)
            have h3 : ((tmsD o2).take q).length ≤ q := by rw [List.length_take]; omega
            have h4 : p * n2 ≤ 1000 * 1000 := Nat.mul_le_mul (by omega) hk2
            have h5 := Nat.le_trans h1 h4
            omega)
          clear hy hj2
          obtain ⟨yA, yc, ⟨ye, yl⟩⟩ := y
          simp only at d0_ d1_ hsn2
          obtain ⟨wy, hwyE⟩ : ∃ z, wr.alloc (.cells #[.int .u64 ye, .slice yA yl.length yc] 26) = z := ⟨_, rfl⟩
          have hby : Below wr.heap.size wr wy := by rw [← hwyE]; go_grown
          have hboxy := (show HasC wy wr.heap.size (cellsT ⟨yA, yc, ⟨ye, yl⟩⟩) 26 by rw [← hwyE]; exact has_at _ _ _ _ rfl)
          have hj3 := Lib.hid (hj2H.out.to hby); have hbx3 := Lib.hid (hbxH.out.below hby)
          have e0_ := hboxy.cell 0 rfl; have e1_ := hboxy.cell 1 rfl; have el_ := hboxy.lt
          have f0_ := hbx3.out.cell 0 rfl; have f1_ := hbx3.out.cell 1 rfl; have fl_ := hbx3.out.lt
          obtain ⟨z, hz⟩ : ∃ z, chosenT max (⟨xe, xl⟩ : Tm) ⟨ye, yl⟩ = z := ⟨_, rfl⟩
          obtain ⟨E, hE⟩ : ∃ E, chosenE (⟨xe, xl⟩ : Tm) ⟨ye, yl⟩ = E := ⟨_, rfl⟩
          have hzw := Lib.hid (show TmW z by rw [← hz]; exact chosen_W max_or hxw.out.1 hyw.out.1)
          have hzH := Lib.hid hz; have hEH := Lib.hid hE
          obtain ⟨ze, zl⟩ := z
          clear hby hboxy hz hE hj2H hbxH
          go_wp2_with fail
          refine (join_any _ _ ⟨xe, xl⟩ ⟨ye, yl⟩ wy ⟨_, rfl, hxr.out.below hj3.out.below⟩ ⟨_, rfl, hyr.out.below hj3.out.below⟩ hxw.out.1 hyw.out.1 hxw.out.2).mono ?_
          rw [hzH.out, hEH.out]
          rintro e w3 ⟨V, rfl, hoV, hb3⟩
          obtain ⟨VA, vn, vc, rfl, hvn, _, _⟩ := hoV.words.form
          simp only at hvn hoV
          subst hvn
          have hj4 := Lib.hid (hj3.out.to hb3); have hbx4 := Lib.hid (hbx3.out.below hb3)
          have hV4 := Lib.hid (show OwnW w1.heap.size (slD ⟨VA, vc, ⟨ze, zl⟩⟩) zl w3 from hoV.low hj3.out.below.size)
          have hlt8 := Lib.hid (Nat.lt_of_lt_of_le fl_ hb3.size)
          clear hoV hb3 hj3 hbx3 hwyE e0_ e1_ el_ f0_ f1_ fl_
          by_cases hxy : xl.length = yl.length
          · have hE0 : E = 0 := by rw [← hEH.out]; exact if_pos hxy
            have hjo1 := Lib.hid (show joinO (⟨xe, xl⟩ : Tm) ⟨ye, yl⟩ = [⟨ze, zl⟩] by unfold joinO; rw [if_pos hxy, hzH.out])
            have hzl := Lib.hid (show zl.length ≤ 1099511627776 by have h1 := chosen_len (f := max) (a := ⟨xe, xl⟩) (b := ⟨ye, yl⟩) hxy; rw [hzH.out] at h1; simp only at h1; rw [h1]; exact hxw.out.2)
            subst hE0
            go_wp2_with (at_builtin; refine wpList_time rfl _ _ rfl w1.heap.size v6 js2 (w3.alloc (.cells #[.int .u64 ze, .slice VA zl.length vc] 26)) ⟨VA, vc, ⟨ze, zl⟩⟩ _ rfl (ownsRow_below hj4.out.own (by go_grown)) (w3.heap.size + 1) (by simp) (by rfl) (by rfl) (by have := hjl.out; omega) (by have := hj4.out.below.size; simp; omega) ?_; intro v' w' ho' hg' hl')
            have hj5 := Lib.hid (JS.app (hj4.out.to (by go_grown)) (hV4.out.below (by go_grown)) ⟨hzw.out, hzl.out⟩ ho' hg')
            have hbx5 := Lib.hid (HasC.grownO (hbx4.out.below (by go_grown)) hg' (fun h => hneH.out h.symm))
            have hne5 := Lib.hid (show v'.ownBlock ≠ some b8 by
              rcases hl' with h | h
              · rw [h]; exact hneH.out
              · rw [h]; intro h2; have := hlt8.out; injection h2 with h2; omega)
            clear ho' hg' hl'
            go_wp2_with fail
            go_roundw
            case rel => exact ⟨_, _, _, _, _, ⟨q + 1, _, _, rfl, by go_num, by omega, hj5.out.eq (by rw [hsn2.out, hjo1.out, List.append_assoc]), hbx5.out, hne5.out⟩, rfl, rfl, rfl, rfl, rfl⟩
            case measure => simp [Go.RowKit.intOf]; omega
          · have hE0 : E = 40 := by rw [← hEH.out]; exact if_neg hxy
            have hjo1 := Lib.hid (show joinO (⟨xe, xl⟩ : Tm) ⟨ye, yl⟩ = [] by unfold joinO; rw [if_neg hxy])
            subst hE0
            go_wp2_with fail
            go_roundw
            case rel => exact ⟨q + 1, _, _, rfl, by go_num, by omega, (hj4.out.to (by go_grown)).eq (by rw [hsn2.out, hjo1.out, List.append_nil]), hbx4.out.below (by go_grown), hneH.out⟩
            case measure => simp [Go.RowKit.intOf]; omega
        · obtain rfl : q = n2 := by omega
          have hfin := Lib.hid (show L ++ ((tmsD o2).take q).flatMap (joinO ⟨xe, xl⟩) = joinsL ((tmsD o1).take (p + 1)) (tmsD o2) by
            rw [hsn.out, List.take_of_length_le (by simp [tmsD]; have := hn2H.out; omega)])
          clear hj2
          go_wp2_with fail
          go_roundw
          case rel => exact ⟨p + 1, _, _, rfl, by go_num, by omega, hj2H.out.eq hfin.out⟩
          case measure => simp [Go.RowKit.intOf]; omega
    · obtain rfl : p = n1 := by omega
      have hall := Lib.hid (show joinsL ((tmsD o1).take p) (tmsD o2) = joinsL (tmsD o1) (tmsD o2) by rw [List.take_of_length_le (show (tmsD o1).length ≤ p by simp [tmsD]; have := hn1H.out; omega)])
      have hjlen := Lib.hid (show js.length ≤ p * n2 by
        rw [hjs.len, hall.out]
        have h1 := joinsL_len (tmsD o2) (tmsD o1)
        have h2 : (tmsD o1).length = p := by simp [tmsD, hn1H.out]
        have h3 : (tmsD o2).length = n2 := by simp [tmsD, hn2H.out]
        rwa [h2, h3] at h1)
      have hbig : p * n2 ≤ 1000 * 1000 := Nat.mul_le_mul hk1 hk2
      clear hjs
      have hU := Lib.hid (show ∀ z, upL (tmsD js) z ↔ (upL (tmsD xs) z ∧ upL (tmsD ys) z) from fun z => by
        rw [hjsH.out.is, hall.out, joinsL_up, hac1H.out.up, hac2H.out.up])
      go_wp2_with fail
      refine (of_any v5 js wr hjsH.out.tms (by have := hjlen.out; omega) (fun d hd => (hjsH.out.wide d hd).2)).mono ?_
      rintro e w3 ⟨v', r, rfl, hac, ho, hf, hb, hl, hs⟩
      have hacH := Lib.hid (hac.of hU.out); have hoH := Lib.hid ho; have hfH := Lib.hid hf; have hbF := Lib.hid hb; have hlH := Lib.hid hl; have hsH := Lib.hid hs
      clear hac ho hf hb hl hs
      go_wp2_with fail
      go_ret
      have hbw := chainB hb1H.out hjsH.out.below hb1H.out.size
      refine ⟨⟨⟨_, r, rfl, hacH.out, ownsRow_low hoH.out hbw.size, hfH.out.low hbw.size⟩, _, r, rfl, hoH.out.tms hfH.out.rd, hacH.out, ?_, fun d hd => ?_⟩, chainB hbw hbF.out hbw.size⟩
      · have h1 := hlH.out
        have h2 := hjlen.out
        have h3 : p * n2 ≤ xs.length * ys.length := Nat.mul_le_mul (by rw [← hn1H.out]; exact hl1H.out) (by rw [← hn2H.out]; exact hl2H.out)
        omega
      · obtain ⟨d', hd', e⟩ := List.mem_map.1 (hsH.out d.t (List.mem_map.2 ⟨d, hd, rfl⟩))
        rw [← e]
        exact hjsH.out.wide d' hd'
end Go.Proofs.YtdfhchpimpbgfaaGreatDoor
