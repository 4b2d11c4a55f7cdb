/-
  One more time, whether all is beyond, whether times are the same, whether they are more than is looked at, at this program. Conditions: those written.
-/
import Derived.Test.YtdfhchpimpbgfaaGreatDoorChO
import Derived.Test.YtdfhchpimpbgfaaGreatDoorChLn
import Derived.Test.YtdfhchpimpbgfaaGreatDoorChN
import Derived.Deep.RegionHeld3
import Derived.LoopTactic
import Derived.BigQuiet
set_option linter.unusedVariables false
set_option linter.unusedSimpArgs false
namespace Go.Proofs.YtdfhchpimpbgfaaGreatDoor
open Go.RowKit Go.Lib Go.Proofs Go.Shelf

/-- What Of answers. -/
def OutOf (U : Tm → Prop) (B : Nat) (e : Ending) (w' : World) : Prop := ∃ v' r, e = .returned v' ∧ Ac U (tmsD r) ∧ OwnTs B v' r w' ∧ FreshT B w' r
theorem one_tms {w : World} {b : Nat} (d : Td) (h : WordsV w (slD d) d.t.l) (cs : Array Value) (hcs : cs = (cellsT d).toArray) (t : TypeId) (hb : b = w.heap.size) : SlV (w.alloc (.cells cs t)) 2 (.slice (some ⟨b, 0, none⟩) 1 1) [d].length (cellsTs [d]) := by
  subst hb hcs
  refine ⟨rfl, _, _, rfl, Nat.le_refl _, by decide, (fun e => by cases e), fun _ => ⟨_, rfl, ?_, fun j u hj => ?_⟩⟩
  · show w.heap.size < _
    simp
  · rw [show (⟨w.heap.size, 0, none⟩ : Addr).add j = ⟨w.heap.size, j, none⟩ by unfold Addr.add; split <;> simp_all, cell_new]
    simpa [cellsTs] using hj
set_option maxHeartbeats 8000000 in
set_option maxRecDepth 1000000 in
theorem insert_any (v : Value) (ds : List Td) (u : Td) (w : World) (h : TmsV w v ds) (hu : WordsV w (slD u) u.t.l) (hn : ds.length ≤ 1000000) (hs : ∀ d ∈ ds ++ [u], d.t.l.length ≤ 1099511627776) :
    Calls Tryz.prog 11 #[v, valT u] w fun e w' => OutOf (upL (tmsD ds ++ [u.t])) w.heap.size e w' ∧ Below w.heap.size w w' := by
  obtain ⟨W0, hW0, hwW, hA, hzz⟩ := boxes1 w (cellsT u) 26
  have hAH := Lib.hid hA; have hH := Lib.hid (h.below hwW); have huH := Lib.hid (hu.below hwW); have hwWH := Lib.hid hwW; have hsH := Lib.hid hs; have hnH := Lib.hid hn
  obtain ⟨A, n, c, rfl, hlen, hnc, hc⟩ := h.form
  obtain ⟨uA, uc, ⟨ue, ul⟩⟩ := u
  have a0_ := hA.cell 0 rfl; have a1_ := hA.cell 1 rfl
  have hW0' : w.alloc (.cells #[.int .u64 ue, .slice uA ul.length uc] 26) = W0 := hW0
  simp only [valT] at a0_ a1_ ⊢
  clear hA h hu hwW hs hn hW0
  go_enter Tryz.func11, Tryz.ntmps11
  go_wp2_with fail
  obtain ⟨W1, hW1⟩ : ∃ x, W0.alloc (.cells #[.int .u64 ue, .slice uA ul.length uc] 26) = x := ⟨_, rfl⟩
  have h1 : Below W0.heap.size W0 W1 := by rw [← hW1]; go_grown
  have hone := one_tms (w := W0) (b := W0.heap.size) ⟨uA, uc, ⟨ue, ul⟩⟩ huH.out _ rfl 26 rfl
  rw [show (cellsT ⟨uA, uc, ⟨ue, ul⟩⟩).toArray = #[.int .u64 ue, .slice uA ul.length uc] from rfl, hW1] at hone
  have hsl := SlsT.two_at (w := W1) (b := W0.heap.size + 1) (hH.out.below h1).1 hone 22 (by rw [← hW1]; simp)
  have hb1 := Lib.hid (chainB (B := w.heap.size) hwWH.out h1 hwWH.out.size)
  subst hW1
  have hslH := Lib.hid hsl
  clear hsl hone
  refine (concatT_any _ _ [ds, [⟨uA, uc, ⟨ue, ul⟩⟩]] _ hslH.out (by simp) (by simp; have := hnH.out; omega)).mono ?_
  rintro e w2 ⟨v2, rfl, ho2, hb2⟩
  have hfl : ([ds, [⟨uA, uc, ⟨ue, ul⟩⟩]] : List (List Td)).flatten = ds ++ [⟨uA, uc, ⟨ue, ul⟩⟩] := by simp
  rw [hfl] at ho2
  have hb3 := Lib.hid (chainB (B := w.heap.size) (a := w) (chainB hb1.out (by go_grown) hb1.out.size) hb2 (by have := hb1.out.size; simp at this ⊢; omega))
  have hrd := Lib.hid (show RdT w2 (ds ++ [⟨uA, uc, ⟨ue, ul⟩⟩]) from by
    have hbW : Below W0.heap.size W0 w2 := (chainB (chainB h1 (by go_grown) h1.size) hb2 (by simp; omega))
    intro d hd
    rw [List.mem_append, List.mem_singleton] at hd
    rcases hd with hd | rfl
    · exact (hH.out.2 d hd).below hbW
    · exact huH.out.below hbW)
  have hoH := Lib.hid ho2
  clear ho2 hb2 h1
  go_wp2_with fail
  refine (of_any v2 _ w2 (hoH.out.tms hrd.out) (by rw [List.length_append, List.length_singleton]; have := hnH.out; omega) hsH.out).mono ?_
  rintro e w3 ⟨v', r, rfl, hac, ho3, hf3, hb4, _, _⟩
  have hac' : Ac (upL (tmsD ds ++ [⟨ue, ul⟩])) (tmsD r) := by simpa [tmsD] using hac
  have hacH := Lib.hid hac'; have ho3H := Lib.hid ho3; have hf3H := Lib.hid hf3; have hb4H := Lib.hid hb4
  clear hac hac' ho3 hf3 hb4
  go_wp2_with fail
  go_ret
  exact ⟨⟨_, r, rfl, hacH.out, ownsRow_low ho3H.out hb3.out.size, hf3H.out.low hb3.out.size⟩, chainB hb3.out hb4H.out hb3.out.size⟩
def RelCL (xs ys : List Td) (w0 : World) (s9 : Value) (wr : World) : Prop := ∃ p : Nat, s9 = .int .i64 (p : Int) ∧ p ≤ ys.length ∧ ((tmsD ys).take p).all (fun t => upB (tmsD xs) t) = true ∧ Below w0.heap.size w0 wr
theorem all_step {ys : List Td} {p : Nat} {d : Td} (q : Tm → Bool) (hd : ys[p]? = some d) : ((tmsD ys).take (p + 1)).all q = (((tmsD ys).take p).all q && q d.t) := by
  obtain ⟨hp, rfl⟩ := List.getElem?_eq_some_iff.1 hd
  have hp' : p < (tmsD ys).length := by simpa [tmsD] using hp
  rw [List.take_succ_eq_append_getElem hp', List.all_append]
  simp [tmsD]
theorem all_false {ys : List Td} {d : Td} {q : Tm → Bool} (hd : d ∈ ys) (h : q d.t = false) : (tmsD ys).all q = false := by
  rw [List.all_eq_false]
  exact ⟨d.t, List.mem_map.2 ⟨d, hd, rfl⟩, by simp [h]⟩
set_option maxHeartbeats 8000000 in
set_option maxRecDepth 1000000 in
theorem leqA_any (va vb : Value) (xs ys : List Td) (w : World) (ha : TmsV w va xs) (hb : TmsV w vb ys) :
    Calls Tryz.prog 13 #[va, vb] w fun e w' => e = .returned (.bool ((tmsD ys).all fun t => upB (tmsD xs) t)) ∧ Below w.heap.size w w' := by
  obtain ⟨A, n, c, rfl, hlen, hnc, hc⟩ := hb.form
  have haH := Lib.hid ha; have hbH := Lib.hid hb; have hlenH := Lib.hid hlen
  clear ha hb hlen
  go_enter Tryz.func13, Tryz.ntmps13
  go_wp2_with fail
  go_loopw [6, 9] (fun s6 s9 wr => RelCL xs ys w s9 wr) (fun _ s9 _ => n - (Go.RowKit.intOf s9).toNat)
  case atStart => exact ⟨0, rfl, Nat.zero_le _, rfl, Below.refl _ _⟩
  case round =>
    unfold RelCL at hrel
    obtain ⟨p, rfl, hp, hall, hbw⟩ := hrel
    have hpn : p ≤ n := by have := hlenH.out; omega
    have hallH := Lib.hid hall; have hbwH := Lib.hid hbw
    clear hp hall hbw
    by_cases hlt : p < n
    · obtain ⟨d, hd⟩ : ∃ d, ys[p]? = some d := ⟨_, List.getElem?_eq_getElem (by have := hlenH.out; omega)⟩
      obtain ⟨ad, rfl, hba, a0_, a1_⟩ := (hbH.out.below hbwH.out).at hd
      have hdr := Lib.hid ((hbH.out.2 d (List.mem_of_getElem? hd)).below hbwH.out)
      have hstH := Lib.hid (all_step (fun t => upB (tmsD xs) t) hd)
      have hmem := Lib.hid (List.mem_of_getElem? hd)
      clear hd
      obtain ⟨dA, dc, ⟨de, dl⟩⟩ := d
      simp only at a0_ a1_
      obtain ⟨wb, hwb⟩ : ∃ x, wr.alloc (.cells #[.int .u64 de, .slice dA dl.length dc] 26) = x := ⟨_, rfl⟩
      have hbb : Below wr.heap.size wr wb := by rw [← hwb]; go_grown
      have hbx := (show HasC wb wr.heap.size (cellsT ⟨dA, dc, ⟨de, dl⟩⟩) 26 by rw [← hwb]; exact has_at _ _ _ _ rfl)
      have b0_ := hbx.cell 0 rfl; have b1_ := hbx.cell 1 rfl; have bl_ := hbx.lt
      have hbwB := Lib.hid (chainB hbwH.out hbb hbwH.out.size)
      have hdB := Lib.hid (hdr.out.below hbb)
      obtain ⟨r, hr⟩ : ∃ r, upB (tmsD xs) ⟨de, dl⟩ = r := ⟨_, rfl⟩
      have hupH := Lib.hid hr
      clear hr hbb hbx
      go_wp2_with fail
      refine (beyond_any va xs ⟨dA, dc, ⟨de, dl⟩⟩ wb (haH.out.below hbwB.out) hdB.out).mono ?_
      rw [hupH.out]
      rintro e wc ⟨rfl, hb2⟩
      have hb2H := Lib.hid (chainB hbwB.out hb2 hbwB.out.size)
      clear hb2 hwb b0_ b1_ bl_
      cases r with
      | true =>
        go_wp2_with fail
        go_roundw
        case rel => exact ⟨p + 1, by go_num, by have := hlenH.out; omega, by rw [hstH.out, hallH.out, hupH.out]; rfl, hb2H.out⟩
        case measure => simp [Go.RowKit.intOf]; omega
      | false =>
        go_wp2_with fail
        go_ret
        exact ⟨by rw [all_false hmem.out hupH.out]; rfl, hb2H.out⟩
    · obtain rfl : p = n := by omega
      have hfin := Lib.hid (show ((tmsD ys).all fun t => upB (tmsD xs) t) = true by have := hallH.out; rwa [List.take_of_length_le (show (tmsD ys).length ≤ p by simp [tmsD]; have := hlenH.out; omega)] at this)
      go_wp2_with fail
      go_ret
      exact ⟨by rw [hfin.out]; rfl, hbwH.out⟩
def RelST (xs ys : List Td) (w0 : World) (s5 : Value) (wr : World) : Prop := ∃ p : Nat, p ≤ xs.length ∧ s5 = .int .i64 (p : Int) ∧ (tmsD xs).take p = (tmsD ys).take p ∧ Below w0.heap.size w0 wr
theorem tms_at {ds : List Td} {p : Nat} {d : Td} (hd : ds[p]? = some d) : (tmsD ds)[p]? = some d.t := by unfold tmsD; rw [List.getElem?_map, hd]; rfl
theorem same_step {xs ys : List Td} {p : Nat} {a b : Td} (h : (tmsD xs).take p = (tmsD ys).take p) (ha : xs[p]? = some a) (hb : ys[p]? = some b) (he : decide (a.t.e = b.t.e ∧ a.t.l = b.t.l) = true) : (tmsD xs).take (p + 1) = (tmsD ys).take (p + 1) := by
  have h1 := tms_at ha
  have h2 := tms_at hb
  have he := of_decide_eq_true he
  obtain ⟨l1, e1⟩ := List.getElem?_eq_some_iff.1 h1
  obtain ⟨l2, e2⟩ := List.getElem?_eq_some_iff.1 h2
  rw [List.take_succ_eq_append_getElem l1, List.take_succ_eq_append_getElem l2, h, e1, e2, Tm.eq_of he.1 he.2]
theorem same_not {xs ys : List Td} {p : Nat} {a b : Td} (ha : xs[p]? = some a) (hb : ys[p]? = some b) (he : decide (a.t.e = b.t.e ∧ a.t.l = b.t.l) = false) : ¬ tmsD xs = tmsD ys := by
  intro h
  have h1 := tms_at ha
  rw [h, tms_at hb] at h1
  injection h1 with h1
  exact of_decide_eq_false he ⟨by rw [h1], by rw [h1]⟩
set_option maxHeartbeats 8000000 in
set_option maxRecDepth 1000000 in
theorem sameTimes_any (va vb : Value) (xs ys : List Td) (w : World) (ha : TmsV w va xs) (hb : TmsV w vb ys) :
    Calls Tryz.prog 19 #[va, vb] w fun e w' => e = .returned (.bool (decide (tmsD xs = tmsD ys))) ∧ Below w.heap.size w w' := by
  obtain ⟨A, n, c, rfl, hlen, hnc, hc⟩ := ha.form
  obtain ⟨B, k, c', rfl, hlen', hnc', hc'⟩ := hb.form
  have haH := Lib.hid ha; have hbH := Lib.hid hb; have hlenH := Lib.hid hlen; have hlenH' := Lib.hid hlen'
  clear ha hb hlen hlen'
  by_cases hnk : n = k
  · subst hnk
    go_enter Tryz.func19, Tryz.ntmps19
    go_wp2_with fail
    go_loopw [5] (fun s5 wr => RelST xs ys w s5 wr) (fun s5 _ => n - (Go.RowKit.intOf s5).toNat)
    case atStart => exact ⟨0, Nat.zero_le _, rfl, rfl, Below.refl _ _⟩
    case round =>
      unfold RelST at hrel
      obtain ⟨p, hp, rfl, hpre, hbw⟩ := hrel
      have hpn : p ≤ n := by have := hlenH.out; omega
      replace hpre := Lib.hid hpre; have hbwH := Lib.hid hbw
      clear hbw hp
      by_cases hlt : p < n
      · obtain ⟨a, hda⟩ : ∃ d, xs[p]? = some d := ⟨_, List.getElem?_eq_getElem (by have := hlenH.out; omega)⟩
        obtain ⟨b, hdb⟩ : ∃ d, ys[p]? = some d := ⟨_, List.getElem?_eq_getElem (by have := hlenH'.out; omega)⟩
        obtain ⟨ad, rfl, hba, a0_, a1_⟩ := (haH.out.below hbwH.out).at hda
        obtain ⟨bd, rfl, hbb, b0_, b1_⟩ := (hbH.out.below hbwH.out).at hdb
        have hra := Lib.hid ((haH.out.2 a (List.mem_of_getElem? hda)).below hbwH.out); have hrb := Lib.hid ((hbH.out.2 b (List.mem_of_getElem? hdb)).below hbwH.out)
        have hdaH := Lib.hid hda; have hdbH := Lib.hid hdb
        clear hda hdb
        obtain ⟨aA, ac, ⟨ae, al⟩⟩ := a
        obtain ⟨bA, bc, ⟨be, bl⟩⟩ := b
        obtain ⟨r, hr⟩ : ∃ r, decide (ae = be ∧ al = bl) = r := ⟨_, rfl⟩
        have heqH := Lib.hid hr
        clear hr
        simp only at a0_ a1_ b0_ b1_
        go_wp2_with fail
        cases r with
        | true =>
          refine wp_region_noPanic ?_
          refine wp_region_held_drew (S := (fun w' => w'.cell? (ad.add (p * 2)) = some (.int .u64 ae) ∧ w'.cell? ⟨(ad.add (p * 2)).block, (ad.add (p * 2)).off + 1, none⟩ = some (.slice aA al.length ac) ∧ w'.cell? (bd.add (p * 2)) = some (.int .u64 be) ∧ w'.cell? ⟨(bd.add (p * 2)).block, (bd.add (p * 2)).off + 1, none⟩ = some (.slice bA bl.length bc))) (by kernel_rfl) (⟨a0_, a1_, b0_, b1_⟩) (fun hHeld => ?_)
          refine' wpAnyH_take (i := 0) (v := ?v0x1) ?hi0x1 ?hs0x1 ?hf0x1 ?hr0x1 ?hQ0x1 ?hy0x1 ?hS0x1 ?rest0x1
          case hi0x1 => (simp only [List.getElem?_toArray, List.getElem?_cons_succ, List.getElem?_cons_zero]; try rfl)
          case hs0x1 => kernel_rfl
          case hf0x1 => kernel_rfl
          case hr0x1 => kernel_rfl
          case hQ0x1 => exact fun _ _ _ h => h
          case hy0x1 => first | exact Or.inl ⟨by rfl, by (intro w hSw; (try dsimp only at hSw); go_simp; try rfl)⟩ | exact Or.inr ⟨by rfl, rfl⟩
          case hS0x1 => assumption
          (try simp only [Act.put, List.setIfInBounds_toArray, List.set_cons_zero, List.set_cons_succ])
          refine' wpAnyH_take (i := 1) (v := ?v1x2) ?hi1x2 ?hs1x2 ?hf1x2 ?hr1x2 ?hQ1x2 ?hy1x2 ?hS1x2 ?rest1x2
          case hi1x2 => (simp only [List.getElem?_toArray, List.getElem?_cons_succ, List.getElem?_cons_zero]; try rfl)
          case hs1x2 => kernel_rfl
          case hf1x2 => kernel_rfl
          case hr1x2 => kernel_rfl
          case hQ1x2 => exact fun _ _ _ h => h
          case hy1x2 => first | exact Or.inl ⟨by rfl, by (intro w hSw; (try dsimp only at hSw); go_simp; try rfl)⟩ | exact Or.inr ⟨by rfl, rfl⟩
          case hS1x2 => assumption
          (try simp only [Act.put, List.setIfInBounds_toArray, List.set_cons_zero, List.set_cons_succ])
          refine' wpAnyH_take (i := 2) (v := ?v2x3) ?hi2x3 ?hs2x3 ?hf2x3 ?hr2x3 ?hQ2x3 ?hy2x3 ?hS2x3 ?rest2x3
          case hi2x3 => (simp only [List.getElem?_toArray, List.getElem?_cons_succ, List.getElem?_cons_zero]; try rfl)
          case hs2x3 => kernel_rfl
          case hf2x3 => kernel_rfl
          case hr2x3 => kernel_rfl
          case hQ2x3 => exact fun _ _ _ h => h
          case hy2x3 => first | exact Or.inl ⟨by rfl, by (intro w hSw; (try dsimp only at hSw); go_simp; try rfl)⟩ | exact Or.inr ⟨by rfl, rfl⟩
          case hS2x3 => assumption
          (try simp only [Act.put, List.setIfInBounds_toArray, List.set_cons_zero, List.set_cons_succ])
          refine' wpAnyH_take (i := 3) (v := ?v3x4) ?hi3x4 ?hs3x4 ?hf3x4 ?hr3x4 ?hQ3x4 ?hy3x4 ?hS3x4 ?rest3x4
          case hi3x4 => (simp only [List.getElem?_toArray, List.getElem?_cons_succ, List.getElem?_cons_zero]; try rfl)
          case hs3x4 => kernel_rfl
          case hf3x4 => kernel_rfl
          case hr3x4 => kernel_rfl
          case hQ3x4 => exact fun _ _ _ h => h
          case hy3x4 => first | exact Or.inl ⟨by rfl, by (intro w hSw; (try dsimp only at hSw); go_simp; try rfl)⟩ | exact Or.inr ⟨by rfl, rfl⟩
          case hS3x4 => assumption
          (try simp only [Act.put, List.setIfInBounds_toArray, List.set_cons_zero, List.set_cons_succ])
          refine' wpAnyH_take (i := 4) (v := ?v4x5) ?hi4x5 ?hs4x5 ?hf4x5 ?hr4x5 ?hQ4x5 ?hy4x5 ?hS4x5 ?rest4x5
          case hi4x5 => (simp only [List.getElem?_toArray, List.getElem?_cons_succ, List.getElem?_cons_zero]; try rfl)
          case hs4x5 => kernel_rfl
          case hf4x5 => kernel_rfl
          case hr4x5 => kernel_rfl
          case hQ4x5 => exact fun _ _ _ h => h
          case hy4x5 => first | exact Or.inl ⟨by rfl, by (intro w hSw; (try dsimp only at hSw); go_simp; try rfl)⟩ | exact Or.inr ⟨by rfl, rfl⟩
          case hS4x5 => assumption
          (try simp only [Act.put, List.setIfInBounds_toArray, List.set_cons_zero, List.set_cons_succ])
          refine' wpAnyH_take (i := 5) (v := ?v5x6) ?hi5x6 ?hs5x6 ?hf5x6 ?hr5x6 ?hQ5x6 ?hy5x6 ?hS5x6 ?rest5x6
          case hi5x6 => (simp only [List.getElem?_toArray, List.getElem?_cons_succ, List.getElem?_cons_zero]; try rfl)
          case hs5x6 => kernel_rfl
          case hf5x6 => kernel_rfl
          case hr5x6 => kernel_rfl
          case hQ5x6 => exact fun _ _ _ h => h
          case hy5x6 => first | exact Or.inl ⟨by rfl, by (intro w hSw; (try dsimp only at hSw); go_simp; try rfl)⟩ | exact Or.inr ⟨by rfl, rfl⟩
          case hS5x6 => assumption
          (try simp only [Act.put, List.setIfInBounds_toArray, List.set_cons_zero, List.set_cons_succ])
          refine' wpAnyH_take (i := 6) (v := ?v6x7) ?hi6x7 ?hs6x7 ?hf6x7 ?hr6x7 ?hQ6x7 ?hy6x7 ?hS6x7 ?rest6x7
          case hi6x7 => (simp only [List.getElem?_toArray, List.getElem?_cons_succ, List.getElem?_cons_zero]; try rfl)
          case hs6x7 => kernel_rfl
          case hf6x7 => kernel_rfl
          case hr6x7 => kernel_rfl
          case hQ6x7 => exact fun _ _ _ h => h
          case hy6x7 => first | exact Or.inl ⟨by rfl, by (intro w hSw; (try dsimp only at hSw); go_simp; try rfl)⟩ | exact Or.inr ⟨by rfl, rfl⟩
          case hS6x7 => assumption
          (try simp only [Act.put, List.setIfInBounds_toArray, List.set_cons_zero, List.set_cons_succ])
          refine' wpAnyH_take (i := 7) (v := ?v7x8) ?hi7x8 ?hs7x8 ?hf7x8 ?hr7x8 ?hQ7x8 ?hy7x8 ?hS7x8 ?rest7x8
          case hi7x8 => (simp only [List.getElem?_toArray, List.getElem?_cons_succ, List.getElem?_cons_zero]; try rfl)
          case hs7x8 => kernel_rfl
          case hf7x8 => kernel_rfl
          case hr7x8 => kernel_rfl
          case hQ7x8 => exact fun _ _ _ h => h
          case hy7x8 => first | exact Or.inl ⟨by rfl, by (intro w hSw; (try dsimp only at hSw); go_simp; try rfl)⟩ | exact Or.inr ⟨by rfl, rfl⟩
          case hS7x8 => assumption
          (try simp only [Act.put, List.setIfInBounds_toArray, List.set_cons_zero, List.set_cons_succ])
          refine wpAnyH_ready (rs := [8]) (by kernel_rfl) (by simp) ?_
          refine' (AllReadyH.cons (i := 8) ?ho8x9 (fun K hK => ?st8x9) AllReadyH.nil)
          case ho8x9 => (simp only [List.getElem?_toArray, List.getElem?_cons_succ, List.getElem?_cons_zero]; try rfl)
          case st8x9 =>
            go_simp
            refine (sameTime_any _ _ ⟨ae, al⟩ ⟨be, bl⟩ wr.drew ⟨_, rfl, hra.out⟩ ⟨_, rfl, hrb.out⟩).mono ?_
            rw [heqH.out]
            rintro e w2 ⟨rfl, hb2⟩
            have hq2 : Below wr.heap.size wr w2 := chainB (Below.refl _ _).drew hb2 (Nat.le_refl _)
            have hbn := Lib.hid (chainB hbwH.out hq2 hbwH.out.size)
            refine hK.out _ _ ?_ (fun hHeld => ?_)
            · exact ⟨(hq2.cell (p := ad.add (p * 2)) hba).trans a0_, (hq2.cell (p := ⟨(ad.add (p * 2)).block, (ad.add (p * 2)).off + 1, none⟩) hba).trans a1_, (hq2.cell (p := bd.add (p * 2)) hbb).trans b0_, (hq2.cell (p := ⟨(bd.add (p * 2)).block, (bd.add (p * 2)).off + 1, none⟩) hbb).trans b1_⟩
            clear hK K
            (try simp only [Act.put, List.setIfInBounds_toArray, List.set_cons_zero, List.set_cons_succ])
            refine' wpAnyH_take (i := 9) (v := ?v9x10) ?hi9x10 ?hs9x10 ?hf9x10 ?hr9x10 ?hQ9x10 ?hy9x10 ?hS9x10 ?rest9x10
            case hi9x10 => (simp only [List.getElem?_toArray, List.getElem?_cons_succ, List.getElem?_cons_zero]; try rfl)
            case hs9x10 => kernel_rfl
            case hf9x10 => kernel_rfl
            case hr9x10 => kernel_rfl
            case hQ9x10 => exact fun _ _ _ h => h
            case hy9x10 => first | exact Or.inl ⟨by rfl, by (intro w hSw; (try dsimp only at hSw); go_simp; try rfl)⟩ | exact Or.inr ⟨by rfl, rfl⟩
            case hS9x10 => assumption
            (try simp only [Act.put, List.setIfInBounds_toArray, List.set_cons_zero, List.set_cons_succ])
            refine wpAnyH_done (by kernel_rfl) ?_ _
            refine NoPanic.normal ?_
            go_wp2_with fail
            go_roundw
            case rel => exact ⟨p + 1, by have := hlenH.out; omega, by go_num, same_step hpre.out hdaH.out hdbH.out heqH.out, hbn.out⟩
            case measure => simp [Go.RowKit.intOf]; omega
        | false =>
          refine wp_region_noPanic ?_
          refine wp_region_held_drew (S := (fun w' => w'.cell? (ad.add (p * 2)) = some (.int .u64 ae) ∧ w'.cell? ⟨(ad.add (p * 2)).block, (ad.add (p * 2)).off + 1, none⟩ = some (.slice aA al.length ac) ∧ w'.cell? (bd.add (p * 2)) = some (.int .u64 be) ∧ w'.cell? ⟨(bd.add (p * 2)).block, (bd.add (p * 2)).off + 1, none⟩ = some (.slice bA bl.length bc))) (by kernel_rfl) (⟨a0_, a1_, b0_, b1_⟩) (fun hHeld => ?_)
          refine' wpAnyH_take (i := 0) (v := ?v0x11) ?hi0x11 ?hs0x11 ?hf0x11 ?hr0x11 ?hQ0x11 ?hy0x11 ?hS0x11 ?rest0x11
          case hi0x11 => (simp only [List.getElem?_toArray, List.getElem?_cons_succ, List.getElem?_cons_zero]; try rfl)
          case hs0x11 => kernel_rfl
          case hf0x11 => kernel_rfl
          case hr0x11 => kernel_rfl
          case hQ0x11 => exact fun _ _ _ h => h
          case hy0x11 => first | exact Or.inl ⟨by rfl, by (intro w hSw; (try dsimp only at hSw); go_simp; try rfl)⟩ | exact Or.inr ⟨by rfl, rfl⟩
          case hS0x11 => assumption
          (try simp only [Act.put, List.setIfInBounds_toArray, List.set_cons_zero, List.set_cons_succ])
          refine' wpAnyH_take (i := 1) (v := ?v1x12) ?hi1x12 ?hs1x12 ?hf1x12 ?hr1x12 ?hQ1x12 ?hy1x12 ?hS1x12 ?rest1x12
          case hi1x12 => (simp only [List.getElem?_toArray, List.getElem?_cons_succ, List.getElem?_cons_zero]; try rfl)
          case hs1x12 => kernel_rfl
          case hf1x12 => kernel_rfl
          case hr1x12 => kernel_rfl
          case hQ1x12 => exact fun _ _ _ h => h
          case hy1x12 => first | exact Or.inl ⟨by rfl, by (intro w hSw; (try dsimp only at hSw); go_simp; try rfl)⟩ | exact Or.inr ⟨by rfl, rfl⟩
          case hS1x12 => assumption
          (try simp only [Act.put, List.setIfInBounds_toArray, List.set_cons_zero, List.set_cons_succ])
          refine' wpAnyH_take (i := 2) (v := ?v2x13) ?hi2x13 ?hs2x13 ?hf2x13 ?hr2x13 ?hQ2x13 ?hy2x13 ?hS2x13 ?rest2x13
          case hi2x13 => (simp only [List.getElem?_toArray, List.getElem?_cons_succ, List.getElem?_cons_zero]; try rfl)
          case hs2x13 => kernel_rfl
          case hf2x13 => kernel_rfl
          case hr2x13 => kernel_rfl
          case hQ2x13 => exact fun _ _ _ h => h
          case hy2x13 => first | exact Or.inl ⟨by rfl, by (intro w hSw; (try dsimp only at hSw); go_simp; try rfl)⟩ | exact Or.inr ⟨by rfl, rfl⟩
          case hS2x13 => assumption
          (try simp only [Act.put, List.setIfInBounds_toArray, List.set_cons_zero, List.set_cons_succ])
          refine' wpAnyH_take (i := 3) (v := ?v3x14) ?hi3x14 ?hs3x14 ?hf3x14 ?hr3x14 ?hQ3x14 ?hy3x14 ?hS3x14 ?rest3x14
          case hi3x14 => (simp only [List.getElem?_toArray, List.getElem?_cons_succ, List.getElem?_cons_zero]; try rfl)
          case hs3x14 => kernel_rfl
          case hf3x14 => kernel_rfl
          case hr3x14 => kernel_rfl
          case hQ3x14 => exact fun _ _ _ h => h
          case hy3x14 => first | exact Or.inl ⟨by rfl, by (intro w hSw; (try dsimp only at hSw); go_simp; try rfl)⟩ | exact Or.inr ⟨by rfl, rfl⟩
          case hS3x14 => assumption
          (try simp only [Act.put, List.setIfInBounds_toArray, List.set_cons_zero, List.set_cons_succ])
          refine' wpAnyH_take (i := 4) (v := ?v4x15) ?hi4x15 ?hs4x15 ?hf4x15 ?hr4x15 ?hQ4x15 ?hy4x15 ?hS4x15 ?rest4x15
          case hi4x15 => (simp only [List.getElem?_toArray, List.getElem?_cons_succ, List.getElem?_cons_zero]; try rfl)
          case hs4x15 => kernel_rfl
          case hf4x15 => kernel_rfl
          case hr4x15 => kernel_rfl
          case hQ4x15 => exact fun _ _ _ h => h
          case hy4x15 => first | exact Or.inl ⟨by rfl, by (intro w hSw; (try dsimp only at hSw); go_simp; try rfl)⟩ | exact Or.inr ⟨by rfl, rfl⟩
          case hS4x15 => assumption
          (try simp only [Act.put, List.setIfInBounds_toArray, List.set_cons_zero, List.set_cons_succ])
          refine' wpAnyH_take (i := 5) (v := ?v5x16) ?hi5x16 ?hs5x16 ?hf5x16 ?hr5x16 ?hQ5x16 ?hy5x16 ?hS5x16 ?rest5x16
          case hi5x16 => (simp only [List.getElem?_toArray, List.getElem?_cons_succ, List.getElem?_cons_zero]; try rfl)
          case hs5x16 => kernel_rfl
          case hf5x16 => kernel_rfl
          case hr5x16 => kernel_rfl
          case hQ5x16 => exact fun _ _ _ h => h
          case hy5x16 => first | exact Or.inl ⟨by rfl, by (intro w hSw; (try dsimp only at hSw); go_simp; try rfl)⟩ | exact Or.inr ⟨by rfl, rfl⟩
          case hS5x16 => assumption
          (try simp only [Act.put, List.setIfInBounds_toArray, List.set_cons_zero, List.set_cons_succ])
          refine' wpAnyH_take (i := 6) (v := ?v6x17) ?hi6x17 ?hs6x17 ?hf6x17 ?hr6x17 ?hQ6x17 ?hy6x17 ?hS6x17 ?rest6x17
          case hi6x17 => (simp only [List.getElem?_toArray, List.getElem?_cons_succ, List.getElem?_cons_zero]; try rfl)
          case hs6x17 => kernel_rfl
          case hf6x17 => kernel_rfl
          case hr6x17 => kernel_rfl
          case hQ6x17 => exact fun _ _ _ h => h
          case hy6x17 => first | exact Or.inl ⟨by rfl, by (intro w hSw; (try dsimp only at hSw); go_simp; try rfl)⟩ | exact Or.inr ⟨by rfl, rfl⟩
          case hS6x17 => assumption
          (try simp only [Act.put, List.setIfInBounds_toArray, List.set_cons_zero, List.set_cons_succ])
          refine' wpAnyH_take (i := 7) (v := ?v7x18) ?hi7x18 ?hs7x18 ?hf7x18 ?hr7x18 ?hQ7x18 ?hy7x18 ?hS7x18 ?rest7x18
          case hi7x18 => (simp only [List.getElem?_toArray, List.getElem?_cons_succ, List.getElem?_cons_zero]; try rfl)
          case hs7x18 => kernel_rfl
          case hf7x18 => kernel_rfl
          case hr7x18 => kernel_rfl
          case hQ7x18 => exact fun _ _ _ h => h
          case hy7x18 => first | exact Or.inl ⟨by rfl, by (intro w hSw; (try dsimp only at hSw); go_simp; try rfl)⟩ | exact Or.inr ⟨by rfl, rfl⟩
          case hS7x18 => assumption
          (try simp only [Act.put, List.setIfInBounds_toArray, List.set_cons_zero, List.set_cons_succ])
          refine wpAnyH_ready (rs := [8]) (by kernel_rfl) (by simp) ?_
          refine' (AllReadyH.cons (i := 8) ?ho8x19 (fun K hK => ?st8x19) AllReadyH.nil)
          case ho8x19 => (simp only [List.getElem?_toArray, List.getElem?_cons_succ, List.getElem?_cons_zero]; try rfl)
          case st8x19 =>
            go_simp
            refine (sameTime_any _ _ ⟨ae, al⟩ ⟨be, bl⟩ wr.drew ⟨_, rfl, hra.out⟩ ⟨_, rfl, hrb.out⟩).mono ?_
            rw [heqH.out]
            rintro e w2 ⟨rfl, hb2⟩
            have hq2 : Below wr.heap.size wr w2 := chainB (Below.refl _ _).drew hb2 (Nat.le_refl _)
            have hbn := Lib.hid (chainB hbwH.out hq2 hbwH.out.size)
            refine hK.out _ _ ?_ (fun hHeld => ?_)
            · exact ⟨(hq2.cell (p := ad.add (p * 2)) hba).trans a0_, (hq2.cell (p := ⟨(ad.add (p * 2)).block, (ad.add (p * 2)).off + 1, none⟩) hba).trans a1_, (hq2.cell (p := bd.add (p * 2)) hbb).trans b0_, (hq2.cell (p := ⟨(bd.add (p * 2)).block, (bd.add (p * 2)).off + 1, none⟩) hbb).trans b1_⟩
            clear hK K
            (try simp only [Act.put, List.setIfInBounds_toArray, List.set_cons_zero, List.set_cons_succ])
            refine' wpAnyH_take (i := 9) (v := ?v9x20) ?hi9x20 ?hs9x20 ?hf9x20 ?hr9x20 ?hQ9x20 ?hy9x20 ?hS9x20 ?rest9x20
            case hi9x20 => (simp only [List.getElem?_toArray, List.getElem?_cons_succ, List.getElem?_cons_zero]; try rfl)
            case hs9x20 => kernel_rfl
            case hf9x20 => kernel_rfl
            case hr9x20 => kernel_rfl
            case hQ9x20 => exact fun _ _ _ h => h
            case hy9x20 => first | exact Or.inl ⟨by rfl, by (intro w hSw; (try dsimp only at hSw); go_simp; try rfl)⟩ | exact Or.inr ⟨by rfl, rfl⟩
            case hS9x20 => assumption
            (try simp only [Act.put, List.setIfInBounds_toArray, List.set_cons_zero, List.set_cons_succ])
            refine wpAnyH_done (by kernel_rfl) ?_ _
            refine NoPanic.normal ?_
            go_wp2_with fail
            go_ret
            exact ⟨by rw [decide_eq_false (same_not hdaH.out hdbH.out heqH.out)]; rfl, hbn.out⟩
      · obtain rfl : p = n := by omega
        have hfin := Lib.hid (show tmsD xs = tmsD ys by have := hpre.out; rwa [List.take_of_length_le (show (tmsD xs).length ≤ p by simp [tmsD]; have := hlenH.out; omega), List.take_of_length_le (show (tmsD ys).length ≤ p by simp [tmsD]; have := hlenH'.out; omega)] at this)
        go_wp2_with fail
        go_ret
        exact ⟨by rw [decide_eq_true hfin.out]; rfl, hbwH.out⟩
  · have hnot := Lib.hid (show ¬ tmsD xs = tmsD ys from fun h => hnk (by have := congrArg List.length h; simp [tmsD] at this; have := hlenH.out; have := hlenH'.out; omega))
    have hnb : ((n : Int) == (k : Int)) = false := beq_eq_false_iff_ne.2 (by omega)
    go_enter Tryz.func19, Tryz.ntmps19
    go_wp2_with fail
    go_ret
    exact ⟨by rw [decide_eq_false hnot.out]; rfl, by first | exact Below.refl _ _ | go_grown⟩
def RelMu (ds : List Td) (n : Nat) (w0 : World) (s3 s4 : Value) (wr : World) : Prop := ∃ p m : Nat, s4 = .int .i64 (p : Int) ∧ s3 = .int .i64 (m : Int) ∧ p ≤ n ∧ n ≤ m ∧ m ≤ 4611686018427387904 + n ∧ (∀ d ∈ ds.take p, d.t.l.length / 8 ≤ m) ∧ (p < n → m ≤ 60 ∨ 60 < m) ∧ wr = w0
set_option maxHeartbeats 8000000 in
set_option maxRecDepth 1000000 in
theorem much_any (v : Value) (ds : List Td) (w : World) (h : TmsV w v ds) :
    Calls Tryz.prog 7 #[v] w fun e w' => ∃ z, e = .returned (.bool z) ∧ (z = false → ds.length ≤ 60 ∧ ∀ d ∈ ds, d.t.l.length ≤ 600) ∧ w = w' := by
  obtain ⟨A, n, c, rfl, hlen, hnc, hc⟩ := h.form
  have hH := Lib.hid h; have hlenH := Lib.hid hlen
  clear h hlen
  go_enter Tryz.func7, Tryz.ntmps7
  go_wp2_with fail
  go_loopw [3, 4] (fun s3 s4 wr => RelMu ds n w s3 s4 wr) (fun _ s4 _ => n - (Go.RowKit.intOf s4).toNat)
  case atStart => exact ⟨0, n, rfl, rfl, Nat.zero_le _, Nat.le_refl _, by omega, fun d hd => by simp at hd, fun _ => by omega, rfl⟩
  case round =>
    unfold RelMu at hrel
    obtain ⟨p, m, rfl, rfl, hp, hnm, hmb, hall, _, rfl⟩ := hrel
    have hallH := Lib.hid hall
    clear hall
    by_cases hlt : p < n
    · have d1 : decide ((p : Int) < (n : Int)) = true := decide_eq_true (by omega)
      by_cases hm : m ≤ 60
      · have d2 : decide ((m : Int) ≤ 60) = true := decide_eq_true (by omega)
        obtain ⟨d, hd⟩ : ∃ d, ds[p]? = some d := ⟨_, List.getElem?_eq_getElem (by have := hlenH.out; omega)⟩
        obtain ⟨ad, rfl, hba, a0_, a1_⟩ := hH.out.at hd
        obtain ⟨_, q, _, _, hq, hqc, hq2⟩ := (hH.out.2 d (List.mem_of_getElem? hd)).form
        have hdH := Lib.hid hd
        clear hd
        obtain ⟨dA, dc, ⟨de, dl⟩⟩ := d
        simp only at a0_ a1_ hq
        obtain ⟨k, hk⟩ : ∃ k, dl.length = k := ⟨_, rfl⟩
        rw [hk] at a1_ hq
        have hkb : k ≤ 9223372036854775807 := by omega
        have hkH := Lib.hid hk
        clear hk
        have hdiv : Int.tdiv (k : Int) 8 = ((k / 8 : Nat) : Int) := by simp
        go_wp2_with fail
        go_roundw
        case rel =>
          refine ⟨p + 1, m + k / 8, by go_num, by first | (go_num; done) | (simp [hdiv]; go_num; done), by omega, by omega, by omega, ?_, fun _ => by omega, rfl⟩
          intro x hx
          obtain ⟨hpl, e⟩ := List.getElem?_eq_some_iff.1 hdH.out
          rw [List.take_succ_eq_append_getElem hpl, List.mem_append, List.mem_singleton] at hx
          rcases hx with hx | rfl
          · have := hallH.out x hx
            omega
          · rw [e]
            simp only [hkH.out]
            omega
        case measure => simp [Go.RowKit.intOf]; omega
      · have d2 : decide ((m : Int) ≤ 60) = false := decide_eq_false (by omega)
        go_wp2_with fail
        go_ret
        exact ⟨_, rfl, fun hz => by simp at hz; omega, rfl⟩
    · obtain rfl : p = n := by omega
      have d1 : decide ((p : Int) < (p : Int)) = false := decide_eq_false (by omega)
      go_wp2_with fail
      go_ret
      refine ⟨_, rfl, fun hz => ?_, rfl⟩
      have hm : m ≤ 60 := by simp at hz; omega
      refine ⟨by have := hlenH.out; omega, fun d hd => ?_⟩
      have := hallH.out d (by rw [List.take_of_length_le (by have := hlenH.out; omega)]; exact hd)
      omega
end Go.Proofs.YtdfhchpimpbgfaaGreatDoor
