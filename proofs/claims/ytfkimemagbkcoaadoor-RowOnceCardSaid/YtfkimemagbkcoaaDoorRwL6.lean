/-
  The law RowOnce, walked at this program: of any counted rows. Condition: unicode/utf8's two tables lie as their initialisers lay them.
-/
import Derived.Test.YtfkimemagbkcoaaDoorRwPl
import Derived.Test.YtfkimemagbkcoaaDoorRwP
import Derived.Test.YtfkimemagbkcoaaDoorRwQ
import Derived.Test.YtfkimemagbkcoaaDoorRwU
import Derived.Test.YtfkimemagbkcoaaDoorRowW
set_option linter.unusedVariables false
set_option linter.unusedSimpArgs false
namespace Go.Proofs.YtfkimemagbkcoaaDoor
open Go.RowKit Go.Lib Go.Proofs

theorem ok_rows {ds : List Cd} (h : ∀ d ∈ ds, chkR d.2 = 0) : ∀ d ∈ ds, d.2.length ≤ 1099511627776 ∧ szR d.2 ≤ 70368744177664 ∧ ∀ x ∈ d.2, chk x = 0 := by
  intro d hd
  obtain ⟨h1, h2⟩ := chkR_all (h d hd)
  have := szR_small h2
  exact ⟨by omega, by omega, h2⟩
theorem sum_sizes {S r : List Cd} (h : SumOf (S.map cnD) (r.map cnD)) (hn : S.length ≤ 1099511627776) (hl : ∀ d ∈ S, d.2.length ≤ 1099511627776) : r.length ≤ 1099511627776 ∧ ∀ d ∈ r, d.2.length ≤ 1099511627776 := by
  refine ⟨?_, fun d hd => ?_⟩
  · have h1 := h.1.length_eq
    have h2 := List.length_filter_le (fun x : Cn => x.2 != 0) (sumN (S.map cnD))
    have h3 := sum_len (S.map cnD)
    rw [List.length_map] at h1 h3
    omega
  · have h1 := ((mem_sum h).1 (List.mem_map_of_mem hd)).1
    obtain ⟨y, hy, e1⟩ := sum_rows _ _ h1
    obtain ⟨b, hb, rfl⟩ := List.mem_map.1 hy
    show (cnD d).1.length ≤ _
    rw [e1]
    exact hl b hb
/-- Rows that may be. -/
def OkL (ds : List Cd) : Prop := ∀ d ∈ ds, d.2.length ≤ 32 ∧ ∀ x ∈ d.2, Wide x ∧ chk x = 0
theorem OkL.app {a b : List Cd} (h : OkL a) (h' : OkL b) : OkL (a ++ b) := fun d hd => (List.mem_append.1 hd).elim (h d) (h' d)
theorem OkL.okN {ds : List Cd} (h : OkL ds) : OkN (ds.map cnD) := by
  intro x hx d hd
  obtain ⟨y, hy, rfl⟩ := List.mem_map.1 hx
  exact (h y hy).2 d hd
theorem OkL.sum {S r : List Cd} (h : OkL S) (hs : SumOf (S.map cnD) (r.map cnD)) : OkL r := by
  intro d hd
  have h1 := ((mem_sum hs).1 (List.mem_map_of_mem hd)).1
  obtain ⟨y, hy, e1⟩ := sum_rows _ _ h1
  obtain ⟨b, hb, rfl⟩ := List.mem_map.1 hy
  have e2 : d.2 = b.2 := e1
  rw [e2]
  exact h b hb
theorem okN_rows {ds : List Cd} (h : OkL ds) : ∀ d ∈ ds, d.2.length ≤ 1099511627776 ∧ (∀ x ∈ d.2, Wide x) ∧ szR d.2 ≤ 70368744177664 := by
  intro d hd
  obtain ⟨h1, h2⟩ := h d hd
  have := szR_small (fun x hx => (h2 x hx).2)
  exact ⟨by omega, fun x hx => (h2 x hx).1, by omega⟩
theorem sum_sizes2 {S r : List Cd} (h : SumOf (S.map cnD) (r.map cnD)) {n : Nat} (hn : S.length ≤ n) : r.length ≤ n := by
  have h1 := h.1.length_eq
  have h2 := List.length_filter_le (fun x : Cn => x.2 != 0) (sumN (S.map cnD))
  have h3 := sum_len (S.map cnD)
  rw [List.length_map] at h1 h3
  omega
theorem okN_of {ds : List Cd} (hw : ∀ d ∈ ds, ∀ x ∈ d.2, Wide x) (hc : ∀ d ∈ ds, ∀ x ∈ d.2, chk x = 0) : OkN (ds.map cnD) := by
  intro x hx d hd
  obtain ⟨y, hy, rfl⟩ := List.mem_map.1 hx
  exact ⟨hw y hy d hd, hc y hy d hd⟩
theorem FreshD.others {B : Nat} {w w' : World} {d : Cd} (h : FreshD B w d) (ho : OthersKept 45 none w w') : FreshD B w' d := by
  obtain ⟨gd, h1, h2, h3, h4, h5⟩ := h
  exact ⟨gd, h1, h2, h3, h4, h5.others ho (by decide)⟩
theorem turn_at (fr : Int) {N : Nat} (h : 0 < N) (hN : N ≤ 9223372036854775807) : ∃ kt : Nat, wrap64 ((IntKind.u64.wrap fr).tmod (N : Int)) = (kt : Int) ∧ kt < N := by
  have h0 : 0 ≤ IntKind.u64.wrap fr := by
    simp only [IntKind.wrap, IntKind.bits, IntKind.signed]
    simp
    omega
  have h1 := Int.tmod_nonneg (N : Int) h0
  have h2 := Int.tmod_lt_of_pos (IntKind.u64.wrap fr) (show (0 : Int) < (N : Int) by omega)
  refine ⟨((IntKind.u64.wrap fr).tmod (N : Int)).toNat, ?_, by omega⟩
  rw [Go.IntWalk.wrap64_in _ (by omega)]
  omega
theorem sum_nz {l : List Cn} {r : List Cd} (h : SumOf l (r.map cnD)) {d : Cd} (hd : d ∈ r) : d.1.n ≠ 0 := ((mem_sum h).1 (List.mem_map_of_mem hd)).2
theorem sum_inc {l : List Cn} {r : List Cd} (h : SumOf l (r.map cnD)) {q : Nat} {y d : Cd} (hy : r[q]? = some y) (hd : r[q + 1]? = some d) : cmpR y.2 d.2 = -1 := by
  have h1 := List.pairwise_iff_getElem.1 h.2
  obtain ⟨h2, e2⟩ := List.getElem?_eq_some_iff.1 hy
  obtain ⟨h3, e3⟩ := List.getElem?_eq_some_iff.1 hd
  have := h1 q (q + 1) (by simpa using h2) (by simpa using h3) (by omega)
  rw [List.getElem_map, List.getElem_map, e2, e3] at this
  exact this
set_option maxHeartbeats 8000000 in
set_option maxRecDepth 1000000 in
theorem rowOnce_any (vl vm : Value) (ds es : List Cd) (fr : Int) (w : World) (hT : Tab8 w) (h : CtsV w vl ds) (h' : CtsV w vm es) (hk : ∀ d ∈ ds, (∀ x ∈ d.2, Wide x ∧ x.s.size ≤ 9223372036854775807) ∧ S64 d.1.n) (hk' : ∀ d ∈ es, (∀ x ∈ d.2, Wide x ∧ x.s.size ≤ 9223372036854775807) ∧ S64 d.1.n) (hfr : -9223372036854775808 ≤ fr ∧ fr ≤ 9223372036854775807) :
    Calls Tryd.prog 5 #[vl, vm, .int .i64 fr] w fun e w' => e = .returned (.bool true) ∧ Below w.heap.size w w' := by
  obtain ⟨A, ca, rfl, hla⟩ := h.form
  obtain ⟨B, cb, rfl, hlb⟩ := h'.form
  obtain ⟨kl, hkl⟩ : ∃ k, min ds.length 300 = k := ⟨_, rfl⟩
  obtain ⟨km, hkm⟩ : ∃ k, min es.length 300 = k := ⟨_, rfl⟩
  have hkl1 : kl ≤ ds.length := by omega
  have hkm1 : km ≤ es.length := by omega
  have hkl3 : kl ≤ 300 := by omega
  have hkm3 : km ≤ 300 := by omega
  have hca : kl ≤ ca := by
    obtain ⟨⟨-, _, _, e, h1, -⟩, -⟩ := h
    cases e
    omega
  have hcb : km ≤ cb := by
    obtain ⟨⟨-, _, _, e, h1, -⟩, -⟩ := h'
    cases e
    omega
  have hml1 : (if (ds.length : Int) ≤ 300 then (ds.length : Int) else 300) = (kl : Int) := by split <;> omega
  have hml2 : min (ds.length : Int) 300 = (kl : Int) := by omega
  have hmm1 : (if (es.length : Int) ≤ 300 then (es.length : Int) else 300) = (km : Int) := by split <;> omega
  have hmm2 : min (es.length : Int) 300 = (km : Int) := by omega
  obtain ⟨ls, hls⟩ : ∃ ls, ds.take kl = ls := ⟨_, rfl⟩
  obtain ⟨ms, hms⟩ : ∃ ms, es.take km = ms := ⟨_, rfl⟩
  have hlsl := Lib.hid (show ls.length = kl by rw [← hls, List.length_take]; omega)
  have hmsl := Lib.hid (show ms.length = km by rw [← hms, List.length_take]; omega)
  have hlk := Lib.hid (show ∀ d ∈ ls, (∀ x ∈ d.2, Wide x ∧ x.s.size ≤ 9223372036854775807) ∧ S64 d.1.n from fun d hd => hk d (List.mem_of_mem_take (hls ▸ hd)))
  have hmk := Lib.hid (show ∀ d ∈ ms, (∀ x ∈ d.2, Wide x ∧ x.s.size ≤ 9223372036854775807) ∧ S64 d.1.n from fun d hd => hk' d (List.mem_of_mem_take (hms ▸ hd)))
  have hl := Lib.hid (show CtsV w (.slice A kl ca) ls from hls ▸ h.front hkl1)
  have hm := Lib.hid (show CtsV w (.slice B km cb) ms from hms ▸ h'.front hkm1)
  have hTH := Lib.hid hT
  have hbw := Lib.hid (Below.refl w.heap.size w)
  clear h h' hk hk' hls hms hT hkl hkm
  go_enter Tryd.func5, Tryd.ntmps5
  go_wp2_with fail
  refine (plain_any _ ls w hl.out hTH.out (fun d hd x hx => ((hlk.out d hd).1 x hx).2)).mono ?_
  rintro e_ w1 ⟨h1_ | rfl, hq_⟩
  rotate_left
  · have hc_ : Below w.heap.size w w1 := hq_
    replace hl := Lib.hid (hl.out.below hc_)
    replace hm := Lib.hid (hm.out.below hc_)
    replace hTH := Lib.hid (hTH.out.below hc_)
    replace hbw := Lib.hid (hbw.out.trans (hc_.mono hbw.out.size))
    clear hc_
    clear hq_
    go_wp2_with fail
    refine (known_any _).mono ?_
    rintro e_ wk ⟨rfl, hq_⟩
    have hc_ : Below w1.heap.size w1 wk := hq_
    replace hl := Lib.hid (hl.out.below hc_)
    replace hm := Lib.hid (hm.out.below hc_)
    replace hTH := Lib.hid (hTH.out.below hc_)
    replace hbw := Lib.hid (hbw.out.trans (hc_.mono hbw.out.size))
    clear hc_
    clear hq_
    go_wp2_with fail
    go_ret
    exact ⟨rfl, hbw.out⟩
  obtain ⟨rfl, hokl⟩ := h1_
  have hc_ : Below w.heap.size w w1 := hq_
  replace hl := Lib.hid (hl.out.below hc_)
  replace hm := Lib.hid (hm.out.below hc_)
  replace hTH := Lib.hid (hTH.out.below hc_)
  replace hbw := Lib.hid (hbw.out.trans (hc_.mono hbw.out.size))
  clear hc_
  clear hq_
  have hoklH := Lib.hid hokl
  clear hokl
  go_wp2_with fail
  refine (plain_any _ ms w1 hm.out hTH.out (fun d hd x hx => ((hmk.out d hd).1 x hx).2)).mono ?_
  rintro e_ w2 ⟨h1_ | rfl, hq_⟩
  rotate_left
  · have hc_ : Below w1.heap.size w1 w2 := hq_
    replace hl := Lib.hid (hl.out.below hc_)
    replace hm := Lib.hid (hm.out.below hc_)
    replace hTH := Lib.hid (hTH.out.below hc_)
    replace hbw := Lib.hid (hbw.out.trans (hc_.mono hbw.out.size))
    clear hc_
    clear hq_
    go_wp2_with fail
    refine (known_any _).mono ?_
    rintro e_ wk ⟨rfl, hq_⟩
    have hc_ : Below w2.heap.size w2 wk := hq_
    replace hl := Lib.hid (hl.out.below hc_)
    replace hm := Lib.hid (hm.out.below hc_)
    replace hTH := Lib.hid (hTH.out.below hc_)
    replace hbw := Lib.hid (hbw.out.trans (hc_.mono hbw.out.size))
    clear hc_
    clear hq_
    go_wp2_with fail
    go_ret
    exact ⟨rfl, hbw.out⟩
  obtain ⟨rfl, hokm⟩ := h1_
  have hc_ : Below w1.heap.size w1 w2 := hq_
  replace hl := Lib.hid (hl.out.below hc_)
  replace hm := Lib.hid (hm.out.below hc_)
  replace hTH := Lib.hid (hTH.out.below hc_)
  replace hbw := Lib.hid (hbw.out.trans (hc_.mono hbw.out.size))
  clear hc_
  clear hq_
  have hokmH := Lib.hid hokm
  clear hokm
  have hno := Lib.hid (ok_rows (show ∀ d ∈ ls ++ ms, chkR d.2 = 0 from fun d hd => (List.mem_append.1 hd).elim (hoklH.out d) (hokmH.out d)))
  have hwo := Lib.hid (show ∀ d ∈ ls ++ ms, ∀ x ∈ d.2, Wide x from fun d hd x hx => (List.mem_append.1 hd).elim (fun h => ((hlk.out d h).1 x hx).1) (fun h => ((hmk.out d h).1 x hx).1))
  have hS32 := Lib.hid (show ∀ d ∈ ls ++ ms, d.2.length ≤ 32 from fun d hd => (List.mem_append.1 hd).elim (fun h => (chkR_all (hoklH.out d h)).1) (fun h => (chkR_all (hokmH.out d h)).1))
  have hokN := Lib.hid (show OkN ((ls ++ ms).map cnD) from fun x hx d hd => by
    obtain ⟨y, hy, rfl⟩ := List.mem_map.1 hx
    exact ⟨hwo.out y hy d hd, (hno.out y hy).2.2 d hd⟩)
  have hou := Lib.hid (show OwnKC w2.heap.size (.slice none 0 0) [] w2 w2 from OwnK.start (World.ownsRow_nil _ _ _ _) (Nat.le_refl _))
  go_upto_region 7 with (at_builtin; refine wpList_ctsK rfl _ _ rfl w2.heap.size _ [] w2 w2 _ ls hou.out rfl rfl (by first | exact hl.out | (go_simp; exact hl.out)) (by have := hlsl.out; simp; omega) ?_; intro va wa hqa; have hoa := Lib.hid (show OwnKC w2.heap.size va ls w2 wa from hqa); clear hqa)
  obtain ⟨AA, ac, rfl⟩ := hoa.out.formN (n := kl) hlsl.out
  have hma := Lib.hid (hm.out.below hoa.out.2.1)
  go_upto_region 8 with (at_builtin; refine wpList_ctsK rfl _ _ rfl w2.heap.size _ ls w2 wa _ ms hoa.out rfl rfl (by first | exact hma.out | (go_simp; exact hma.out)) (by have := hlsl.out; have := hmsl.out; omega) ?_; intro vb wb hqb; have hob := Lib.hid hqb; clear hqb)
  obtain ⟨S, hS⟩ : ∃ S, ls ++ ms = S := ⟨_, rfl⟩
  have hSl := Lib.hid (show S.length = kl + km by rw [← hS, List.length_append, hlsl.out, hmsl.out])
  have hSH := Lib.hid hS
  rw [hS] at hno hwo hokN hob
  clear hS
  have hc_ : Below w2.heap.size w2 wb := hob.out.2.1
  replace hl := Lib.hid (hl.out.below hc_)
  replace hm := Lib.hid (hm.out.below hc_)
  replace hTH := Lib.hid (hTH.out.below hc_)
  replace hbw := Lib.hid (hbw.out.trans (hc_.mono hbw.out.size))
  clear hc_
  obtain ⟨N, hN⟩ : ∃ N, kl + km = N := ⟨_, rfl⟩
  have hN6 : N ≤ 600 := by omega
  rw [hN] at hSl
  obtain ⟨AB, cB, rfl⟩ := hob.out.formN (n := N) hSl.out
  clear hN hma hoa hou
  have hall := Lib.hid (show CtsV wb (.slice AB N cB) S from OwnKC.cts hob.out (fun d hd => (List.mem_append.1 (hSH.out.symm ▸ hd)).elim (hl.out.2 d) (hm.out.2 d)))
  go_wp2_with fail
  refine (sumAny_any _ S wb hall.out (by rw [hSl.out]; omega) (fun d hd => (hno.out d hd).1) hwo.out (fun d hd => (hno.out d hd).2.1)).mono ?_
  rintro e_ w4 ⟨v4, r4, rfl, hso_, ho_, hf_, hq_⟩
  have so4 := Lib.hid hso_; have fl4 := Lib.hid hf_; have ow4 := Lib.hid ho_
  clear hso_ hf_ ho_
  have hc_ : Below wb.heap.size wb w4 := hq_
  replace hl := Lib.hid (hl.out.below hc_)
  replace hm := Lib.hid (hm.out.below hc_)
  replace hTH := Lib.hid (hTH.out.below hc_)
  replace hall := Lib.hid (hall.out.below hc_)
  replace hbw := Lib.hid (hbw.out.trans (hc_.mono hbw.out.size))
  clear hc_
  have hs := Lib.hid (show CtsV w4 v4 r4 from ⟨own_slV ow4.out, fun d hd => (fl4.out.1 d hd).rowV⟩)
  clear hq_ fl4 ow4
  obtain ⟨A4, c4, rfl, hl4⟩ := hs.out.form
  have hr4n := Lib.hid (show r4.length ≤ 1099511627776 ∧ ∀ d ∈ r4, d.2.length ≤ 1099511627776 from sum_sizes so4.out (by rw [hSl.out]; omega) (fun d hd => (hno.out d hd).1))
  have hr4b := hr4n.out.1
  go_wp2_with fail
  go_loopw [9] (fun s9 wr => RelY r4.length w4 s9 wr) (fun s9 _ => r4.length - (Go.RowKit.intOf s9).toNat)
  case atStart => exact ⟨0, by omega, rfl, Below.refl _ _⟩
  case round =>
    unfold RelY at hrel
    obtain ⟨p, hp, rfl, hb_⟩ := hrel
    have hbr := Lib.hid hb_
    clear hb_
    by_cases hlt : p < r4.length
    · obtain ⟨d, hd⟩ : ∃ d, r4[p]? = some d := ⟨_, List.getElem?_eq_getElem hlt⟩
      obtain ⟨ad, rfl, hba, a0_, a1_⟩ := (hs.out.below hbr.out).at hd
      have hnz : (d.1.n == 0) = false := by simpa using sum_nz so4.out (List.mem_of_getElem? hd)
      have hdH := Lib.hid hd
      have hrd := Lib.hid ((hs.out.2 d (List.mem_of_getElem? hd)).below hbr.out)
      have hltH := Lib.hid hlt
      clear hd
      cases p with
      | zero =>
        obtain ⟨⟨dA, dk, dc, n⟩, l⟩ := d
        simp only [valD] at a0_ a1_ hnz
        simp only [Nat.zero_mul, add_zero] at a0_ a1_
        go_wp2_with fail
        refine wp_region_noPanic ?_
        refine wp_region_held_drew (S := (fun w' => w'.cell? ⟨ad.block, ad.off + 1, none⟩ = some (.int .i64 n))) (by kernel_rfl) (a1_) (fun hHeld => ?_)
        refine' wpAnyH_take (i := 0) (v := ?v0x1) ?hi0x1 ?hs0x1 ?hf0x1 ?hr0x1 ?hQ0x1 ?hy0x1 ?hS0x1 ?rest0x1
        case hi0x1 => (simp only [List.getElem?_toArray, List.getElem?_cons_succ, List.getElem?_cons_zero]; try rfl)
        case hs0x1 => kernel_rfl
        case hf0x1 => kernel_rfl
        case hr0x1 => kernel_rfl
        case hQ0x1 => exact fun _ _ _ h => h
        case hy0x1 => first | exact Or.inl ⟨by rfl, by (intro w hSw; (try dsimp only at hSw); go_simp; try rfl)⟩ | exact Or.inr ⟨by rfl, rfl⟩
        case hS0x1 => assumption
        (try simp only [Act.put, List.setIfInBounds_toArray, List.set_cons_zero, List.set_cons_succ])
        refine' wpAnyH_take (i := 1) (v := ?v1x2) ?hi1x2 ?hs1x2 ?hf1x2 ?hr1x2 ?hQ1x2 ?hy1x2 ?hS1x2 ?rest1x2
        case hi1x2 => (simp only [List.getElem?_toArray, List.getElem?_cons_succ, List.getElem?_cons_zero]; try rfl)
        case hs1x2 => kernel_rfl
        case hf1x2 => kernel_rfl
        case hr1x2 => kernel_rfl
        case hQ1x2 => exact fun _ _ _ h => h
        case hy1x2 => first | exact Or.inl ⟨by rfl, by (intro w hSw; (try dsimp only at hSw); go_simp; try rfl)⟩ | exact Or.inr ⟨by rfl, rfl⟩
        case hS1x2 => assumption
        (try simp only [Act.put, List.setIfInBounds_toArray, List.set_cons_zero, List.set_cons_succ])
        refine' wpAnyH_take (i := 2) (v := ?v2x3) ?hi2x3 ?hs2x3 ?hf2x3 ?hr2x3 ?hQ2x3 ?hy2x3 ?hS2x3 ?rest2x3
        case hi2x3 => (simp only [List.getElem?_toArray, List.getElem?_cons_succ, List.getElem?_cons_zero]; try rfl)
        case hs2x3 => kernel_rfl
        case hf2x3 => kernel_rfl
        case hr2x3 => kernel_rfl
        case hQ2x3 => exact fun _ _ _ h => h
        case hy2x3 => first | exact Or.inl ⟨by rfl, by (intro w hSw; (try dsimp only at hSw); go_simp; try rfl)⟩ | exact Or.inr ⟨by rfl, rfl⟩
        case hS2x3 => assumption
        (try simp only [Act.put, List.setIfInBounds_toArray, List.set_cons_zero, List.set_cons_succ])
        refine' wpAnyH_take (i := 3) (v := ?v3x4) ?hi3x4 ?hs3x4 ?hf3x4 ?hr3x4 ?hQ3x4 ?hy3x4 ?hS3x4 ?rest3x4
        case hi3x4 => (simp only [List.getElem?_toArray, List.getElem?_cons_succ, List.getElem?_cons_zero]; try rfl)
        case hs3x4 => kernel_rfl
        case hf3x4 => kernel_rfl
        case hr3x4 => kernel_rfl
        case hQ3x4 => exact fun _ _ _ h => h
        case hy3x4 => first | exact Or.inl ⟨by rfl, by (intro w hSw; (try dsimp only at hSw); go_simp; try rfl)⟩ | exact Or.inr ⟨by rfl, rfl⟩
        case hS3x4 => assumption
        (try simp only [Act.put, List.setIfInBounds_toArray, List.set_cons_zero, List.set_cons_succ])
        refine' wpAnyH_take (i := 4) (v := ?v4x5) ?hi4x5 ?hs4x5 ?hf4x5 ?hr4x5 ?hQ4x5 ?hy4x5 ?hS4x5 ?rest4x5
        case hi4x5 => (simp only [List.getElem?_toArray, List.getElem?_cons_succ, List.getElem?_cons_zero]; try rfl)
        case hs4x5 => kernel_rfl
        case hf4x5 => kernel_rfl
        case hr4x5 => kernel_rfl
        case hQ4x5 => exact fun _ _ _ h => h
        case hy4x5 => first | exact Or.inl ⟨by rfl, by (intro w hSw; (try dsimp only at hSw); go_simp; try rfl)⟩ | exact Or.inr ⟨by rfl, rfl⟩
        case hS4x5 => assumption
        (try simp only [Act.put, List.setIfInBounds_toArray, List.set_cons_zero, List.set_cons_succ])
        refine' wpAnyH_take (i := 5) (v := ?v5x6) ?hi5x6 ?hs5x6 ?hf5x6 ?hr5x6 ?hQ5x6 ?hy5x6 ?hS5x6 ?rest5x6
        case hi5x6 => (simp only [List.getElem?_toArray, List.getElem?_cons_succ, List.getElem?_cons_zero]; try rfl)
        case hs5x6 => kernel_rfl
        case hf5x6 => kernel_rfl
        case hr5x6 => kernel_rfl
        case hQ5x6 => exact fun _ _ _ h => h
        case hy5x6 => first | exact Or.inl ⟨by rfl, by (intro w hSw; (try dsimp only at hSw); go_simp; try rfl)⟩ | exact Or.inr ⟨by rfl, rfl⟩
        case hS5x6 => assumption
        (try simp only [Act.put, List.setIfInBounds_toArray, List.set_cons_zero, List.set_cons_succ])
        refine' wpAnyH_take (i := 6) (v := ?v6x7) ?hi6x7 ?hs6x7 ?hf6x7 ?hr6x7 ?hQ6x7 ?hy6x7 ?hS6x7 ?rest6x7
        case hi6x7 => (simp only [List.getElem?_toArray, List.getElem?_cons_succ, List.getElem?_cons_zero]; try rfl)
        case hs6x7 => kernel_rfl
        case hf6x7 => kernel_rfl
        case hr6x7 => kernel_rfl
        case hQ6x7 => exact fun _ _ _ h => h
        case hy6x7 => first | exact Or.inl ⟨by rfl, by (intro w hSw; (try dsimp only at hSw); go_simp; try rfl)⟩ | exact Or.inr ⟨by rfl, rfl⟩
        case hS6x7 => assumption
        (try simp only [Act.put, List.setIfInBounds_toArray, List.set_cons_zero, List.set_cons_succ])
        refine' wpAnyH_take (i := 7) (v := ?v7x8) ?hi7x8 ?hs7x8 ?hf7x8 ?hr7x8 ?hQ7x8 ?hy7x8 ?hS7x8 ?rest7x8
        case hi7x8 => (simp only [List.getElem?_toArray, List.getElem?_cons_succ, List.getElem?_cons_zero]; try rfl)
        case hs7x8 => kernel_rfl
        case hf7x8 => kernel_rfl
        case hr7x8 => kernel_rfl
        case hQ7x8 => exact fun _ _ _ h => h
        case hy7x8 => first | exact Or.inl ⟨by rfl, by (intro w hSw; (try dsimp only at hSw); go_simp; try rfl)⟩ | exact Or.inr ⟨by rfl, rfl⟩
        case hS7x8 => assumption
        (try simp only [Act.put, List.setIfInBounds_toArray, List.set_cons_zero, List.set_cons_succ])
        refine' wpAnyH_take (i := 8) (v := ?v8x9) ?hi8x9 ?hs8x9 ?hf8x9 ?hr8x9 ?hQ8x9 ?hy8x9 ?hS8x9 ?rest8x9
        case hi8x9 => (simp only [List.getElem?_toArray, List.getElem?_cons_succ, List.getElem?_cons_zero]; try rfl)
        case hs8x9 => kernel_rfl
        case hf8x9 => kernel_rfl
        case hr8x9 => kernel_rfl
        case hQ8x9 => exact fun _ _ _ h => h
        case hy8x9 => first | exact Or.inl ⟨by rfl, by (intro w hSw; (try dsimp only at hSw); go_simp; try rfl)⟩ | exact Or.inr ⟨by rfl, rfl⟩
        case hS8x9 => assumption
        (try simp only [Act.put, List.setIfInBounds_toArray, List.set_cons_zero, List.set_cons_succ])
        refine' wpAnyH_take (i := 9) (v := ?v9x10) ?hi9x10 ?hs9x10 ?hf9x10 ?hr9x10 ?hQ9x10 ?hy9x10 ?hS9x10 ?rest9x10
        case hi9x10 => (simp only [List.getElem?_toArray, List.getElem?_cons_succ, List.getElem?_cons_zero]; try rfl)
        case hs9x10 => kernel_rfl
        case hf9x10 => kernel_rfl
        case hr9x10 => kernel_rfl
        case hQ9x10 => exact fun _ _ _ h => h
        case hy9x10 => first | exact Or.inl ⟨by rfl, by (intro w hSw; (try dsimp only at hSw); go_simp; try rfl)⟩ | exact Or.inr ⟨by rfl, rfl⟩
        case hS9x10 => assumption
        (try simp only [Act.put, List.setIfInBounds_toArray, List.set_cons_zero, List.set_cons_succ])
        refine' wpAnyH_take (i := 10) (v := undef) ?hi10x11 ?hs10x11 ?hf10x11 ?hr10x11 ?hQ10x11 ?hy10x11 ?hS10x11 ?rest10x11
        case hi10x11 => (simp only [List.getElem?_toArray, List.getElem?_cons_succ, List.getElem?_cons_zero]; try rfl)
        case hs10x11 => kernel_rfl
        case hf10x11 => kernel_rfl
        case hr10x11 => kernel_rfl
        case hQ10x11 => exact fun _ _ _ h => h
        case hy10x11 => first | exact Or.inl ⟨by rfl, by (intro w hSw; (try dsimp only at hSw); go_simp; try rfl)⟩ | exact Or.inr ⟨by rfl, rfl⟩
        case hS10x11 => assumption
        (try simp only [Act.put, List.setIfInBounds_toArray, List.set_cons_zero, List.set_cons_succ])
        refine' wpAnyH_take (i := 11) (v := undef) ?hi11x12 ?hs11x12 ?hf11x12 ?hr11x12 ?hQ11x12 ?hy11x12 ?hS11x12 ?rest11x12
        case hi11x12 => (simp only [List.getElem?_toArray, List.getElem?_cons_succ, List.getElem?_cons_zero]; try rfl)
        case hs11x12 => kernel_rfl
        case hf11x12 => kernel_rfl
        case hr11x12 => kernel_rfl
        case hQ11x12 => exact fun _ _ _ h => h
        case hy11x12 => first | exact Or.inl ⟨by rfl, by (intro w hSw; (try dsimp only at hSw); go_simp; try rfl)⟩ | exact Or.inr ⟨by rfl, rfl⟩
        case hS11x12 => assumption
        (try simp only [Act.put, List.setIfInBounds_toArray, List.set_cons_zero, List.set_cons_succ])
        refine' wpAnyH_take (i := 12) (v := undef) ?hi12x13 ?hs12x13 ?hf12x13 ?hr12x13 ?hQ12x13 ?hy12x13 ?hS12x13 ?rest12x13
        case hi12x13 => (simp only [List.getElem?_toArray, List.getElem?_cons_succ, List.getElem?_cons_zero]; try rfl)
        case hs12x13 => kernel_rfl
        case hf12x13 => kernel_rfl
        case hr12x13 => kernel_rfl
        case hQ12x13 => exact fun _ _ _ h => h
        case hy12x13 => first | exact Or.inl ⟨by rfl, by (intro w hSw; (try dsimp only at hSw); go_simp; try rfl)⟩ | exact Or.inr ⟨by rfl, rfl⟩
        case hS12x13 => assumption
        (try simp only [Act.put, List.setIfInBounds_toArray, List.set_cons_zero, List.set_cons_succ])
        refine' wpAnyH_take (i := 13) (v := undef) ?hi13x14 ?hs13x14 ?hf13x14 ?hr13x14 ?hQ13x14 ?hy13x14 ?hS13x14 ?rest13x14
        case hi13x14 => (simp only [List.getElem?_toArray, List.getElem?_cons_succ, List.getElem?_cons_zero]; try rfl)
        case hs13x14 => kernel_rfl
        case hf13x14 => kernel_rfl
        case hr13x14 => kernel_rfl
        case hQ13x14 => exact fun _ _ _ h => h
        case hy13x14 => first | exact Or.inl ⟨by rfl, by (intro w hSw; (try dsimp only at hSw); go_simp; try rfl)⟩ | exact Or.inr ⟨by rfl, rfl⟩
        case hS13x14 => assumption
        (try simp only [Act.put, List.setIfInBounds_toArray, List.set_cons_zero, List.set_cons_succ])
        refine' wpAnyH_take (i := 14) (v := undef) ?hi14x15 ?hs14x15 ?hf14x15 ?hr14x15 ?hQ14x15 ?hy14x15 ?hS14x15 ?rest14x15
        case hi14x15 => (simp only [List.getElem?_toArray, List.getElem?_cons_succ, List.getElem?_cons_zero]; try rfl)
        case hs14x15 => kernel_rfl
        case hf14x15 => kernel_rfl
        case hr14x15 => kernel_rfl
        case hQ14x15 => exact fun _ _ _ h => h
        case hy14x15 => first | exact Or.inl ⟨by rfl, by (intro w hSw; (try dsimp only at hSw); go_simp; try rfl)⟩ | exact Or.inr ⟨by rfl, rfl⟩
        case hS14x15 => assumption
        (try simp only [Act.put, List.setIfInBounds_toArray, List.set_cons_zero, List.set_cons_succ])
        refine' wpAnyH_take (i := 15) (v := undef) ?hi15x16 ?hs15x16 ?hf15x16 ?hr15x16 ?hQ15x16 ?hy15x16 ?hS15x16 ?rest15x16
        case hi15x16 => (simp only [List.getElem?_toArray, List.getElem?_cons_succ, List.getElem?_cons_zero]; try rfl)
        case hs15x16 => kernel_rfl
        case hf15x16 => kernel_rfl
        case hr15x16 => kernel_rfl
        case hQ15x16 => exact fun _ _ _ h => h
        case hy15x16 => first | exact Or.inl ⟨by rfl, by (intro w hSw; (try dsimp only at hSw); go_simp; try rfl)⟩ | exact Or.inr ⟨by rfl, rfl⟩
        case hS15x16 => assumption
        (try simp only [Act.put, List.setIfInBounds_toArray, List.set_cons_zero, List.set_cons_succ])
        refine' wpAnyH_take (i := 16) (v := undef) ?hi16x17 ?hs16x17 ?hf16x17 ?hr16x17 ?hQ16x17 ?hy16x17 ?hS16x17 ?rest16x17
        case hi16x17 => (simp only [List.getElem?_toArray, List.getElem?_cons_succ, List.getElem?_cons_zero]; try rfl)
        case hs16x17 => kernel_rfl
        case hf16x17 => kernel_rfl
        case hr16x17 => kernel_rfl
        case hQ16x17 => exact fun _ _ _ h => h
        case hy16x17 => first | exact Or.inl ⟨by rfl, by (intro w hSw; (try dsimp only at hSw); go_simp; try rfl)⟩ | exact Or.inr ⟨by rfl, rfl⟩
        case hS16x17 => assumption
        (try simp only [Act.put, List.setIfInBounds_toArray, List.set_cons_zero, List.set_cons_succ])
        refine' wpAnyH_take (i := 17) (v := undef) ?hi17x18 ?hs17x18 ?hf17x18 ?hr17x18 ?hQ17x18 ?hy17x18 ?hS17x18 ?rest17x18
        case hi17x18 => (simp only [List.getElem?_toArray, List.getElem?_cons_succ, List.getElem?_cons_zero]; try rfl)
        case hs17x18 => kernel_rfl
        case hf17x18 => kernel_rfl
        case hr17x18 => kernel_rfl
        case hQ17x18 => exact fun _ _ _ h => h
        case hy17x18 => first | exact Or.inl ⟨by rfl, by (intro w hSw; (try dsimp only at hSw); go_simp; try rfl)⟩ | exact Or.inr ⟨by rfl, rfl⟩
        case hS17x18 => assumption
        (try simp only [Act.put, List.setIfInBounds_toArray, List.set_cons_zero, List.set_cons_succ])
        refine' wpAnyH_take (i := 18) (v := undef) ?hi18x19 ?hs18x19 ?hf18x19 ?hr18x19 ?hQ18x19 ?hy18x19 ?hS18x19 ?rest18x19
        case hi18x19 => (simp only [List.getElem?_toArray, List.getElem?_cons_succ, List.getElem?_cons_zero]; try rfl)
        case hs18x19 => kernel_rfl
        case hf18x19 => kernel_rfl
        case hr18x19 => kernel_rfl
        case hQ18x19 => exact fun _ _ _ h => h
        case hy18x19 => first | exact Or.inl ⟨by rfl, by (intro w hSw; (try dsimp only at hSw); go_simp; try rfl)⟩ | exact Or.inr ⟨by rfl, rfl⟩
        case hS18x19 => assumption
        (try simp only [Act.put, List.setIfInBounds_toArray, List.set_cons_zero, List.set_cons_succ])
        refine' wpAnyH_take (i := 19) (v := undef) ?hi19x20 ?hs19x20 ?hf19x20 ?hr19x20 ?hQ19x20 ?hy19x20 ?hS19x20 ?rest19x20
        case hi19x20 => (simp only [List.getElem?_toArray, List.getElem?_cons_succ, List.getElem?_cons_zero]; try rfl)
        case hs19x20 => kernel_rfl
        case hf19x20 => kernel_rfl
        case hr19x20 => kernel_rfl
        case hQ19x20 => exact fun _ _ _ h => h
        case hy19x20 => first | exact Or.inl ⟨by rfl, by (intro w hSw; (try dsimp only at hSw); go_simp; try rfl)⟩ | exact Or.inr ⟨by rfl, rfl⟩
        case hS19x20 => assumption
        (try simp only [Act.put, List.setIfInBounds_toArray, List.set_cons_zero, List.set_cons_succ])
        refine' wpAnyH_take (i := 20) (v := undef) ?hi20x21 ?hs20x21 ?hf20x21 ?hr20x21 ?hQ20x21 ?hy20x21 ?hS20x21 ?rest20x21
        case hi20x21 => (simp only [List.getElem?_toArray, List.getElem?_cons_succ, List.getElem?_cons_zero]; try rfl)
        case hs20x21 => kernel_rfl
        case hf20x21 => kernel_rfl
        case hr20x21 => kernel_rfl
        case hQ20x21 => exact fun _ _ _ h => h
        case hy20x21 => first | exact Or.inl ⟨by rfl, by (intro w hSw; (try dsimp only at hSw); go_simp; try rfl)⟩ | exact Or.inr ⟨by rfl, rfl⟩
        case hS20x21 => assumption
        (try simp only [Act.put, List.setIfInBounds_toArray, List.set_cons_zero, List.set_cons_succ])
        refine' wpAnyH_take (i := 21) (v := undef) ?hi21x22 ?hs21x22 ?hf21x22 ?hr21x22 ?hQ21x22 ?hy21x22 ?hS21x22 ?rest21x22
        case hi21x22 => (simp only [List.getElem?_toArray, List.getElem?_cons_succ, List.getElem?_cons_zero]; try rfl)
        case hs21x22 => kernel_rfl
        case hf21x22 => kernel_rfl
        case hr21x22 => kernel_rfl
        case hQ21x22 => exact fun _ _ _ h => h
        case hy21x22 => first | exact Or.inl ⟨by rfl, by (intro w hSw; (try dsimp only at hSw); go_simp; try rfl)⟩ | exact Or.inr ⟨by rfl, rfl⟩
        case hS21x22 => assumption
        (try simp only [Act.put, List.setIfInBounds_toArray, List.set_cons_zero, List.set_cons_succ])
        refine' wpAnyH_take (i := 22) (v := undef) ?hi22x23 ?hs22x23 ?hf22x23 ?hr22x23 ?hQ22x23 ?hy22x23 ?hS22x23 ?rest22x23
        case hi22x23 => (simp only [List.getElem?_toArray, List.getElem?_cons_succ, List.getElem?_cons_zero]; try rfl)
        case hs22x23 => kernel_rfl
        case hf22x23 => kernel_rfl
        case hr22x23 => kernel_rfl
        case hQ22x23 => exact fun _ _ _ h => h
        case hy22x23 => first | exact Or.inl ⟨by rfl, by (intro w hSw; (try dsimp only at hSw); go_simp; try rfl)⟩ | exact Or.inr ⟨by rfl, rfl⟩
        case hS22x23 => assumption
        (try simp only [Act.put, List.setIfInBounds_toArray, List.set_cons_zero, List.set_cons_succ])
        refine' wpAnyH_take (i := 23) (v := ?v23x24) ?hi23x24 ?hs23x24 ?hf23x24 ?hr23x24 ?hQ23x24 ?hy23x24 ?hS23x24 ?rest23x24
        case hi23x24 => (simp only [List.getElem?_toArray, List.getElem?_cons_succ, List.getElem?_cons_zero]; try rfl)
        case hs23x24 => kernel_rfl
        case hf23x24 => kernel_rfl
        case hr23x24 => kernel_rfl
        case hQ23x24 => exact fun _ _ _ h => h
        case hy23x24 => first | exact Or.inl ⟨by rfl, by (intro w hSw; (try dsimp only at hSw); go_simp; try rfl)⟩ | exact Or.inr ⟨by rfl, rfl⟩
        case hS23x24 => assumption
        (try simp only [Act.put, List.setIfInBounds_toArray, List.set_cons_zero, List.set_cons_succ])
        refine' wpAnyH_take (i := 24) (v := ?v24x25) ?hi24x25 ?hs24x25 ?hf24x25 ?hr24x25 ?hQ24x25 ?hy24x25 ?hS24x25 ?rest24x25
        case hi24x25 => (simp only [List.getElem?_toArray, List.getElem?_cons_succ, List.getElem?_cons_zero]; try rfl)
        case hs24x25 => kernel_rfl
        case hf24x25 => kernel_rfl
        case hr24x25 => kernel_rfl
        case hQ24x25 => exact fun _ _ _ h => h
        case hy24x25 => first | exact Or.inl ⟨by rfl, by (intro w hSw; (try dsimp only at hSw); go_simp; try rfl)⟩ | exact Or.inr ⟨by rfl, rfl⟩
        case hS24x25 => assumption
        (try simp only [Act.put, List.setIfInBounds_toArray, List.set_cons_zero, List.set_cons_succ])
        refine wpAnyH_done (by kernel_rfl) ?_ _
        refine NoPanic.normal ?_
        go_wp2_with fail
        go_roundw
        case rel => exact ⟨1, hltH.out, rfl, hbr.out.drew⟩
        case measure => have := hltH.out; simp [Go.RowKit.intOf]; omega
      | succ q =>
        obtain ⟨y, hy⟩ : ∃ y, r4[q]? = some y := ⟨_, List.getElem?_eq_getElem (by omega)⟩
        obtain ⟨_, e_, hbb, b0_, b1_⟩ := (hs.out.below hbr.out).at hy
        cases e_
        have hcm := Lib.hid (sum_inc so4.out hy hdH.out)
        have hry := Lib.hid ((hs.out.2 y (List.mem_of_getElem? hy)).below hbr.out)
        clear hy
        have hwq : IntKind.i64.wrap (q : Int) = (q : Int) := by rw [Go.IntWalk.i64_left]; exact Go.IntWalk.wrap64_in _ (by omega)
        have hqr : q < r4.length := by omega
        obtain ⟨⟨dA, dk, dc, n⟩, l⟩ := d
        obtain ⟨⟨yA, yk, yc, yn⟩, ly⟩ := y
        simp only [valD] at a0_ a1_ b0_ b1_ hnz
        go_wp2_with fail
        refine wp_region_noPanic ?_
        refine wp_region_held_drew (S := (fun w' => w'.cell? (ad.add ((q + 1) * 2)) = some (.slice dA dk dc) ∧ w'.cell? ⟨(ad.add ((q + 1) * 2)).block, (ad.add ((q + 1) * 2)).off + 1, none⟩ = some (.int .i64 n) ∧ w'.cell? (ad.add (q * 2)) = some (.slice yA yk yc))) (by kernel_rfl) (⟨a0_, a1_, b0_⟩) (fun hHeld => ?_)
        refine' wpAnyH_take (i := 0) (v := ?v0x26) ?hi0x26 ?hs0x26 ?hf0x26 ?hr0x26 ?hQ0x26 ?hy0x26 ?hS0x26 ?rest0x26
        case hi0x26 => (simp only [List.getElem?_toArray, List.getElem?_cons_succ, List.getElem?_cons_zero]; try rfl)
        case hs0x26 => kernel_rfl
        case hf0x26 => kernel_rfl
        case hr0x26 => kernel_rfl
        case hQ0x26 => exact fun _ _ _ h => h
        case hy0x26 => first | exact Or.inl ⟨by rfl, by (intro w hSw; (try dsimp only at hSw); go_simp; try rfl)⟩ | exact Or.inr ⟨by rfl, rfl⟩
        case hS0x26 => assumption
        (try simp only [Act.put, List.setIfInBounds_toArray, List.set_cons_zero, List.set_cons_succ])
        refine' wpAnyH_take (i := 1) (v := ?v1x27) ?hi1x27 ?hs1x27 ?hf1x27 ?hr1x27 ?hQ1x27 ?hy1x27 ?hS1x27 ?rest1x27
        case hi1x27 => (simp only [List.getElem?_toArray, List.getElem?_cons_succ, List.getElem?_cons_zero]; try rfl)
        case hs1x27 => kernel_rfl
        case hf1x27 => kernel_rfl
        case hr1x27 => kernel_rfl
        case hQ1x27 => exact fun _ _ _ h => h
        case hy1x27 => first | exact Or.inl ⟨by rfl, by (intro w hSw; (try dsimp only at hSw); go_simp; try rfl)⟩ | exact Or.inr ⟨by rfl, rfl⟩
        case hS1x27 => assumption
        (try simp only [Act.put, List.setIfInBounds_toArray, List.set_cons_zero, List.set_cons_succ])
        refine' wpAnyH_take (i := 2) (v := ?v2x28) ?hi2x28 ?hs2x28 ?hf2x28 ?hr2x28 ?hQ2x28 ?hy2x28 ?hS2x28 ?rest2x28
        case hi2x28 => (simp only [List.getElem?_toArray, List.getElem?_cons_succ, List.getElem?_cons_zero]; try rfl)
        case hs2x28 => kernel_rfl
        case hf2x28 => kernel_rfl
        case hr2x28 => kernel_rfl
        case hQ2x28 => exact fun _ _ _ h => h
        case hy2x28 => first | exact Or.inl ⟨by rfl, by (intro w hSw; (try dsimp only at hSw); go_simp; try rfl)⟩ | exact Or.inr ⟨by rfl, rfl⟩
        case hS2x28 => assumption
        (try simp only [Act.put, List.setIfInBounds_toArray, List.set_cons_zero, List.set_cons_succ])
        refine' wpAnyH_take (i := 3) (v := ?v3x29) ?hi3x29 ?hs3x29 ?hf3x29 ?hr3x29 ?hQ3x29 ?hy3x29 ?hS3x29 ?rest3x29
        case hi3x29 => (simp only [List.getElem?_toArray, List.getElem?_cons_succ, List.getElem?_cons_zero]; try rfl)
        case hs3x29 => kernel_rfl
        case hf3x29 => kernel_rfl
        case hr3x29 => kernel_rfl
        case hQ3x29 => exact fun _ _ _ h => h
        case hy3x29 => first | exact Or.inl ⟨by rfl, by (intro w hSw; (try dsimp only at hSw); go_simp; try rfl)⟩ | exact Or.inr ⟨by rfl, rfl⟩
        case hS3x29 => assumption
        (try simp only [Act.put, List.setIfInBounds_toArray, List.set_cons_zero, List.set_cons_succ])
        refine' wpAnyH_take (i := 4) (v := ?v4x30) ?hi4x30 ?hs4x30 ?hf4x30 ?hr4x30 ?hQ4x30 ?hy4x30 ?hS4x30 ?rest4x30
        case hi4x30 => (simp only [List.getElem?_toArray, List.getElem?_cons_succ, List.getElem?_cons_zero]; try rfl)
        case hs4x30 => kernel_rfl
        case hf4x30 => kernel_rfl
        case hr4x30 => kernel_rfl
        case hQ4x30 => exact fun _ _ _ h => h
        case hy4x30 => first | exact Or.inl ⟨by rfl, by (intro w hSw; (try dsimp only at hSw); go_simp; try rfl)⟩ | exact Or.inr ⟨by rfl, rfl⟩
        case hS4x30 => assumption
        (try simp only [Act.put, List.setIfInBounds_toArray, List.set_cons_zero, List.set_cons_succ])
        refine' wpAnyH_take (i := 5) (v := ?v5x31) ?hi5x31 ?hs5x31 ?hf5x31 ?hr5x31 ?hQ5x31 ?hy5x31 ?hS5x31 ?rest5x31
        case hi5x31 => (simp only [List.getElem?_toArray, List.getElem?_cons_succ, List.getElem?_cons_zero]; try rfl)
        case hs5x31 => kernel_rfl
        case hf5x31 => kernel_rfl
        case hr5x31 => kernel_rfl
        case hQ5x31 => exact fun _ _ _ h => h
        case hy5x31 => first | exact Or.inl ⟨by rfl, by (intro w hSw; (try dsimp only at hSw); go_simp; try rfl)⟩ | exact Or.inr ⟨by rfl, rfl⟩
        case hS5x31 => assumption
        (try simp only [Act.put, List.setIfInBounds_toArray, List.set_cons_zero, List.set_cons_succ])
        refine' wpAnyH_take (i := 6) (v := ?v6x32) ?hi6x32 ?hs6x32 ?hf6x32 ?hr6x32 ?hQ6x32 ?hy6x32 ?hS6x32 ?rest6x32
        case hi6x32 => (simp only [List.getElem?_toArray, List.getElem?_cons_succ, List.getElem?_cons_zero]; try rfl)
        case hs6x32 => kernel_rfl
        case hf6x32 => kernel_rfl
        case hr6x32 => kernel_rfl
        case hQ6x32 => exact fun _ _ _ h => h
        case hy6x32 => first | exact Or.inl ⟨by rfl, by (intro w hSw; (try dsimp only at hSw); go_simp; try rfl)⟩ | exact Or.inr ⟨by rfl, rfl⟩
        case hS6x32 => assumption
        (try simp only [Act.put, List.setIfInBounds_toArray, List.set_cons_zero, List.set_cons_succ])
        refine' wpAnyH_take (i := 7) (v := ?v7x33) ?hi7x33 ?hs7x33 ?hf7x33 ?hr7x33 ?hQ7x33 ?hy7x33 ?hS7x33 ?rest7x33
        case hi7x33 => (simp only [List.getElem?_toArray, List.getElem?_cons_succ, List.getElem?_cons_zero]; try rfl)
        case hs7x33 => kernel_rfl
        case hf7x33 => kernel_rfl
        case hr7x33 => kernel_rfl
        case hQ7x33 => exact fun _ _ _ h => h
        case hy7x33 => first | exact Or.inl ⟨by rfl, by (intro w hSw; (try dsimp only at hSw); go_simp; try rfl)⟩ | exact Or.inr ⟨by rfl, rfl⟩
        case hS7x33 => assumption
        (try simp only [Act.put, List.setIfInBounds_toArray, List.set_cons_zero, List.set_cons_succ])
        refine' wpAnyH_take (i := 8) (v := ?v8x34) ?hi8x34 ?hs8x34 ?hf8x34 ?hr8x34 ?hQ8x34 ?hy8x34 ?hS8x34 ?rest8x34
        case hi8x34 => (simp only [List.getElem?_toArray, List.getElem?_cons_succ, List.getElem?_cons_zero]; try rfl)
        case hs8x34 => kernel_rfl
        case hf8x34 => kernel_rfl
        case hr8x34 => kernel_rfl
        case hQ8x34 => exact fun _ _ _ h => h
        case hy8x34 => first | exact Or.inl ⟨by rfl, by (intro w hSw; (try dsimp only at hSw); go_simp; try rfl)⟩ | exact Or.inr ⟨by rfl, rfl⟩
        case hS8x34 => assumption
        (try simp only [Act.put, List.setIfInBounds_toArray, List.set_cons_zero, List.set_cons_succ])
        refine' wpAnyH_take (i := 9) (v := ?v9x35) ?hi9x35 ?hs9x35 ?hf9x35 ?hr9x35 ?hQ9x35 ?hy9x35 ?hS9x35 ?rest9x35
        case hi9x35 => (simp only [List.getElem?_toArray, List.getElem?_cons_succ, List.getElem?_cons_zero]; try rfl)
        case hs9x35 => kernel_rfl
        case hf9x35 => kernel_rfl
        case hr9x35 => kernel_rfl
        case hQ9x35 => exact fun _ _ _ h => h
        case hy9x35 => first | exact Or.inl ⟨by rfl, by (intro w hSw; (try dsimp only at hSw); go_simp; try rfl)⟩ | exact Or.inr ⟨by rfl, rfl⟩
        case hS9x35 => assumption
        (try simp only [Act.put, List.setIfInBounds_toArray, List.set_cons_zero, List.set_cons_succ])
        refine' wpAnyH_take (i := 10) (v := ?v10x36) ?hi10x36 ?hs10x36 ?hf10x36 ?hr10x36 ?hQ10x36 ?hy10x36 ?hS10x36 ?rest10x36
        case hi10x36 => (simp only [List.getElem?_toArray, List.getElem?_cons_succ, List.getElem?_cons_zero]; try rfl)
        case hs10x36 => kernel_rfl
        case hf10x36 => kernel_rfl
        case hr10x36 => kernel_rfl
        case hQ10x36 => exact fun _ _ _ h => h
        case hy10x36 => first | exact Or.inl ⟨by rfl, by (intro w hSw; (try dsimp only at hSw); go_simp; try rfl)⟩ | exact Or.inr ⟨by rfl, rfl⟩
        case hS10x36 => assumption
        (try simp only [Act.put, List.setIfInBounds_toArray, List.set_cons_zero, List.set_cons_succ])
        refine' wpAnyH_take (i := 11) (v := ?v11x37) ?hi11x37 ?hs11x37 ?hf11x37 ?hr11x37 ?hQ11x37 ?hy11x37 ?hS11x37 ?rest11x37
        case hi11x37 => (simp only [List.getElem?_toArray, List.getElem?_cons_succ, List.getElem?_cons_zero]; try rfl)
        case hs11x37 => kernel_rfl
        case hf11x37 => kernel_rfl
        case hr11x37 => kernel_rfl
        case hQ11x37 => exact fun _ _ _ h => h
        case hy11x37 => first | exact Or.inl ⟨by rfl, by (intro w hSw; (try dsimp only at hSw); go_simp; try rfl)⟩ | exact Or.inr ⟨by rfl, rfl⟩
        case hS11x37 => assumption
        (try simp only [Act.put, List.setIfInBounds_toArray, List.set_cons_zero, List.set_cons_succ])
        refine' wpAnyH_take (i := 12) (v := ?v12x38) ?hi12x38 ?hs12x38 ?hf12x38 ?hr12x38 ?hQ12x38 ?hy12x38 ?hS12x38 ?rest12x38
        case hi12x38 => (simp only [List.getElem?_toArray, List.getElem?_cons_succ, List.getElem?_cons_zero]; try rfl)
        case hs12x38 => kernel_rfl
        case hf12x38 => kernel_rfl
        case hr12x38 => kernel_rfl
        case hQ12x38 => exact fun _ _ _ h => h
        case hy12x38 => first | exact Or.inl ⟨by rfl, by (intro w hSw; (try dsimp only at hSw); go_simp; try rfl)⟩ | exact Or.inr ⟨by rfl, rfl⟩
        case hS12x38 => assumption
        (try simp only [Act.put, List.setIfInBounds_toArray, List.set_cons_zero, List.set_cons_succ])
        refine' wpAnyH_take (i := 13) (v := ?v13x39) ?hi13x39 ?hs13x39 ?hf13x39 ?hr13x39 ?hQ13x39 ?hy13x39 ?hS13x39 ?rest13x39
        case hi13x39 => (simp only [List.getElem?_toArray, List.getElem?_cons_succ, List.getElem?_cons_zero]; try rfl)
        case hs13x39 => kernel_rfl
        case hf13x39 => kernel_rfl
        case hr13x39 => kernel_rfl
        case hQ13x39 => exact fun _ _ _ h => h
        case hy13x39 => first | exact Or.inl ⟨by rfl, by (intro w hSw; (try dsimp only at hSw); go_simp; try rfl)⟩ | exact Or.inr ⟨by rfl, rfl⟩
        case hS13x39 => assumption
        (try simp only [Act.put, List.setIfInBounds_toArray, List.set_cons_zero, List.set_cons_succ])
        refine' wpAnyH_take (i := 14) (v := ?v14x40) ?hi14x40 ?hs14x40 ?hf14x40 ?hr14x40 ?hQ14x40 ?hy14x40 ?hS14x40 ?rest14x40
        case hi14x40 => (simp only [List.getElem?_toArray, List.getElem?_cons_succ, List.getElem?_cons_zero]; try rfl)
        case hs14x40 => kernel_rfl
        case hf14x40 => kernel_rfl
        case hr14x40 => kernel_rfl
        case hQ14x40 => exact fun _ _ _ h => h
        case hy14x40 => first | exact Or.inl ⟨by rfl, by (intro w hSw; (try dsimp only at hSw); go_simp; try rfl)⟩ | exact Or.inr ⟨by rfl, rfl⟩
        case hS14x40 => assumption
        (try simp only [Act.put, List.setIfInBounds_toArray, List.set_cons_zero, List.set_cons_succ])
        refine' wpAnyH_take (i := 15) (v := ?v15x41) ?hi15x41 ?hs15x41 ?hf15x41 ?hr15x41 ?hQ15x41 ?hy15x41 ?hS15x41 ?rest15x41
        case hi15x41 => (simp only [List.getElem?_toArray, List.getElem?_cons_succ, List.getElem?_cons_zero]; try rfl)
        case hs15x41 => kernel_rfl
        case hf15x41 => kernel_rfl
        case hr15x41 => kernel_rfl
        case hQ15x41 => exact fun _ _ _ h => h
        case hy15x41 => first | exact Or.inl ⟨by rfl, by (intro w hSw; (try dsimp only at hSw); go_simp; try rfl)⟩ | exact Or.inr ⟨by rfl, rfl⟩
        case hS15x41 => assumption
        (try simp only [Act.put, List.setIfInBounds_toArray, List.set_cons_zero, List.set_cons_succ])
        refine' wpAnyH_take (i := 16) (v := ?v16x42) ?hi16x42 ?hs16x42 ?hf16x42 ?hr16x42 ?hQ16x42 ?hy16x42 ?hS16x42 ?rest16x42
        case hi16x42 => (simp only [List.getElem?_toArray, List.getElem?_cons_succ, List.getElem?_cons_zero]; try rfl)
        case hs16x42 => kernel_rfl
        case hf16x42 => kernel_rfl
        case hr16x42 => kernel_rfl
        case hQ16x42 => exact fun _ _ _ h => h
        case hy16x42 => first | exact Or.inl ⟨by rfl, by (intro w hSw; (try dsimp only at hSw); go_simp; try rfl)⟩ | exact Or.inr ⟨by rfl, rfl⟩
        case hS16x42 => assumption
        (try simp only [Act.put, List.setIfInBounds_toArray, List.set_cons_zero, List.set_cons_succ])
        refine' wpAnyH_take (i := 17) (v := ?v17x43) ?hi17x43 ?hs17x43 ?hf17x43 ?hr17x43 ?hQ17x43 ?hy17x43 ?hS17x43 ?rest17x43
        case hi17x43 => (simp only [List.getElem?_toArray, List.getElem?_cons_succ, List.getElem?_cons_zero]; try rfl)
        case hs17x43 => kernel_rfl
        case hf17x43 => kernel_rfl
        case hr17x43 => kernel_rfl
        case hQ17x43 => exact fun _ _ _ h => h
        case hy17x43 => first | exact Or.inl ⟨by rfl, by (intro w hSw; (try dsimp only at hSw); go_simp; try rfl)⟩ | exact Or.inr ⟨by rfl, rfl⟩
        case hS17x43 => assumption
        (try simp only [Act.put, List.setIfInBounds_toArray, List.set_cons_zero, List.set_cons_succ])
        refine' wpAnyH_take (i := 18) (v := ?v18x44) ?hi18x44 ?hs18x44 ?hf18x44 ?hr18x44 ?hQ18x44 ?hy18x44 ?hS18x44 ?rest18x44
        case hi18x44 => (simp only [List.getElem?_toArray, List.getElem?_cons_succ, List.getElem?_cons_zero]; try rfl)
        case hs18x44 => kernel_rfl
        case hf18x44 => kernel_rfl
        case hr18x44 => kernel_rfl
        case hQ18x44 => exact fun _ _ _ h => h
        case hy18x44 => first | exact Or.inl ⟨by rfl, by (intro w hSw; (try dsimp only at hSw); go_simp; try rfl)⟩ | exact Or.inr ⟨by rfl, rfl⟩
        case hS18x44 => assumption
        (try simp only [Act.put, List.setIfInBounds_toArray, List.set_cons_zero, List.set_cons_succ])
        refine' wpAnyH_take (i := 19) (v := ?v19x45) ?hi19x45 ?hs19x45 ?hf19x45 ?hr19x45 ?hQ19x45 ?hy19x45 ?hS19x45 ?rest19x45
        case hi19x45 => (simp only [List.getElem?_toArray, List.getElem?_cons_succ, List.getElem?_cons_zero]; try rfl)
        case hs19x45 => kernel_rfl
        case hf19x45 => kernel_rfl
        case hr19x45 => kernel_rfl
        case hQ19x45 => exact fun _ _ _ h => h
        case hy19x45 => first | exact Or.inl ⟨by rfl, by (intro w hSw; (try dsimp only at hSw); go_simp; try rfl)⟩ | exact Or.inr ⟨by rfl, rfl⟩
        case hS19x45 => assumption
        (try simp only [Act.put, List.setIfInBounds_toArray, List.set_cons_zero, List.set_cons_succ])
        refine' wpAnyH_take (i := 20) (v := ?v20x46) ?hi20x46 ?hs20x46 ?hf20x46 ?hr20x46 ?hQ20x46 ?hy20x46 ?hS20x46 ?rest20x46
        case hi20x46 => (simp only [List.getElem?_toArray, List.getElem?_cons_succ, List.getElem?_cons_zero]; try rfl)
        case hs20x46 => kernel_rfl
        case hf20x46 => kernel_rfl
        case hr20x46 => kernel_rfl
        case hQ20x46 => exact fun _ _ _ h => h
        case hy20x46 => first | exact Or.inl ⟨by rfl, by (intro w hSw; (try dsimp only at hSw); go_simp; try rfl)⟩ | exact Or.inr ⟨by rfl, rfl⟩
        case hS20x46 => assumption
        (try simp only [Act.put, List.setIfInBounds_toArray, List.set_cons_zero, List.set_cons_succ])
        refine wpAnyH_ready (rs := [21]) (by kernel_rfl) (by simp) ?_
        refine' (AllReadyH.cons (i := 21) ?ho21x47 (fun K hK => ?st21x47) AllReadyH.nil)
        case ho21x47 => (simp only [List.getElem?_toArray, List.getElem?_cons_succ, List.getElem?_cons_zero]; try rfl)
        case st21x47 =>
          go_simp
          refine (rowCmp_any (.slice yA yk yc) (.slice dA dk dc) ly l wr.drew (SlV.drew hry.out) (SlV.drew hrd.out)).mono ?_
          rw [hcm.out]
          rintro e_ wc ⟨rfl, hq_⟩
          have hbc := Lib.hid (show Below wr.heap.size wr wc from (Below.refl _ wr).drew.trans hq_)
          clear hq_
          refine hK.out _ _ ?_ (fun hHeld => ?_)
          · exact ⟨(hbc.out.cell (p := ad.add ((q + 1) * 2)) hba).trans a0_, (hbc.out.cell (p := ⟨(ad.add ((q + 1) * 2)).block, (ad.add ((q + 1) * 2)).off + 1, none⟩) hba).trans a1_, (hbc.out.cell (p := ad.add (q * 2)) hbb).trans b0_⟩
          clear hK K
          (try simp only [Act.put, List.setIfInBounds_toArray, List.set_cons_zero, List.set_cons_succ])
          refine' wpAnyH_take (i := 22) (v := ?v22x48) ?hi22x48 ?hs22x48 ?hf22x48 ?hr22x48 ?hQ22x48 ?hy22x48 ?hS22x48 ?rest22x48
          case hi22x48 => (simp only [List.getElem?_toArray, List.getElem?_cons_succ, List.getElem?_cons_zero]; try rfl)
          case hs22x48 => kernel_rfl
          case hf22x48 => kernel_rfl
          case hr22x48 => kernel_rfl
          case hQ22x48 => exact fun _ _ _ h => h
          case hy22x48 => first | exact Or.inl ⟨by rfl, by (intro w hSw; (try dsimp only at hSw); go_simp; try rfl)⟩ | exact Or.inr ⟨by rfl, rfl⟩
          case hS22x48 => assumption
          (try simp only [Act.put, List.setIfInBounds_toArray, List.set_cons_zero, List.set_cons_succ])
          refine' wpAnyH_take (i := 23) (v := ?v23x49) ?hi23x49 ?hs23x49 ?hf23x49 ?hr23x49 ?hQ23x49 ?hy23x49 ?hS23x49 ?rest23x49
          case hi23x49 => (simp only [List.getElem?_toArray, List.getElem?_cons_succ, List.getElem?_cons_zero]; try rfl)
          case hs23x49 => kernel_rfl
          case hf23x49 => kernel_rfl
          case hr23x49 => kernel_rfl
          case hQ23x49 => exact fun _ _ _ h => h
          case hy23x49 => first | exact Or.inl ⟨by rfl, by (intro w hSw; (try dsimp only at hSw); go_simp; try rfl)⟩ | exact Or.inr ⟨by rfl, rfl⟩
          case hS23x49 => assumption
          (try simp only [Act.put, List.setIfInBounds_toArray, List.set_cons_zero, List.set_cons_succ])
          refine' wpAnyH_take (i := 24) (v := ?v24x50) ?hi24x50 ?hs24x50 ?hf24x50 ?hr24x50 ?hQ24x50 ?hy24x50 ?hS24x50 ?rest24x50
          case hi24x50 => (simp only [List.getElem?_toArray, List.getElem?_cons_succ, List.getElem?_cons_zero]; try rfl)
          case hs24x50 => kernel_rfl
          case hf24x50 => kernel_rfl
          case hr24x50 => kernel_rfl
          case hQ24x50 => exact fun _ _ _ h => h
          case hy24x50 => first | exact Or.inl ⟨by rfl, by (intro w hSw; (try dsimp only at hSw); go_simp; try rfl)⟩ | exact Or.inr ⟨by rfl, rfl⟩
          case hS24x50 => assumption
          (try simp only [Act.put, List.setIfInBounds_toArray, List.set_cons_zero, List.set_cons_succ])
          refine wpAnyH_done (by kernel_rfl) ?_ _
          refine NoPanic.normal ?_
          go_wp2_with fail
          go_roundw
          case rel => exact ⟨q + 1 + 1, hltH.out, by go_num, hbr.out.trans (hbc.out.mono hbr.out.size)⟩
          case measure => have := hltH.out; simp [Go.RowKit.intOf]; omega
    · obtain rfl : p = r4.length := by omega
      have hc_ : Below w4.heap.size w4 wr := hbr.out
      replace hl := Lib.hid (hl.out.below hc_)
      replace hm := Lib.hid (hm.out.below hc_)
      replace hTH := Lib.hid (hTH.out.below hc_)
      replace hall := Lib.hid (hall.out.below hc_)
      replace hs := Lib.hid (hs.out.below hc_)
      replace hbw := Lib.hid (hbw.out.trans (hc_.mono hbw.out.size))
      clear hc_
      clear hbr hp hlt
      have hnl := Lib.hid (ok_rows hoklH.out); have hnm := Lib.hid (ok_rows hokmH.out)
      have hwl := Lib.hid (show ∀ d ∈ ls, ∀ x ∈ d.2, Wide x from fun d h x hx => ((hlk.out d h).1 x hx).1)
      have hwm := Lib.hid (show ∀ d ∈ ms, ∀ x ∈ d.2, Wide x from fun d h x hx => ((hmk.out d h).1 x hx).1)
      go_wp2_with fail
      refine (sumAny_any _ ls wr hl.out (by rw [hlsl.out]; omega) (fun d hd => (hnl.out d hd).1) hwl.out (fun d hd => (hnl.out d hd).2.1)).mono ?_
      rintro e_ w5 ⟨v5, r5, rfl, hso_, ho_, hf_, hq_⟩
      have so5 := Lib.hid hso_; have fl5 := Lib.hid hf_; have ow5 := Lib.hid ho_
      clear hso_ hf_ ho_
      have hc_ : Below wr.heap.size wr w5 := hq_
      replace hl := Lib.hid (hl.out.below hc_)
      replace hm := Lib.hid (hm.out.below hc_)
      replace hTH := Lib.hid (hTH.out.below hc_)
      replace hall := Lib.hid (hall.out.below hc_)
      replace hs := Lib.hid (hs.out.below hc_)
      replace hbw := Lib.hid (hbw.out.trans (hc_.mono hbw.out.size))
      clear hc_
      clear hq_
      have hc5 := Lib.hid (show CtsV w5 v5 r5 from ⟨own_slV ow5.out, fun d hd => (fl5.out.1 d hd).rowV⟩)
      have hr5n := Lib.hid (sum_sizes2 so5.out (show ls.length ≤ 300 by rw [hlsl.out]; exact hkl3))
      have hou := Lib.hid (show OwnKC w5.heap.size (.slice none 0 0) [] w5 w5 from OwnK.start (World.ownsRow_nil _ _ _ _) (Nat.le_refl _))
      go_upto_region 16 with (at_builtin; refine wpList_ctsK rfl _ _ rfl w5.heap.size _ [] w5 w5 v5 r5 hou.out rfl rfl hc5.out (by have := hr5n.out; simp; omega) ?_; intro vp wp hqp; have hop := Lib.hid (show OwnKC w5.heap.size vp r5 w5 wp from hqp); clear hqp)
      have hmp := Lib.hid (hm.out.below hop.out.2.1)
      go_wp2_with fail
      refine (sumAny_any _ ms wp hmp.out (by rw [hmsl.out]; omega) (fun d hd => (hnm.out d hd).1) hwm.out (fun d hd => (hnm.out d hd).2.1)).mono ?_
      rintro e_ w6 ⟨v6, r6, rfl, hso_, ho_, hf_, hq_⟩
      have so6 := Lib.hid hso_; have fl6 := Lib.hid hf_; have ow6 := Lib.hid ho_
      have hb56 := Lib.hid (show Below w5.heap.size w5 w6 from hop.out.2.1.trans (hq_.mono hop.out.2.2.1))
      have hop6 := Lib.hid (show OwnKC w5.heap.size vp r5 w6 w6 from OwnK.start (ownsRow_below' hop.out.1 hq_) hb56.out.size)
      clear hso_ ho_ hf_ hq_
      have hc6 := Lib.hid (show CtsV w6 v6 r6 from ⟨own_slV ow6.out, fun d hd => (fl6.out.1 d hd).rowV⟩)
      have hr6n := Lib.hid (sum_sizes2 so6.out (show ms.length ≤ 300 by rw [hmsl.out]; exact hkm3))
      go_upto_region 17 with (at_builtin; refine wpList_ctsK rfl _ _ rfl w5.heap.size _ r5 w6 w6 v6 r6 hop6.out rfl rfl hc6.out (by have := hr5n.out; have := hr6n.out; omega) ?_; intro v7 w7 hqp; have ho7 := Lib.hid hqp; clear hqp)
      have hb57 := Lib.hid (show Below w5.heap.size w5 w7 from hb56.out.trans ho7.out.2.1)
      have hc_ : Below w5.heap.size w5 w7 := hb57.out
      replace hl := Lib.hid (hl.out.below hc_)
      replace hm := Lib.hid (hm.out.below hc_)
      replace hTH := Lib.hid (hTH.out.below hc_)
      replace hall := Lib.hid (hall.out.below hc_)
      replace hs := Lib.hid (hs.out.below hc_)
      replace hbw := Lib.hid (hbw.out.trans (hc_.mono hbw.out.size))
      clear hc_
      have hpt := Lib.hid (show CtsV w7 v7 (r5 ++ r6) from OwnKC.cts ho7.out (fun d hd => (List.mem_append.1 hd).elim (fun h => ((fl5.out.1 d h).rowV).below hb57.out) (fun h => (FreshD.others (fl6.out.1 d h) ho7.out.2.2.2).rowV)))
      obtain ⟨P, hP⟩ : ∃ P, r5 ++ r6 = P := ⟨_, rfl⟩
      have hPn := Lib.hid (show P.length ≤ 600 by rw [← hP, List.length_append]; have := hr5n.out; have := hr6n.out; omega)
      have hLl := Lib.hid (show OkL ls from fun d hd => ⟨(chkR_all (hoklH.out d hd)).1, fun x hx => ⟨hwl.out d hd x hx, (hnl.out d hd).2.2 x hx⟩⟩)
      have hLm := Lib.hid (show OkL ms from fun d hd => ⟨(chkR_all (hokmH.out d hd)).1, fun x hx => ⟨hwm.out d hd x hx, (hnm.out d hd).2.2 x hx⟩⟩)
      have hSL := Lib.hid (show OkL S from hSH.out ▸ hLl.out.app hLm.out)
      have hPL := Lib.hid (show OkL P from hP ▸ (hLl.out.sum so5.out).app (hLm.out.sum so6.out))
      have hPok := Lib.hid hPL.out.okN
      have hPt := Lib.hid (show ∀ k, wrap64 (raw (P.map cnD) k) = wrap64 (raw (S.map cnD) k) from fun k => by
        rw [← hP, ← hSH.out, List.map_append, List.map_append, raw_app, raw_app, ← wrap_both, sum_total so5.out, sum_total so6.out, wrap_both])
      rw [hP] at hpt
      clear hP hop hop6 hou hmp hc5 hc6 hb56 hb57 ho7 fl5 fl6 ow5 ow6 hob hl hm
      obtain ⟨V7, c7, rfl, _⟩ := hpt.out.form
      have hokN2 := hokN
      by_cases hN0 : N = 0
      · obtain rfl : S = [] := List.eq_nil_of_length_eq_zero (by rw [hSl.out]; exact hN0)
        subst hN0
        have htu := Lib.hid (show CtsV w7 (.slice none 0 0) [] from ⟨⟨rfl, none, 0, rfl, Nat.le_refl _, by decide, fun _ => rfl, fun q => absurd q (by simp)⟩, by simp⟩)
        have hTn := Lib.hid (show ([] : List Cd).length ≤ 600 by simp)
        have hTL := Lib.hid (show OkL [] from fun d hd => by cases hd); have hTok := Lib.hid hTL.out.okN; have hTt := Lib.hid (show ∀ k, wrap64 (raw (([] : List Cd).map cnD) k) = wrap64 (raw (([] : List Cd).map cnD) k) from fun _ => rfl)
        go_wp2_with fail
        refine (known_any _).mono ?_
        rintro e_ wk ⟨rfl, hq_⟩
        have hc_ : Below w7.heap.size w7 wk := hq_
        replace hTH := Lib.hid (hTH.out.below hc_)
        replace hall := Lib.hid (hall.out.below hc_)
        replace hs := Lib.hid (hs.out.below hc_)
        replace hpt := Lib.hid (hpt.out.below hc_)
        replace htu := Lib.hid (htu.out.below hc_)
        replace hbw := Lib.hid (hbw.out.trans (hc_.mono hbw.out.size))
        clear hc_
        clear hq_
        go_wp2_with fail
        refine (sumAny_any _ P wk hpt.out (by have := hPn.out; omega) (fun d hd => (okN_rows hPL.out d hd).1) (fun d hd => (okN_rows hPL.out d hd).2.1) (fun d hd => (okN_rows hPL.out d hd).2.2)).mono ?_
        rintro e_ wx ⟨vx, rx, rfl, hso_, ho_, hf_, hq_⟩
        have sox := Lib.hid hso_; have flx := Lib.hid hf_; have owx := Lib.hid ho_
        clear hso_ ho_ hf_
        have hc_ : Below wk.heap.size wk wx := hq_
        replace hTH := Lib.hid (hTH.out.below hc_)
        replace hall := Lib.hid (hall.out.below hc_)
        replace hs := Lib.hid (hs.out.below hc_)
        replace hpt := Lib.hid (hpt.out.below hc_)
        replace htu := Lib.hid (htu.out.below hc_)
        replace hbw := Lib.hid (hbw.out.trans (hc_.mono hbw.out.size))
        clear hc_
        clear hq_
        have hcx := Lib.hid (show CtsV wx vx rx from ⟨own_slV owx.out, fun d hd => (flx.out.1 d hd).rowV⟩)
        have hex := Lib.hid (show rx.map cnD = r4.map cnD from sum_eq sox.out so4.out hPok.out hokN2.out hPt.out)
        go_wp2_with fail
        refine (sameCounteds_any _ _ rx r4 wx hcx.out hs.out hex.out hr4n.out.1 hr4n.out.2).mono ?_
        rintro e_ wy ⟨rfl, hq_⟩
        have hc_ : Below wx.heap.size wx wy := hq_
        replace hTH := Lib.hid (hTH.out.below hc_)
        replace hall := Lib.hid (hall.out.below hc_)
        replace hs := Lib.hid (hs.out.below hc_)
        replace hpt := Lib.hid (hpt.out.below hc_)
        replace htu := Lib.hid (htu.out.below hc_)
        replace hbw := Lib.hid (hbw.out.trans (hc_.mono hbw.out.size))
        clear hc_
        clear hq_ hcx flx owx
        go_wp2_with fail
        refine (sumAny_any _ [] wy htu.out (by have := hTn.out; omega) (fun d hd => (okN_rows hTL.out d hd).1) (fun d hd => (okN_rows hTL.out d hd).2.1) (fun d hd => (okN_rows hTL.out d hd).2.2)).mono ?_
        rintro e_ wz ⟨vz, rz, rfl, hso_, ho_, hf_, hq_⟩
        have soz := Lib.hid hso_; have flz := Lib.hid hf_; have owz := Lib.hid ho_
        clear hso_ ho_ hf_
        have hc_ : Below wy.heap.size wy wz := hq_
        replace hTH := Lib.hid (hTH.out.below hc_)
        replace hall := Lib.hid (hall.out.below hc_)
        replace hs := Lib.hid (hs.out.below hc_)
        replace hpt := Lib.hid (hpt.out.below hc_)
        replace htu := Lib.hid (htu.out.below hc_)
        replace hbw := Lib.hid (hbw.out.trans (hc_.mono hbw.out.size))
        clear hc_
        clear hq_
        have hcz := Lib.hid (show CtsV wz vz rz from ⟨own_slV owz.out, fun d hd => (flz.out.1 d hd).rowV⟩)
        have hez := Lib.hid (show rz.map cnD = r4.map cnD from sum_eq soz.out so4.out hTok.out hokN2.out (fun _ => rfl))
        go_wp2_with fail
        refine (sameCounteds_any _ _ rz r4 wz hcz.out hs.out hez.out hr4n.out.1 hr4n.out.2).mono ?_
        rintro e_ wf ⟨rfl, hq_⟩
        have hc_ : Below wz.heap.size wz wf := hq_
        replace hTH := Lib.hid (hTH.out.below hc_)
        replace hall := Lib.hid (hall.out.below hc_)
        replace hs := Lib.hid (hs.out.below hc_)
        replace hpt := Lib.hid (hpt.out.below hc_)
        replace htu := Lib.hid (htu.out.below hc_)
        replace hbw := Lib.hid (hbw.out.trans (hc_.mono hbw.out.size))
        clear hc_
        clear hq_
        go_wp2_with fail
        go_ret
        exact ⟨rfl, hbw.out⟩
      · obtain ⟨ad, rfl⟩ : ∃ ad, AB = some ad := by
          obtain ⟨⟨-, A', c', e', -, -, -, h4⟩, -⟩ := hall.out
          cases e'
          rw [hSl.out] at h4
          obtain ⟨ad, e, _⟩ := h4 (by omega)
          exact ⟨ad, e⟩
        have hNcB : N ≤ cB := by
          obtain ⟨⟨-, A', c', e', h2, -⟩, -⟩ := hall.out
          cases e'
          rw [hSl.out] at h2
          exact h2
        have hN0b : 0 < N := by omega
        obtain ⟨kt, hkt, hktN⟩ : ∃ kt : Nat, wrap64 ((IntKind.u64.wrap fr).tmod (N : Int)) = (kt : Int) ∧ kt < N := turn_at fr hN0b (by omega)
        go_upto_region 20 with fail
        have hktcB : kt ≤ cB := by omega
        have hktne : ¬ cB = kt := by omega
        have hktN2 : kt ≤ N := by omega
        have hbk := Lib.hid (hall.out.back (m := kt) (by rw [hSl.out]; exact hktN2))
        have hbk_ := Lib.hid (hall.out.back_ (m := kt) (j := N - kt) (by rw [hSl.out]; exact hktN2) (by rw [hSl.out]))
        have hou := Lib.hid (show OwnKC w7.heap.size (.slice none 0 0) [] w7 w7 from OwnK.start (World.ownsRow_nil _ _ _ _) (Nat.le_refl _))
        go_upto_region 21 with (at_builtin; go_loud (refine wpList_ctsK rfl _ _ rfl w7.heap.size _ [] w7 w7 _ (S.drop kt) hou.out rfl rfl (by first | exact hbk.out | (go_simp; first | exact hbk.out | exact hbk_.out)) (by have := hSl.out; simp; omega) ?_); intro vp wp hqp; have hop := Lib.hid (show OwnKC w7.heap.size vp (S.drop kt) w7 wp from hqp); clear hqp)
        obtain ⟨AP, cP, rfl⟩ := hop.out.formN (n := N - kt) (by rw [List.length_drop, hSl.out])
        have hfrp := Lib.hid ((hall.out.below hop.out.2.1).front (m := kt) (by rw [hSl.out]; exact hktN2))
        go_upto_region 22 with (at_builtin; go_loud (refine wpList_ctsK rfl _ _ rfl w7.heap.size _ (S.drop kt) w7 wp _ (S.take kt) hop.out rfl rfl (by first | exact hfrp.out | (go_simp; exact hfrp.out)) (by have := hSl.out; simp; omega) ?_); intro vq wq hqp; have hoq := Lib.hid hqp; clear hqp)
        have hc_ : Below w7.heap.size w7 wq := hoq.out.2.1
        replace hTH := Lib.hid (hTH.out.below hc_)
        replace hall := Lib.hid (hall.out.below hc_)
        replace hs := Lib.hid (hs.out.below hc_)
        replace hpt := Lib.hid (hpt.out.below hc_)
        replace hbw := Lib.hid (hbw.out.trans (hc_.mono hbw.out.size))
        clear hc_
        obtain ⟨Tn, hTn0⟩ : ∃ Tn, S.drop kt ++ S.take kt = Tn := ⟨_, rfl⟩
        rw [hTn0] at hoq
        have hTn := Lib.hid (show Tn.length ≤ 600 by rw [← hTn0]; have := hSl.out; simp; omega)
        have hTm := Lib.hid (show ∀ d ∈ Tn, d ∈ S from fun d hd => (List.mem_append.1 (hTn0 ▸ hd)).elim List.mem_of_mem_drop List.mem_of_mem_take)
        have hTL := Lib.hid (show OkL Tn from fun d hd => hSL.out d (hTm.out d hd))
        have hTok := Lib.hid hTL.out.okN
        have hTt := Lib.hid (show ∀ k, wrap64 (raw (Tn.map cnD) k) = wrap64 (raw (S.map cnD) k) from fun k => by
          have e : (S.map cnD) = (S.take kt).map cnD ++ (S.drop kt).map cnD := by rw [← List.map_append, List.take_append_drop]
          rw [← hTn0, e, List.map_append, raw_app, raw_app, Int.add_comm])
        obtain ⟨AQ, cQ, rfl⟩ := hoq.out.form
        have htu := Lib.hid (show CtsV wq (.slice AQ Tn.length cQ) Tn from OwnKC.cts hoq.out (fun d hd => hall.out.2 d (hTm.out d hd)))
        clear hTn0 hop hoq hou hbk hbk_ hfrp
        go_wp2_with fail
        refine (known_any _).mono ?_
        rintro e_ wk ⟨rfl, hq_⟩
        have hc_ : Below wq.heap.size wq wk := hq_
        replace hTH := Lib.hid (hTH.out.below hc_)
        replace hall := Lib.hid (hall.out.below hc_)
        replace hs := Lib.hid (hs.out.below hc_)
        replace hpt := Lib.hid (hpt.out.below hc_)
        replace htu := Lib.hid (htu.out.below hc_)
        replace hbw := Lib.hid (hbw.out.trans (hc_.mono hbw.out.size))
        clear hc_
        clear hq_
        go_wp2_with fail
        refine (sumAny_any _ P wk hpt.out (by have := hPn.out; omega) (fun d hd => (okN_rows hPL.out d hd).1) (fun d hd => (okN_rows hPL.out d hd).2.1) (fun d hd => (okN_rows hPL.out d hd).2.2)).mono ?_
        rintro e_ wx ⟨vx, rx, rfl, hso_, ho_, hf_, hq_⟩
        have sox := Lib.hid hso_; have flx := Lib.hid hf_; have owx := Lib.hid ho_
        clear hso_ ho_ hf_
        have hc_ : Below wk.heap.size wk wx := hq_
        replace hTH := Lib.hid (hTH.out.below hc_)
        replace hall := Lib.hid (hall.out.below hc_)
        replace hs := Lib.hid (hs.out.below hc_)
        replace hpt := Lib.hid (hpt.out.below hc_)
        replace htu := Lib.hid (htu.out.below hc_)
        replace hbw := Lib.hid (hbw.out.trans (hc_.mono hbw.out.size))
        clear hc_
        clear hq_
        have hcx := Lib.hid (show CtsV wx vx rx from ⟨own_slV owx.out, fun d hd => (flx.out.1 d hd).rowV⟩)
        have hex := Lib.hid (show rx.map cnD = r4.map cnD from sum_eq sox.out so4.out hPok.out hokN2.out hPt.out)
        go_wp2_with fail
        refine (sameCounteds_any _ _ rx r4 wx hcx.out hs.out hex.out hr4n.out.1 hr4n.out.2).mono ?_
        rintro e_ wy ⟨rfl, hq_⟩
        have hc_ : Below wx.heap.size wx wy := hq_
        replace hTH := Lib.hid (hTH.out.below hc_)
        replace hall := Lib.hid (hall.out.below hc_)
        replace hs := Lib.hid (hs.out.below hc_)
        replace hpt := Lib.hid (hpt.out.below hc_)
        replace htu := Lib.hid (htu.out.below hc_)
        replace hbw := Lib.hid (hbw.out.trans (hc_.mono hbw.out.size))
        clear hc_
        clear hq_ hcx flx owx
        go_wp2_with fail
        refine (sumAny_any _ Tn wy htu.out (by have := hTn.out; omega) (fun d hd => (okN_rows hTL.out d hd).1) (fun d hd => (okN_rows hTL.out d hd).2.1) (fun d hd => (okN_rows hTL.out d hd).2.2)).mono ?_
        rintro e_ wz ⟨vz, rz, rfl, hso_, ho_, hf_, hq_⟩
        have soz := Lib.hid hso_; have flz := Lib.hid hf_; have owz := Lib.hid ho_
        clear hso_ ho_ hf_
        have hc_ : Below wy.heap.size wy wz := hq_
        replace hTH := Lib.hid (hTH.out.below hc_)
        replace hall := Lib.hid (hall.out.below hc_)
        replace hs := Lib.hid (hs.out.below hc_)
        replace hpt := Lib.hid (hpt.out.below hc_)
        replace htu := Lib.hid (htu.out.below hc_)
        replace hbw := Lib.hid (hbw.out.trans (hc_.mono hbw.out.size))
        clear hc_
        clear hq_
        have hcz := Lib.hid (show CtsV wz vz rz from ⟨own_slV owz.out, fun d hd => (flz.out.1 d hd).rowV⟩)
        have hez := Lib.hid (show rz.map cnD = r4.map cnD from sum_eq soz.out so4.out hTok.out hokN2.out hTt.out)
        go_wp2_with fail
        refine (sameCounteds_any _ _ rz r4 wz hcz.out hs.out hez.out hr4n.out.1 hr4n.out.2).mono ?_
        rintro e_ wf ⟨rfl, hq_⟩
        have hc_ : Below wz.heap.size wz wf := hq_
        replace hTH := Lib.hid (hTH.out.below hc_)
        replace hall := Lib.hid (hall.out.below hc_)
        replace hs := Lib.hid (hs.out.below hc_)
        replace hpt := Lib.hid (hpt.out.below hc_)
        replace htu := Lib.hid (htu.out.below hc_)
        replace hbw := Lib.hid (hbw.out.trans (hc_.mono hbw.out.size))
        clear hc_
        clear hq_
        go_wp2_with fail
        go_ret
        exact ⟨rfl, hbw.out⟩
end Go.Proofs.YtfkimemagbkcoaaDoor
