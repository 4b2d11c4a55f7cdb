/-
  The document's Add and Sum, at this program. Conditions: those written.
-/
import Derived.Test.YthmkfodiekmkjaaRwY
import Derived.Test.YthmkfodiekmkjaaRowU
import Derived.Test.YthmkfodiekmkjaaRowC
set_option linter.unusedVariables false
set_option linter.unusedSimpArgs false
namespace Go.Proofs.Ythmkfodiekmkjaa
open Go.RowKit Go.Lib Go.Proofs

theorem cellsC_take (ds : List Cd) (m : Nat) (hm : m ≤ ds.length) : (cellsC ds).take (m * 2) = cellsC (ds.take m) := by
  have e : cellsC ds = cellsC (ds.take m) ++ cellsC (ds.drop m) := by
    unfold cellsC
    rw [← List.flatten_append, ← List.map_append, List.take_append_drop]
  rw [e]
  exact List.take_left' (by rw [cellsC_len, List.length_take]; congr 1; omega)
theorem cellsC_drop (ds : List Cd) (m : Nat) (hm : m ≤ ds.length) : (cellsC ds).drop (m * 2) = cellsC (ds.drop m) := by
  have e : cellsC ds = cellsC (ds.take m) ++ cellsC (ds.drop m) := by
    unfold cellsC
    rw [← List.flatten_append, ← List.map_append, List.take_append_drop]
  rw [e]
  exact List.drop_left' (by rw [cellsC_len, List.length_take]; congr 1; omega)
theorem CtsV.front {w : World} {A : Option Addr} {n c m : Nat} {ds : List Cd} (h : CtsV w (.slice A n c) ds) (hm : m ≤ ds.length) : CtsV w (.slice A m c) (ds.take m) := by
  obtain ⟨A', c', e, _⟩ := h.form
  obtain ⟨rfl, rfl, rfl⟩ := Value.slice.inj e
  have h1 := SlV.front (m := m) h.1 hm
  rw [cellsC_take ds m hm] at h1
  refine ⟨?_, fun d hd => h.2 d (List.mem_of_mem_take hd)⟩
  rw [List.length_take, Nat.min_eq_left hm]
  exact h1
theorem CtsV.back {w : World} {ad : Addr} {n c m : Nat} {ds : List Cd} (h : CtsV w (.slice (some ad) n c) ds) (hm : m ≤ ds.length) : CtsV w (.slice (some (ad.add (m * 2))) (n - m) (c - m)) (ds.drop m) := by
  obtain ⟨A', c', e, _⟩ := h.form
  obtain ⟨_, rfl, rfl⟩ := Value.slice.inj e
  have h1 := SlV.back (m := m) h.1 hm
  rw [cellsC_drop ds m hm] at h1
  refine ⟨?_, fun d hd => h.2 d (List.mem_of_mem_drop hd)⟩
  rw [List.length_drop]
  exact h1
theorem CtsV.back_ {w : World} {ad : Addr} {n c m j : Nat} {ds : List Cd} (h : CtsV w (.slice (some ad) n c) ds) (hm : m ≤ ds.length) (hj : ds.length - m = j) : CtsV w (.slice (if c = m then some ad else some (ad.add (m * 2))) j (c - m)) (ds.drop m) := by
  subst hj
  obtain ⟨A', c', e, _⟩ := h.form
  obtain ⟨_, hn, _⟩ := Value.slice.inj e
  have h1 := h.back hm
  rw [hn] at h1
  split
  · rename_i hc
    obtain ⟨⟨h2, A1, c1, e1, h3, h4, h5, h6⟩, h7⟩ := h1
    obtain ⟨_, e2, rfl⟩ := Value.slice.inj e1
    have hz : (ds.drop m).length = 0 := by rw [List.length_drop] at h3 ⊢; omega
    refine ⟨⟨h2, some ad, _, by rw [List.length_drop], h3, h4, fun q => (by cases q), fun q => by omega⟩, h7⟩
  · exact h1
theorem CtsV.drew {w : World} {v : Value} {ds : List Cd} (h : CtsV w v ds) : CtsV w.drew v ds := h.below (Below.refl _ _).drew
section
/-- 'v = append(v, l...)' of counted rows. -/
theorem wpList_ctsK {ops : Array Oper} {rest : List Oper} {o : Oper} {a : Act} {Q : Exit → Act → World → Prop} (hgd : o.guard = none) (s x : Operand)
    (ho : o.op = .call { callee := .builtin .append, args := #[s, x], argTypes := #[27, 27] })
    (B : Nat) (v : Value) (ds : List Cd) (W0 w : World) (sv : Value) (es : List Cd) (hb : OwnKC B v ds W0 w) (hs : a.eval s = v) (hx : a.eval x = sv) (hsv : CtsV w sv es) (hlen : ds.length + es.length ≤ 1099511627776)
    (h : ∀ v' w', OwnKC B v' (ds ++ es) W0 w' → wpList Try.prog ops Q rest (a.put o.dst v') w') : wpList Try.prog ops Q (o :: rest) a w := by
  obtain ⟨i, hi, hz, hsz, hby⟩ := info_ct
  refine wpList_append_sl hgd s x 27 ho B 44 i _ 2 i.bytes Try.underlying27 hi hz hsz rfl rfl (by decide) v ds.length (cellsC ds) w sv es.length (cellsC es) hb.1 hs hsv.1 hx ?_ (by unfold maxLen; omega) ?_ hb.2.2.1 ?_
  · intro u hu
    unfold cellsC at hu
    obtain ⟨xs, hxs, hu⟩ := List.mem_flatten.1 hu
    obtain ⟨d, _, rfl⟩ := List.mem_map.1 hxs
    exact cellsV_one _ u hu
  · have := Nat.mul_le_mul hlen hby
    omega
  · intro v' w' ho' hg
    refine h v' w' ?_
    have := hb.grown ho' hg
    unfold OwnKC cellsC at *
    rw [List.length_append, List.map_append, List.flatten_append]
    exact this
end
theorem OwnKC.cts {B : Nat} {v : Value} {ds : List Cd} {W0 w : World} (h : OwnKC B v ds W0 w) (hr : ∀ d ∈ ds, RowV w (valD d) d.2) : CtsV w v ds := ⟨own_slV h.1, hr⟩
theorem OwnKC.formN {B n : Nat} {v : Value} {ds : List Cd} {W0 w : World} (h : OwnKC B v ds W0 w) (hn : ds.length = n) : ∃ A c, v = .slice A n c := by
  obtain ⟨A, c, rfl⟩ := h.form
  exact ⟨A, c, by rw [hn]⟩
theorem addI_len : ∀ (l : List Cn) (x : Cn), (addI l x).length ≤ l.length + 1
  | [], x => by simp [addI]
  | y :: r, x => by
    have := addI_len r x
    unfold addI
    split
    · simp; omega
    · split <;> simp
def RelAt (ds : List Cd) (l : List Dat) (w0 : World) (s7 : Value) (wr : World) : Prop :=
  ∃ p : Nat, p ≤ ds.length ∧ s7 = .int .i64 (p : Int) ∧ (∀ i y, i < p → ds[i]? = some y → cmpR y.2 l < 0) ∧ Below w0.heap.size w0 wr
theorem addI_cn {ds : List Cd} {d : Cd} {p : Nat} (hp : p ≤ ds.length) (h1 : ∀ i y, i < p → ds[i]? = some y → cmpR y.2 d.2 < 0) :
    (ds[p]? = none → addI (ds.map cnD) (cnD d) = (ds.take p ++ [d] ++ ds.drop p).map cnD) ∧
    (∀ y, ds[p]? = some y → ¬ cmpR y.2 d.2 < 0 → (cmpR y.2 d.2 = 0 → addI (ds.map cnD) (cnD d) = (ds.take p ++ [setN y (wrap64 (y.1.n + d.1.n))] ++ ds.drop (p + 1)).map cnD) ∧ (cmpR y.2 d.2 ≠ 0 → addI (ds.map cnD) (cnD d) = (ds.take p ++ [d] ++ ds.drop p).map cnD)) := by
  have g1 : ∀ i y, i < p → (ds.map cnD)[i]? = some y → cmpR y.1 (cnD d).1 < 0 := by
    intro i y hi hy
    rw [List.getElem?_map] at hy
    obtain ⟨z, hz, rfl⟩ := Option.map_eq_some_iff.1 hy
    exact h1 i z hi hz
  have hp' : p ≤ (ds.map cnD).length := by simpa using hp
  refine ⟨fun hn => ?_, fun y hy hlt => ⟨fun h0 => ?_, fun h0 => ?_⟩⟩
  · have := addI_at (ds.map cnD) (cnD d) p hp' g1 (fun y hy => by rw [List.getElem?_map, hn] at hy; cases hy)
    rw [this, List.getElem?_map, hn]
    have : ds.drop p = [] := List.drop_eq_nil_iff.2 (List.getElem?_eq_none_iff.1 hn)
    simp [this, List.map_take]
  · have := addI_at (ds.map cnD) (cnD d) p hp' g1 (fun z hz => by rw [List.getElem?_map, hy] at hz; cases hz; exact hlt)
    rw [this, List.getElem?_map, hy]
    simp only [Option.map_some]
    rw [if_pos (show cmpR (cnD y).1 (cnD d).1 = 0 from h0)]
    simp [List.map_take, List.map_drop, cnD, setN]
  · have := addI_at (ds.map cnD) (cnD d) p hp' g1 (fun z hz => by rw [List.getElem?_map, hy] at hz; cases hz; exact hlt)
    rw [this, List.getElem?_map, hy]
    simp only [Option.map_some]
    rw [if_neg (show ¬ cmpR (cnD y).1 (cnD d).1 = 0 from h0)]
    simp [List.map_take, List.map_drop]
def AddPost (w : World) (ds : List Cd) (d : Cd) (e : Ending) (w' : World) : Prop :=
  ∃ v' r, e = .returned v' ∧ OwnCs w.heap.size v' r w' ∧ r.map cnD = addI (ds.map cnD) (cnD d) ∧ (∀ W : World, (∀ a ∈ ds, RowV W (valD a) a.2) → RowV W (valD d) d.2 → ∀ a ∈ r, RowV W (valD a) a.2) ∧ Below w.heap.size w w'
set_option maxHeartbeats 4000000 in
set_option maxRecDepth 1000000 in
theorem refAdd_nil (A : Option Addr) (k c : Nat) (n : Int) (l : List Dat) (w : World) (hr : RowV w (.slice A k c) l) :
    Calls Try.prog 29 #[.slice none 0 0, .slice A k c, .int .i64 n] w (AddPost w [] (⟨A, k, c, n⟩, l)) := by
  have hrH := Lib.hid hr
  clear hr
  have hn0 := Lib.hid (show CtsV w (.slice none 0 0) [] from ⟨⟨rfl, none, 0, rfl, Nat.le_refl _, by decide, fun _ => rfl, fun q => absurd q (by simp)⟩, by simp⟩)
  have ho0 := Lib.hid (show OwnKC w.heap.size (.slice none 0 0) [] w w from OwnK.start (World.ownsRow_nil _ _ _ _) (Nat.le_refl _))
  go_enter Try.func29, Try.ntmps29
  go_wp2_with fail
  go_loopw [7] (fun s7 wr => s7 = .int .i64 0 ∧ wr = w) (fun _ _ => 0)
  case atStart => exact ⟨rfl, rfl⟩
  case round =>
    obtain ⟨rfl, rfl⟩ := hrel
    go_upto_region 6 with (at_builtin; refine wpList_ctsK rfl _ _ rfl wr.heap.size _ [] wr wr _ [] ho0.out rfl rfl (by first | exact hn0.out | simpa using hn0.out) (by decide) ?_; intro v1 w1 hq1; have ho1 := Lib.hid hq1; clear hq1)
    obtain ⟨A1, c1, rfl⟩ := ho1.out.form
    go_upto_region 10 with (at_builtin; refine wpList_countK rfl _ _ rfl wr.heap.size _ [] wr w1 (⟨A, k, c, n⟩, l) _ rfl ho1.out rfl rfl (by decide) ?_; intro v2 w2 hq2; have ho2 := Lib.hid hq2; clear hq2)
    obtain ⟨A2, c2, rfl⟩ := ho2.out.form
    go_wp2_with (at_builtin; go_loud (refine wpList_ctsK rfl _ _ rfl wr.heap.size _ [(⟨A, k, c, n⟩, l)] wr w2 _ [] ho2.out rfl rfl (by first | exact hn0.out.below ho2.out.2.1 | simpa using hn0.out.below ho2.out.2.1) (by simp) ?_); intro v3 w3 hq3; have ho3 := Lib.hid hq3; clear hq3)
    go_ret
    exact ⟨_, _, rfl, ho3.out.1, rfl, fun W h1 h2 a ha => by simp at ha; subst ha; exact h2, ho3.out.2.1⟩
set_option maxHeartbeats 8000000 in
set_option maxRecDepth 1000000 in
theorem refAdd_some (ad : Addr) (ca : Nat) (ds : List Cd) (A : Option Addr) (k c : Nat) (n : Int) (l : List Dat) (w : World) (h : CtsV w (.slice (some ad) ds.length ca) ds) (hr : RowV w (.slice A k c) l) (hn : ds.length ≤ 549755813888) :
    Calls Try.prog 29 #[.slice (some ad) ds.length ca, .slice A k c, .int .i64 n] w (AddPost w ds (⟨A, k, c, n⟩, l)) := by
  obtain ⟨⟨-, _, _, e_, hcap, hcm, -⟩, -⟩ := id h
  cases e_
  have hH := Lib.hid h; have hrH := Lib.hid hr
  clear h hr
  go_enter Try.func29, Try.ntmps29
  go_wp2_with fail
  go_loopw [7] (fun s7 wr => RelAt ds l w s7 wr) (fun s7 _ => ds.length - (Go.RowKit.intOf s7).toNat)
  case atStart => exact ⟨0, by omega, rfl, fun i y hi => by omega, Below.refl _ _⟩
  case round =>
    unfold RelAt at hrel
    obtain ⟨p, hp, rfl, hbef, hb⟩ := hrel
    have hbH := Lib.hid hb; have hbefH := Lib.hid hbef
    have hB := hb.size
    clear hb hbef
    have hfr := Lib.hid (show (ds.take p).length ≤ 1099511627776 by rw [List.length_take]; omega)
    have hlt3 := hfr
    have hlt4 := Lib.hid (show (ds.take p ++ [((⟨A, k, c, n⟩, l) : Cd)]).length + (ds.drop p).length ≤ 1099511627776 by simp; omega)
    have hrwH := Lib.hid (show ∀ W : World, (∀ a ∈ ds, RowV W (valD a) a.2) → RowV W (.slice A k c) l → ∀ a ∈ ds.take p ++ [((⟨A, k, c, n⟩, l) : Cd)] ++ ds.drop p, RowV W (valD a) a.2 from fun W h1 h2 a ha => by
      rcases List.mem_append.1 ha with ha | ha
      · rcases List.mem_append.1 ha with ha | ha
        · exact h1 a (List.mem_of_mem_take ha)
        · simp at ha; subst ha; exact h2
      · exact h1 a (List.mem_of_mem_drop ha))
    have hcn0 := Lib.hid (addI_cn (d := (⟨A, k, c, n⟩, l)) hp hbefH.out)
    have hpc : p ≤ ca := by omega
    by_cases hpl : p < ds.length
    · obtain ⟨y, hy⟩ : ∃ y, ds[p]? = some y := ⟨_, List.getElem?_eq_getElem hpl⟩
      obtain ⟨_, e_, hba, a0_, a1_⟩ := (hH.out.below hbH.out).at hy
      cases e_
      obtain ⟨_, e_, hbo, -, -⟩ := hH.out.at hy
      cases e_
      have hyH := Lib.hid hy
      have hry := Lib.hid ((hH.out.2 y (List.mem_of_getElem? hy)).below hbH.out)
      have hyr := Lib.hid (show ∀ W : World, (∀ a ∈ ds, RowV W (valD a) a.2) → RowV W (valD y) y.2 from fun W h1 => h1 y (List.mem_of_getElem? hy))
      have hcn1 := Lib.hid (fun hlt => hcn0.out.2 y hyH.out hlt)
      clear hy hcn0
      obtain ⟨⟨yA, yk, yc, yn⟩, m⟩ := y
      simp only [valD] at a0_ a1_
      go_wp2_with fail
      refine (refRowCmp_any (.slice yA yk yc) _ m l _ hry.out (hrH.out.below hbH.out)).mono ?_
      obtain ⟨r, hr⟩ : ∃ r, cmpR m l = r := ⟨_, rfl⟩
      rw [hr]
      have hrrH := Lib.hid hr
      clear hr
      rintro e w1 ⟨rfl, hb1⟩
      have hb1H := Lib.hid (hbH.out.trans (hb1.mono hB))
      have hr1 := Lib.hid hb1
      clear hb1 a0_ a1_
      by_cases hneg : r < 0
      · go_wp2_with fail
        go_roundw
        case rel =>
          refine ⟨p + 1, hpl, by go_num, fun i z hi hz => ?_, hb1H.out⟩
          by_cases c1 : i < p
          · exact hbefH.out i z c1 hz
          · obtain rfl : i = p := by omega
            rw [hyH.out] at hz
            cases hz
            show cmpR m l < 0
            rw [hrrH.out]
            exact hneg
        case measure => simp [Go.RowKit.intOf]; omega
      · have hneg' : ¬ cmpR m l < 0 := by rw [hrrH.out]; exact hneg
        have hneg'H := Lib.hid hneg'
        clear hneg'
        have ho0 := Lib.hid (show OwnKC w.heap.size (.slice none 0 0) [] w1 w1 from OwnK.start (World.ownsRow_nil _ _ _ _) hb1H.out.size)
        have hf0 := Lib.hid ((hH.out.below hb1H.out).front hp)
        go_upto_region 6 with (at_builtin; refine wpList_ctsK rfl _ _ rfl w.heap.size _ [] w1 w1 _ (ds.take p) ho0.out rfl rfl (by first | exact hf0.out | simpa using hf0.out) (by have := hfr.out; simpa using this) ?_; intro v3 w3 hq3; have ho3 := Lib.hid (show OwnKC w.heap.size v3 (ds.take p) w1 w3 from hq3); clear hq3)
        obtain ⟨A3, c3, rfl⟩ := ho3.out.formN (n := p) (by rw [List.length_take]; omega)
        have hbw3 := Lib.hid (hb1H.out.trans ho3.out.2.1)
        have hr3 := Lib.hid ((hyr.out w hH.out.2).below hbw3.out)
        obtain ⟨_, e_, hba3, b0_, b1_⟩ := (hH.out.below hbw3.out).at hyH.out
        cases e_
        simp only [valD] at b0_ b1_
        go_wp2_with fail
        refine (refRowCmp_any (.slice yA yk yc) _ m l _ (hr3.out) (hrH.out.below hbw3.out)).mono ?_
        rw [hrrH.out]
        rintro e w4 ⟨rfl, hb4⟩
        replace ho3 := Lib.hid (OwnK.below ho3.out hb4)
        replace hbw3 := hb1H
        clear hb4 b0_ b1_ hba3
        by_cases hz : r = 0
        · subst hz
          obtain ⟨_, e_, hba3, b0_, b1_⟩ := (hH.out.below (hbw3.out.trans ho3.out.2.1)).at hyH.out
          cases e_
          simp only [valD] at b0_ b1_
          obtain ⟨_, e_, hbo1, d0_, d1_⟩ := (hH.out.below hbw3.out).at hyH.out
          cases e_
          simp only [valD] at d0_ d1_
          have hcnH := Lib.hid ((hcn1.out hneg'H.out).1 hrrH.out)
          go_wp2_with fail
          refine wp_region_noPanic ?_
          refine wp_region_held_drew (S := (fun w' => w'.cell? (ad.add (p * 2)) = some (.slice yA yk yc) ∧ w'.cell? ⟨(ad.add (p * 2)).block, (ad.add (p * 2)).off + 1, none⟩ = some (.int .i64 yn))) (by kernel_rfl) (⟨b0_, b1_⟩) (fun hHeld => ?_)
          refine' wpAnyH_take (i := 0) (v := ?v0x1) ?hi0x1 ?hs0x1 ?hf0x1 ?hr0x1 ?hQ0x1 ?hy0x1 ?hS0x1 ?rest0x1
          case hi0x1 => (simp only [List.getElem?_toArray, List.getElem?_cons_succ, List.getElem?_cons_zero]; try rfl)
          case hs0x1 => kernel_rfl
          case hf0x1 => kernel_rfl
          case hr0x1 => kernel_rfl
          case hQ0x1 => exact fun _ _ _ h => h
          case hy0x1 => first | exact Or.inl ⟨by rfl, by (intro w hSw; (try dsimp only at hSw); go_simp; try rfl)⟩ | exact Or.inr ⟨by rfl, rfl⟩
          case hS0x1 => assumption
          (try simp only [Act.put, List.setIfInBounds_toArray, List.set_cons_zero, List.set_cons_succ])
          refine' wpAnyH_take (i := 1) (v := ?v1x2) ?hi1x2 ?hs1x2 ?hf1x2 ?hr1x2 ?hQ1x2 ?hy1x2 ?hS1x2 ?rest1x2
          case hi1x2 => (simp only [List.getElem?_toArray, List.getElem?_cons_succ, List.getElem?_cons_zero]; try rfl)
          case hs1x2 => kernel_rfl
          case hf1x2 => kernel_rfl
          case hr1x2 => kernel_rfl
          case hQ1x2 => exact fun _ _ _ h => h
          case hy1x2 => first | exact Or.inl ⟨by rfl, by (intro w hSw; (try dsimp only at hSw); go_simp; try rfl)⟩ | exact Or.inr ⟨by rfl, rfl⟩
          case hS1x2 => assumption
          (try simp only [Act.put, List.setIfInBounds_toArray, List.set_cons_zero, List.set_cons_succ])
          refine' wpAnyH_take (i := 2) (v := ?v2x3) ?hi2x3 ?hs2x3 ?hf2x3 ?hr2x3 ?hQ2x3 ?hy2x3 ?hS2x3 ?rest2x3
          case hi2x3 => (simp only [List.getElem?_toArray, List.getElem?_cons_succ, List.getElem?_cons_zero]; try rfl)
          case hs2x3 => kernel_rfl
          case hf2x3 => kernel_rfl
          case hr2x3 => kernel_rfl
          case hQ2x3 => exact fun _ _ _ h => h
          case hy2x3 => first | exact Or.inl ⟨by rfl, by (intro w hSw; (try dsimp only at hSw); go_simp; try rfl)⟩ | exact Or.inr ⟨by rfl, rfl⟩
          case hS2x3 => assumption
          (try simp only [Act.put, List.setIfInBounds_toArray, List.set_cons_zero, List.set_cons_succ])
          refine' wpAnyH_take (i := 3) (v := ?v3x4) ?hi3x4 ?hs3x4 ?hf3x4 ?hr3x4 ?hQ3x4 ?hy3x4 ?hS3x4 ?rest3x4
          case hi3x4 => (simp only [List.getElem?_toArray, List.getElem?_cons_succ, List.getElem?_cons_zero]; try rfl)
          case hs3x4 => kernel_rfl
          case hf3x4 => kernel_rfl
          case hr3x4 => kernel_rfl
          case hQ3x4 => exact fun _ _ _ h => h
          case hy3x4 => first | exact Or.inl ⟨by rfl, by (intro w hSw; (try dsimp only at hSw); go_simp; try rfl)⟩ | exact Or.inr ⟨by rfl, rfl⟩
          case hS3x4 => assumption
          (try simp only [Act.put, List.setIfInBounds_toArray, List.set_cons_zero, List.set_cons_succ])
          refine' wpAnyH_take (i := 4) (v := ?v4x5) ?hi4x5 ?hs4x5 ?hf4x5 ?hr4x5 ?hQ4x5 ?hy4x5 ?hS4x5 ?rest4x5
          case hi4x5 => (simp only [List.getElem?_toArray, List.getElem?_cons_succ, List.getElem?_cons_zero]; try rfl)
          case hs4x5 => kernel_rfl
          case hf4x5 => kernel_rfl
          case hr4x5 => kernel_rfl
          case hQ4x5 => exact fun _ _ _ h => h
          case hy4x5 => first | exact Or.inl ⟨by rfl, by (intro w hSw; (try dsimp only at hSw); go_simp; try rfl)⟩ | exact Or.inr ⟨by rfl, rfl⟩
          case hS4x5 => assumption
          (try simp only [Act.put, List.setIfInBounds_toArray, List.set_cons_zero, List.set_cons_succ])
          refine' wpAnyH_take (i := 5) (v := ?v5x6) ?hi5x6 ?hs5x6 ?hf5x6 ?hr5x6 ?hQ5x6 ?hy5x6 ?hS5x6 ?rest5x6
          case hi5x6 => (simp only [List.getElem?_toArray, List.getElem?_cons_succ, List.getElem?_cons_zero]; try rfl)
          case hs5x6 => kernel_rfl
          case hf5x6 => kernel_rfl
          case hr5x6 => kernel_rfl
          case hQ5x6 => exact fun _ _ _ h => h
          case hy5x6 => first | exact Or.inl ⟨by rfl, by (intro w hSw; (try dsimp only at hSw); go_simp; try rfl)⟩ | exact Or.inr ⟨by rfl, rfl⟩
          case hS5x6 => assumption
          (try simp only [Act.put, List.setIfInBounds_toArray, List.set_cons_zero, List.set_cons_succ])
          refine' wpAnyH_take (i := 6) (v := ?v6x7) ?hi6x7 ?hs6x7 ?hf6x7 ?hr6x7 ?hQ6x7 ?hy6x7 ?hS6x7 ?rest6x7
          case hi6x7 => (simp only [List.getElem?_toArray, List.getElem?_cons_succ, List.getElem?_cons_zero]; try rfl)
          case hs6x7 => kernel_rfl
          case hf6x7 => kernel_rfl
          case hr6x7 => kernel_rfl
          case hQ6x7 => exact fun _ _ _ h => h
          case hy6x7 => first | exact Or.inl ⟨by rfl, by (intro w hSw; (try dsimp only at hSw); go_simp; try rfl)⟩ | exact Or.inr ⟨by rfl, rfl⟩
          case hS6x7 => assumption
          (try simp only [Act.put, List.setIfInBounds_toArray, List.set_cons_zero, List.set_cons_succ])
          refine' wpAnyH_take (i := 7) (v := ?v7x8) ?hi7x8 ?hs7x8 ?hf7x8 ?hr7x8 ?hQ7x8 ?hy7x8 ?hS7x8 ?rest7x8
          case hi7x8 => (simp only [List.getElem?_toArray, List.getElem?_cons_succ, List.getElem?_cons_zero]; try rfl)
          case hs7x8 => kernel_rfl
          case hf7x8 => kernel_rfl
          case hr7x8 => kernel_rfl
          case hQ7x8 => exact fun _ _ _ h => h
          case hy7x8 => first | exact Or.inl ⟨by rfl, by (intro w hSw; (try dsimp only at hSw); go_simp; try rfl)⟩ | exact Or.inr ⟨by rfl, rfl⟩
          case hS7x8 => assumption
          (try simp only [Act.put, List.setIfInBounds_toArray, List.set_cons_zero, List.set_cons_succ])
          refine' wpAnyH_take (i := 8) (v := ?v8x9) ?hi8x9 ?hs8x9 ?hf8x9 ?hr8x9 ?hQ8x9 ?hy8x9 ?hS8x9 ?rest8x9
          case hi8x9 => (simp only [List.getElem?_toArray, List.getElem?_cons_succ, List.getElem?_cons_zero]; try rfl)
          case hs8x9 => kernel_rfl
          case hf8x9 => kernel_rfl
          case hr8x9 => kernel_rfl
          case hQ8x9 => exact fun _ _ _ h => h
          case hy8x9 => first | exact Or.inl ⟨by rfl, by (intro w hSw; (try dsimp only at hSw); go_simp; try rfl)⟩ | exact Or.inr ⟨by rfl, rfl⟩
          case hS8x9 => assumption
          (try simp only [Act.put, List.setIfInBounds_toArray, List.set_cons_zero, List.set_cons_succ])
          refine' wpAnyH_take (i := 9) (v := ?v9x10) ?hi9x10 ?hs9x10 ?hf9x10 ?hr9x10 ?hQ9x10 ?hy9x10 ?hS9x10 ?rest9x10
          case hi9x10 => (simp only [List.getElem?_toArray, List.getElem?_cons_succ, List.getElem?_cons_zero]; try rfl)
          case hs9x10 => kernel_rfl
          case hf9x10 => kernel_rfl
          case hr9x10 => kernel_rfl
          case hQ9x10 => exact fun _ _ _ h => h
          case hy9x10 => first | exact Or.inl ⟨by rfl, by (intro w hSw; (try dsimp only at hSw); go_simp; try rfl)⟩ | exact Or.inr ⟨by rfl, rfl⟩
          case hS9x10 => assumption
          (try simp only [Act.put, List.setIfInBounds_toArray, List.set_cons_zero, List.set_cons_succ])
          refine' wpAnyH_take (i := 10) (v := ?v10x11) ?hi10x11 ?hs10x11 ?hf10x11 ?hr10x11 ?hQ10x11 ?hy10x11 ?hS10x11 ?rest10x11
          case hi10x11 => (simp only [List.getElem?_toArray, List.getElem?_cons_succ, List.getElem?_cons_zero]; try rfl)
          case hs10x11 => kernel_rfl
          case hf10x11 => kernel_rfl
          case hr10x11 => kernel_rfl
          case hQ10x11 => exact fun _ _ _ h => h
          case hy10x11 => first | exact Or.inl ⟨by rfl, by (intro w hSw; (try dsimp only at hSw); go_simp; try rfl)⟩ | exact Or.inr ⟨by rfl, rfl⟩
          case hS10x11 => assumption
          (try simp only [Act.put, List.setIfInBounds_toArray, List.set_cons_zero, List.set_cons_succ])
          refine' wpAnyH_take (i := 11) (v := ?v11x12) ?hi11x12 ?hs11x12 ?hf11x12 ?hr11x12 ?hQ11x12 ?hy11x12 ?hS11x12 ?rest11x12
          case hi11x12 => (simp only [List.getElem?_toArray, List.getElem?_cons_succ, List.getElem?_cons_zero]; try rfl)
          case hs11x12 => kernel_rfl
          case hf11x12 => kernel_rfl
          case hr11x12 => kernel_rfl
          case hQ11x12 => exact fun _ _ _ h => h
          case hy11x12 => first | exact Or.inl ⟨by rfl, by (intro w hSw; (try dsimp only at hSw); go_simp; try rfl)⟩ | exact Or.inr ⟨by rfl, rfl⟩
          case hS11x12 => assumption
          (try simp only [Act.put, List.setIfInBounds_toArray, List.set_cons_zero, List.set_cons_succ])
          refine' wpAnyH_take (i := 12) (v := ?v12x13) ?hi12x13 ?hs12x13 ?hf12x13 ?hr12x13 ?hQ12x13 ?hy12x13 ?hS12x13 ?rest12x13
          case hi12x13 => (simp only [List.getElem?_toArray, List.getElem?_cons_succ, List.getElem?_cons_zero]; try rfl)
          case hs12x13 => kernel_rfl
          case hf12x13 => kernel_rfl
          case hr12x13 => kernel_rfl
          case hQ12x13 => exact fun _ _ _ h => h
          case hy12x13 => first | exact Or.inl ⟨by rfl, by (intro w hSw; (try dsimp only at hSw); go_simp; try rfl)⟩ | exact Or.inr ⟨by rfl, rfl⟩
          case hS12x13 => assumption
          (try simp only [Act.put, List.setIfInBounds_toArray, List.set_cons_zero, List.set_cons_succ])
          refine' wpAnyH_take (i := 13) (v := ?v13x14) ?hi13x14 ?hs13x14 ?hf13x14 ?hr13x14 ?hQ13x14 ?hy13x14 ?hS13x14 ?rest13x14
          case hi13x14 => (simp only [List.getElem?_toArray, List.getElem?_cons_succ, List.getElem?_cons_zero]; try rfl)
          case hs13x14 => kernel_rfl
          case hf13x14 => kernel_rfl
          case hr13x14 => kernel_rfl
          case hQ13x14 => exact fun _ _ _ h => h
          case hy13x14 => first | exact Or.inl ⟨by rfl, by (intro w hSw; (try dsimp only at hSw); go_simp; try rfl)⟩ | exact Or.inr ⟨by rfl, rfl⟩
          case hS13x14 => assumption
          (try simp only [Act.put, List.setIfInBounds_toArray, List.set_cons_zero, List.set_cons_succ])
          refine wpAnyH_ready (rs := [14]) (by kernel_rfl) (by simp) ?_
          refine' (AllReadyH.cons (i := 14) ?ho14x15 (fun K hK => ?st14x15) AllReadyH.nil)
          case ho14x15 => (simp only [List.getElem?_toArray, List.getElem?_cons_succ, List.getElem?_cons_zero]; try rfl)
          case st14x15 =>
            go_simp
            refine hK.out _ _ ?_ (fun hHeld => ?_)
            · exact ⟨(((Below.refl w.heap.size w4).drew.alloc (show w.heap.size ≤ w4.heap.size from (hbw3.out.trans ho3.out.2.1).size) _).cell (p := ad.add (p * 2)) hbo).trans b0_, (((Below.refl w.heap.size w4).drew.alloc (show w.heap.size ≤ w4.heap.size from (hbw3.out.trans ho3.out.2.1).size) _).cell (p := ⟨(ad.add (p * 2)).block, (ad.add (p * 2)).off + 1, none⟩) hbo).trans b1_⟩
            clear hK K
            (try simp only [Act.put, List.setIfInBounds_toArray, List.set_cons_zero, List.set_cons_succ])
            refine wpAnyH_ready (rs := [15]) (by kernel_rfl) (by simp) ?_
            refine' (AllReadyH.cons (i := 15) ?ho15x16 (fun K hK => ?st15x16) AllReadyH.nil)
            case ho15x16 => (simp only [List.getElem?_toArray, List.getElem?_cons_succ, List.getElem?_cons_zero]; try rfl)
            case st15x16 =>
              refine wp_countK _ _ (by rfl) w.heap.size _ (ds.take p) w1 w4.drew (⟨yA, yk, yc, wrap64 (yn + n)⟩, m) _ (by first | rfl | (rw [Go.IntWalk.i64_left]; rfl)) (OwnK.drew ho3.out) (by rfl) (by rfl) hfr.out ?_
              intro v5 w5 hq5
              have ho5 := Lib.hid hq5
              have hb45 := Lib.hid (hbw3.out.trans hq5.2.1)
              clear hq5
              refine hK.out _ _ ?_ (fun hHeld => ?_)
              · exact ⟨(ho5.out.2.1.cell (p := ad.add (p * 2)) hbo).trans d0_, (ho5.out.2.1.cell (p := ⟨(ad.add (p * 2)).block, (ad.add (p * 2)).off + 1, none⟩) hbo).trans d1_⟩
              clear hK K
              (try simp only [Act.put, List.setIfInBounds_toArray, List.set_cons_zero, List.set_cons_succ])
              refine' wpAnyH_take (i := 16) (v := ?v16x17) ?hi16x17 ?hs16x17 ?hf16x17 ?hr16x17 ?hQ16x17 ?hy16x17 ?hS16x17 ?rest16x17
              case hi16x17 => (simp only [List.getElem?_toArray, List.getElem?_cons_succ, List.getElem?_cons_zero]; try rfl)
              case hs16x17 => kernel_rfl
              case hf16x17 => kernel_rfl
              case hr16x17 => kernel_rfl
              case hQ16x17 => exact fun _ _ _ h => h
              case hy16x17 => first | exact Or.inl ⟨by rfl, by (intro w hSw; (try dsimp only at hSw); go_simp; try rfl)⟩ | exact Or.inr ⟨by rfl, rfl⟩
              case hS16x17 => assumption
              (try simp only [Act.put, List.setIfInBounds_toArray, List.set_cons_zero, List.set_cons_succ])
              refine wpAnyH_done (by kernel_rfl) ?_ _
              refine NoPanic.normal ?_
              obtain ⟨A5, c5, rfl⟩ := ho5.out.formN (n := p + 1) (by rw [List.length_append, List.length_take, List.length_singleton]; omega)
              have hbk := Lib.hid ((hH.out.below hb45.out).back_ (m := p + 1) (j := ds.length - (p + 1)) hpl rfl)
              have hlt5 := Lib.hid (show (ds.take p ++ [((⟨yA, yk, yc, wrap64 (yn + n)⟩, m) : Cd)]).length + (ds.drop (p + 1)).length ≤ 1099511627776 by simp; omega)
              have hrw5 := Lib.hid (show ∀ W : World, (∀ a ∈ ds, RowV W (valD a) a.2) → RowV W (.slice A k c) l → ∀ a ∈ ds.take p ++ [((⟨yA, yk, yc, wrap64 (yn + n)⟩, m) : Cd)] ++ ds.drop (p + 1), RowV W (valD a) a.2 from fun W h1 h2 a ha => by
                rcases List.mem_append.1 ha with ha | ha
                · rcases List.mem_append.1 ha with ha | ha
                  · exact h1 a (List.mem_of_mem_take ha)
                  · simp at ha; subst ha; exact hyr.out W h1
                · exact h1 a (List.mem_of_mem_drop ha))
              have hp1c : p + 1 ≤ ca := by omega
              go_wp2_with (at_builtin; go_loud (refine wpList_ctsK rfl _ _ rfl w.heap.size _ (ds.take p ++ [((⟨yA, yk, yc, wrap64 (yn + n)⟩, m) : Cd)]) w1 _ _ (ds.drop (p + 1)) ho5.out rfl rfl (by first | exact hbk.out | (go_simp; exact hbk.out) | simpa using hbk.out) hlt5.out ?_); intro v6 w6 hq6; have ho6 := Lib.hid hq6; clear hq6)
              all_goals go_ret
              all_goals exact ⟨_, _, rfl, ho6.out.1, hcnH.out.symm, hrw5.out, hbw3.out.trans ho6.out.2.1⟩
        · have hcnH := Lib.hid ((hcn1.out hneg'H.out).2 (by rw [hrrH.out]; exact hz))
          go_upto_region 10 with (at_builtin; refine wpList_countK rfl _ _ rfl w.heap.size _ (ds.take p) _ _ (⟨A, k, c, n⟩, l) _ rfl ho3.out rfl rfl hlt3.out ?_; intro v4 w4 hq4; have ho4 := Lib.hid hq4; clear hq4)
          obtain ⟨A4, c4, rfl⟩ := ho4.out.formN (n := p + 1) (by rw [List.length_append, List.length_take, List.length_singleton]; omega)
          have hbk := Lib.hid ((hH.out.below (hbw3.out.trans ho4.out.2.1)).back (m := p) hp)
          go_wp2_with (at_builtin; go_loud (refine wpList_ctsK rfl _ _ rfl w.heap.size _ (ds.take p ++ [((⟨A, k, c, n⟩, l) : Cd)]) _ _ _ (ds.drop p) ho4.out rfl rfl (by first | exact hbk.out | (go_simp; exact hbk.out) | simpa using hbk.out) hlt4.out ?_); intro v5 w5 hq5; have ho5 := Lib.hid hq5; clear hq5)
          all_goals go_ret
          all_goals exact ⟨_, _, rfl, ho5.out.1, hcnH.out.symm, hrwH.out, hbw3.out.trans ho5.out.2.1⟩
    · obtain rfl : p = ds.length := by omega
      have hnone : ds[ds.length]? = none := List.getElem?_eq_none (Nat.le_refl _)
      have hcnH := Lib.hid (hcn0.out.1 hnone)
      have ho0 := Lib.hid (show OwnKC w.heap.size (.slice none 0 0) [] wr wr from OwnK.start (World.ownsRow_nil _ _ _ _) hB)
      have hf0 := Lib.hid ((hH.out.below hbH.out).front hp)
      clear hcn0 hnone
      go_upto_region 6 with (at_builtin; refine wpList_ctsK rfl _ _ rfl w.heap.size _ [] wr wr _ (ds.take ds.length) ho0.out rfl rfl (by first | exact hf0.out | simpa using hf0.out) (by have := hfr.out; simpa using this) ?_; intro v3 w3 hq3; have ho3 := Lib.hid (show OwnKC w.heap.size v3 (ds.take ds.length) wr w3 from hq3); clear hq3)
      obtain ⟨A3, c3, rfl⟩ := ho3.out.formN (n := ds.length) (by rw [List.length_take]; omega)
      have hbw3 := Lib.hid (show Below w.heap.size w wr from hbH.out)
      go_upto_region 10 with (at_builtin; refine wpList_countK rfl _ _ rfl w.heap.size _ (ds.take ds.length) _ _ (⟨A, k, c, n⟩, l) _ rfl ho3.out rfl rfl hlt3.out ?_; intro v4 w4 hq4; have ho4 := Lib.hid hq4; clear hq4)
      obtain ⟨A4, c4, rfl⟩ := ho4.out.formN (n := ds.length + 1) (by rw [List.length_append, List.length_take, List.length_singleton]; omega)
      have hbk := Lib.hid ((hH.out.below (hbw3.out.trans ho4.out.2.1)).back_ (m := ds.length) (j := 0) (Nat.le_refl _) (by omega))
      go_wp2_with (at_builtin; go_loud (refine wpList_ctsK rfl _ _ rfl w.heap.size _ (ds.take ds.length ++ [((⟨A, k, c, n⟩, l) : Cd)]) _ _ _ (ds.drop ds.length) ho4.out rfl rfl (by first | exact hbk.out | (go_simp; exact hbk.out) | simpa using hbk.out) hlt4.out ?_); intro v5 w5 hq5; have ho5 := Lib.hid hq5; clear hq5)
      all_goals go_ret
      all_goals exact ⟨_, _, rfl, ho5.out.1, hcnH.out.symm, hrwH.out, hbw3.out.trans ho5.out.2.1⟩
end Go.Proofs.Ythmkfodiekmkjaa
