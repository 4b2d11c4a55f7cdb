/-
  The library's DeleteFunc at counted rows, at this program: those of count 0 go, in place. Conditions: those written.
-/
import Derived.Test.YtfkimemagbkcoaaDoorRwK
import Derived.Test.YtfkimemagbkcoaaDoorRwW
import Derived.Test.YtfkimemagbkcoaaDoorShelf
set_option linter.unusedVariables false
set_option linter.unusedSimpArgs false
namespace Go.Proofs.YtfkimemagbkcoaaDoor
open Go.RowKit Go.Lib Go.Proofs Go.Shelf

/-- What the rounds hold: of the first j ones those that are kept lie in front; from j on nothing has turned. -/
def RelD (g cap : Nat) (xs : List Cv) (w0 : World) (s5 s6 : Value) (wr : World) : Prop :=
  ∃ (i j : Nat) (ys : List Cv), s5 = .int .i64 (i : Int) ∧ s6 = .int .i64 (j : Int) ∧ i < j ∧ j ≤ xs.length ∧ ys.length = xs.length ∧ ys.take i = (xs.take j).filter keepV ∧ (∀ t, j ≤ t → ys[t]? = xs[t]?) ∧ OwnC g cap ys wr ∧ w0.grownBy wr (some g)
theorem idx_split : ∀ (xs : List Cv) (i : Nat), (Lib.idxByFrom (fun _ y => !keepV y) default xs i = -1 ∧ xs.filter keepV = xs) ∨
    ∃ k, k < xs.length ∧ Lib.idxByFrom (fun _ y => !keepV y) default xs i = ((i + k : Nat) : Int) ∧ (xs.take (k + 1)).filter keepV = xs.take k
  | [], _ => .inl ⟨rfl, rfl⟩
  | x :: r, i => by
    cases hx : keepV x with
    | false => exact .inr ⟨0, by simp, by simp [Lib.idxByFrom, hx], by simp [hx]⟩
    | true =>
      rcases idx_split r (i + 1) with ⟨h1, h2⟩ | ⟨k, h1, h2, h3⟩
      · refine .inl ⟨by simp only [Lib.idxByFrom, hx]; simpa using h1, by simp [hx, h2]⟩
      · refine .inr ⟨k + 1, by simpa using h1, ?_, by simp [hx, h3]⟩
        simp only [Lib.idxByFrom, hx]
        rw [show i + (k + 1) = i + 1 + k by omega]
        simpa using h2
theorem idxBy_none {xs : List Cv} (h : Lib.idxBy (fun _ y => !keepV y) xs default = -1) : xs.filter keepV = xs := by
  rcases idx_split xs 0 with ⟨_, h2⟩ | ⟨k, _, h2, _⟩
  · exact h2
  · unfold Lib.idxBy at h
    rw [h] at h2
    omega
theorem idxBy_some {xs : List Cv} {k : Int} (h : Lib.idxBy (fun _ y => !keepV y) xs default = k) (hk : k ≠ -1) : ∃ i : Nat, k = (i : Int) ∧ i < xs.length ∧ (xs.take (i + 1)).filter keepV = xs.take i := by
  unfold Lib.idxBy at h
  rcases idx_split xs 0 with ⟨h2, _⟩ | ⟨i, h1, h2, h3⟩
  · rw [h] at h2
    exact absurd h2 hk
  · rw [h] at h2
    exact ⟨i, by rw [h2, Nat.zero_add], h1, h3⟩
theorem rel_skip {xs ys : List Cv} {i j : Nat} {x : Cv} (h : ys.take i = (xs.take j).filter keepV) (hx : xs[j]? = some x) (hk : keepV x = false) : ys.take i = (xs.take (j + 1)).filter keepV := by
  obtain ⟨hj, rfl⟩ := List.getElem?_eq_some_iff.1 hx
  rw [List.take_succ_eq_append_getElem hj, List.filter_append, ← h]
  simp [hk]
theorem rel_keep {xs ys : List Cv} {i j : Nat} {x : Cv} (hi : i < ys.length) (h : ys.take i = (xs.take j).filter keepV) (hx : xs[j]? = some x) (hk : keepV x = true) : (ys.set i x).take (i + 1) = (xs.take (j + 1)).filter keepV := by
  obtain ⟨hj, rfl⟩ := List.getElem?_eq_some_iff.1 hx
  rw [List.take_succ_eq_append_getElem hj, List.filter_append, ← h, List.take_succ_eq_append_getElem (by simpa using hi)]
  rw [List.take_set, List.set_eq_of_length_le (by rw [List.length_take]; omega)]
  simp [hk]
set_option maxHeartbeats 4000000 in
set_option maxRecDepth 1000000 in
theorem deleteC_any (g cap : Nat) (xs : List Cv) (w : World) (h : OwnC g cap xs w) (hn : xs.length ≤ 1099511627776) :
    Calls Tryd.prog 41 #[.slice (some ⟨g, 0, none⟩) xs.length cap, .func (.func 42) #[] #[]] w fun e w' =>
      e = .returned (.slice (some ⟨g, 0, none⟩) (xs.filter keepV).length cap) ∧ OwnC g cap (xs.filter keepV) w' ∧ w.grownBy w' (some g) := by
  have eg : ∀ args w, (callFunc 42 args).run Tryd.prog w = .ok (.enter 42 args) w := enters_of Tryd.func42 (by kernel_rfl) rfl
  have hI := AnyQ.slices_IndexFunc Tryd.idxC 2 (fun _ => by kernel_rfl) (fun _ => by kernel_rfl) cellsV cellsV_len (fun y => !keepV y) 42 #[] eg g 0 xs.length cap xs w
    (fun W x hb => (sumZero_any x.A x.k x.c x.n W).mono fun e w' ⟨he, hb'⟩ => ⟨by rw [he]; simp [keepV], hb.trans (hb'.mono hb.size)⟩) (Nat.le_refl _) (by omega) h.lt
    (fun j hj i v hv => by
      have := OwnL.cell h (i := j) (j := i) (x := cellsV xs[j]!) (v := v) (by rw [List.getElem?_map, List.getElem?_eq_getElem hj, getElem!_pos xs j hj]; rfl) hv
      simpa [Nat.zero_add] using this)
  rw [List.take_length] at hI
  change Calls Tryd.prog 78 _ _ _ at hI
  obtain ⟨q, hq⟩ : ∃ q, Lib.idxBy (fun _ y => !keepV y) xs default = q := ⟨_, rfl⟩
  rw [hq] at hI
  have hIH := Lib.hid hI; have hqH := Lib.hid hq; have hH := Lib.hid h
  have hcap := Lib.hid h.len
  clear hI hq h
  by_cases h0 : q = -1
  · subst h0
    have e1 := Lib.hid (idxBy_none hqH.out)
    go_enter Tryd.func41, Tryd.ntmps41
    go_wp2_with fail
    refine hIH.out.mono ?_
    rintro e w1 ⟨rfl, hb⟩
    go_wp2_with fail
    go_ret
    rw [e1.out]
    exact ⟨rfl, OwnL.below hH.out hb, grown_below hb _⟩
  · obtain ⟨i0, rfl, hi0, hf0⟩ := idxBy_some hqH.out h0
    have hf0H := Lib.hid hf0
    have hne : ((i0 : Int) == -1) = false := beq_eq_false_iff_ne.2 (by omega)
    clear hf0 h0
    go_enter Tryd.func41, Tryd.ntmps41
    go_wp2_with fail
    refine hIH.out.mono ?_
    rintro e w1 ⟨rfl, hb⟩
    have hbH := Lib.hid hb
    clear hb
    go_wp2_with fail
    go_loopw [5, 6, 7] (fun s5 s6 s7 wr => RelD g cap xs w s5 s6 wr) (fun _ s6 _ _ => xs.length - (Go.RowKit.intOf s6).toNat)
    case atStart => exact ⟨i0, i0 + 1, xs, rfl, by go_num, by omega, hi0, rfl, hf0H.out.symm, fun _ _ => rfl, OwnL.below hH.out hbH.out, grown_below hbH.out _⟩
    case round =>
      unfold RelD at hrel
      obtain ⟨i, j, ys, rfl, rfl, hij, hj, hys, htk, hdr, hown, hgr⟩ := hrel
      have hownH := Lib.hid hown; have hgrH := Lib.hid hgr; have htkH := Lib.hid htk; have hdrH := Lib.hid hdr; have hysH := Lib.hid hys
      clear hown hgr htk hdr hys
      by_cases hlt : j < xs.length
      · obtain ⟨x, hx⟩ : ∃ x, xs[j]? = some x := ⟨_, List.getElem?_eq_getElem hlt⟩
        have hyj := (hdrH.out j (Nat.le_refl _)).trans hx
        obtain ⟨c0, c1⟩ := hownH.out.cells hyj
        have hxH := Lib.hid hx
        obtain ⟨xA, xk, xc, xn⟩ := x
        simp only at c0 c1
        clear hx hyj
        have hgl := hownH.out.lt
        have hi : i < ys.length := by have := hysH.out; omega
        obtain ⟨y, hy⟩ : ∃ y, ys[i]? = some y := ⟨_, List.getElem?_eq_getElem hi⟩
        have hyH := Lib.hid hy
        clear hy
        go_wp2_with fail
        refine (sumZero_any xA xk xc xn _).mono ?_
        rintro e w2 ⟨rfl, hb2⟩
        have v0 := (hb2.cell (p := ⟨wr.heap.size, 0, none⟩) (by simp)).trans (cell_new wr #[.slice xA xk xc, .int .i64 xn] _ 0)
        have v1 := (hb2.cell (p := ⟨wr.heap.size, 1, none⟩) (by simp)).trans (cell_new wr #[.slice xA xk xc, .int .i64 xn] _ 1)
        have hown2 := Lib.hid (OwnL.below (OwnL.alloc hownH.out (.cells #[.slice xA xk xc, .int .i64 xn] 45)) hb2)
        have hgr2 := Lib.hid (grown_trans hgrH.out (grown_trans (World.grownBy_alloc wr _ _) (grown_below hb2 _)))
        obtain ⟨i0, i1⟩ := OwnC.cells (xs := ys) hown2.out hyH.out
        have f0 := OwnL.free hown2.out (i * 2)
        have f1 := OwnL.free hown2.out (i * 2 + 1)
        have hg2 := OwnL.lt hown2.out
        have hgv : g ≠ wr.heap.size := by omega
        have hsz2 : wr.heap.size < w2.heap.size := by have := hb2.size; simp at this; omega
        have hnot : Hid (keepV ⟨xA, xk, xc, xn⟩ = !(xn == 0)) := rfl
        clear hb2 c0 c1 hownH hgrH
        cases hz : (xn == 0) with
        | true =>
          have hkp := Lib.hid (show keepV ⟨xA, xk, xc, xn⟩ = false by rw [hnot.out, hz]; rfl)
          go_wp2_with fail
          go_roundw
          case rel => exact ⟨i, j + 1, ys, rfl, by go_num, by omega, by omega, hysH.out, rel_skip htkH.out hxH.out hkp.out, fun t ht => hdrH.out t (by omega), hown2.out, hgr2.out⟩
          case measure => simp [Go.RowKit.intOf]; omega
        | false =>
          have hkp := Lib.hid (show keepV ⟨xA, xk, xc, xn⟩ = true by rw [hnot.out, hz]; rfl)
          go_wp2_with fail
          go_roundw
          case rel => exact ⟨i + 1, j + 1, ys.set i ⟨xA, xk, xc, xn⟩, by go_num, by go_num, by omega, by omega, by rw [List.length_set]; exact hysH.out, rel_keep hi htkH.out hxH.out hkp.out, fun t ht => by rw [List.getElem?_set, if_neg (by omega)]; exact hdrH.out t (by omega), OwnC.put hown2.out hi ⟨xA, xk, xc, xn⟩, grown_setCell (grown_setCell hgr2.out _ _) _ _⟩
          case measure => simp [Go.RowKit.intOf]; omega
      · obtain rfl : j = xs.length := by omega
        have hicap : i < cap := by have := hcap.out; simp at this; omega
        have hilen : i ≤ (ys.map cellsV).length := by rw [List.length_map, hysH.out]; omega
        obtain ⟨w3, hcl, hown3, hgr3⟩ := OwnL.clear (P := Tryd.prog) hownH.out (i := i) (n := xs.length - i) hilen (by rw [List.length_map, hysH.out]) (cap - i) 41 (Nat.zero) (.agg #[.slice none 0 0, .int .i64 0]) Tryd.underlying41 (by kernel_rfl) rfl (by simp [Value.cells, Value.oneCell'])
        have hcl' : ∀ ty, (Builtin.clear_ #[41] ty #[.slice (some ⟨g, i * 2, none⟩) (xs.length - i) (cap - i)]).run Tryd.prog wr = .ok (.tuple #[]) w3 := fun ty => hcl
        have hfin := Lib.hid (show ys.take i = xs.filter keepV by rw [htkH.out, List.take_length])
        have hown3H := Lib.hid (show OwnC g cap (xs.filter keepV) w3 by unfold OwnC; rw [← hfin.out, List.map_take]; exact hown3)
        have hlenH := Lib.hid (show (xs.filter keepV).length = i by rw [← hfin.out, List.length_take, hysH.out]; omega)
        have hgr3H := Lib.hid (grown_trans hgrH.out hgr3)
        clear hcl hown3 hgr3
        go_wp2_with fail
        go_ret
        exact ⟨by rw [hlenH.out]; rfl, hown3H.out, hgr3H.out⟩
end Go.Proofs.YtfkimemagbkcoaaDoor
