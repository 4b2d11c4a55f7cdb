/-
  The library's DeleteFunc at times, at this program: those at or behind a time go, in place. Conditions: those written.
-/
import Derived.Test.YtdfhchpimpbgfaaGreatDoorChB
set_option linter.unusedVariables false
set_option linter.unusedSimpArgs false
namespace Go.Proofs.YtdfhchpimpbgfaaGreatDoor
open Go.RowKit Go.Lib Go.Proofs Go.Shelf

/-- What the rounds hold: of the first j ones those that are kept lie in front; from j on nothing has turned. -/
def RelD (kp : Td → Bool) (g cap : Nat) (xs : List Td) (w0 : World) (s5 s6 : Value) (wr : World) : Prop :=
  ∃ (i j : Nat) (ys : List Td), s5 = .int .i64 (i : Int) ∧ s6 = .int .i64 (j : Int) ∧ i < j ∧ j ≤ xs.length ∧ ys.length = xs.length ∧ ys.take i = (xs.take j).filter kp ∧ (∀ t, j ≤ t → ys[t]? = xs[t]?) ∧ OwnT g cap ys wr ∧ w0.grownBy wr (some g)
theorem rel_skip {kp : Td → Bool} {xs ys : List Td} {i j : Nat} {x : Td} (h : ys.take i = (xs.take j).filter kp) (hx : xs[j]? = some x) (hk : kp x = false) : ys.take i = (xs.take (j + 1)).filter kp := by
  obtain ⟨hj, rfl⟩ := List.getElem?_eq_some_iff.1 hx
  rw [List.take_succ_eq_append_getElem hj, List.filter_append, ← h]
  simp [hk]
theorem rel_keep {kp : Td → Bool} {xs ys : List Td} {i j : Nat} {x : Td} (hi : i < ys.length) (h : ys.take i = (xs.take j).filter kp) (hx : xs[j]? = some x) (hk : kp x = true) : (ys.set i x).take (i + 1) = (xs.take (j + 1)).filter kp := by
  obtain ⟨hj, rfl⟩ := List.getElem?_eq_some_iff.1 hx
  rw [List.take_succ_eq_append_getElem hj, List.filter_append, ← h, List.take_succ_eq_append_getElem (by simpa using hi)]
  rw [List.take_set, List.set_eq_of_length_le (by rw [List.length_take]; omega)]
  simp [hk]

theorem idx_none {p : Tm → Bool} {xs : List Td} (h : ∀ d ∈ xs, p d.t = false) : xs.filter (fun x => !p x.t) = xs := by
  rw [List.filter_eq_self]
  intro x hx
  simp [h x hx]
theorem idx_first {p : Tm → Bool} {xs : List Td} {i : Nat} {d : Td} (hd : xs[i]? = some d) (hp : p d.t = true) (h : ∀ d ∈ xs.take i, p d.t = false) : (xs.take (i + 1)).filter (fun x => !p x.t) = xs.take i := by
  obtain ⟨hi, rfl⟩ := List.getElem?_eq_some_iff.1 hd
  rw [List.take_succ_eq_append_getElem hi, List.filter_append, idx_none h]
  simp [hp]
set_option maxHeartbeats 4000000 in
set_option maxRecDepth 1000000 in
/-- .. of none. -/
theorem deleteN_any (b : Nat) (w : World) :
    Calls Tryz.prog 38 #[.slice none 0 0, .func (.func 39) #[] #[.pointer (some ⟨b, 0, none⟩)]] w fun e w' => e = .returned (.slice none 0 0) ∧ Below w.heap.size w w' := by
  have eg : ∀ args w, (callFunc 39 args).run Tryz.prog w = .ok (.enter 39 args) w := enters_of Tryz.func39 (by kernel_rfl) rfl
  have hI := indexT_any 39 #[.pointer (some ⟨b, 0, none⟩)] eg (fun _ => false) (.slice none 0 0) [] w (TmsV.nil w) (fun W d hd => by simp at hd)
  have hIH := Lib.hid hI
  clear hI
  go_enter Tryz.func38, Tryz.ntmps38
  go_wp2_with fail
  refine hIH.out.mono ?_
  rintro e w1 ⟨⟨r, rfl, hr⟩, hb⟩
  obtain rfl : r = -1 := by
    rcases hr with ⟨h, _⟩ | ⟨i, _, h, _⟩
    · exact h
    · simp at h
  clear hr
  go_wp2_with fail
  go_ret
  exact ⟨rfl, hb⟩
set_option maxHeartbeats 4000000 in
set_option maxRecDepth 1000000 in
theorem deleteT_any (g cap b : Nat) (xs : List Td) (u : Td) (w0 w : World) (h : OwnT g cap xs w) (hr : RdT w0 xs) (hw : Below w0.heap.size w0 w) (hg0 : w0.heap.size ≤ g) (hcb : HasC w b (cellsT u) 26) (hbg : b ≠ g) (hu : WordsV w0 (slD u) u.t.l) (hn : xs.length ≤ 1099511627776) :
    Calls Tryz.prog 38 #[.slice (some ⟨g, 0, none⟩) xs.length cap, .func (.func 39) #[] #[.pointer (some ⟨b, 0, none⟩)]] w fun e w' =>
      e = .returned (.slice (some ⟨g, 0, none⟩) (xs.filter (fun x => !leqT u.t x.t)).length cap) ∧ OwnT g cap (xs.filter (fun x => !leqT u.t x.t)) w' ∧ w.grownBy w' (some g) := by
  have eg : ∀ args w, (callFunc 39 args).run Tryz.prog w = .ok (.enter 39 args) w := enters_of Tryz.func39 (by kernel_rfl) rfl
  have hcall : ∀ (W : World) (d : Td), d ∈ xs → w.grownBy W (some g) → Calls Tryz.prog 39 #[valT d, .pointer (some ⟨b, 0, none⟩)] W fun e w' => e = .returned (.bool (leqT u.t d.t)) ∧ Below W.heap.size W w' := fun W d hd hW => by
    have hb : Below w0.heap.size w0 W := hw.trans (below_of_grown hW hg0 hw.size)
    exact of1_any d u b W ((hr d hd).below hb) ((hW.block b hcb.lt (fun e => hbg (Option.some.inj e))).trans hcb) (hu.below hb)
  have hI := indexT_any 39 #[.pointer (some ⟨b, 0, none⟩)] eg (fun x => leqT u.t x) (.slice (some ⟨g, 0, none⟩) xs.length cap) xs w ((OwnTs.of h (Nat.zero_le g)).tms (hr.below hw)) (fun W d hd hb => hcall W d hd (grownD_below hb _))
  have hIH := Lib.hid hI; have hH := Lib.hid h; have hcallH := Lib.hid hcall
  have hcap := Lib.hid h.len
  obtain ⟨kp, hkp⟩ : ∃ kp : Td → Bool, (fun x => !leqT u.t x.t) = kp := ⟨_, rfl⟩
  have hkpH : Hid (∀ x : Td, kp x = !leqT u.t x.t) := Lib.hid (fun x => by rw [← hkp])
  rw [hkp]
  have hnoH : Hid ((∀ d ∈ xs, leqT u.t d.t = false) → xs.filter kp = xs) := Lib.hid (fun h => by rw [← hkp]; exact idx_none (p := fun x => leqT u.t x) h)
  have hfiH : Hid (∀ (i : Nat) (d : Td), xs[i]? = some d → leqT u.t d.t = true → (∀ d ∈ xs.take i, leqT u.t d.t = false) → (xs.take (i + 1)).filter kp = xs.take i) := Lib.hid (fun i d h1 h2 h3 => by rw [← hkp]; exact idx_first (p := fun x => leqT u.t x) h1 h2 h3)
  clear hI h hcall hr hw hcb hu hkp
  go_enter Tryz.func38, Tryz.ntmps38
  go_wp2_with fail
  refine hIH.out.mono ?_
  rintro e w1 ⟨⟨q, rfl, hq⟩, hb⟩
  have hbH := Lib.hid hb
  clear hb
  rcases hq with ⟨rfl, hno⟩ | ⟨i0, rfl, hi0, hf0, d0, hd0, hp0⟩
  · have e1 := Lib.hid (hnoH.out hno)
    clear hno
    go_wp2_with fail
    go_ret
    rw [e1.out]
    exact ⟨rfl, OwnL.below hH.out hbH.out, grownD_below hbH.out _⟩
  · have hf0H := Lib.hid (hfiH.out i0 d0 hd0 hp0 hf0)
    have hne : ((i0 : Int) == -1) = false := beq_eq_false_iff_ne.2 (by omega)
    clear hf0 hd0 hp0
    go_wp2_with fail
    go_loopw [5, 6, 7] (fun s5 s6 s7 wr => RelD kp g cap xs w s5 s6 wr) (fun _ s6 _ _ => xs.length - (Go.RowKit.intOf s6).toNat)
    case atStart => exact ⟨i0, i0 + 1, xs, rfl, by go_num, by omega, hi0, rfl, hf0H.out.symm, fun _ _ => rfl, OwnL.below hH.out hbH.out, grownD_below hbH.out _⟩
    case round =>
      unfold RelD at hrel
      obtain ⟨i, j, ys, rfl, rfl, hij, hj, hys, htk, hdr, hown, hgr⟩ := hrel
      have hownH := Lib.hid hown; have hgrH := Lib.hid hgr; have htkH := Lib.hid htk; have hdrH := Lib.hid hdr; have hysH := Lib.hid hys
      clear hown hgr htk hdr hys
      by_cases hlt : j < xs.length
      · obtain ⟨x, hx⟩ : ∃ x, xs[j]? = some x := ⟨_, List.getElem?_eq_getElem hlt⟩
        have hyj := (hdrH.out j (Nat.le_refl _)).trans hx
        obtain ⟨c0, c1⟩ := hownH.out.cells hyj
        have hxH := Lib.hid hx
        have hcx := Lib.hid (hcallH.out (wr.alloc (.cells (cellsT x).toArray 26)) x (List.mem_of_getElem? hx) (grown_trans hgrH.out (World.grownBy_alloc wr _ _)))
        have hkx := Lib.hid (hkpH.out x)
        obtain ⟨xA, xc, ⟨xe, xl⟩⟩ := x
        simp only [cellsT] at c0 c1
        clear hx hyj
        have hgl := hownH.out.lt
        have hi : i < ys.length := by have := hysH.out; omega
        obtain ⟨y, hy⟩ : ∃ y, ys[i]? = some y := ⟨_, List.getElem?_eq_getElem hi⟩
        have hyH := Lib.hid hy
        clear hy
        go_wp2_with fail
        refine hcx.out.mono ?_
        rintro e w2 ⟨rfl, hb2⟩
        have v0 := (hb2.cell (p := ⟨wr.heap.size, 0, none⟩) (by simp)).trans (cell_new wr #[.int .u64 xe, .slice xA xl.length xc] _ 0)
        have v1 := (hb2.cell (p := ⟨wr.heap.size, 1, none⟩) (by simp)).trans (cell_new wr #[.int .u64 xe, .slice xA xl.length xc] _ 1)
        have hown2 := Lib.hid (OwnL.below (OwnL.alloc hownH.out (.cells #[.int .u64 xe, .slice xA xl.length xc] 26)) hb2)
        have hgr2 := Lib.hid (grown_trans hgrH.out (grown_trans (World.grownBy_alloc wr _ _) (grownD_below hb2 _)))
        obtain ⟨i0, i1⟩ := OwnT.cells (ds := ys) hown2.out hyH.out
        have f0 := OwnL.free hown2.out (i * 2)
        have f1 := OwnL.free hown2.out (i * 2 + 1)
        have hg2 := OwnL.lt hown2.out
        have hgv : g ≠ wr.heap.size := by omega
        have hsz2 : wr.heap.size < w2.heap.size := by have := hb2.size; simp at this; omega
        clear hb2 c0 c1 hownH hgrH
        cases hz : leqT u.t ⟨xe, xl⟩ with
        | true =>
          have hkp := Lib.hid (show kp ⟨xA, xc, ⟨xe, xl⟩⟩ = false by rw [hkx.out, hz]; rfl)
          go_wp2_with fail
          go_roundw
          case rel => exact ⟨i, j + 1, ys, rfl, by go_num, by omega, by omega, hysH.out, rel_skip htkH.out hxH.out hkp.out, fun t ht => hdrH.out t (by omega), hown2.out, hgr2.out⟩
          case measure => simp [Go.RowKit.intOf]; omega
        | false =>
          have hkp := Lib.hid (show kp ⟨xA, xc, ⟨xe, xl⟩⟩ = true by rw [hkx.out, hz]; rfl)
          go_wp2_with fail
          go_roundw
          case rel => exact ⟨i + 1, j + 1, ys.set i ⟨xA, xc, ⟨xe, xl⟩⟩, by go_num, by go_num, by omega, by omega, by rw [List.length_set]; exact hysH.out, rel_keep hi htkH.out hxH.out hkp.out, fun t ht => by rw [List.getElem?_set, if_neg (by omega)]; exact hdrH.out t (by omega), OwnT.put hown2.out hi ⟨xA, xc, ⟨xe, xl⟩⟩, grown_setCell (grown_setCell hgr2.out _ _) _ _⟩
          case measure => simp [Go.RowKit.intOf]; omega
      · obtain rfl : j = xs.length := by omega
        have hicap : i < cap := by have := hcap.out; simp at this; omega
        have hilen : i ≤ (ys.map cellsT).length := by rw [List.length_map, hysH.out]; omega
        obtain ⟨w3, hcl, hown3, hgr3⟩ := OwnL.clear (P := Tryz.prog) hownH.out (i := i) (n := xs.length - i) hilen (by rw [List.length_map, hysH.out]) (cap - i) 22 (Nat.zero) (.agg #[.int .u64 0, .slice none 0 0]) Tryz.underlying22 (by kernel_rfl) rfl (by simp [Value.cells, Value.oneCell'])
        have hcl' : ∀ ty, (Builtin.clear_ #[22] ty #[.slice (some ⟨g, i * 2, none⟩) (xs.length - i) (cap - i)]).run Tryz.prog wr = .ok (.tuple #[]) w3 := fun ty => hcl
        have hfin := Lib.hid (show ys.take i = xs.filter kp by rw [htkH.out, List.take_length])
        have hown3H := Lib.hid (show OwnT g cap (xs.filter kp) w3 by unfold OwnT; rw [← hfin.out, List.map_take]; exact hown3)
        have hlenH := Lib.hid (show (xs.filter kp).length = i by rw [← hfin.out, List.length_take, hysH.out]; omega)
        have hgr3H := Lib.hid (grown_trans hgrH.out hgr3)
        clear hcl hown3 hgr3
        go_wp2_with fail
        go_ret
        exact ⟨by rw [hlenH.out]; rfl, hown3H.out, hgr3H.out⟩
end Go.Proofs.YtdfhchpimpbgfaaGreatDoor
