/-
  row.has, row.Pick, at this program: of any row, any columns. Conditions: those written.
-/
import Derived.Test.YtfkimemagbkcoaaDoorRwN
set_option linter.unusedVariables false
set_option linter.unusedSimpArgs false
namespace Go.Proofs.YtfkimemagbkcoaaDoor
open Go.RowKit Go.Lib

def intV (z : Int) : Value := .int .i64 z
/-- The slice value v holds these integers. -/
def IntsV (w : World) (v : Value) (l : List Int) : Prop := SlV w 1 v l.length (l.map intV)
theorem IntsV.below {w w' : World} {v : Value} {l : List Int} (h : IntsV w v l) (hb : Below w.heap.size w w') : IntsV w' v l := SlV.below h hb
theorem IntsV.form {w : World} {v : Value} {l : List Int} (h : IntsV w v l) : ∃ A c, v = .slice A l.length c ∧ l.length ≤ 9223372036854775807 := by
  obtain ⟨_, A, c, rfl, h2, h3, _⟩ := h
  exact ⟨A, c, rfl, by omega⟩
theorem IntsV.at {w : World} {A : Option Addr} {c : Nat} {l : List Int} (h : IntsV w (.slice A l.length c) l) {i : Nat} {z : Int} (hz : l[i]? = some z) :
    ∃ ad : Addr, A = some ad ∧ (ad.add i).block < w.heap.size ∧ w.cell? (ad.add i) = some (.int .i64 z) := by
  obtain ⟨_, A', c', e, _, _, _, h4⟩ := h
  obtain ⟨rfl, _, rfl⟩ := Value.slice.inj e
  have hi : i < l.length := (List.getElem?_eq_some_iff.1 hz).1
  obtain ⟨ad, rfl, h5, h6⟩ := h4 (by omega)
  exact ⟨ad, rfl, by rw [add_block]; exact h5, h6 i _ (by rw [List.getElem?_map, hz]; rfl)⟩
/-- Is it a column? -/
def hasC (n : Nat) (c : Int) : Bool := decide (0 ≤ c ∧ c < (n : Int))
set_option maxHeartbeats 2000000 in
theorem has_any (v : Value) (l : List Dat) (c : Int) (w : World) (h : RowV w v l) :
    Calls Tryd.prog 46 #[v, .int .i64 c] w fun e w' => e = .returned (.bool (hasC l.length c)) ∧ Below w.heap.size w w' := by
  obtain ⟨A, ca, rfl, hla⟩ := h.form
  clear h
  by_cases h0 : 0 ≤ c
  · go_enter Tryd.func46, Tryd.ntmps46
    go_wp2_with fail
    go_ret
    exact ⟨by simp [hasC, h0]; first | done | omega, by go_grown⟩
  · go_enter Tryd.func46, Tryd.ntmps46
    go_wp2_with fail
    go_ret
    exact ⟨by simp [hasC, h0]; first | done | omega, by go_grown⟩
theorem fold_take {α β : Type} {f : β → α → β} {b : β} {l : List α} {p : Nat} {x : α} (h : l[p]? = some x) : (l.take (p + 1)).foldl f b = f ((l.take p).foldl f b) x := by
  obtain ⟨hp, rfl⟩ := List.getElem?_eq_some_iff.1 h
  rw [List.take_succ_eq_append_getElem hp, List.foldl_append]
  rfl
theorem hasC_at {l : List Dat} {c : Int} (h : hasC l.length c = true) : ∃ n : Nat, c = (n : Int) ∧ n < l.length ∧ l[c.toNat]! = l[n]! := by
  have := of_decide_eq_true h
  exact ⟨c.toNat, by omega, by omega, rfl⟩
theorem OwnU.at {B : Nat} {A : Option Addr} {c : Nat} {l : List UInt8} {w : World} (h : OwnU B (.slice A l.length c) l w) {i : Nat} {b : UInt8} (hb : l[i]? = some b) : ∃ g, A = some ⟨g, 0, none⟩ ∧ w.cell? ⟨g, i, none⟩ = some (.int .u8 b.toNat) := by
  have hi : i < l.length := (List.getElem?_eq_some_iff.1 hb).1
  rcases own_slice h with ⟨_, h2⟩ | ⟨g, cap, e, hB⟩
  · omega
  · obtain ⟨rfl, _, rfl⟩ := Value.slice.inj e
    have := World.ownsRow.cells h (g := g) rfl i (.int .u8 b.toNat) (by simp [Lib.byteCells, hb])
    rw [show (⟨g, 0, none⟩ : Addr).add i = ⟨g, i, none⟩ by unfold Addr.add; split <;> simp_all] at this
    exact ⟨g, rfl, this⟩
def getC (l : List Dat) (c : Int) : Dat := l[c.toNat]!
/-- The data of these columns, if all are there. -/
def pickR (l : List Dat) (cols : List Int) : Option (List Dat) := if cols.length ≤ 32 ∧ cols.all (hasC l.length) = true then some (cols.map (getC l)) else none
/-- What the rounds hold: the first ones are laid. -/
def RelP (l : List Dat) (cols : List Int) (g : Nat) (w0 : World) (s17 : Value) (wr : World) : Prop :=
  ∃ p : Nat, p ≤ cols.length ∧ s17 = .int .i64 (p : Int) ∧ (cols.take p).all (hasC l.length) = true ∧ OwnL 79 4 g cols.length (((cols.take p).map (getC l)).map cellsD ++ List.replicate (cols.length - p) zeroL) wr ∧ Below w0.heap.size w0 wr
theorem all_take {n : Nat} {cols : List Int} {p : Nat} {c : Int} (h : cols[p]? = some c) : (cols.take (p + 1)).all (hasC n) = ((cols.take p).all (hasC n) && hasC n c) := by
  obtain ⟨hp, rfl⟩ := List.getElem?_eq_some_iff.1 h
  rw [List.take_succ_eq_append_getElem hp, List.all_append]
  simp
theorem pick_step {l : List Dat} {cols : List Int} {p : Nat} {c : Int} (h : cols[p]? = some c) :
    (((cols.take p).map (getC l)).map cellsD ++ List.replicate (cols.length - p) zeroL).set p (cellsD (getC l c)) = ((cols.take (p + 1)).map (getC l)).map cellsD ++ List.replicate (cols.length - (p + 1)) zeroL := by
  obtain ⟨hp, rfl⟩ := List.getElem?_eq_some_iff.1 h
  have hl : (((cols.take p).map (getC l)).map cellsD).length = p := by rw [List.length_map, List.length_map, List.length_take]; omega
  rw [List.set_append_right _ _ (by omega), hl, Nat.sub_self, List.take_succ_eq_append_getElem hp, List.map_append, List.map_append, List.append_assoc]
  congr 1
  rw [show cols.length - p = (cols.length - (p + 1)) + 1 by omega, List.replicate_succ]
  rfl
theorem pick_none {l : List Dat} {cols : List Int} {p : Nat} {c : Int} (h : cols[p]? = some c) (hc : hasC l.length c = false) : pickR l cols = none := by
  unfold pickR
  rw [if_neg]
  rintro ⟨_, h2⟩
  have := List.all_eq_true.1 h2 c (List.mem_of_getElem? h)
  rw [hc] at this
  cases this
set_option maxHeartbeats 4000000 in
set_option maxRecDepth 1000000 in
theorem pick_any (v vc : Value) (l : List Dat) (cols : List Int) (w : World) (h : RowV w v l) (hc : IntsV w vc cols) (hs : ∀ d ∈ l, d.s.size ≤ 281474976710656) :
    Calls Tryd.prog 23 #[v, vc] w fun e w' => ∃ v' k, e = .returned (.tuple #[v', .int .u16 k]) ∧
      ((pickR l cols = none ∧ k = 20 ∧ v' = .slice none 0 0) ∨ ∃ q g, pickR l cols = some q ∧ k = 0 ∧ v' = .slice (some ⟨g, 0, none⟩) q.length q.length ∧ w.heap.size ≤ g ∧ OwnL 79 4 g q.length (q.map cellsD) w') ∧ Below w.heap.size w w' := by
  obtain ⟨A, ca, rfl, hla⟩ := h.form
  obtain ⟨C, cc, rfl, hlc⟩ := hc.form
  have hH := Lib.hid h; have hcH := Lib.hid hc; have hsH := Lib.hid hs
  clear h hc hs
  by_cases hbig : 32 < cols.length
  · have hno := Lib.hid (show pickR l cols = none by unfold pickR; rw [if_neg]; rintro ⟨h1, _⟩; omega)
    go_enter Tryd.func23, Tryd.ntmps23
    go_wp2_with fail
    refine bodyPost_ret (v := .tuple #[.slice none 0 0, .int .u16 20]) (by simp [results, Tryd.results23, go_sem]) rfl ?_
    exact ⟨_, _, rfl, .inl ⟨hno.out, rfl, rfl⟩, by go_grown⟩
  obtain ⟨cz, hmk, hown⟩ := make_row cols.length (by omega) w
  obtain ⟨W1, hW1⟩ : ∃ W1, w.alloc (.cells cz 79) = W1 := ⟨_, rfl⟩
  rw [hW1] at hmk hown
  have hownH := Lib.hid hown
  have hb1 := Lib.hid (show Below w.heap.size w W1 from hW1 ▸ (Below.refl _ w).alloc (Nat.le_refl _) _)
  clear hown hW1
  go_enter Tryd.func23, Tryd.ntmps23
  go_wp2_with fail
  go_loopw [4, 5, 7, 8, 17] (fun s4 s5 s7 s8 s17 wr => s4 = .slice none 0 0 ∧ s5 = .int .u16 0 ∧ RelP l cols w.heap.size w s17 wr) (fun _ _ _ _ s17 _ => cols.length - (Go.RowKit.intOf s17).toNat)
  case atStart => exact ⟨rfl, rfl, 0, by omega, rfl, rfl, by rw [List.take_zero]; exact hownH.out, hb1.out⟩
  case round =>
    unfold RelP at hrel
    obtain ⟨rfl, rfl, p, hp, rfl, hall, hown, hb⟩ := hrel
    have hownR := Lib.hid hown; have hbH := Lib.hid hb; have hallH := Lib.hid hall
    clear hown hb hmk hall
    by_cases hlt : p < cols.length
    · obtain ⟨c, hcc⟩ : ∃ c, cols[p]? = some c := ⟨_, List.getElem?_eq_getElem hlt⟩
      obtain ⟨ac, rfl, hbc, a0_⟩ := (hcH.out.below hbH.out).at hcc
      have hltH := Lib.hid hlt
      have hccH := Lib.hid hcc
      clear hcc
      go_wp2_with fail
      refine (has_any _ l c _ (hH.out.below hbH.out)).mono ?_
      rintro e w1 ⟨rfl, hb1'⟩
      have hown1 := Lib.hid (hownR.out.below hb1')
      have hb1H := Lib.hid (hbH.out.trans (hb1'.mono hbH.out.size))
      clear hb1' a0_
      cases hh : hasC l.length c with
      | false =>
        have hno := Lib.hid (pick_none hccH.out hh)
        clear hh
        go_wp2_with fail
        refine bodyPost_ret (v := .tuple #[.slice none 0 0, .int .u16 20]) (by simp [results, Tryd.results23, go_sem]) rfl ?_
        exact ⟨_, _, rfl, .inl ⟨hno.out, rfl, rfl⟩, hb1H.out⟩
      | true =>
        have hst := Lib.hid (pick_step (l := l) hccH.out)
        have hal := Lib.hid (show (cols.take (p + 1)).all (hasC l.length) = true by rw [all_take hccH.out, hallH.out, hh]; rfl)
        obtain ⟨n, rfl, hn, hln⟩ := hasC_at hh
        obtain ⟨ad, rfl, hba, a0_, a1_, a2_, a3_⟩ := (hH.out.below hb1H.out).at hn
        have hd2 : getC l (n : Int) = l[n] := by unfold getC; rw [hln, getElem!_pos l n hn]
        have hsd := Lib.hid (hsH.out _ (List.getElem_mem hn))
        rw [hd2] at hst
        obtain ⟨d, hd⟩ : ∃ d, l[n] = d := ⟨_, rfl⟩
        rw [hd] at a0_ a1_ a2_ a3_ hst hsd
        clear hd hd2 hln hh
        obtain ⟨k, b, m, s⟩ := d
        simp only at a0_ a1_ a2_ a3_
        have hpl : p < (((cols.take p).map (getC l)).map cellsD ++ List.replicate (cols.length - p) zeroL).length := by
          rw [List.length_append, List.length_map, List.length_map, List.length_take, List.length_replicate]; omega
        obtain ⟨xs, hxs⟩ : ∃ xs, ((cols.take p).map (getC l)).map cellsD ++ List.replicate (cols.length - p) zeroL = xs := ⟨_, rfl⟩
        rw [hxs] at hown1 hpl hst hownR
        have hplH := Lib.hid hpl
        clear hxs hpl
        have hgl := hown1.out.lt
        go_wp2_with fail
        refine (fresh_any k b m s _ hsd.out).mono ?_
        rintro e w2 ⟨rfl, hb⟩
        have hown2 := Lib.hid (hown1.out.below hb)
        have hb2 := Lib.hid (hb1H.out.trans (hb.mono hb1H.out.size))
        obtain ⟨y, hy⟩ : ∃ y, xs[p]? = some y := ⟨_, List.getElem?_eq_getElem hplH.out⟩
        obtain ⟨y0, y1, y2, y3, rfl⟩ : ∃ p q r s, y = [p, q, r, s] := by
          have := hown2.out.1 y (List.mem_of_getElem? hy)
          match y, this with
          | [p, q, r, s], _ => exact ⟨p, q, r, s, rfl⟩
        have e0_ := hown2.out.cell hy (j := 0) rfl
        have e1_ := hown2.out.cell hy (j := 1) rfl
        have e2_ := hown2.out.cell hy (j := 2) rfl
        have e3_ := hown2.out.cell hy (j := 3) rfl
        rw [Nat.add_zero] at e0_
        have f0 := hown2.out.free (p * 4); have f1 := hown2.out.free (p * 4 + 1); have f2 := hown2.out.free (p * 4 + 2); have f3 := hown2.out.free (p * 4 + 3)
        have hg2 := hown2.out.lt
        clear hb hy a0_ a1_ a2_ a3_
        go_wp2_with fail
        go_roundw
        case rel => exact ⟨rfl, rfl, p + 1, hltH.out, by go_num, hal.out, by rw [← hst.out]; exact hown2.out.put4 hplH.out _ _ _ _, (((hb2.out.setCell (Nat.le_refl _) _).setCell (Nat.le_refl _) _).setCell (Nat.le_refl _) _).setCell (Nat.le_refl _) _⟩
        case measure => have := hltH.out; simp [Go.RowKit.intOf]; omega
    · obtain rfl : p = cols.length := by omega
      rw [List.take_length] at hownR hallH
      have hyes := Lib.hid (show pickR l cols = some (cols.map (getC l)) by unfold pickR; rw [if_pos ⟨by omega, hallH.out⟩])
      have hfin := Lib.hid (show (cols.map (getC l)).map cellsD ++ List.replicate (cols.length - cols.length) zeroL = (cols.map (getC l)).map cellsD by rw [Nat.sub_self]; simp)
      have hlq := Lib.hid (show (cols.map (getC l)).length = cols.length from List.length_map ..)
      go_wp2_with fail
      refine bodyPost_ret (v := .tuple #[.slice (some ⟨w.heap.size, 0, none⟩) cols.length cols.length, .int .u16 0]) (by simp [results, Tryd.results23, go_sem]) rfl ?_
      refine ⟨_, _, rfl, .inr ⟨_, w.heap.size, hyes.out, rfl, by rw [hlq.out], Nat.le_refl _, ?_⟩, hbH.out⟩
      rw [hlq.out, ← hfin.out]
      exact hownR.out
end Go.Proofs.YtfkimemagbkcoaaDoor
