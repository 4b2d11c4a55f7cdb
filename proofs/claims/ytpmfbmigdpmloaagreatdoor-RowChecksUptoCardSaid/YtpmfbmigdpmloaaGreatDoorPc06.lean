/-
  Texts that belong together: RwI, RwJ, RwKr, RwSb. What each one says stands ahead of it.
-/
import Derived.Test.YtpmfbmigdpmloaaGreatDoorPc03
import Derived.Test.YtpmfbmigdpmloaaGreatDoorPc05
import Derived.Deep.Cut
section
/-
  row.has, row.Pick, at this program: of any row, any columns. Conditions: those written.
-/
set_option linter.unusedVariables false
set_option linter.unusedSimpArgs false
namespace Go.Proofs.YtpmfbmigdpmloaaGreatDoor
open Go.RowKit Go.Lib

def intV (z : Int) : Value := .int .i64 z
/-- The slice value v holds these integers. -/
def IntsV (w : World) (v : Value) (l : List Int) : Prop := SlV w 1 v l.length (l.map intV)
theorem IntsV.below {w w' : World} {v : Value} {l : List Int} (h : IntsV w v l) (hb : Below w.heap.size w w') : IntsV w' v l := SlV.below h hb
theorem IntsV.form {w : World} {v : Value} {l : List Int} (h : IntsV w v l) : ∃ A c, v = .slice A l.length c ∧ l.length ≤ 9223372036854775807 := by
  obtain ⟨_, A, c, rfl, h2, h3, _⟩ := h
  exact ⟨A, c, rfl, by omega⟩
theorem IntsV.at {w : World} {A : Option Addr} {c : Nat} {l : List Int} (h : IntsV w (.slice A l.length c) l) {i : Nat} {z : Int} (hz : l[i]? = some z) :
    ∃ ad : Addr, A = some ad ∧ (ad.add i).block < w.heap.size ∧ w.cell? (ad.add i) = some (.int .i64 z) := by
  obtain ⟨_, A', c', e, _, _, _, h4⟩ := h
  obtain ⟨rfl, _, rfl⟩ := Value.slice.inj e
  have hi : i < l.length := (List.getElem?_eq_some_iff.1 hz).1
  obtain ⟨ad, rfl, h5, h6⟩ := h4 (by omega)
  exact ⟨ad, rfl, by rw [add_block]; exact h5, h6 i _ (by rw [List.getElem?_map, hz]; rfl)⟩
/-- Is it a column? -/
def hasC (n : Nat) (c : Int) : Bool := decide (0 ≤ c ∧ c < (n : Int))
set_option maxHeartbeats 2000000 in
theorem has_any (v : Value) (l : List Dat) (c : Int) (w : World) (h : RowV w v l) :
    Calls Tryz.prog 28 #[v, .int .i64 c] w fun e w' => e = .returned (.bool (hasC l.length c)) ∧ Below w.heap.size w w' := by
  obtain ⟨A, ca, rfl, hla⟩ := h.form
  clear h
  by_cases h0 : 0 ≤ c
  · go_enter Tryz.func28, Tryz.ntmps28
    go_wp2_with fail
    go_ret
    exact ⟨by simp [hasC, h0]; first | done | omega, by go_grown⟩
  · go_enter Tryz.func28, Tryz.ntmps28
    go_wp2_with fail
    go_ret
    exact ⟨by simp [hasC, h0]; first | done | omega, by go_grown⟩
theorem fold_take {α β : Type} {f : β → α → β} {b : β} {l : List α} {p : Nat} {x : α} (h : l[p]? = some x) : (l.take (p + 1)).foldl f b = f ((l.take p).foldl f b) x := by
  obtain ⟨hp, rfl⟩ := List.getElem?_eq_some_iff.1 h
  rw [List.take_succ_eq_append_getElem hp, List.foldl_append]
  rfl
theorem hasC_at {l : List Dat} {c : Int} (h : hasC l.length c = true) : ∃ n : Nat, c = (n : Int) ∧ n < l.length ∧ l[c.toNat]! = l[n]! := by
  have := of_decide_eq_true h
  exact ⟨c.toNat, by omega, by omega, rfl⟩
theorem OwnU.at {B : Nat} {A : Option Addr} {c : Nat} {l : List UInt8} {w : World} (h : OwnU B (.slice A l.length c) l w) {i : Nat} {b : UInt8} (hb : l[i]? = some b) : ∃ g, A = some ⟨g, 0, none⟩ ∧ w.cell? ⟨g, i, none⟩ = some (.int .u8 b.toNat) := by
  have hi : i < l.length := (List.getElem?_eq_some_iff.1 hb).1
  rcases own_slice h with ⟨_, h2⟩ | ⟨g, cap, e, hB⟩
  · omega
  · obtain ⟨rfl, _, rfl⟩ := Value.slice.inj e
    have := World.ownsRow.cells h (g := g) rfl i (.int .u8 b.toNat) (by simp [Lib.byteCells, hb])
    rw [show (⟨g, 0, none⟩ : Addr).add i = ⟨g, i, none⟩ by unfold Addr.add; split <;> simp_all] at this
    exact ⟨g, rfl, this⟩
def getC (l : List Dat) (c : Int) : Dat := l[c.toNat]!
/-- The data of these columns, if all are there. -/
def pickR (l : List Dat) (cols : List Int) : Option (List Dat) := if cols.length ≤ 32 ∧ cols.all (hasC l.length) = true then some (cols.map (getC l)) else none
/-- What the rounds hold: the first ones are laid. -/
def RelPk (l : List Dat) (cols : List Int) (g : Nat) (w0 : World) (s17 : Value) (wr : World) : Prop :=
  ∃ p : Nat, p ≤ cols.length ∧ s17 = .int .i64 (p : Int) ∧ (cols.take p).all (hasC l.length) = true ∧ OwnL 60 4 g cols.length (((cols.take p).map (getC l)).map cellsD ++ List.replicate (cols.length - p) zeroL) wr ∧ Below w0.heap.size w0 wr
theorem all_take {n : Nat} {cols : List Int} {p : Nat} {c : Int} (h : cols[p]? = some c) : (cols.take (p + 1)).all (hasC n) = ((cols.take p).all (hasC n) && hasC n c) := by
  obtain ⟨hp, rfl⟩ := List.getElem?_eq_some_iff.1 h
  rw [List.take_succ_eq_append_getElem hp, List.all_append]
  simp
theorem pick_step {l : List Dat} {cols : List Int} {p : Nat} {c : Int} (h : cols[p]? = some c) :
    (((cols.take p).map (getC l)).map cellsD ++ List.replicate (cols.length - p) zeroL).set p (cellsD (getC l c)) = ((cols.take (p + 1)).map (getC l)).map cellsD ++ List.replicate (cols.length - (p + 1)) zeroL := by
  obtain ⟨hp, rfl⟩ := List.getElem?_eq_some_iff.1 h
  have hl : (((cols.take p).map (getC l)).map cellsD).length = p := by rw [List.length_map, List.length_map, List.length_take]; omega
  rw [List.set_append_right _ _ (by omega), hl, Nat.sub_self, List.take_succ_eq_append_getElem hp, List.map_append, List.map_append, List.append_assoc]
  congr 1
  rw [show cols.length - p = (cols.length - (p + 1)) + 1 by omega, List.replicate_succ]
  rfl
theorem pick_none {l : List Dat} {cols : List Int} {p : Nat} {c : Int} (h : cols[p]? = some c) (hc : hasC l.length c = false) : pickR l cols = none := by
  unfold pickR
  rw [if_neg]
  rintro ⟨_, h2⟩
  have := List.all_eq_true.1 h2 c (List.mem_of_getElem? h)
  rw [hc] at this
  cases this
set_option maxHeartbeats 4000000 in
set_option maxRecDepth 1000000 in
theorem pick_any (v vc : Value) (l : List Dat) (cols : List Int) (w : World) (h : RowV w v l) (hc : IntsV w vc cols) (hs : ∀ d ∈ l, d.s.size ≤ 281474976710656) :
    Calls Tryz.prog 9 #[v, vc] w fun e w' => ∃ v' k, e = .returned (.tuple #[v', .int .u16 k]) ∧
      ((pickR l cols = none ∧ k = 20 ∧ v' = .slice none 0 0) ∨ ∃ q g, pickR l cols = some q ∧ k = 0 ∧ v' = .slice (some ⟨g, 0, none⟩) q.length q.length ∧ w.heap.size ≤ g ∧ OwnL 60 4 g q.length (q.map cellsD) w') ∧ Below w.heap.size w w' := by
  obtain ⟨A, ca, rfl, hla⟩ := h.form
  obtain ⟨C, cc, rfl, hlc⟩ := hc.form
  have hH := Lib.hid h; have hcH := Lib.hid hc; have hsH := Lib.hid hs
  clear h hc hs
  by_cases hbig : 32 < cols.length
  · have hno := Lib.hid (show pickR l cols = none by unfold pickR; rw [if_neg]; rintro ⟨h1, _⟩; omega)
    go_enter Tryz.func9, Tryz.ntmps9
    go_wp2_with fail
    refine bodyPost_ret (v := .tuple #[.slice none 0 0, .int .u16 20]) (by simp [results, Tryz.results9, go_sem]) rfl ?_
    exact ⟨_, _, rfl, .inl ⟨hno.out, rfl, rfl⟩, by go_grown⟩
  obtain ⟨cz, hmk, hown⟩ := make_row cols.length (by omega) w
  obtain ⟨W1, hW1⟩ : ∃ W1, w.alloc (.cells cz 60) = W1 := ⟨_, rfl⟩
  rw [hW1] at hmk hown
  have hownH := Lib.hid hown
  have hb1 := Lib.hid (show Below w.heap.size w W1 from hW1 ▸ (Below.refl _ w).alloc (Nat.le_refl _) _)
  clear hown hW1
  go_enter Tryz.func9, Tryz.ntmps9
  go_wp2_with fail
  go_loopw [4, 5, 7, 8, 17] (fun s4 s5 s7 s8 s17 wr => s4 = .slice none 0 0 ∧ s5 = .int .u16 0 ∧ RelPk l cols w.heap.size w s17 wr) (fun _ _ _ _ s17 _ => cols.length - (Go.RowKit.intOf s17).toNat)
  case atStart => exact ⟨rfl, rfl, 0, by omega, rfl, rfl, by rw [List.take_zero]; exact hownH.out, hb1.out⟩
  case round =>
    unfold RelPk at hrel
    obtain ⟨rfl, rfl, p, hp, rfl, hall, hown, hb⟩ := hrel
    have hownR := Lib.hid hown; have hbH := Lib.hid hb; have hallH := Lib.hid hall
    clear hown hb hmk hall
    by_cases hlt : p < cols.length
    · obtain ⟨c, hcc⟩ : ∃ c, cols[p]? = some c := ⟨_, List.getElem?_eq_getElem hlt⟩
      obtain ⟨ac, rfl, hbc, a0_⟩ := (hcH.out.below hbH.out).at hcc
      have hltH := Lib.hid hlt
      have hccH := Lib.hid hcc
      clear hcc
      go_wp2_with fail
      refine (has_any _ l c _ (hH.out.below hbH.out)).mono ?_
      rintro e w1 ⟨rfl, hb1'⟩
      have hown1 := Lib.hid (hownR.out.below hb1')
      have hb1H := Lib.hid (hbH.out.trans (hb1'.mono hbH.out.size))
      clear hb1' a0_
      cases hh : hasC l.length c with
      | false =>
        have hno := Lib.hid (pick_none hccH.out hh)
        clear hh
        go_wp2_with fail
        refine bodyPost_ret (v := .tuple #[.slice none 0 0, .int .u16 20]) (by simp [results, Tryz.results9, go_sem]) rfl ?_
        exact ⟨_, _, rfl, .inl ⟨hno.out, rfl, rfl⟩, hb1H.out⟩
      | true =>
        have hst := Lib.hid (pick_step (l := l) hccH.out)
        have hal := Lib.hid (show (cols.take (p + 1)).all (hasC l.length) = true by rw [all_take hccH.out, hallH.out, hh]; rfl)
        obtain ⟨n, rfl, hn, hln⟩ := hasC_at hh
        obtain ⟨ad, rfl, hba, a0_, a1_, a2_, a3_⟩ := (hH.out.below hb1H.out).at hn
        have hd2 : getC l (n : Int) = l[n] := by unfold getC; rw [hln, getElem!_pos l n hn]
        have hsd := Lib.hid (hsH.out _ (List.getElem_mem hn))
        rw [hd2] at hst
        obtain ⟨d, hd⟩ : ∃ d, l[n] = d := ⟨_, rfl⟩
        rw [hd] at a0_ a1_ a2_ a3_ hst hsd
        clear hd hd2 hln hh
        obtain ⟨k, b, m, s⟩ := d
        simp only at a0_ a1_ a2_ a3_
        have hpl : p < (((cols.take p).map (getC l)).map cellsD ++ List.replicate (cols.length - p) zeroL).length := by
          rw [List.length_append, List.length_map, List.length_map, List.length_take, List.length_replicate]; omega
        obtain ⟨xs, hxs⟩ : ∃ xs, ((cols.take p).map (getC l)).map cellsD ++ List.replicate (cols.length - p) zeroL = xs := ⟨_, rfl⟩
        rw [hxs] at hown1 hpl hst hownR
        have hplH := Lib.hid hpl
        clear hxs hpl
        have hgl := hown1.out.lt
        go_wp2_with fail
        refine (fresh_any k b m s _ hsd.out).mono ?_
        rintro e w2 ⟨rfl, hb⟩
        have hown2 := Lib.hid (hown1.out.below hb)
        have hb2 := Lib.hid (hb1H.out.trans (hb.mono hb1H.out.size))
        obtain ⟨y, hy⟩ : ∃ y, xs[p]? = some y := ⟨_, List.getElem?_eq_getElem hplH.out⟩
        obtain ⟨y0, y1, y2, y3, rfl⟩ : ∃ p q r s, y = [p, q, r, s] := by
          have := hown2.out.1 y (List.mem_of_getElem? hy)
          match y, this with
          | [p, q, r, s], _ => exact ⟨p, q, r, s, rfl⟩
        have e0_ := hown2.out.cell hy (j := 0) rfl
        have e1_ := hown2.out.cell hy (j := 1) rfl
        have e2_ := hown2.out.cell hy (j := 2) rfl
        have e3_ := hown2.out.cell hy (j := 3) rfl
        rw [Nat.add_zero] at e0_
        have f0 := hown2.out.free (p * 4); have f1 := hown2.out.free (p * 4 + 1); have f2 := hown2.out.free (p * 4 + 2); have f3 := hown2.out.free (p * 4 + 3)
        have hg2 := hown2.out.lt
        clear hb hy a0_ a1_ a2_ a3_
        go_wp2_with fail
        go_roundw
        case rel => exact ⟨rfl, rfl, p + 1, hltH.out, by go_num, hal.out, by rw [← hst.out]; exact hown2.out.put4 hplH.out _ _ _ _, (((hb2.out.setCell (Nat.le_refl _) _).setCell (Nat.le_refl _) _).setCell (Nat.le_refl _) _).setCell (Nat.le_refl _) _⟩
        case measure => have := hltH.out; simp [Go.RowKit.intOf]; omega
    · obtain rfl : p = cols.length := by omega
      rw [List.take_length] at hownR hallH
      have hyes := Lib.hid (show pickR l cols = some (cols.map (getC l)) by unfold pickR; rw [if_pos ⟨by omega, hallH.out⟩])
      have hfin := Lib.hid (show (cols.map (getC l)).map cellsD ++ List.replicate (cols.length - cols.length) zeroL = (cols.map (getC l)).map cellsD by rw [Nat.sub_self]; simp)
      have hlq := Lib.hid (show (cols.map (getC l)).length = cols.length from List.length_map ..)
      go_wp2_with fail
      refine bodyPost_ret (v := .tuple #[.slice (some ⟨w.heap.size, 0, none⟩) cols.length cols.length, .int .u16 0]) (by simp [results, Tryz.results9, go_sem]) rfl ?_
      refine ⟨_, _, rfl, .inr ⟨_, w.heap.size, hyes.out, rfl, by rw [hlq.out], Nat.le_refl _, ?_⟩, hbH.out⟩
      rw [hlq.out, ← hfin.out]
      exact hownR.out
end Go.Proofs.YtpmfbmigdpmloaaGreatDoor
end
section
/-
  row.Hash, at this program: of any row, any columns. Conditions: those written.
-/
set_option linter.unusedVariables false
set_option linter.unusedSimpArgs false
namespace Go.Proofs.YtpmfbmigdpmloaaGreatDoor
open Go.RowKit Go.Lib

/-- A byte more. -/
def hashB (h : Int) (b : UInt8) : Int := IntKind.u64.wrap (bits BinOp.xor IntKind.u64 h (IntKind.u64.wrap (b.toNat : Int)) * 1099511628211)
def hashL (h : Int) (bs : List UInt8) : Int := bs.foldl hashB h
/-- A column more. -/
def hashC (l : List Dat) (h : Int) (c : Int) : Int := if hasC l.length c then hashL h (encD l[c.toNat]!) else h
def hashS : Int := 14695981039346656037
def hashR (l : List Dat) (cols : List Int) : Int := cols.foldl (hashC l) hashS
def RelH (l : List Dat) (cols : List Int) (w0 : World) (s5 s6 s13 : Value) (wr : World) : Prop :=
  ∃ (p : Nat) (kb : List UInt8), p ≤ cols.length ∧ s13 = .int .i64 (p : Int) ∧ s5 = .int .u64 ((cols.take p).foldl (hashC l) hashS) ∧ OwnU w0.heap.size s6 kb wr ∧ Below w0.heap.size w0 wr
def RelHB (z : Int) (bs : List UInt8) (v : Value) (w0 : World) (s5 s30 : Value) (wr : World) : Prop :=
  ∃ q : Nat, q ≤ bs.length ∧ s30 = .int .i64 (q : Int) ∧ s5 = .int .u64 (hashL z (bs.take q)) ∧ OwnU w0.heap.size v bs wr ∧ Below w0.heap.size w0 wr
set_option maxHeartbeats 4000000 in
set_option maxRecDepth 1000000 in
theorem hash_any (v vc : Value) (l : List Dat) (cols : List Int) (w : World) (h : RowV w v l) (hc : IntsV w vc cols) (hw : ∀ d ∈ l, Wide d ∧ szD d.s ≤ 70368744177664) :
    Calls Tryz.prog 12 #[v, vc] w fun e w' => e = .returned (.int .u64 (hashR l cols)) ∧ Below w.heap.size w w' := by
  obtain ⟨A, ca, rfl, hla⟩ := h.form
  obtain ⟨C, cc, rfl, hlc⟩ := hc.form
  have hH := Lib.hid h; have hcH := Lib.hid hc; have hwH := Lib.hid hw
  clear h hc hw
  go_enter Tryz.func12, Tryz.ntmps12
  go_wp2_with fail
  go_loopw [5, 6, 8, 10, 13] (fun s5 s6 s8 s10 s13 wr => RelH l cols w s5 s6 s13 wr) (fun _ _ _ _ s13 _ => cols.length - (Go.RowKit.intOf s13).toNat)
  case atStart => exact ⟨0, [], by omega, rfl, rfl, World.ownsRow_nil _ _ _ _, Below.refl _ _⟩
  case round =>
    unfold RelH at hrel
    obtain ⟨p, kb, hp, rfl, rfl, hk, hb⟩ := hrel
    obtain ⟨A5, c5, rfl⟩ := OwnU.form hk
    have hkH := Lib.hid hk; have hbH := Lib.hid hb
    clear hk hb
    by_cases hlt : p < cols.length
    · obtain ⟨c, hcc⟩ : ∃ c, cols[p]? = some c := ⟨_, List.getElem?_eq_getElem hlt⟩
      obtain ⟨ac, rfl, hbc, a0_⟩ := (hcH.out.below hbH.out).at hcc
      have hst := Lib.hid (fold_take (f := hashC l) (b := hashS) hcc)
      obtain ⟨z, hz⟩ : ∃ z, (cols.take p).foldl (hashC l) hashS = z := ⟨_, rfl⟩
      rw [hz] at hst ⊢
      have hltH := Lib.hid hlt
      clear hcc hz
      go_wp2_with fail
      refine (has_any _ l c _ (hH.out.below hbH.out)).mono ?_
      rintro e w1 ⟨rfl, hb1⟩
      have hk1 := Lib.hid (ownsRow_below' hkH.out hb1)
      have hb1H := Lib.hid (hbH.out.trans (hb1.mono hbH.out.size))
      clear hb1 a0_
      cases hh : hasC l.length c with
      | false =>
        have hzz := Lib.hid (show hashC l z c = z by unfold hashC; rw [hh]; rfl)
        clear hh
        go_wp2_with fail
        go_roundw
        case rel => exact ⟨p + 1, kb, hltH.out, by go_num, by rw [hst.out, hzz.out], hk1.out, hb1H.out⟩
        case measure => have := hltH.out; simp [Go.RowKit.intOf]; omega
      | true =>
        obtain ⟨n, rfl, hn, hln⟩ := hasC_at hh
        obtain ⟨ad, rfl, hba, a0_, a1_, a2_, a3_⟩ := (hH.out.below hb1H.out).at hn
        obtain ⟨_, e_, hbo, -⟩ := hH.out.at hn
        cases e_
        have hd2 : l[(n : Int).toNat]! = l[n] := by rw [hln, getElem!_pos l n hn]
        have hzz := Lib.hid (show hashC l z (n : Int) = hashL z (encD l[n]) by unfold hashC; rw [hh, if_pos rfl, hd2])
        have hwd := Lib.hid (hwH.out _ (List.getElem_mem hn))
        obtain ⟨d, hd⟩ : ∃ d, l[n] = d := ⟨_, rfl⟩
        rw [hd] at a0_ a1_ a2_ a3_ hzz hwd
        clear hd hd2 hln hh
        obtain ⟨k, b, m, s⟩ := d
        simp only at a0_ a1_ a2_ a3_
        have hk0 := Lib.hid (show OwnB w.heap.size (.slice A5 0 c5) [] w1.drew w1.drew from OwnK.start (w := w1.drew) (OwnK.cut0 (w := w1.drew) hk1.out) hb1H.out.size)
        go_wp2_with fail
        refine wp_region_noPanic ?_
        refine wp_region_held_drew (S := (fun w' => w'.cell? (ad.add (n * 4)) = some (.int .u8 k) ∧ w'.cell? ⟨(ad.add (n * 4)).block, (ad.add (n * 4)).off + 1, none⟩ = some (.bool b) ∧ w'.cell? ⟨(ad.add (n * 4)).block, (ad.add (n * 4)).off + 2, none⟩ = some (.int .i64 m) ∧ w'.cell? ⟨(ad.add (n * 4)).block, (ad.add (n * 4)).off + 3, none⟩ = some (.string s))) (by kernel_rfl) (⟨a0_, a1_, a2_, a3_⟩) (fun hHeld => ?_)
        refine' wpAnyH_take (i := 0) (v := ?v0x1) ?hi0x1 ?hs0x1 ?hf0x1 ?hr0x1 ?hQ0x1 ?hy0x1 ?hS0x1 ?rest0x1
        case hi0x1 => (simp only [List.getElem?_toArray, List.getElem?_cons_succ, List.getElem?_cons_zero]; try rfl)
        case hs0x1 => kernel_rfl
        case hf0x1 => kernel_rfl
        case hr0x1 => kernel_rfl
        case hQ0x1 => exact fun _ _ _ h => h
        case hy0x1 => first | exact Or.inl ⟨by rfl, by (intro w hSw; (try dsimp only at hSw); go_simp; try rfl)⟩ | exact Or.inr ⟨by rfl, rfl⟩
        case hS0x1 => assumption
        (try simp only [Act.put, List.setIfInBounds_toArray, List.set_cons_zero, List.set_cons_succ])
        refine' wpAnyH_take (i := 1) (v := ?v1x2) ?hi1x2 ?hs1x2 ?hf1x2 ?hr1x2 ?hQ1x2 ?hy1x2 ?hS1x2 ?rest1x2
        case hi1x2 => (simp only [List.getElem?_toArray, List.getElem?_cons_succ, List.getElem?_cons_zero]; try rfl)
        case hs1x2 => kernel_rfl
        case hf1x2 => kernel_rfl
        case hr1x2 => kernel_rfl
        case hQ1x2 => exact fun _ _ _ h => h
        case hy1x2 => first | exact Or.inl ⟨by rfl, by (intro w hSw; (try dsimp only at hSw); go_simp; try rfl)⟩ | exact Or.inr ⟨by rfl, rfl⟩
        case hS1x2 => assumption
        (try simp only [Act.put, List.setIfInBounds_toArray, List.set_cons_zero, List.set_cons_succ])
        refine' wpAnyH_take (i := 2) (v := ?v2x3) ?hi2x3 ?hs2x3 ?hf2x3 ?hr2x3 ?hQ2x3 ?hy2x3 ?hS2x3 ?rest2x3
        case hi2x3 => (simp only [List.getElem?_toArray, List.getElem?_cons_succ, List.getElem?_cons_zero]; try rfl)
        case hs2x3 => kernel_rfl
        case hf2x3 => kernel_rfl
        case hr2x3 => kernel_rfl
        case hQ2x3 => exact fun _ _ _ h => h
        case hy2x3 => first | exact Or.inl ⟨by rfl, by (intro w hSw; (try dsimp only at hSw); go_simp; try rfl)⟩ | exact Or.inr ⟨by rfl, rfl⟩
        case hS2x3 => assumption
        (try simp only [Act.put, List.setIfInBounds_toArray, List.set_cons_zero, List.set_cons_succ])
        refine' wpAnyH_take (i := 3) (v := ?v3x4) ?hi3x4 ?hs3x4 ?hf3x4 ?hr3x4 ?hQ3x4 ?hy3x4 ?hS3x4 ?rest3x4
        case hi3x4 => (simp only [List.getElem?_toArray, List.getElem?_cons_succ, List.getElem?_cons_zero]; try rfl)
        case hs3x4 => kernel_rfl
        case hf3x4 => kernel_rfl
        case hr3x4 => kernel_rfl
        case hQ3x4 => exact fun _ _ _ h => h
        case hy3x4 => first | exact Or.inl ⟨by rfl, by (intro w hSw; (try dsimp only at hSw); go_simp; try rfl)⟩ | exact Or.inr ⟨by rfl, rfl⟩
        case hS3x4 => assumption
        (try simp only [Act.put, List.setIfInBounds_toArray, List.set_cons_zero, List.set_cons_succ])
        refine' wpAnyH_take (i := 4) (v := ?v4x5) ?hi4x5 ?hs4x5 ?hf4x5 ?hr4x5 ?hQ4x5 ?hy4x5 ?hS4x5 ?rest4x5
        case hi4x5 => (simp only [List.getElem?_toArray, List.getElem?_cons_succ, List.getElem?_cons_zero]; try rfl)
        case hs4x5 => kernel_rfl
        case hf4x5 => kernel_rfl
        case hr4x5 => kernel_rfl
        case hQ4x5 => exact fun _ _ _ h => h
        case hy4x5 => first | exact Or.inl ⟨by rfl, by (intro w hSw; (try dsimp only at hSw); go_simp; try rfl)⟩ | exact Or.inr ⟨by rfl, rfl⟩
        case hS4x5 => assumption
        (try simp only [Act.put, List.setIfInBounds_toArray, List.set_cons_zero, List.set_cons_succ])
        refine' wpAnyH_take (i := 5) (v := ?v5x6) ?hi5x6 ?hs5x6 ?hf5x6 ?hr5x6 ?hQ5x6 ?hy5x6 ?hS5x6 ?rest5x6
        case hi5x6 => (simp only [List.getElem?_toArray, List.getElem?_cons_succ, List.getElem?_cons_zero]; try rfl)
        case hs5x6 => kernel_rfl
        case hf5x6 => kernel_rfl
        case hr5x6 => kernel_rfl
        case hQ5x6 => exact fun _ _ _ h => h
        case hy5x6 => first | exact Or.inl ⟨by rfl, by (intro w hSw; (try dsimp only at hSw); go_simp; try rfl)⟩ | exact Or.inr ⟨by rfl, rfl⟩
        case hS5x6 => assumption
        (try simp only [Act.put, List.setIfInBounds_toArray, List.set_cons_zero, List.set_cons_succ])
        refine wpAnyH_ready (rs := [6]) (by kernel_rfl) (by simp) ?_
        refine' (AllReadyH.cons (i := 6) ?ho6x7 (fun K hK => ?st6x7) AllReadyH.nil)
        case ho6x7 => (simp only [List.getElem?_toArray, List.getElem?_cons_succ, List.getElem?_cons_zero]; try rfl)
        case st6x7 =>
          go_simp
          refine (appendDatum_any w.heap.size _ [] k b m s w1.drew hk0.out hwd.out.1.2 (by have := hwd.out.2; simpa using this)).mono ?_
          rintro e w2 ⟨v2, rfl, hq⟩
          obtain ⟨A2, c2, rfl⟩ := hq.form
          have hk2 := Lib.hid (show OwnU w.heap.size (.slice A2 (encD ⟨k, b, m, s⟩).length c2) (encD ⟨k, b, m, s⟩) w2 from hq.1)
          have hb12 := Lib.hid (show Below w.heap.size w1 w2 from (Below.refl _ w1).drew.trans hq.2.1)
          have hb2 := Lib.hid (hb1H.out.trans hb12.out)
          clear hq
          refine hK.out _ _ ?_ (fun hHeld => ?_)
          · exact ⟨(hb12.out.cell (p := (ad.add (n * 4))) hbo).trans a0_, (hb12.out.cell (p := ⟨(ad.add (n * 4)).block, (ad.add (n * 4)).off + 1, none⟩) hbo).trans a1_, (hb12.out.cell (p := ⟨(ad.add (n * 4)).block, (ad.add (n * 4)).off + 2, none⟩) hbo).trans a2_, (hb12.out.cell (p := ⟨(ad.add (n * 4)).block, (ad.add (n * 4)).off + 3, none⟩) hbo).trans a3_⟩
          clear hK K
          (try simp only [Act.put, List.setIfInBounds_toArray, List.set_cons_zero, List.set_cons_succ])
          refine' wpAnyH_take (i := 7) (v := ?v7x8) ?hi7x8 ?hs7x8 ?hf7x8 ?hr7x8 ?hQ7x8 ?hy7x8 ?hS7x8 ?rest7x8
          case hi7x8 => (simp only [List.getElem?_toArray, List.getElem?_cons_succ, List.getElem?_cons_zero]; try rfl)
          case hs7x8 => kernel_rfl
          case hf7x8 => kernel_rfl
          case hr7x8 => kernel_rfl
          case hQ7x8 => exact fun _ _ _ h => h
          case hy7x8 => first | exact Or.inl ⟨by rfl, by (intro w hSw; (try dsimp only at hSw); go_simp; try rfl)⟩ | exact Or.inr ⟨by rfl, rfl⟩
          case hS7x8 => assumption
          (try simp only [Act.put, List.setIfInBounds_toArray, List.set_cons_zero, List.set_cons_succ])
          refine wpAnyH_done (by kernel_rfl) ?_ _
          refine NoPanic.normal ?_
          obtain ⟨bs, hbs⟩ : ∃ bs, encD ⟨k, b, m, s⟩ = bs := ⟨_, rfl⟩
          have hbl : bs.length ≤ 70368744177664 := by rw [← hbs]; exact Nat.le_trans (encD_le ⟨k, b, m, s⟩) hwd.out.2
          rw [hbs] at hzz hk2 ⊢
          clear hbs a0_ a1_ a2_ a3_ hHeld
          go_wp2_with fail
          go_loopw [5, 10, 30] (fun s5 s10 s30 wr => RelHB z bs (.slice A2 bs.length c2) w s5 s30 wr) (fun _ _ s30 _ => bs.length - (Go.RowKit.intOf s30).toNat)
          case atStart => exact ⟨0, by omega, rfl, rfl, hk2.out, hb2.out⟩
          case round =>
            unfold RelHB at hrel
            obtain ⟨q, hq, rfl, rfl, hkq, hbq⟩ := hrel
            have hkqH := Lib.hid hkq; have hbqH := Lib.hid hbq
            clear hkq hbq
            by_cases hlq : q < bs.length
            · obtain ⟨y, hy⟩ : ∃ y, bs[q]? = some y := ⟨_, List.getElem?_eq_getElem hlq⟩
              obtain ⟨g, rfl, y0_⟩ := OwnU.at hkqH.out hy
              have hsq := Lib.hid (show hashL z (bs.take (q + 1)) = hashB (hashL z (bs.take q)) y from fold_take hy)
              obtain ⟨zq, hzq⟩ : ∃ zq, hashL z (bs.take q) = zq := ⟨_, rfl⟩
              rw [hzq] at hsq ⊢
              have hlqH := Lib.hid hlq
              clear hzq hy
              go_wp2_with fail
              go_roundw
              case rel => exact ⟨q + 1, hlqH.out, by go_num, by rw [hsq.out]; rfl, hkqH.out, hbqH.out⟩
              case measure => have := hlqH.out; simp [Go.RowKit.intOf]; omega
            · obtain rfl : q = bs.length := by omega
              have hfq := Lib.hid (show bs.take bs.length = bs from List.take_length)
              rw [hfq.out]
              go_wp2_with fail
              go_roundw
              case rel => exact ⟨p + 1, bs, hltH.out, by go_num, by rw [hst.out, hzz.out], hkqH.out, hbqH.out⟩
              case measure => have := hltH.out; simp [Go.RowKit.intOf]; omega
    · obtain rfl : p = cols.length := by omega
      have hfin := Lib.hid (show cols.take cols.length = cols from List.take_length)
      go_wp2_with fail
      go_ret
      exact ⟨by rw [hfin.out]; rfl, hbH.out⟩
end Go.Proofs.YtpmfbmigdpmloaaGreatDoor
end
section
/-
  Rows and bytes cut in front; appended to those that the call owns. Nothing is walked here. Conditions: those written.
-/
set_option linter.unusedVariables false
set_option linter.unusedSimpArgs false
namespace Go.Proofs.YtpmfbmigdpmloaaGreatDoor
open Go.RowKit Go.Lib Go.Proofs

/-- A row of the call's own. -/
abbrev OwnKR (B : Nat) (v : Value) (l : List Dat) (W0 w : World) : Prop := OwnK 60 4 B v l.length (l.flatMap cellsD) W0 w
theorem OwnKR.rowV {B : Nat} {v : Value} {l : List Dat} {W0 w : World} (h : OwnKR B v l W0 w) : RowV w v l := own_slV h.1
theorem OwnKR.form {B : Nat} {v : Value} {l : List Dat} {W0 w : World} (h : OwnKR B v l W0 w) : ∃ A c, v = .slice A l.length c := by
  obtain ⟨A, c, h1, _⟩ := h.rowV.form
  exact ⟨A, c, h1⟩
theorem RowV.front {w : World} {A : Option Addr} {n c m : Nat} {l : List Dat} (h : RowV w (.slice A n c) l) (hm : m ≤ l.length) : RowV w (.slice A m c) (l.take m) := by
  obtain ⟨A', c', e, _⟩ := h.form
  obtain ⟨rfl, rfl, rfl⟩ := Value.slice.inj e
  have h1 := SlV.front (m := m) h hm
  have e : (l.flatMap cellsD).take (m * 4) = (l.take m).flatMap cellsD := by
    have e2 : l.flatMap cellsD = (l.take m).flatMap cellsD ++ (l.drop m).flatMap cellsD := by rw [← List.flatMap_append, List.take_append_drop]
    rw [e2]
    exact List.take_left' (by rw [cells_len, List.length_take]; congr 1; omega)
  rw [e] at h1
  unfold RowV
  rw [List.length_take, Nat.min_eq_left hm]
  exact h1
theorem BytsV.front {w : World} {A : Option Addr} {n c m : Nat} {l : List UInt8} (h : BytsV w (.slice A n c) l) (hm : m ≤ l.length) : BytsV w (.slice A m c) (l.take m) := by
  obtain ⟨A', c', e, _⟩ := h.form
  obtain ⟨rfl, rfl, rfl⟩ := Value.slice.inj e
  have h1 := SlV.front (m := m) h hm
  have e : (Lib.byteCells l).take (m * 1) = Lib.byteCells (l.take m) := by simp [Lib.byteCells, List.map_take]
  rw [e] at h1
  unfold BytsV
  rw [List.length_take, Nat.min_eq_left hm]
  exact h1
theorem RowV.cap {w : World} {A : Option Addr} {n c : Nat} {l : List Dat} (h : RowV w (.slice A n c) l) : l.length ≤ c := by
  obtain ⟨_, A', c', e, h2, _⟩ := h
  obtain ⟨_, rfl, rfl⟩ := Value.slice.inj e
  exact h2
theorem BytsV.cap {w : World} {A : Option Addr} {n c : Nat} {l : List UInt8} (h : BytsV w (.slice A n c) l) : l.length ≤ c := by
  obtain ⟨_, A', c', e, h2, _⟩ := h
  obtain ⟨_, rfl, rfl⟩ := Value.slice.inj e
  exact h2
section
/-- 'v = append(v, l...)' of data. -/
theorem wpList_rowK {ops : Array Oper} {rest : List Oper} {o : Oper} {a : Act} {Q : Exit → Act → World → Prop} (hgd : o.guard = none) (s x : Operand) (T : TypeId) (hT : Tryz.prog.underlying T = some (.slice 60))
    (ho : o.op = .call { callee := .builtin .append, args := #[s, x], argTypes := #[T, T] })
    (B : Nat) (v : Value) (l : List Dat) (W0 w : World) (sv : Value) (m : List Dat) (hb : OwnKR B v l W0 w) (hs : a.eval s = v) (hsv : RowV w sv m) (hx : a.eval x = sv) (hlen : l.length + m.length ≤ 1099511627776)
    (h : ∀ v' w', OwnKR B v' (l ++ m) W0 w' → wpList Tryz.prog ops Q rest (a.put o.dst v') w') : wpList Tryz.prog ops Q (o :: rest) a w := by
  obtain ⟨i, hi, hz, hsz, hby⟩ := info_datum
  refine wpList_append_sl hgd s x T ho B 60 i _ 4 i.bytes hT hi hz hsz rfl rfl (by decide) v l.length (l.flatMap cellsD) w sv m.length (m.flatMap cellsD) hb.1 hs hsv hx (cells_one m) (by unfold maxLen; omega) ?_ hb.2.2.1 ?_
  · have := Nat.mul_le_mul hlen hby
    omega
  · intro v' w' ho' hg
    refine h v' w' ?_
    have := hb.grown ho' hg
    unfold OwnKR
    rw [List.length_append, List.flatMap_append]
    exact this
/-- 'v = append(v, l...)' of bytes. -/
theorem wpList_bytesK {ops : Array Oper} {rest : List Oper} {o : Oper} {a : Act} {Q : Exit → Act → World → Prop} (hgd : o.guard = none) (s x : Operand)
    (ho : o.op = .call { callee := .builtin .append, args := #[s, x], argTypes := #[31, 31] })
    (B : Nat) (v : Value) (l : List UInt8) (W0 w : World) (sv : Value) (m : List UInt8) (hb : OwnB B v l W0 w) (hs : a.eval s = v) (hsv : BytsV w sv m) (hx : a.eval x = sv) (hlen : l.length + m.length ≤ 140737488355328)
    (h : ∀ v' w', OwnB B v' (l ++ m) W0 w' → wpList Tryz.prog ops Q rest (a.put o.dst v') w') : wpList Tryz.prog ops Q (o :: rest) a w := by
  obtain ⟨i, hi, hz, hsz, hby⟩ := info_u8
  refine wpList_append_sl hgd s x 31 ho B 5 i _ 1 1 Tryz.underlying31 hi hz hsz hby rfl (by decide) v l.length (Lib.byteCells l) w sv m.length (Lib.byteCells m) hb.1 hs hsv hx (bytes_one m) (by unfold maxLen; omega) (by omega) hb.2.2.1 ?_
  · intro v' w' ho' hg
    refine h v' w' ?_
    have := hb.grown ho' hg
    unfold OwnB
    rw [List.length_append, Lib.byteCells_append]
    exact this
end
theorem one_datum (w : World) (k : Int) (b : Bool) (n : Int) (s : ByteArray) : RowV (w.alloc (.cells #[.int .u8 k, .bool b, .int .i64 n, .string s] 60)) (.slice (some ⟨w.heap.size, 0, none⟩) 1 1) [⟨k, b, n, s⟩] := by
  have h : OwnL 60 4 w.heap.size 1 ([(⟨k, b, n, s⟩ : Dat)].map cellsD) (w.alloc (.cells #[.int .u8 k, .bool b, .int .i64 n, .string s] 60)) :=
    ⟨fun y hy => by obtain ⟨x, _, rfl⟩ := List.mem_map.1 hy; rfl, by simp, by decide, _, heap_alloc_new w _, rfl, rfl⟩
  exact h.rowV
theorem OwnK.nothing {e : TypeId} {k B n : Nat} {v : Value} {xs : List Value} {W0 w : World} (h : OwnK e k B v n xs W0 w) : OwnK e k B (.slice none 0 0) 0 [] W0 w := ⟨World.ownsRow_nil _ _ _ _, h.2.1, h.2.2.1, h.2.2.2⟩
end Go.Proofs.YtpmfbmigdpmloaaGreatDoor
end
section
/-
  Bytes that are the same: SameBytes, at this program. Conditions: those written.
-/
set_option linter.unusedVariables false
set_option linter.unusedSimpArgs false
namespace Go.Proofs.YtpmfbmigdpmloaaGreatDoor
open Go.RowKit Go.Lib Go.Proofs

def RelSb (x : List UInt8) (w0 : World) (s5 : Value) (wr : World) : Prop := ∃ p : Nat, p ≤ x.length ∧ s5 = .int .i64 (p : Int) ∧ Below w0.heap.size w0 wr
set_option maxHeartbeats 4000000 in
set_option maxRecDepth 1000000 in
theorem sameBytes_any (va vb : Value) (x : List UInt8) (w : World) (ha : BytsV w va x) (hb : BytsV w vb x) :
    Calls Tryz.prog 20 #[va, vb] w fun e w' => e = .returned (.bool true) ∧ Below w.heap.size w w' := by
  obtain ⟨A, ca, rfl, hla⟩ := ha.form
  obtain ⟨B, cb, rfl, hlb⟩ := hb.form
  have haH := Lib.hid ha; have hbH := Lib.hid hb
  clear ha hb
  go_enter Tryz.func20, Tryz.ntmps20
  go_wp2_with fail
  go_loopw [5] (fun s5 wr => RelSb x w s5 wr) (fun s5 _ => x.length - (Go.RowKit.intOf s5).toNat)
  case atStart => exact ⟨0, by omega, rfl, Below.refl _ _⟩
  case round =>
    unfold RelSb at hrel
    obtain ⟨p, hp, rfl, hbw⟩ := hrel
    have hbwH := Lib.hid hbw
    clear hbw
    by_cases hlt : p < x.length
    · obtain ⟨a, ha⟩ : ∃ a, x[p]? = some a := ⟨_, List.getElem?_eq_getElem hlt⟩
      obtain ⟨ad, rfl, hba, a0_⟩ := (haH.out.below hbwH.out).at ha
      obtain ⟨bd, rfl, hbb, b0_⟩ := (hbH.out.below hbwH.out).at ha
      clear ha
      go_wp2_with fail
      refine wp_region_noPanic ?_
      refine wp_region_held_drew (S := (fun w' => w'.cell? (ad.add p) = some (.int .u8 a.toNat) ∧ w'.cell? (bd.add p) = some (.int .u8 a.toNat))) (by kernel_rfl) (⟨a0_, b0_⟩) (fun hHeld => ?_)
      refine' wpAnyH_take (i := 0) (v := ?v0x1) ?hi0x1 ?hs0x1 ?hf0x1 ?hr0x1 ?hQ0x1 ?hy0x1 ?hS0x1 ?rest0x1
      case hi0x1 => (simp only [List.getElem?_toArray, List.getElem?_cons_succ, List.getElem?_cons_zero]; try rfl)
      case hs0x1 => kernel_rfl
      case hf0x1 => kernel_rfl
      case hr0x1 => kernel_rfl
      case hQ0x1 => exact fun _ _ _ h => h
      case hy0x1 => first | exact Or.inl ⟨by rfl, by (intro w hSw; (try dsimp only at hSw); go_simp; try rfl)⟩ | exact Or.inr ⟨by rfl, rfl⟩
      case hS0x1 => assumption
      (try simp only [Act.put, List.setIfInBounds_toArray, List.set_cons_zero, List.set_cons_succ])
      refine' wpAnyH_take (i := 1) (v := ?v1x2) ?hi1x2 ?hs1x2 ?hf1x2 ?hr1x2 ?hQ1x2 ?hy1x2 ?hS1x2 ?rest1x2
      case hi1x2 => (simp only [List.getElem?_toArray, List.getElem?_cons_succ, List.getElem?_cons_zero]; try rfl)
      case hs1x2 => kernel_rfl
      case hf1x2 => kernel_rfl
      case hr1x2 => kernel_rfl
      case hQ1x2 => exact fun _ _ _ h => h
      case hy1x2 => first | exact Or.inl ⟨by rfl, by (intro w hSw; (try dsimp only at hSw); go_simp; try rfl)⟩ | exact Or.inr ⟨by rfl, rfl⟩
      case hS1x2 => assumption
      (try simp only [Act.put, List.setIfInBounds_toArray, List.set_cons_zero, List.set_cons_succ])
      refine' wpAnyH_take (i := 2) (v := ?v2x3) ?hi2x3 ?hs2x3 ?hf2x3 ?hr2x3 ?hQ2x3 ?hy2x3 ?hS2x3 ?rest2x3
      case hi2x3 => (simp only [List.getElem?_toArray, List.getElem?_cons_succ, List.getElem?_cons_zero]; try rfl)
      case hs2x3 => kernel_rfl
      case hf2x3 => kernel_rfl
      case hr2x3 => kernel_rfl
      case hQ2x3 => exact fun _ _ _ h => h
      case hy2x3 => first | exact Or.inl ⟨by rfl, by (intro w hSw; (try dsimp only at hSw); go_simp; try rfl)⟩ | exact Or.inr ⟨by rfl, rfl⟩
      case hS2x3 => assumption
      (try simp only [Act.put, List.setIfInBounds_toArray, List.set_cons_zero, List.set_cons_succ])
      refine' wpAnyH_take (i := 3) (v := ?v3x4) ?hi3x4 ?hs3x4 ?hf3x4 ?hr3x4 ?hQ3x4 ?hy3x4 ?hS3x4 ?rest3x4
      case hi3x4 => (simp only [List.getElem?_toArray, List.getElem?_cons_succ, List.getElem?_cons_zero]; try rfl)
      case hs3x4 => kernel_rfl
      case hf3x4 => kernel_rfl
      case hr3x4 => kernel_rfl
      case hQ3x4 => exact fun _ _ _ h => h
      case hy3x4 => first | exact Or.inl ⟨by rfl, by (intro w hSw; (try dsimp only at hSw); go_simp; try rfl)⟩ | exact Or.inr ⟨by rfl, rfl⟩
      case hS3x4 => assumption
      (try simp only [Act.put, List.setIfInBounds_toArray, List.set_cons_zero, List.set_cons_succ])
      refine' wpAnyH_take (i := 4) (v := ?v4x5) ?hi4x5 ?hs4x5 ?hf4x5 ?hr4x5 ?hQ4x5 ?hy4x5 ?hS4x5 ?rest4x5
      case hi4x5 => (simp only [List.getElem?_toArray, List.getElem?_cons_succ, List.getElem?_cons_zero]; try rfl)
      case hs4x5 => kernel_rfl
      case hf4x5 => kernel_rfl
      case hr4x5 => kernel_rfl
      case hQ4x5 => exact fun _ _ _ h => h
      case hy4x5 => first | exact Or.inl ⟨by rfl, by (intro w hSw; (try dsimp only at hSw); go_simp; try rfl)⟩ | exact Or.inr ⟨by rfl, rfl⟩
      case hS4x5 => assumption
      (try simp only [Act.put, List.setIfInBounds_toArray, List.set_cons_zero, List.set_cons_succ])
      refine' wpAnyH_take (i := 5) (v := ?v5x6) ?hi5x6 ?hs5x6 ?hf5x6 ?hr5x6 ?hQ5x6 ?hy5x6 ?hS5x6 ?rest5x6
      case hi5x6 => (simp only [List.getElem?_toArray, List.getElem?_cons_succ, List.getElem?_cons_zero]; try rfl)
      case hs5x6 => kernel_rfl
      case hf5x6 => kernel_rfl
      case hr5x6 => kernel_rfl
      case hQ5x6 => exact fun _ _ _ h => h
      case hy5x6 => first | exact Or.inl ⟨by rfl, by (intro w hSw; (try dsimp only at hSw); go_simp; try rfl)⟩ | exact Or.inr ⟨by rfl, rfl⟩
      case hS5x6 => assumption
      (try simp only [Act.put, List.setIfInBounds_toArray, List.set_cons_zero, List.set_cons_succ])
      refine' wpAnyH_take (i := 6) (v := ?v6x7) ?hi6x7 ?hs6x7 ?hf6x7 ?hr6x7 ?hQ6x7 ?hy6x7 ?hS6x7 ?rest6x7
      case hi6x7 => (simp only [List.getElem?_toArray, List.getElem?_cons_succ, List.getElem?_cons_zero]; try rfl)
      case hs6x7 => kernel_rfl
      case hf6x7 => kernel_rfl
      case hr6x7 => kernel_rfl
      case hQ6x7 => exact fun _ _ _ h => h
      case hy6x7 => first | exact Or.inl ⟨by rfl, by (intro w hSw; (try dsimp only at hSw); go_simp; try rfl)⟩ | exact Or.inr ⟨by rfl, rfl⟩
      case hS6x7 => assumption
      (try simp only [Act.put, List.setIfInBounds_toArray, List.set_cons_zero, List.set_cons_succ])
      refine' wpAnyH_take (i := 7) (v := ?v7x8) ?hi7x8 ?hs7x8 ?hf7x8 ?hr7x8 ?hQ7x8 ?hy7x8 ?hS7x8 ?rest7x8
      case hi7x8 => (simp only [List.getElem?_toArray, List.getElem?_cons_succ, List.getElem?_cons_zero]; try rfl)
      case hs7x8 => kernel_rfl
      case hf7x8 => kernel_rfl
      case hr7x8 => kernel_rfl
      case hQ7x8 => exact fun _ _ _ h => h
      case hy7x8 => first | exact Or.inl ⟨by rfl, by (intro w hSw; (try dsimp only at hSw); go_simp; try rfl)⟩ | exact Or.inr ⟨by rfl, rfl⟩
      case hS7x8 => assumption
      (try simp only [Act.put, List.setIfInBounds_toArray, List.set_cons_zero, List.set_cons_succ])
      refine' wpAnyH_take (i := 8) (v := ?v8x9) ?hi8x9 ?hs8x9 ?hf8x9 ?hr8x9 ?hQ8x9 ?hy8x9 ?hS8x9 ?rest8x9
      case hi8x9 => (simp only [List.getElem?_toArray, List.getElem?_cons_succ, List.getElem?_cons_zero]; try rfl)
      case hs8x9 => kernel_rfl
      case hf8x9 => kernel_rfl
      case hr8x9 => kernel_rfl
      case hQ8x9 => exact fun _ _ _ h => h
      case hy8x9 => first | exact Or.inl ⟨by rfl, by (intro w hSw; (try dsimp only at hSw); go_simp; try rfl)⟩ | exact Or.inr ⟨by rfl, rfl⟩
      case hS8x9 => assumption
      (try simp only [Act.put, List.setIfInBounds_toArray, List.set_cons_zero, List.set_cons_succ])
      refine wpAnyH_done (by kernel_rfl) ?_ _
      refine NoPanic.normal ?_
      go_wp2_with fail
      go_roundw
      case rel => exact ⟨p + 1, hlt, by go_num, hbwH.out.drew⟩
      case measure => simp [Go.RowKit.intOf]; omega
    · obtain rfl : p = x.length := by omega
      go_wp2_with fail
      go_ret
      exact ⟨rfl, hbwH.out⟩
end Go.Proofs.YtpmfbmigdpmloaaGreatDoor
end
