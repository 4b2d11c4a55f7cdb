/-
  Texts that belong together: RwP, RwL8, RwI, RowU, RwFr, Tabs, RowF, RwL9. What each one says stands ahead of it.
-/
import Derived.Test.YtpmfbmigdpmloaaGreatDoorRwSPk
import Derived.Test.YtpmfbmigdpmloaaGreatDoorPk09
import Derived.Test.YtpmfbmigdpmloaaGreatDoorPk04
import Derived.Test.YtpmfbmigdpmloaaGreatDoorPk03
import Derived.Test.YtpmfbmigdpmloaaGreatDoorRows
import Derived.ProofKit
import Derived.Lib.SmallJoins
import Derived.ChangeSlices
import Derived.Deep.Slices
import Derived.Carry
import Derived.Test.YtpmfbmigdpmloaaGreatDoorPk01
import Derived.Lib.LaidU8T
import Derived.PinnedBridge
import Derived.Test.YtpmfbmigdpmloaaGreatDoorPk02
import Derived.Test.YtpmfbmigdpmloaaGreatDoorRwPaPk
section
/-
  The chapter's example 2, as the laws of layer 2 ask it (known), at this program: it holds. No condition.
-/
set_option linter.unusedVariables false
set_option linter.unusedSimpArgs false
namespace Go.Proofs.YtpmfbmigdpmloaaGreatDoor
open Go.RowKit Go.Lib Go.Proofs

def iD (n : Int) : Dat := ⟨3, false, n, ⟨#[]⟩⟩
set_option maxHeartbeats 2000000 in
theorem int_any (n : Int) (w : World) :
    Calls Tryz.prog 37 #[.int .i64 n] w fun e w' => e = .returned (dv 3 false n ⟨#[]⟩) ∧ Below w.heap.size w w' := by
  go_enter Tryz.func37, Tryz.ntmps37
  go_wp2_with fail
  have c_ := (Has.new w (.int .u8 3) (.bool false) (.int .i64 n) (.string ⟨#[]⟩))
  refine bodyPost_ret (v := dv 3 false n ⟨#[]⟩) (by simp [results, Tryz.results37, go_sem]) rfl ?_
  exact ⟨rfl, by go_grown⟩
/-- A row of one datum, just laid. -/
theorem one_row (w : World) (d : Dat) : RowV (w.alloc (.cells #[.int .u8 d.k, .bool d.b, .int .i64 d.n, .string d.s] 60)) (.slice (some ⟨w.heap.size, 0, none⟩) 1 1) [d] := by
  have h : OwnL 60 4 w.heap.size 1 ([d].map cellsD) (w.alloc (.cells #[.int .u8 d.k, .bool d.b, .int .i64 d.n, .string d.s] 60)) :=
    ⟨fun y hy => by simp at hy; subst hy; rfl, by simp, by decide, _, heap_alloc_new w _, rfl, rfl⟩
  exact h.rowV
def knownL (a b : Addr) : List Cd := [(⟨some a, 1, 1, 2⟩, [iD 1]), (⟨some b, 1, 1, 1⟩, [iD 2]), (⟨some a, 1, 1, -1⟩, [iD 1]), (⟨some b, 1, 1, -1⟩, [iD 2])]
theorem known_sum (a b : Addr) : (sumN ((knownL a b).map cnD)).filter (fun x => x.2 != 0) = [([iD 1], 1)] := by kernel_rfl
theorem known_rows (w : World) (a b : Addr) (ha : RowV w (.slice (some a) 1 1) [iD 1]) (hb : RowV w (.slice (some b) 1 1) [iD 2]) :
    CtsV (w.alloc (.cells #[.slice (some a) 1 1, .int .i64 2, .slice (some b) 1 1, .int .i64 1, .slice (some a) 1 1, .int .i64 (-1), .slice (some b) 1 1, .int .i64 (-1)] 74)) (.slice (some ⟨w.heap.size, 0, none⟩) 4 4) (knownL a b) := by
  have h : OwnL 74 2 w.heap.size 4 ((knownL a b).map (fun d => cellsV d.1)) (w.alloc (.cells #[.slice (some a) 1 1, .int .i64 2, .slice (some b) 1 1, .int .i64 1, .slice (some a) 1 1, .int .i64 (-1), .slice (some b) 1 1, .int .i64 (-1)] 74)) :=
    ⟨fun y hy => by obtain ⟨x, _, rfl⟩ := List.mem_map.1 hy; rfl, by simp [knownL], by decide, _, heap_alloc_new w _, rfl, rfl⟩
  refine ⟨h.slV, fun d hd => ?_⟩
  have hb' : Below w.heap.size w (w.alloc (.cells #[.slice (some a) 1 1, .int .i64 2, .slice (some b) 1 1, .int .i64 1, .slice (some a) 1 1, .int .i64 (-1), .slice (some b) 1 1, .int .i64 (-1)] 74)) := (Below.refl _ w).alloc (Nat.le_refl _) _
  simp [knownL] at hd
  rcases hd with rfl | rfl | rfl | rfl
  · exact ha.below hb'
  · exact hb.below hb'
  · exact ha.below hb'
  · exact hb.below hb'
theorem known_call (a b : Addr) (v : Value) (w : World) (hc : CtsV w v (knownL a b)) :
    Calls Tryz.prog 38 #[v] w fun e w' => ∃ v' r, e = .returned v' ∧ SumOf ((knownL a b).map cnD) (r.map cnD) ∧ OwnCs w.heap.size v' r w' ∧ FreshL w.heap.size w' r ∧ Below w.heap.size w w' := by
  refine sum_any _ (knownL a b) w hc (by simp [knownL]) (by simp [knownL]) ?_ ?_ ?_
  · intro d hd; simp [knownL] at hd; rcases hd with rfl | rfl | rfl | rfl <;> simp
  · intro d hd x hx; simp [knownL] at hd; rcases hd with rfl | rfl | rfl | rfl <;> (simp at hx; subst hx; unfold Wide iD; simp)
  · intro d hd; simp [knownL] at hd; rcases hd with rfl | rfl | rfl | rfl <;> simp [szR, szD, iD, ByteArray.size]
set_option maxHeartbeats 8000000 in
set_option maxRecDepth 1000000 in
theorem known_any (w : World) : Calls Tryz.prog 21 #[] w fun e w' => e = .returned (.bool true) ∧ Below w.heap.size w w' := by
  go_enter Tryz.func21, Tryz.ntmps21
  go_wp2_with fail
  refine (int_any 1 _).mono ?_
  rintro e w1 ⟨rfl, hb1⟩
  have hb1H := Lib.hid hb1
  obtain ⟨W1, hW1⟩ : ∃ W1, w1.alloc (.cells #[.int .u8 3, .bool false, .int .i64 1, .string ⟨#[]⟩] 60) = W1 := ⟨_, rfl⟩
  have ha := Lib.hid (show RowV W1 (.slice (some ⟨w1.heap.size, 0, none⟩) 1 1) [iD 1] from hW1 ▸ one_row w1 (iD 1))
  have hB1 := Lib.hid (show Below w.heap.size w W1 from hW1 ▸ hb1.alloc hb1.size _)
  clear hb1
  go_wp2_with fail
  refine (int_any 2 _).mono ?_
  rintro e w2 ⟨rfl, hb2⟩
  obtain ⟨W2, hW2⟩ : ∃ W2, w2.alloc (.cells #[.int .u8 3, .bool false, .int .i64 2, .string ⟨#[]⟩] 60) = W2 := ⟨_, rfl⟩
  have hb := Lib.hid (show RowV W2 (.slice (some ⟨w2.heap.size, 0, none⟩) 1 1) [iD 2] from hW2 ▸ one_row w2 (iD 2))
  have h12 := Lib.hid (show Below W1.heap.size W1 W2 from hW2 ▸ hb2.alloc hb2.size _)
  have ha2 := Lib.hid (ha.out.below h12.out)
  have hB2 := Lib.hid (hB1.out.trans (h12.out.mono hB1.out.size))
  clear hb2
  obtain ⟨W3, hW3⟩ : ∃ W3, W2.alloc (.cells #[.slice (some ⟨w1.heap.size, 0, none⟩) 1 1, .int .i64 2, .slice (some ⟨w2.heap.size, 0, none⟩) 1 1, .int .i64 1, .slice (some ⟨w1.heap.size, 0, none⟩) 1 1, .int .i64 (-1), .slice (some ⟨w2.heap.size, 0, none⟩) 1 1, .int .i64 (-1)] 74) = W3 := ⟨_, rfl⟩
  have hc := Lib.hid (show CtsV W3 (.slice (some ⟨W2.heap.size, 0, none⟩) 4 4) (knownL ⟨w1.heap.size, 0, none⟩ ⟨w2.heap.size, 0, none⟩) from hW3 ▸ known_rows W2 _ _ ha2.out hb.out)
  have h23 := Lib.hid (show Below W2.heap.size W2 W3 from hW3 ▸ (Below.refl _ W2).alloc (Nat.le_refl _) _)
  go_wp2_with fail
  refine (known_call ⟨w1.heap.size, 0, none⟩ ⟨w2.heap.size, 0, none⟩ _ _ hc.out).mono ?_
  rintro e w4 ⟨v, r, rfl, ⟨hp, -⟩, ho, hf, hb4⟩
  rw [known_sum] at hp
  have hr := List.perm_singleton.1 hp
  obtain ⟨d, rfl, hd⟩ : ∃ d, r = [d] ∧ cnD d = ([iD 1], 1) := by
    match r, hr with
    | [], h => simp at h
    | [d], h => simp at h; exact ⟨d, rfl, h⟩
    | _ :: _ :: _, h => simp at h
  obtain ⟨⟨dA, dk, dc, dn⟩, dl⟩ := d
  obtain ⟨rfl, rfl⟩ := Prod.mk.inj hd
  obtain ⟨A, c, N, hN, rfl⟩ := ho.lenN (n := 1) rfl
  subst hN
  obtain ⟨g, rfl, -, hgB, hoC⟩ := OwnCs.row ho (by simp)
  obtain ⟨y0_, y1_⟩ := OwnC.two hoC (i := 0) rfl
  simp only [Nat.zero_mul, Nat.zero_add] at y0_ y1_
  have hrow := Lib.hid (hf.1 _ (List.mem_singleton.2 rfl)).rowV
  have h24 := Lib.hid (h23.out.trans (hb4.mono h23.out.size))
  have ha4 := Lib.hid (ha2.out.below h24.out)
  have hb4H := Lib.hid (hb.out.below h24.out)
  have hB4 := Lib.hid (hB2.out.trans (h24.out.mono hB2.out.size))
  have hgl := hoC.lt
  have hdl := hB4.out.size
  have e1 : cmpR [iD 1] [iD 1] = 0 := by kernel_rfl
  have e2 : cmpR [iD 1] [iD 2] = -1 := by kernel_rfl
  clear hp hr hd ho hf hb4 hoC
  go_wp2_with fail
  refine (rowCmp_any _ _ [iD 1] [iD 1] _ hrow.out ha4.out).mono ?_
  rw [e1]
  rintro e w5 ⟨rfl, hb5⟩
  have hb5H := Lib.hid hb5
  clear hb5
  go_wp2_with fail
  refine (rowCmp_any _ _ [iD 1] [iD 2] _ (ha4.out.below hb5H.out) (hb4H.out.below hb5H.out)).mono ?_
  rw [e2]
  rintro e w6 ⟨rfl, hb6⟩
  have hB6 := Lib.hid (hB4.out.trans ((hb5H.out.trans (hb6.mono hb5H.out.size)).mono hB4.out.size))
  clear hb6
  go_wp2_with fail
  go_ret
  exact ⟨rfl, hB6.out⟩
end Go.Proofs.YtpmfbmigdpmloaaGreatDoor
end
section
/-
  The law RowParses, walked at this program: of any text. Condition: the variables strconv.ErrSyntax and strconv.ErrRange hold errors; the tables of Go's library lie as their initialisers lay them.
-/
set_option linter.unusedVariables false
set_option linter.unusedSimpArgs false
namespace Go.Proofs.YtpmfbmigdpmloaaGreatDoor
open Go.RowKit Go.Lib

set_option maxHeartbeats 8000000 in
set_option maxRecDepth 100000 in
theorem rowParses_any (s : ByteArray) (w : World) (hT : Tabs w) (hV : VarsE w) (hs0 : s.size ≤ 9223372036854775807) :
    Calls Tryz.prog 4 #[.string s] w fun e w' => e = .returned (.bool true) ∧ Below w.heap.size w w' := by
  have hTH := Lib.hid hT; have hVH := Lib.hid hV
  clear hT hV
  by_cases hbig : s.size > 1048576
  · have hb : (s.size : Int) > 1048576 := by omega
    clear hbig
    go_enter Tryz.func4, Tryz.ntmps4
    go_wp2_with fail
    go_ret
    exact ⟨rfl, by go_grown⟩
  · have hl := Lib.hid (show s.size ≤ 1099511627776 by omega)
    have hb : ¬ (s.size : Int) > 1048576 := by omega
    clear hbig
    go_enter Tryz.func4, Tryz.ntmps4
    go_wp2_with fail
    refine (parseRow_any s w hTH.out hVH.out hl.out).mono ?_
    rintro e w1 ⟨v1, l1, z1, rfl, hz1, ho1⟩
    obtain ⟨A1, c1, rfl⟩ := ho1.form
    have hr1 := Lib.hid ho1.rowV; have hb1H := Lib.hid ho1.2.1; have hz1H := Lib.hid hz1
    clear ho1 hz1
    go_wp2_with fail
    refine (refParseRow_any s w1 hl.out).mono ?_
    rintro e w2 ⟨v2, l2, z2, rfl, hz2, ho2⟩
    obtain ⟨A2, c2, rfl⟩ := ho2.form
    obtain ⟨rfl, rfl⟩ := hz1H.out.one hz2
    have hr2 := Lib.hid ho2.rowV; have hb2H := Lib.hid (hb1H.out.trans (ho2.2.1.mono hb1H.out.size))
    have hr12 := Lib.hid (hr1.out.below ho2.2.1)
    have hzw : wrap64 z1 = z1 := by
      rcases hz1H.out with ⟨_, _, _, h⟩ | ⟨_, h, _⟩ <;> (rw [h]; unfold wrap64; omega)
    clear ho2 hz2
    go_wp2_with fail
    refine (known_any _).mono ?_
    rintro e w4 ⟨rfl, hb4⟩
    have hb4H := Lib.hid (hb2H.out.trans (hb4.mono hb2H.out.size))
    have hr4 := Lib.hid (hr2.out.below hb4)
    have hr14 := Lib.hid (hr12.out.below hb4)
    clear hb4
    go_wp2_with fail
    refine (sameRow_any _ _ l1 w4 hr14.out hr4.out).mono ?_
    rintro e w5 ⟨rfl, hb5⟩
    have hb5H := Lib.hid (hb4H.out.trans (hb5.mono hb4H.out.size))
    clear hb5
    go_wp2_with fail
    go_ret
    exact ⟨rfl, hb5H.out⟩
end Go.Proofs.YtpmfbmigdpmloaaGreatDoor
end
section
/-
  row.has, row.Pick, at this program: of any row, any columns. Conditions: those written.
-/
set_option linter.unusedVariables false
set_option linter.unusedSimpArgs false
namespace Go.Proofs.YtpmfbmigdpmloaaGreatDoor
open Go.RowKit Go.Lib

def intV (z : Int) : Value := .int .i64 z
/-- The slice value v holds these integers. -/
def IntsV (w : World) (v : Value) (l : List Int) : Prop := SlV w 1 v l.length (l.map intV)
theorem IntsV.below {w w' : World} {v : Value} {l : List Int} (h : IntsV w v l) (hb : Below w.heap.size w w') : IntsV w' v l := SlV.below h hb
theorem IntsV.form {w : World} {v : Value} {l : List Int} (h : IntsV w v l) : ∃ A c, v = .slice A l.length c ∧ l.length ≤ 9223372036854775807 := by
  obtain ⟨_, A, c, rfl, h2, h3, _⟩ := h
  exact ⟨A, c, rfl, by omega⟩
theorem IntsV.at {w : World} {A : Option Addr} {c : Nat} {l : List Int} (h : IntsV w (.slice A l.length c) l) {i : Nat} {z : Int} (hz : l[i]? = some z) :
    ∃ ad : Addr, A = some ad ∧ (ad.add i).block < w.heap.size ∧ w.cell? (ad.add i) = some (.int .i64 z) := by
  obtain ⟨_, A', c', e, _, _, _, h4⟩ := h
  obtain ⟨rfl, _, rfl⟩ := Value.slice.inj e
  have hi : i < l.length := (List.getElem?_eq_some_iff.1 hz).1
  obtain ⟨ad, rfl, h5, h6⟩ := h4 (by omega)
  exact ⟨ad, rfl, by rw [add_block]; exact h5, h6 i _ (by rw [List.getElem?_map, hz]; rfl)⟩
/-- Is it a column? -/
def hasC (n : Nat) (c : Int) : Bool := decide (0 ≤ c ∧ c < (n : Int))
set_option maxHeartbeats 2000000 in
theorem has_any (v : Value) (l : List Dat) (c : Int) (w : World) (h : RowV w v l) :
    Calls Tryz.prog 28 #[v, .int .i64 c] w fun e w' => e = .returned (.bool (hasC l.length c)) ∧ Below w.heap.size w w' := by
  obtain ⟨A, ca, rfl, hla⟩ := h.form
  clear h
  by_cases h0 : 0 ≤ c
  · go_enter Tryz.func28, Tryz.ntmps28
    go_wp2_with fail
    go_ret
    exact ⟨by simp [hasC, h0]; first | done | omega, by go_grown⟩
  · go_enter Tryz.func28, Tryz.ntmps28
    go_wp2_with fail
    go_ret
    exact ⟨by simp [hasC, h0]; first | done | omega, by go_grown⟩
theorem fold_take {α β : Type} {f : β → α → β} {b : β} {l : List α} {p : Nat} {x : α} (h : l[p]? = some x) : (l.take (p + 1)).foldl f b = f ((l.take p).foldl f b) x := by
  obtain ⟨hp, rfl⟩ := List.getElem?_eq_some_iff.1 h
  rw [List.take_succ_eq_append_getElem hp, List.foldl_append]
  rfl
theorem hasC_at {l : List Dat} {c : Int} (h : hasC l.length c = true) : ∃ n : Nat, c = (n : Int) ∧ n < l.length ∧ l[c.toNat]! = l[n]! := by
  have := of_decide_eq_true h
  exact ⟨c.toNat, by omega, by omega, rfl⟩
theorem OwnU.at {B : Nat} {A : Option Addr} {c : Nat} {l : List UInt8} {w : World} (h : OwnU B (.slice A l.length c) l w) {i : Nat} {b : UInt8} (hb : l[i]? = some b) : ∃ g, A = some ⟨g, 0, none⟩ ∧ w.cell? ⟨g, i, none⟩ = some (.int .u8 b.toNat) := by
  have hi : i < l.length := (List.getElem?_eq_some_iff.1 hb).1
  rcases own_slice h with ⟨_, h2⟩ | ⟨g, cap, e, hB⟩
  · omega
  · obtain ⟨rfl, _, rfl⟩ := Value.slice.inj e
    have := World.ownsRow.cells h (g := g) rfl i (.int .u8 b.toNat) (by simp [Lib.byteCells, hb])
    rw [show (⟨g, 0, none⟩ : Addr).add i = ⟨g, i, none⟩ by unfold Addr.add; split <;> simp_all] at this
    exact ⟨g, rfl, this⟩
def getC (l : List Dat) (c : Int) : Dat := l[c.toNat]!
/-- The data of these columns, if all are there. -/
def pickR (l : List Dat) (cols : List Int) : Option (List Dat) := if cols.length ≤ 32 ∧ cols.all (hasC l.length) = true then some (cols.map (getC l)) else none
/-- What the rounds hold: the first ones are laid. -/
def RelPk (l : List Dat) (cols : List Int) (g : Nat) (w0 : World) (s17 : Value) (wr : World) : Prop :=
  ∃ p : Nat, p ≤ cols.length ∧ s17 = .int .i64 (p : Int) ∧ (cols.take p).all (hasC l.length) = true ∧ OwnL 60 4 g cols.length (((cols.take p).map (getC l)).map cellsD ++ List.replicate (cols.length - p) zeroL) wr ∧ Below w0.heap.size w0 wr
theorem all_take {n : Nat} {cols : List Int} {p : Nat} {c : Int} (h : cols[p]? = some c) : (cols.take (p + 1)).all (hasC n) = ((cols.take p).all (hasC n) && hasC n c) := by
  obtain ⟨hp, rfl⟩ := List.getElem?_eq_some_iff.1 h
  rw [List.take_succ_eq_append_getElem hp, List.all_append]
  simp
theorem pick_step {l : List Dat} {cols : List Int} {p : Nat} {c : Int} (h : cols[p]? = some c) :
    (((cols.take p).map (getC l)).map cellsD ++ List.replicate (cols.length - p) zeroL).set p (cellsD (getC l c)) = ((cols.take (p + 1)).map (getC l)).map cellsD ++ List.replicate (cols.length - (p + 1)) zeroL := by
  obtain ⟨hp, rfl⟩ := List.getElem?_eq_some_iff.1 h
  have hl : (((cols.take p).map (getC l)).map cellsD).length = p := by rw [List.length_map, List.length_map, List.length_take]; omega
  rw [List.set_append_right _ _ (by omega), hl, Nat.sub_self, List.take_succ_eq_append_getElem hp, List.map_append, List.map_append, List.append_assoc]
  congr 1
  rw [show cols.length - p = (cols.length - (p + 1)) + 1 by omega, List.replicate_succ]
  rfl
theorem pick_none {l : List Dat} {cols : List Int} {p : Nat} {c : Int} (h : cols[p]? = some c) (hc : hasC l.length c = false) : pickR l cols = none := by
  unfold pickR
  rw [if_neg]
  rintro ⟨_, h2⟩
  have := List.all_eq_true.1 h2 c (List.mem_of_getElem? h)
  rw [hc] at this
  cases this
set_option maxHeartbeats 4000000 in
set_option maxRecDepth 1000000 in
theorem pick_any (v vc : Value) (l : List Dat) (cols : List Int) (w : World) (h : RowV w v l) (hc : IntsV w vc cols) (hs : ∀ d ∈ l, d.s.size ≤ 281474976710656) :
    Calls Tryz.prog 9 #[v, vc] w fun e w' => ∃ v' k, e = .returned (.tuple #[v', .int .u16 k]) ∧
      ((pickR l cols = none ∧ k = 20 ∧ v' = .slice none 0 0) ∨ ∃ q g, pickR l cols = some q ∧ k = 0 ∧ v' = .slice (some ⟨g, 0, none⟩) q.length q.length ∧ w.heap.size ≤ g ∧ OwnL 60 4 g q.length (q.map cellsD) w') ∧ Below w.heap.size w w' := by
  obtain ⟨A, ca, rfl, hla⟩ := h.form
  obtain ⟨C, cc, rfl, hlc⟩ := hc.form
  have hH := Lib.hid h; have hcH := Lib.hid hc; have hsH := Lib.hid hs
  clear h hc hs
  by_cases hbig : 32 < cols.length
  · have hno := Lib.hid (show pickR l cols = none by unfold pickR; rw [if_neg]; rintro ⟨h1, _⟩; omega)
    go_enter Tryz.func9, Tryz.ntmps9
    go_wp2_with fail
    refine bodyPost_ret (v := .tuple #[.slice none 0 0, .int .u16 20]) (by simp [results, Tryz.results9, go_sem]) rfl ?_
    exact ⟨_, _, rfl, .inl ⟨hno.out, rfl, rfl⟩, by go_grown⟩
  obtain ⟨cz, hmk, hown⟩ := make_row cols.length (by omega) w
  obtain ⟨W1, hW1⟩ : ∃ W1, w.alloc (.cells cz 60) = W1 := ⟨_, rfl⟩
  rw [hW1] at hmk hown
  have hownH := Lib.hid hown
  have hb1 := Lib.hid (show Below w.heap.size w W1 from hW1 ▸ (Below.refl _ w).alloc (Nat.le_refl _) _)
  clear hown hW1
  go_enter Tryz.func9, Tryz.ntmps9
  go_wp2_with fail
  go_loopw [4, 5, 7, 8, 17] (fun s4 s5 s7 s8 s17 wr => s4 = .slice none 0 0 ∧ s5 = .int .u16 0 ∧ RelPk l cols w.heap.size w s17 wr) (fun _ _ _ _ s17 _ => cols.length - (Go.RowKit.intOf s17).toNat)
  case atStart => exact ⟨rfl, rfl, 0, by omega, rfl, rfl, by rw [List.take_zero]; exact hownH.out, hb1.out⟩
  case round =>
    unfold RelPk at hrel
    obtain ⟨rfl, rfl, p, hp, rfl, hall, hown, hb⟩ := hrel
    have hownR := Lib.hid hown; have hbH := Lib.hid hb; have hallH := Lib.hid hall
    clear hown hb hmk hall
    by_cases hlt : p < cols.length
    · obtain ⟨c, hcc⟩ : ∃ c, cols[p]? = some c := ⟨_, List.getElem?_eq_getElem hlt⟩
      obtain ⟨ac, rfl, hbc, a0_⟩ := (hcH.out.below hbH.out).at hcc
      have hltH := Lib.hid hlt
      have hccH := Lib.hid hcc
      clear hcc
      go_wp2_with fail
      refine (has_any _ l c _ (hH.out.below hbH.out)).mono ?_
      rintro e w1 ⟨rfl, hb1'⟩
      have hown1 := Lib.hid (hownR.out.below hb1')
      have hb1H := Lib.hid (hbH.out.trans (hb1'.mono hbH.out.size))
      clear hb1' a0_
      cases hh : hasC l.length c with
      | false =>
        have hno := Lib.hid (pick_none hccH.out hh)
        clear hh
        go_wp2_with fail
        refine bodyPost_ret (v := .tuple #[.slice none 0 0, .int .u16 20]) (by simp [results, Tryz.results9, go_sem]) rfl ?_
        exact ⟨_, _, rfl, .inl ⟨hno.out, rfl, rfl⟩, hb1H.out⟩
      | true =>
        have hst := Lib.hid (pick_step (l := l) hccH.out)
        have hal := Lib.hid (show (cols.take (p + 1)).all (hasC l.length) = true by rw [all_take hccH.out, hallH.out, hh]; rfl)
        obtain ⟨n, rfl, hn, hln⟩ := hasC_at hh
        obtain ⟨ad, rfl, hba, a0_, a1_, a2_, a3_⟩ := (hH.out.below hb1H.out).at hn
        have hd2 : getC l (n : Int) = l[n] := by unfold getC; rw [hln, getElem!_pos l n hn]
        have hsd := Lib.hid (hsH.out _ (List.getElem_mem hn))
        rw [hd2] at hst
        obtain ⟨d, hd⟩ : ∃ d, l[n] = d := ⟨_, rfl⟩
        rw [hd] at a0_ a1_ a2_ a3_ hst hsd
        clear hd hd2 hln hh
        obtain ⟨k, b, m, s⟩ := d
        simp only at a0_ a1_ a2_ a3_
        have hpl : p < (((cols.take p).map (getC l)).map cellsD ++ List.replicate (cols.length - p) zeroL).length := by
          rw [List.length_append, List.length_map, List.length_map, List.length_take, List.length_replicate]; omega
        obtain ⟨xs, hxs⟩ : ∃ xs, ((cols.take p).map (getC l)).map cellsD ++ List.replicate (cols.length - p) zeroL = xs := ⟨_, rfl⟩
        rw [hxs] at hown1 hpl hst hownR
        have hplH := Lib.hid hpl
        clear hxs hpl
        have hgl := hown1.out.lt
        go_wp2_with fail
        refine (fresh_any k b m s _ hsd.out).mono ?_
        rintro e w2 ⟨rfl, hb⟩
        have hown2 := Lib.hid (hown1.out.below hb)
        have hb2 := Lib.hid (hb1H.out.trans (hb.mono hb1H.out.size))
        obtain ⟨y, hy⟩ : ∃ y, xs[p]? = some y := ⟨_, List.getElem?_eq_getElem hplH.out⟩
        obtain ⟨y0, y1, y2, y3, rfl⟩ : ∃ p q r s, y = [p, q, r, s] := by
          have := hown2.out.1 y (List.mem_of_getElem? hy)
          match y, this with
          | [p, q, r, s], _ => exact ⟨p, q, r, s, rfl⟩
        have e0_ := hown2.out.cell hy (j := 0) rfl
        have e1_ := hown2.out.cell hy (j := 1) rfl
        have e2_ := hown2.out.cell hy (j := 2) rfl
        have e3_ := hown2.out.cell hy (j := 3) rfl
        rw [Nat.add_zero] at e0_
        have f0 := hown2.out.free (p * 4); have f1 := hown2.out.free (p * 4 + 1); have f2 := hown2.out.free (p * 4 + 2); have f3 := hown2.out.free (p * 4 + 3)
        have hg2 := hown2.out.lt
        clear hb hy a0_ a1_ a2_ a3_
        go_wp2_with fail
        go_roundw
        case rel => exact ⟨rfl, rfl, p + 1, hltH.out, by go_num, hal.out, by rw [← hst.out]; exact hown2.out.put4 hplH.out _ _ _ _, (((hb2.out.setCell (Nat.le_refl _) _).setCell (Nat.le_refl _) _).setCell (Nat.le_refl _) _).setCell (Nat.le_refl _) _⟩
        case measure => have := hltH.out; simp [Go.RowKit.intOf]; omega
    · obtain rfl : p = cols.length := by omega
      rw [List.take_length] at hownR hallH
      have hyes := Lib.hid (show pickR l cols = some (cols.map (getC l)) by unfold pickR; rw [if_pos ⟨by omega, hallH.out⟩])
      have hfin := Lib.hid (show (cols.map (getC l)).map cellsD ++ List.replicate (cols.length - cols.length) zeroL = (cols.map (getC l)).map cellsD by rw [Nat.sub_self]; simp)
      have hlq := Lib.hid (show (cols.map (getC l)).length = cols.length from List.length_map ..)
      go_wp2_with fail
      refine bodyPost_ret (v := .tuple #[.slice (some ⟨w.heap.size, 0, none⟩) cols.length cols.length, .int .u16 0]) (by simp [results, Tryz.results9, go_sem]) rfl ?_
      refine ⟨_, _, rfl, .inr ⟨_, w.heap.size, hyes.out, rfl, by rw [hlq.out], Nat.le_refl _, ?_⟩, hbH.out⟩
      rw [hlq.out, ← hfin.out]
      exact hownR.out
end Go.Proofs.YtpmfbmigdpmloaaGreatDoor
end
section
/-
  Plain mathematics of bags of rows: the document's own sum (each row to its place in order) is what Sum tells, and there is one such list. No condition but those written.
-/
set_option linter.unusedVariables false
set_option linter.unusedSimpArgs false
namespace Go.Proofs.YtpmfbmigdpmloaaGreatDoor
open Go.RowKit Go.Lib

def S64 (n : Int) : Prop := -9223372036854775808 ≤ n ∧ n ≤ 9223372036854775807
/-- With a row more, so many times: to its place. -/
def addI : List Cn → Cn → List Cn
  | [], x => [x]
  | y :: r, x => if cmpR y.1 x.1 < 0 then y :: addI r x else if cmpR y.1 x.1 = 0 then (y.1, wrap64 (y.2 + x.2)) :: r else x :: y :: r
def sumI (l : List Cn) : List Cn := l.foldl addI []
def Inc (l : List Cn) : Prop := l.Pairwise (fun a b => cmpR a.1 b.1 = -1)
theorem cmpR_lt_trans {a b c : List Dat} (h1 : cmpR a b = -1) (h2 : cmpR b c = -1) : cmpR a c = -1 := by
  have h3 := cmpR_trans (l := a) (m := b) (n := c) (by omega) (by omega)
  have h4 := cmpR_range a c
  have h5 : cmpR a c ≠ 0 := by
    intro q
    have t1 := cmpR_turn c a
    have h6 := cmpR_trans (l := c) (m := a) (n := b) (by omega) (by omega)
    have t2 := cmpR_turn b c
    omega
  omega
theorem cmpR_zero_left {a b c : List Dat} (h1 : cmpR a b = 0) (h2 : cmpR b c = -1) : cmpR a c = -1 := by
  have h3 := cmpR_trans (l := a) (m := b) (n := c) (by omega) (by omega)
  have h4 := cmpR_range a c
  have h5 : cmpR a c ≠ 0 := by
    intro q
    have t1 := cmpR_turn c a
    have h6 := cmpR_trans (l := c) (m := a) (n := b) (by omega) (by omega)
    have t2 := cmpR_turn b c
    omega
  omega
theorem addI_mem : ∀ (l : List Cn) (x b : Cn), b ∈ addI l x → b.1 = x.1 ∨ ∃ y ∈ l, b.1 = y.1
  | [], x, b, h => by simp [addI] at h; subst h; exact .inl rfl
  | y :: r, x, b, h => by
    unfold addI at h
    split at h
    · rcases List.mem_cons.1 h with rfl | h
      · exact .inr ⟨_, by simp, rfl⟩
      · rcases addI_mem r x b h with h | ⟨z, hz, e⟩
        · exact .inl h
        · exact .inr ⟨z, by simp [hz], e⟩
    · split at h
      · rcases List.mem_cons.1 h with rfl | h
        · exact .inr ⟨y, by simp, rfl⟩
        · exact .inr ⟨b, by simp [h], rfl⟩
      · rcases List.mem_cons.1 h with rfl | h
        · exact .inl rfl
        · exact .inr ⟨b, h, rfl⟩
theorem addI_inc : ∀ (l : List Cn) (x : Cn), Inc l → Inc (addI l x)
  | [], x, _ => by simp [addI, Inc]
  | y :: r, x, h => by
    obtain ⟨h1, h2⟩ := List.pairwise_cons.1 h
    have hr := cmpR_range y.1 x.1
    have ht := cmpR_turn x.1 y.1
    unfold addI
    split
    · refine List.pairwise_cons.2 ⟨fun b hb => ?_, addI_inc r x h2⟩
      rcases addI_mem r x b hb with e | ⟨z, hz, e⟩
      · rw [e]; omega
      · rw [e]; exact h1 z hz
    · split
      · exact List.pairwise_cons.2 ⟨h1, h2⟩
      · refine List.pairwise_cons.2 ⟨fun b hb => ?_, h⟩
        rcases List.mem_cons.1 hb with rfl | hb
        · omega
        · exact cmpR_lt_trans (b := y.1) (by omega) (h1 b hb)
theorem addI_map : ∀ (l : List Cn) (x : Cn), Inc l → (∃ y ∈ l, cmpR y.1 x.1 = 0) → addI l x = l.map (fun y => if cmpR y.1 x.1 = 0 then (y.1, wrap64 (y.2 + x.2)) else y)
  | [], x, _, h => by obtain ⟨y, hy, _⟩ := h; cases hy
  | y :: r, x, h, hex => by
    obtain ⟨h1, h2⟩ := List.pairwise_cons.1 h
    unfold addI
    rw [List.map_cons]
    split
    · rename_i hlt
      rw [if_neg (by omega), addI_map r x h2]
      obtain ⟨z, hz, e⟩ := hex
      rcases List.mem_cons.1 hz with rfl | hz
      · omega
      · exact ⟨z, hz, e⟩
    · split
      · rename_i h0
        congr 1
        symm
        rw [List.map_congr_left (g := id), List.map_id]
        intro z hz
        rw [if_neg]
        · rfl
        · intro q
          have t := cmpR_turn z.1 x.1
          have t2 := h1 z hz
          have t3 := cmpR_turn y.1 z.1
          have t4 := cmpR_turn x.1 y.1
          have := cmpR_trans (l := z.1) (m := x.1) (n := y.1) (by omega) (by omega)
          omega
      · rename_i hlt h0
        obtain ⟨z, hz, e⟩ := hex
        exfalso
        rcases List.mem_cons.1 hz with rfl | hz
        · exact h0 e
        · have t := h1 z hz
          have t2 := cmpR_trans (l := y.1) (m := z.1) (n := x.1) (by omega) (by omega)
          omega
theorem addI_new : ∀ (l : List Cn) (x : Cn), (∀ y ∈ l, cmpR y.1 x.1 ≠ 0) → (addI l x).Perm (x :: l)
  | [], x, _ => List.Perm.refl _
  | y :: r, x, h => by
    unfold addI
    split
    · exact ((addI_new r x (fun z hz => h z (by simp [hz]))).cons y).trans (List.Perm.swap x y r)
    · rw [if_neg (h y (by simp))]
theorem addN_map {l : List Cn} {x : Cn} (hn : (l.map keyN).Nodup) (h : keyR x.1 ∈ l.map keyN) : addN l x = l.map (fun y => if keyR y.1 = keyR x.1 then (y.1, wrap64 (y.2 + x.2)) else y) := by
  unfold addN
  have hw : withN l x.1 = l := if_pos h
  have hp : placeN (l.map keyN) (keyN x) = (l.map keyN).idxOf (keyR x.1) := if_pos h
  rw [hw, hp]
  have hi := List.idxOf_lt_length_of_mem h
  have hg : (l.map keyN)[(l.map keyN).idxOf (keyR x.1)] = keyR x.1 := List.getElem_idxOf hi
  apply List.ext_getElem?
  intro j
  rw [List.getElem?_modify, List.getElem?_map]
  cases hj : l[j]? with
  | none => simp
  | some y =>
    obtain ⟨hj', rfl⟩ := List.getElem?_eq_some_iff.1 hj
    have hk : (l.map keyN)[j]'(by simpa using hj') = keyR l[j].1 := by rw [List.getElem_map]; rfl
    by_cases c : (l.map keyN).idxOf (keyR x.1) = j
    · have hq : keyR l[j].1 = keyR x.1 := by
        subst c
        rw [← hk]
        exact hg
      simp only [Option.map_eq_map, Option.map_some, if_pos c, if_pos hq]
    · have hq : ¬ keyR l[j].1 = keyR x.1 := by
        intro q
        apply c
        have hj2 : j < (l.map keyN).length := by simpa using hj'
        have hp := List.pairwise_iff_getElem.1 hn
        rcases Nat.lt_trichotomy ((l.map keyN).idxOf (keyR x.1)) j with h1 | h1 | h1
        · exact absurd (by rw [hg, hk]; exact q.symm) (hp _ j hi hj2 h1)
        · exact h1
        · exact absurd (by rw [hg, hk]; exact q) (hp j _ hj2 hi h1)
      simp only [Option.map_eq_map, Option.map_some, if_neg c, if_neg hq]
theorem wrap_id {n : Int} (h : S64 n) : wrap64 n = n := by
  unfold S64 at h
  unfold wrap64
  omega
theorem addN_new {l : List Cn} {x : Cn} (h : keyR x.1 ∉ l.map keyN) (hx : S64 x.2) : addN l x = l ++ [x] := by
  unfold addN
  have hw : withN l x.1 = l ++ [(x.1, 0)] := if_neg h
  have hp : placeN (l.map keyN) (keyN x) = l.length := by unfold placeN; rw [if_neg (show keyN x ∉ _ from h), List.length_map]
  rw [hw, hp]
  apply List.ext_getElem?
  intro j
  rw [List.getElem?_modify]
  by_cases c : l.length = j
  · subst c
    simp [wrap_id hx]
  · by_cases c2 : j < l.length
    · simp [List.getElem?_append_left c2, c]
    · rw [List.getElem?_eq_none (l := l ++ [(x.1, 0)]) (by simp; omega), List.getElem?_eq_none (l := l ++ [x]) (by simp; omega)]
      rfl
theorem sumI_perm : ∀ (l acc acc' : List Cn), WideN l → (∀ x ∈ l, S64 x.2) → WideN acc → acc'.Perm acc → Inc acc' → (acc.map keyN).Nodup → (l.foldl addI acc').Perm (l.foldl addN acc) ∧ Inc (l.foldl addI acc')
  | [], _, _, _, _, _, h, hi, _ => ⟨h, hi⟩
  | x :: l, acc, acc', hw, hs, ha, hp, hi, hn => by
    have hw' : WideN l := fun y hy => hw y (by simp [hy])
    have hs' : ∀ y ∈ l, S64 y.2 := fun y hy => hs y (by simp [hy])
    have hwx := hw x (by simp)
    have haN : WideN (addN acc x) := by
      intro y hy
      by_cases hk : keyR x.1 ∈ acc.map keyN
      · rw [addN_map hn hk] at hy
        obtain ⟨z, hz, rfl⟩ := List.mem_map.1 hy
        have := ha z hz
        split <;> exact this
      · rw [addN_new hk (hs x (by simp))] at hy
        rcases List.mem_append.1 hy with hy | hy
        · exact ha y hy
        · simp at hy; subst hy; exact hwx
    have hnN : ((addN acc x).map keyN).Nodup := keys_apart [x] acc hn
    refine sumI_perm l (addN acc x) (addI acc' x) hw' hs' haN ?_ (addI_inc acc' x hi) hnN
    by_cases hk : keyR x.1 ∈ acc.map keyN
    · obtain ⟨y, hy, e⟩ := List.mem_map.1 hk
      have h0 := (keyR_same y.1 x.1 (ha y hy) hwx).1 e
      rw [addI_map acc' x hi ⟨y, hp.mem_iff.2 hy, h0⟩, addN_map hn hk]
      have hmap : acc'.map (fun y => if cmpR y.1 x.1 = 0 then (y.1, wrap64 (y.2 + x.2)) else y) = acc'.map (fun y => if keyR y.1 = keyR x.1 then (y.1, wrap64 (y.2 + x.2)) else y) := by
        apply List.map_congr_left
        intro z hz
        have := keyR_same z.1 x.1 (ha z (hp.mem_iff.1 hz)) hwx
        by_cases c : cmpR z.1 x.1 = 0
        · rw [if_pos c, if_pos (this.2 c)]
        · rw [if_neg c, if_neg (fun q => c (this.1 q))]
      rw [hmap]
      exact hp.map _
    · rw [addN_new hk (hs x (by simp))]
      refine (addI_new acc' x (fun y hy q => hk ?_)).trans ((hp.cons x).trans (List.perm_append_singleton x acc).symm)
      exact List.mem_map.2 ⟨y, hp.mem_iff.1 hy, (keyR_same y.1 x.1 (ha y (hp.mem_iff.1 hy)) hwx).2 q⟩
/-- The document's sum. -/
def refSum (l : List Cn) : List Cn := (sumI l).filter (fun x => x.2 != 0)
theorem refSum_of {l : List Cn} (hw : WideN l) (hs : ∀ x ∈ l, S64 x.2) : SumOf l (refSum l) := by
  obtain ⟨h1, h2⟩ := sumI_perm l [] [] hw hs (fun x hx => by cases hx) (List.Perm.refl _) List.Pairwise.nil (by simp)
  exact ⟨h1.filter _, h2.filter _⟩
theorem inc_one : ∀ {r r' : List Cn}, r.Perm r' → Inc r → Inc r' → r = r'
  | [], r', h, _, _ => h.nil_eq
  | a :: r, [], h, _, _ => absurd h.eq_nil (by simp)
  | a :: r, b :: r', h, h1, h2 => by
    obtain ⟨u1, u2⟩ := List.pairwise_cons.1 h1
    obtain ⟨v1, v2⟩ := List.pairwise_cons.1 h2
    have hab : a = b := by
      have ha : a ∈ b :: r' := h.mem_iff.1 (by simp)
      have hb : b ∈ a :: r := h.mem_iff.2 (by simp)
      rcases List.mem_cons.1 ha with e | ha
      · exact e
      · rcases List.mem_cons.1 hb with e | hb
        · exact e.symm
        · have t1 := v1 a ha
          have t2 := u1 b hb
          have t3 := cmpR_turn a.1 b.1
          omega
    subst hab
    rw [inc_one (List.perm_cons a |>.1 h) u2 v2]
theorem sum_one {l r r' : List Cn} (h : SumOf l r) (h' : SumOf l r') : r = r' := inc_one (h.1.trans h'.1.symm) h.2 h'.2
/-- .. where it stands. -/
theorem addI_at : ∀ (l : List Cn) (x : Cn) (k : Nat), k ≤ l.length → (∀ i y, i < k → l[i]? = some y → cmpR y.1 x.1 < 0) → (∀ y, l[k]? = some y → ¬ cmpR y.1 x.1 < 0) →
    addI l x = match l[k]? with
      | some y => if cmpR y.1 x.1 = 0 then l.take k ++ (y.1, wrap64 (y.2 + x.2)) :: l.drop (k + 1) else l.take k ++ x :: l.drop k
      | none => l.take k ++ [x]
  | [], x, 0, _, _, _ => rfl
  | [], x, k + 1, h, _, _ => by simp at h
  | y :: r, x, 0, _, _, h2 => by
    have := h2 y rfl
    unfold addI
    rw [if_neg this]
    simp
  | y :: r, x, k + 1, h, h1, h2 => by
    have h0 := h1 0 y (by omega) rfl
    have ih := addI_at r x k (by simpa using h) (fun i z hi hz => h1 (i + 1) z (by omega) (by simpa using hz)) (fun z hz => h2 z (by simpa using hz))
    unfold addI
    rw [if_pos h0, ih]
    simp only [List.getElem?_cons_succ, List.take_succ_cons, List.drop_succ_cons]
    cases r[k]? with
    | none => simp
    | some z => simp only; split <;> simp
end Go.Proofs.YtpmfbmigdpmloaaGreatDoor
end
section
/-
  From what the statements of layer 2 say of an argument (it reads as a datum) to the words of the walks: a row, counted rows, integers. Conditions: those written.
-/
set_option linter.unusedVariables false
set_option linter.unusedSimpArgs false
namespace Go.Proofs.YtpmfbmigdpmloaaGreatDoor
open Go.ChangeShapes Go.WideShapes Go.ChangeAt Go.RowKit Go.Joins Go.Lib Go.Deep

theorem cell_lt {W : World} {a : Addr} {u : Value} (h : W.cell? a = some u) : a.block < W.heap.size := by
  rcases Nat.lt_or_ge a.block W.heap.size with h1 | h1
  · exact h1
  · simp [World.cell?, Array.getElem?_eq_none h1] at h
theorem cellsDat : Tryz.prog.cellsOf 60 = 4 := by kernel_rfl
section
variable {H : Type} {enc : TypeId × Value → H} {W : World}
/-- What a datum reads as. -/
def datD (d : Dat) : DataW H := .agg [.lit (.int .u8 d.k), .lit (.bool d.b), .lit (.int .i64 d.n), .lit (.string d.s.data.toList)]
/-- What a row reads as: its data, and what stands in its room behind. -/
def DatR (x : DataW H) (l : List Dat) : Prop := (x = .nil ∧ l = []) ∨ ∃ r, x = .slice (l.map datD) r
theorem open_cells4 {P : Program} {base : Nat} {spare : Nat → Bool} {held : Bool} {t : TypeId} {f0 f1 f2 f3 : Field} {fuel : Nat} {cs : List Value} {x : DataW H × List MemPlace} (hs : P.underlying t = some (.struct #[f0, f1, f2, f3])) (hone : oneCellFields P #[f0, f1, f2, f3] = true) (hC : P.cellsOf t = 4)
    (h : DataW.trod enc P W base spare held fuel t cs = some x) :
    ∃ (v0 v1 v2 v3 : Value) (y0 y1 y2 y3 : DataW H × List MemPlace) (n : Nat), cs = [v0, v1, v2, v3] ∧ x.1 = .agg [y0.1, y1.1, y2.1, y3.1] ∧
      DataW.trod enc P W base spare held n f0.type [v0] = some y0 ∧ DataW.trod enc P W base spare held n f1.type [v1] = some y1 ∧ DataW.trod enc P W base spare held n f2.type [v2] = some y2 ∧ DataW.trod enc P W base spare held n f3.type [v3] = some y3 := by
  obtain ⟨y0, y1, y2, y3, n, rfl, hl, h0, h1, h2, h3⟩ := trod_struct4 hs h
  rw [hC] at hl
  obtain ⟨o0, k0⟩ := hone_of hone 0 f0 rfl
  obtain ⟨o1, k1⟩ := hone_of hone 1 f1 rfl
  obtain ⟨o2, k2⟩ := hone_of hone 2 f2 rfl
  obtain ⟨o3, k3⟩ := hone_of hone 3 f3 rfl
  match cs, hl with
  | [v0, v1, v2, v3], _ => exact ⟨v0, v1, v2, v3, y0, y1, y2, y3, n, rfl, rfl, by simpa [o0, k0] using h0, by simpa [o1, k1] using h1, by simpa [o2, k2] using h2, by simpa [o3, k3] using h3⟩
theorem open_cells2 {P : Program} {base : Nat} {spare : Nat → Bool} {held : Bool} {t : TypeId} {f0 f1 : Field} {fuel : Nat} {cs : List Value} {x : DataW H × List MemPlace} (hs : P.underlying t = some (.struct #[f0, f1])) (hone : oneCellFields P #[f0, f1] = true) (hC : P.cellsOf t = 2)
    (h : DataW.trod enc P W base spare held fuel t cs = some x) :
    ∃ (v0 v1 : Value) (y0 y1 : DataW H × List MemPlace) (n : Nat), cs = [v0, v1] ∧ x.1 = .agg [y0.1, y1.1] ∧
      DataW.trod enc P W base spare held n f0.type [v0] = some y0 ∧ DataW.trod enc P W base spare held n f1.type [v1] = some y1 := by
  obtain ⟨y0, y1, n, rfl, hl, h0, h1⟩ := trod_struct2 hs h
  rw [hC] at hl
  obtain ⟨o0, k0⟩ := hone_of hone 0 f0 rfl
  obtain ⟨o1, k1⟩ := hone_of hone 1 f1 rfl
  match cs, hl with
  | [v0, v1], _ => exact ⟨v0, v1, y0, y1, n, rfl, rfl, by simpa [o0, k0] using h0, by simpa [o1, k1] using h1⟩
set_option maxRecDepth 100000 in
theorem open_datum {fuel : Nat} {cs : List Value} {x : DataW H × List MemPlace} (h : DataW.trod enc Tryz.prog W 0 (fun _ => true) true fuel 60 cs = some x) : ∃ d : Dat, cs = cellsD d ∧ x.1 = datD d ∧ Wide d ∧ d.s.size ≤ 9223372036854775807 := by
  obtain ⟨v0, v1, v2, v3, y0, y1, y2, y3, n, rfl, hx, h0, h1, h2, h3⟩ := open_cells4 Tryz.underlying60 (by kernel_rfl) cellsDat h
  obtain ⟨k0, e0, rfl, w0⟩ := DataW.trod_int Tryz.underlying58 h0
  obtain ⟨b0, e1, rfl⟩ := DataW.trod_bool Tryz.underlying4 h1
  obtain ⟨n0, e2, rfl, w2⟩ := DataW.trod_int Tryz.underlying2 h2
  obtain ⟨s0, e3, rfl, w3⟩ := DataW.trod_string Tryz.underlying9 h3
  simp only [List.cons.injEq, and_true] at e0 e1 e2 e3
  subst e0 e1 e2 e3
  refine ⟨⟨k0, b0, n0, s0⟩, rfl, hx, ⟨?_, ?_⟩, ?_⟩
  · simpa [Lit.wf, IntKind.min, IntKind.max, IntKind.signed, IntKind.bits] using w0
  · simpa [Lit.wf, IntKind.min, IntKind.max, IntKind.signed, IntKind.bits] using w2
  · unfold maxLen at w3; exact w3
theorem map_range {n : Nat} {f : Nat → Dat} {D : Nat → DataW H} (h : ∀ i, i < n → D i = datD (f i)) : (List.range n).map D = ((List.range n).map f).map datD := by
  rw [List.map_map]
  exact List.map_congr_left fun i hi => h i (List.mem_range.1 hi)
/-- Cells that lie so make a row. -/
theorem rowV_of {a : Addr} {len cap : Nat} {f : Nat → Dat} (hlc : len ≤ cap) (hcm : cap ≤ 9223372036854775807) (hc : ∀ i, i < len → ∀ j u, (cellsD (f i))[j]? = some u → W.cell? (a.add (i * 4 + j)) = some u) :
    RowV W (.slice (some a) len cap) ((List.range len).map f) := by
  have hl : ((List.range len).map f).length = len := by simp
  refine ⟨cells_len _, some a, cap, by rw [hl], by rw [hl]; exact hlc, hcm, fun q => (by cases q), fun hp => ⟨a, rfl, ?_, fun j u hj => ?_⟩⟩
  · rw [hl] at hp
    have := cell_lt (hc 0 hp 0 _ rfl)
    rwa [add_block] at this
  · have e : j = j / 4 * 4 + j % 4 := by omega
    have hm : j % 4 < 4 := Nat.mod_lt _ (by omega)
    have hj2 : j < ((List.range len).map f).length * 4 := by
      rw [← cells_len]
      exact (List.getElem?_eq_some_iff.1 hj).1
    rw [hl] at hj2
    have hi : j / 4 < len := by omega
    rw [e, cells_get _ (j / 4) (by rw [hl]; exact hi) (j % 4) hm] at hj
    rw [e]
    exact hc (j / 4) hi (j % 4) u (by simpa using hj)
set_option maxRecDepth 100000 in
theorem open_row {fuel : Nat} {v : Value} {x : DataW H × List MemPlace} (h : DataW.trod enc Tryz.prog W 0 (fun _ => true) true fuel 23 [v] = some x) : ∃ l, RowV W v l ∧ (∀ d ∈ l, Wide d ∧ d.s.size ≤ 9223372036854775807) ∧ DatR x.1 l := by
  rcases open_slice Tryz.underlying23 h with ⟨h1, rfl⟩ | ⟨a, len, cap, m, n, D, Pl, h1, _, hlc, hcm, hm, rfl, hx⟩
  · obtain rfl : v = .slice none 0 0 := by simpa using h1
    exact ⟨[], RowV.nil W, by simp, .inl ⟨rfl, rfl⟩⟩
  · obtain rfl : v = .slice (some a) len cap := by simpa using h1
    have hlm : len ≤ m := by rw [hm]; simpa using hlc
    have each : ∀ i, i < len → ∃ d : Dat, (∀ j u, (cellsD d)[j]? = some u → W.cell? (a.add (i * 4 + j)) = some u) ∧ D i = datD d ∧ Wide d ∧ d.s.size ≤ 9223372036854775807 := by
      intro i hi
      obtain ⟨cs, g1, g2⟩ := hx i (by omega)
      obtain ⟨d, rfl, e, hw, hs⟩ := open_datum g2
      rw [cellsDat] at g1
      obtain ⟨_, hlen, hcell⟩ := World.cells?_some g1
      refine ⟨d, fun j u hj => ?_, e, hw, hs⟩
      have hj4 : j < 4 := (List.getElem?_eq_some_iff.1 hj).1
      have := hcell j hj4
      rw [add_twice] at this
      rw [this]
      first | exact hj | simpa using hj
    obtain ⟨f, hf⟩ := choose_lt each
    refine ⟨(List.range len).map f, rowV_of hlc (by unfold maxLen at hcm; exact hcm) (fun i hi => (hf i hi).1), fun d hd => ?_, .inr ⟨_, by rw [map_range (fun i hi => (hf i hi).2.1)]⟩⟩
    obtain ⟨i, hi, rfl⟩ := List.mem_map.1 hd
    exact (hf i (List.mem_range.1 hi)).2.2
set_option maxRecDepth 100000 in
theorem arg_row {b : Nat} {v : Value} {d : DataW H} {p : List MemPlace} (hv : Value.okWide Tryz.prog W .any b 23 v) (h : DataW.Trod enc Tryz.prog W 0 (fun _ => true) true 23 v d p) : ∃ l, RowV W v l ∧ (∀ d ∈ l, Wide d ∧ d.s.size ≤ 9223372036854775807) ∧ DatR d l := by
  obtain ⟨a, len, cap, rfl⟩ := okWide_slice Tryz.underlying23 hv
  obtain ⟨fuel, hf⟩ := h
  exact open_row hf
/-- What a slice of integers reads as. -/
def DatI (x : DataW H) (l : List Int) : Prop := (x = .nil ∧ l = []) ∨ ∃ r, x = .slice (l.map (fun z => .lit (.int .i64 z))) r
set_option maxRecDepth 100000 in
theorem arg_ints {b : Nat} {v : Value} {d : DataW H} {p : List MemPlace} (hv : Value.okWide Tryz.prog W .any b 24 v) (h : DataW.Trod enc Tryz.prog W 0 (fun _ => true) true 24 v d p) : ∃ l, IntsV W v l ∧ True ∧ DatI d l := by
  obtain ⟨a', len', cap', rfl⟩ := okWide_slice Tryz.underlying24 hv
  obtain ⟨fuel, hf⟩ := h
  rcases open_slice1 Tryz.underlying24 (by kernel_rfl) hf with ⟨h1, h2⟩ | ⟨a, len, cap, m, n, V, D, Pl, h1, _, hlc, hcm, hm, hx, hc⟩
  · simp [Value.cells] at h1
    obtain ⟨rfl, rfl, rfl⟩ := h1
    cases h2
    exact ⟨[], ⟨rfl, none, 0, rfl, Nat.le_refl _, by decide, fun _ => rfl, fun q => absurd q (by simp)⟩, trivial, .inl ⟨rfl, rfl⟩⟩
  · simp [Value.cells] at h1
    obtain ⟨rfl, rfl, rfl⟩ := h1
    cases hx
    have hlm : len' ≤ m := by rw [hm]; simpa using hlc
    have each : ∀ i, i < len' → ∃ z : Int, W.cell? (a.add i) = some (.int .i64 z) ∧ D i = .lit (.int .i64 z) := by
      intro i hi
      obtain ⟨g1, g2⟩ := hc i (by omega)
      obtain ⟨z, e, hz, _⟩ := DataW.trod_int Tryz.underlying3 g2
      simp only [List.cons.injEq, and_true] at e
      rw [e] at g1
      exact ⟨z, g1, congrArg (·.1) hz⟩
    obtain ⟨f, hf'⟩ := choose_lt each
    have hl : ((List.range len').map f).length = len' := by simp
    refine ⟨(List.range len').map f, ⟨by rw [List.length_map, hl]; omega, some a, cap', by rw [hl], by rw [hl]; exact hlc, by unfold maxLen at hcm; exact hcm, fun q => (by cases q), fun hp => ⟨a, rfl, ?_, fun j u hj => ?_⟩⟩, trivial, .inr ⟨(List.range (m - len')).map fun j => D (len' + j), ?_⟩⟩
    · rw [hl] at hp
      have := cell_lt (hf' 0 hp).1
      rwa [add_block] at this
    · have hj' : j < len' := by
        have := (List.getElem?_eq_some_iff.1 hj).1
        simpa using this
      rw [(hf' j hj').1]
      simp [hj', intV] at hj
      rw [hj]
    · congr 1
      rw [List.map_map]
      exact List.map_congr_left fun i hi => (hf' i (List.mem_range.1 hi)).2
/-- What counted rows read as. -/
def DatC (x : DataW H) (ds : List Cd) : Prop := (x = .nil ∧ ds = []) ∨ ∃ es r, x = .slice es r ∧ es.length = ds.length ∧ ∀ d ∈ ds, ∃ y, .agg [y, .lit (.int .i64 d.1.n)] ∈ es ∧ DatR y d.2
theorem cellsCt : Tryz.prog.cellsOf 74 = 2 := by kernel_rfl
instance : Inhabited Cd := ⟨(⟨none, 0, 0, 0⟩, [])⟩
theorem cells_get2 : ∀ (l : List Cd) (i : Nat) (h : i < l.length) (j : Nat), j < 2 → (cellsC l)[i * 2 + j]? = (cellsV l[i].1)[j]? := by
  intro l i h j hj
  unfold cellsC
  rw [flat_get _ (fun x hx => by obtain ⟨y, _, rfl⟩ := List.mem_map.1 hx; rfl) i j hj, List.getElem?_map, List.getElem?_eq_getElem h]
  rfl
set_option maxRecDepth 100000 in
theorem arg_counted {b : Nat} {v : Value} {d : DataW H} {p : List MemPlace} (hv : Value.okWide Tryz.prog W .any b 71 v) (h : DataW.Trod enc Tryz.prog W 0 (fun _ => true) true 71 v d p) :
    ∃ ds, CtsV W v ds ∧ (∀ d ∈ ds, (∀ x ∈ d.2, Wide x ∧ x.s.size ≤ 9223372036854775807) ∧ S64 d.1.n) ∧ DatC d ds := by
  obtain ⟨a', len', cap', rfl⟩ := okWide_slice Tryz.underlying71 hv
  obtain ⟨fuel, hf⟩ := h
  rcases open_slice Tryz.underlying71 hf with ⟨h1, h2⟩ | ⟨a, len, cap, m, n, D, Pl, h1, _, hlc, hcm, hm, hx, hc⟩
  · simp [Value.cells] at h1
    obtain ⟨rfl, rfl, rfl⟩ := h1
    cases h2
    exact ⟨[], ⟨⟨rfl, none, 0, rfl, Nat.le_refl _, by decide, fun _ => rfl, fun q => absurd q (by simp)⟩, by simp⟩, by simp, .inl ⟨rfl, rfl⟩⟩
  · simp [Value.cells] at h1
    obtain ⟨rfl, rfl, rfl⟩ := h1
    cases hx
    have hlm : len' ≤ m := by rw [hm]; simpa using hlc
    have each : ∀ i, i < len' → ∃ d : Cd, (∀ j u, (cellsV d.1)[j]? = some u → W.cell? (a.add (i * 2 + j)) = some u) ∧ RowV W (valD d) d.2 ∧ ((∀ x ∈ d.2, Wide x ∧ x.s.size ≤ 9223372036854775807) ∧ S64 d.1.n) ∧ ∃ y, D i = .agg [y, .lit (.int .i64 d.1.n)] ∧ DatR y d.2 := by
      intro i hi
      obtain ⟨cs, g1, g2⟩ := hc i (by omega)
      obtain ⟨v0, v1, y0, y1, k, rfl, e, t0, t1⟩ := open_cells2 Tryz.underlying74 (by kernel_rfl) cellsCt g2
      obtain ⟨A0, l0, c0, e0⟩ := slice_form Tryz.underlying23 t0
      simp only [List.cons.injEq, and_true] at e0
      subst e0
      obtain ⟨l, hl, hw, hd⟩ := open_row t0
      obtain ⟨z, e1, rfl, w1⟩ := DataW.trod_int Tryz.underlying2 t1
      simp only [List.cons.injEq, and_true] at e1
      subst e1
      rw [cellsCt] at g1
      obtain ⟨_, hlen, hcell⟩ := World.cells?_some g1
      refine ⟨(⟨A0, l0, c0, z⟩, l), fun j u hj => ?_, hl, ⟨hw, ?_⟩, y0.1, e, hd⟩
      · have hj2 : j < 2 := (List.getElem?_eq_some_iff.1 hj).1
        have := hcell j hj2
        rw [add_twice] at this
        rw [this]
        exact hj
      · simpa [S64, Lit.wf, IntKind.min, IntKind.max, IntKind.signed, IntKind.bits] using w1
    obtain ⟨f, hf'⟩ := choose_lt each
    have hl : ((List.range len').map f).length = len' := by simp
    refine ⟨(List.range len').map f, ⟨⟨cellsC_len _, some a, cap', by rw [hl], by rw [hl]; exact hlc, by unfold maxLen at hcm; exact hcm, fun q => (by cases q), fun hp => ⟨a, rfl, ?_, fun j u hj => ?_⟩⟩, ?_⟩, ?_, .inr ⟨_, (List.range (m - len')).map fun j => D (len' + j), rfl, by simp, ?_⟩⟩
    · rw [hl] at hp
      have := cell_lt ((hf' 0 hp).1 0 _ rfl)
      rwa [add_block] at this
    · have e : j = j / 2 * 2 + j % 2 := by omega
      have hj2 : j < len' * 2 := by
        have := (List.getElem?_eq_some_iff.1 hj).1
        rw [cellsC_len, hl] at this
        exact this
      have hi : j / 2 < len' := by omega
      rw [e, cells_get2 _ (j / 2) (by rw [hl]; exact hi) (j % 2) (Nat.mod_lt _ (by omega))] at hj
      rw [e]
      exact (hf' (j / 2) hi).1 (j % 2) u (by simpa using hj)
    · intro d hd
      obtain ⟨i, hi, rfl⟩ := List.mem_map.1 hd
      exact (hf' i (List.mem_range.1 hi)).2.1
    · intro d hd
      obtain ⟨i, hi, rfl⟩ := List.mem_map.1 hd
      exact (hf' i (List.mem_range.1 hi)).2.2.1
    · intro d hd
      obtain ⟨i, hi, rfl⟩ := List.mem_map.1 hd
      obtain ⟨y, hy, hdr⟩ := (hf' i (List.mem_range.1 hi)).2.2.2
      exact ⟨y, hy ▸ List.mem_map.2 ⟨i, hi, rfl⟩, hdr⟩
/-! ### what the bound gives -/
theorem bulk_all {l : List (DataW H)} : l.length ≤ Rows.uptoBulkAll l := by
  induction l with
  | nil => simp [Rows.uptoBulkAll]
  | cons x r ih =>
    have : 1 ≤ Rows.uptoBulk x := by
      cases x with
      | lit l => cases l <;> simp [Rows.uptoBulk]
      | nil => simp [Rows.uptoBulk]
      | ptr d => simp [Rows.uptoBulk]
      | slice elems spare => simp [Rows.uptoBulk]
      | agg parts => simp [Rows.uptoBulk]
      | iface t d => simp [Rows.uptoBulk]
      | map entries => simp [Rows.uptoBulk]
      | held h => simp [Rows.uptoBulk]
    simp only [Rows.uptoBulkAll, List.length_cons]
    omega
theorem bulk_mem {l : List (DataW H)} {d : DataW H} (h : d ∈ l) : Rows.uptoBulk d ≤ Rows.uptoBulkAll l := by
  induction l with
  | nil => cases h
  | cons x r ih =>
    simp only [Rows.uptoBulkAll]
    rcases List.mem_cons.1 h with rfl | h
    · omega
    · have := ih h; omega
theorem bulk_le {l : List (DataW H)} (h : Rows.uptoSmall H l = true) : Rows.uptoBulkAll l ≤ 1048576 := of_decide_eq_true h
theorem bulk_row : ∀ l : List Dat, szR l ≤ 4 * Rows.uptoBulkAll (H := H) (l.map datD)
  | [] => by simp [szR]
  | d :: l => by
    have h := bulk_row l
    have e : d.s.data.toList.length = d.s.size := by rw [Array.length_toList]; rfl
    simp only [List.map_cons, Rows.uptoBulkAll, szR, datD, Rows.uptoBulk, szD] at h ⊢
    omega
theorem bulkR {x : DataW H} {l : List Dat} (h : DatR x l) (hb : Rows.uptoBulk x ≤ 1048576) : szR l ≤ 4194304 := by
  rcases h with ⟨rfl, rfl⟩ | ⟨r, rfl⟩
  · simp [szR]
  · have := bulk_row (H := H) l
    simp only [Rows.uptoBulk] at hb
    omega
theorem bulkI {x : DataW H} {l : List Int} (h : DatI x l) (hb : Rows.uptoBulk x ≤ 1048576) : l.length ≤ 1048576 := by
  rcases h with ⟨rfl, rfl⟩ | ⟨r, rfl⟩
  · simp
  · have := bulk_all (l := (l.map (fun z => (DataW.lit (.int .i64 z) : DataW H))))
    simp only [Rows.uptoBulk] at hb
    rw [List.length_map] at this
    omega
theorem bulkC {x : DataW H} {ds : List Cd} (h : DatC x ds) (hb : Rows.uptoBulk x ≤ 1048576) : ds.length ≤ 1048576 ∧ ∀ d ∈ ds, szR d.2 ≤ 4194304 := by
  rcases h with ⟨rfl, rfl⟩ | ⟨es, r, rfl, hl, he⟩
  · simp
  · simp only [Rows.uptoBulk] at hb
    refine ⟨by have := bulk_all (l := es); omega, fun d hd => ?_⟩
    obtain ⟨y, hy, hr⟩ := he d hd
    have h1 := bulk_mem hy
    simp only [Rows.uptoBulk, Rows.uptoBulkAll] at h1
    exact bulkR hr (by omega)
end
end Go.Proofs.YtpmfbmigdpmloaaGreatDoor
end
section
/-
  From what a row lists of the library's tables to what the walks ask. Condition: the listed variables read as listed.
-/
set_option linter.unusedVariables false
set_option linter.unusedSimpArgs false
namespace Go.Proofs.YtpmfbmigdpmloaaGreatDoor
open Go.RowKit Go.Lib Go.Shelf

theorem tabs_pow {W : World} (h : VarReads Tryz.prog W "internal/strconv.uint64pow10" Rows.laid_internal_strconv_uint64pow10) :
    Lib.TabIs Tryz.prog W "internal/strconv.uint64pow10" .u64 Lib.pow10Tab ∧ 3 < W.heap.size := by
  obtain ⟨g, t, cs, fuel, p, hg, hty, hvar, hd⟩ := h
  obtain rfl := Option.some.inj ((show Tryz.prog.globalNamed "internal/strconv.uint64pow10" = some 3 by kernel_rfl).symm.trans hg)
  obtain rfl := Option.some.inj ((show (Tryz.prog.globals[3]?).map (·.type) = some 173 by kernel_rfl).symm.trans hty)
  constructor
  · unfold Lib.TabIs
    rw [hvar]
    have e : (Rows.laid_internal_strconv_uint64pow10 : DataW Unit) = Lib.tabData .u64 Lib.pow10Tab := by kernel_rfl
    rw [e] at hd
    have := Lib.cells_of_tab Tryz.underlying173 Tryz.underlying36 (by kernel_rfl) (by kernel_rfl) hd
    rw [← this]
  · unfold World.var? at hvar
    rw [show Tryz.prog.globalNamed "internal/strconv.uint64pow10" = some 3 by kernel_rfl] at hvar
    simp only [Option.bind_some] at hvar
    rcases Nat.lt_or_ge 3 W.heap.size with h | h
    · exact h
    · rw [Array.getElem?_eq_none h] at hvar
      cases hvar

theorem tabs_of {W : World} (h1 : VarReads Tryz.prog W "unicode/utf8.first" Rows.laid_unicode_utf8_first) (h2 : VarReads Tryz.prog W "unicode/utf8.acceptRanges" Rows.laid_unicode_utf8_acceptRanges)
    (h3 : VarReads Tryz.prog W "internal/strconv.uint64pow10" Rows.laid_internal_strconv_uint64pow10) : Tabs W := by
  refine ⟨?_, (tabs_pow h3).1, (tabs_pow h3).2⟩
  have e2 : (Rows.laid_unicode_utf8_acceptRanges : DataW Unit) = acceptData := by kernel_rfl
  have e1 : Rows.laid_unicode_utf8_first = firstData := Pinned.utf8First_eq
  rw [e2] at h2
  rw [e1] at h1
  exact utf8Tabs_of_readsT (U8Types.of196 Tryz.lays196) ⟨by kernel_rfl, by kernel_rfl, by kernel_rfl, by kernel_rfl, by kernel_rfl, by kernel_rfl, by kernel_rfl⟩ h1 h2
end Go.Proofs.YtpmfbmigdpmloaaGreatDoor
end
section
/-
  Plain mathematics of rows' bytes: they are read again, and what is read is written so again. Condition: each number is one of 64 bits.
-/
set_option linter.unusedVariables false
set_option linter.unusedSimpArgs false
namespace Go.Proofs.YtpmfbmigdpmloaaGreatDoor
open Go.Lib

theorem beF_be : ∀ (k m a : Nat), (be k m).foldl (fun a b => a * 256 + b.toNat) a = a * 256 ^ k + m % 256 ^ k
  | 0, m, a => by simp [be, Nat.mod_one]
  | k + 1, m, a => by
    rw [be, List.foldl_cons, beF_be k m, UInt8.toNat_ofNat', show (2 : Nat) ^ 8 = 256 from rfl, Nat.mod_pow_succ (b := 256)]
    rw [show (256 : Nat) ^ (k + 1) = 256 ^ k * 256 from Nat.pow_succ 256 k]
    have : (a * 256 + m / 256 ^ k % 256) * 256 ^ k = a * (256 ^ k * 256) + 256 ^ k * (m / 256 ^ k % 256) := by
      rw [Nat.add_mul, Nat.mul_assoc, Nat.mul_comm 256 (256 ^ k), Nat.mul_comm (m / 256 ^ k % 256)]
    rw [this, Nat.add_assoc, Nat.add_comm (256 ^ k * _)]
theorem beV_be {k m : Nat} (h : m < 256 ^ k) : beV (be k m) = m := by
  unfold beV
  rw [beF_be, Nat.mod_eq_of_lt h]
  omega
theorem be_beV : ∀ (k : Nat) (l : List UInt8) (a : Nat), l.length = k → be k (l.foldl (fun a b => a * 256 + b.toNat) a) = l
  | 0, l, a, h => by
    obtain rfl := List.eq_nil_of_length_eq_zero h
    rfl
  | k + 1, [], a, h => by simp at h
  | k + 1, b :: l, a, h => by
    have hl : l.length = k := by simpa using h
    rw [List.foldl_cons, be, be_beV k l _ hl]
    congr 1
    have h1 := beF_form l (a * 256 + b.toNat)
    rw [hl] at h1
    obtain ⟨c, hc, e⟩ := h1
    rw [e]
    have h2 : ((a * 256 + b.toNat) * 256 ^ k + c) / 256 ^ k = a * 256 + b.toNat := by
      rw [Nat.mul_comm, Nat.mul_add_div (Nat.pow_pos (by decide)), Nat.div_eq_of_lt hc, Nat.add_zero]
    rw [h2]
    apply UInt8.toNat_inj.1
    rw [UInt8.toNat_ofNat']
    have := b.toNat_lt
    omega
where
  beF_form : ∀ (l : List UInt8) (a : Nat), ∃ c, c < 256 ^ l.length ∧ l.foldl (fun a b => a * 256 + b.toNat) a = a * 256 ^ l.length + c
    | [], a => ⟨0, by simp, by simp⟩
    | b :: l, a => by
      obtain ⟨c, hc, e⟩ := beF_form l (a * 256 + b.toNat)
      refine ⟨b.toNat * 256 ^ l.length + c, ?_, ?_⟩
      · rw [List.length_cons, Nat.pow_succ]
        have := b.toNat_lt
        have h1 : b.toNat * 256 ^ l.length + 256 ^ l.length ≤ 256 * 256 ^ l.length := by
          rw [← Nat.succ_mul]
          exact Nat.mul_le_mul_right _ (by omega)
        omega
      · rw [List.foldl_cons, e, List.length_cons, Nat.pow_succ, Nat.add_mul, Nat.mul_assoc, Nat.mul_comm 256 (256 ^ l.length)]
        omega
theorem textS_esc : ∀ (l r : List UInt8), textS (escT l ++ 0 :: 1 :: r) = some (l, r)
  | [], r => by
    show textS (0 :: 1 :: r) = _
    rw [textS, if_pos rfl, if_pos rfl]
  | b :: l, r => by
    have h := textS_esc l r
    have e : escT (b :: l) = (if b = 0 then [0, 255] else [b]) ++ escT l := by unfold escT; rw [List.flatMap_cons]
    rw [e]
    by_cases hb : b = 0
    · subst hb
      rw [if_pos rfl]
      show textS (0 :: 255 :: (escT l ++ 0 :: 1 :: r)) = _
      rw [textS, if_pos rfl, if_neg (by decide), if_pos rfl, h]
      rfl
    · rw [if_neg hb]
      show textS (b :: (escT l ++ 0 :: 1 :: r)) = _
      obtain ⟨c, z, hz⟩ : ∃ c z, escT l ++ 0 :: 1 :: r = c :: z := by
        cases hh : escT l ++ 0 :: 1 :: r with
        | nil => simp at hh
        | cons c z => exact ⟨c, z, rfl⟩
      rw [hz] at h ⊢
      rw [textS, if_neg hb, h]
      rfl
theorem textS_back : ∀ (L : List UInt8) {x r : List UInt8}, textS L = some (x, r) → L = escT x ++ 0 :: 1 :: r
  | [], x, r, h => by simp [textS] at h
  | [_], x, r, h => by simp [textS] at h
  | b :: m :: s, x, r, h => by
    rw [textS] at h
    split at h
    · rename_i hb
      subst hb
      split at h
      · rename_i hm
        subst hm
        cases h; rfl
      · split at h
        · rename_i hm
          subst hm
          cases hr : textS s with
          | none => rw [hr] at h; cases h
          | some z =>
            obtain ⟨z1, z2⟩ := z
            rw [hr] at h; cases h
            have := textS_back s hr
            rw [this]
            unfold escT
            rw [List.flatMap_cons, if_pos rfl]
            simp
        · cases h
    · rename_i hb
      cases hr : textS (m :: s) with
      | none => rw [hr] at h; cases h
      | some z =>
        obtain ⟨z1, z2⟩ := z
        rw [hr] at h; cases h
        have := textS_back (m :: s) hr
        rw [this]
        unfold escT
        rw [List.flatMap_cons, if_neg hb]
        simp
theorem okD_chk' {d : Dat} (h : okD d = true) : chk d = 0 := by simpa [okD] using h
theorem datS_of {b : UInt8} {L r : List UInt8} {d : Dat} (h : rawS b L = some (d, r)) (hc : chk d = 0) : datS (b :: L) = some (d, r) := by
  rw [datS, h]
  simp only
  rw [if_pos hc]
theorem datS_enc {d : Dat} (h : okD d = true) (hn : -9223372036854775808 ≤ d.n ∧ d.n ≤ 9223372036854775807) (r : List UInt8) : datS (encD d ++ r) = some (d, r) := by
  have hc := okD_chk' h
  rcases ok_cases h with rfl | ⟨b, rfl⟩ | ⟨n, rfl⟩ | ⟨s, rfl, _⟩
  · exact datS_of rfl hc
  · cases b
    · exact datS_of rfl hc
    · exact datS_of rfl hc
  · have e : encD (intD n) = 48 :: be 8 (n + 9223372036854775808).toNat := rfl
    rw [e]
    refine datS_of ?_ hc
    have hm : (n + 9223372036854775808).toNat < 256 ^ 8 := by
      have h1 : (256 : Nat) ^ 8 = 18446744073709551616 := by decide
      simp only [intD] at hn
      omega
    have hi : intS (be 8 (n + 9223372036854775808).toNat ++ r) = some (n, r) := by
      unfold intS
      have hl := be_len 8 (n + 9223372036854775808).toNat
      rw [if_neg (by rw [List.length_append, hl]; omega), List.take_left' hl, List.drop_left' hl, beV_be hm]
      simp only [intD] at hn
      congr 2
      omega
    change rawS 48 (be 8 (n + 9223372036854775808).toNat ++ r) = _
    rw [show ∀ M, rawS 48 M = (intS M).map _ from fun _ => rfl, hi]
    rfl
  · have e : encD (textD s) = 64 :: (escT s.data.toList ++ [0, 1]) := rfl
    rw [e, List.cons_append, List.append_assoc]
    refine datS_of ?_ hc
    change rawS 64 (escT s.data.toList ++ 0 :: 1 :: r) = _
    rw [show ∀ M, rawS 64 M = (textS M).map _ from fun _ => rfl, textS_esc]
    rfl
theorem okD_kinded {d : Dat} (h : okD d = true) : Kinded d := by
  rcases ok_cases h with rfl | ⟨b, rfl⟩ | ⟨n, rfl⟩ | ⟨s, rfl, _⟩
  all_goals exact ⟨by simp [nullD, boolD, intD, textD], by simp [nullD, boolD, intD, textD]⟩
theorem rowS_enc : ∀ (n : Nat) (l : List Dat), l.length ≤ n → (∀ d ∈ l, okD d = true ∧ -9223372036854775808 ≤ d.n ∧ d.n ≤ 9223372036854775807) → rowS n (encR l) = some l
  | n, [], _, _ => by
    show rowS n [] = some []
    cases n <;> rfl
  | 0, d :: l, h, _ => by simp at h
  | n + 1, d :: l, h, ho => by
    obtain ⟨h1, h2⟩ := ho d (by simp)
    have e : encR (d :: l) = encD d ++ encR l := by unfold encR; rw [List.flatMap_cons]
    have hd := datS_enc h1 h2 (encR l)
    rw [e]
    obtain ⟨b, z, hz⟩ : ∃ b z, encD d ++ encR l = b :: z := by
      cases hh : encD d ++ encR l with
      | nil => exact absurd (List.append_eq_nil_iff.1 hh).1 (encD_ne (okD_kinded h1))
      | cons b z => exact ⟨b, z, rfl⟩
    rw [hz] at hd ⊢
    rw [rowS, hd]
    simp only
    rw [rowS_enc n l (by simpa using h) (fun x hx => ho x (by simp [hx]))]
    rfl
/-- A row's bytes are read again. -/
theorem decRow_enc {l : List Dat} (h : chkR l = 0) (hn : ∀ d ∈ l, -9223372036854775808 ≤ d.n ∧ d.n ≤ 9223372036854775807) : decRow (encR l) = some l :=
  rowS_enc 32 l (okL h).1 (fun d hd => ⟨(okL h).2 d hd, hn d hd⟩)
theorem datS_back : ∀ {L r : List UInt8} {d : Dat}, datS L = some (d, r) → L = encD d ++ r ∧ chk d = 0 ∧ -9223372036854775808 ≤ d.n ∧ d.n ≤ 9223372036854775807
  | [], r, d, h => by cases h
  | b :: M, r, d, h => by
    rw [datS] at h
    cases hr : rawS b M with
    | none => rw [hr] at h; cases h
    | some x =>
      rw [hr] at h
      obtain ⟨d', r'⟩ := x
      simp only at h
      split at h
      · rename_i hc
        cases h
        refine ⟨?_, hc, ?_⟩
        · unfold rawS at hr
          split at hr
          · rename_i e; subst e; cases hr; rfl
          split at hr
          · rename_i e; subst e; cases hr; rfl
          split at hr
          · rename_i e; subst e; cases hr; rfl
          split at hr
          · rename_i e; subst e
            cases hx : intS M with
            | none => rw [hx] at hr; cases hr
            | some x =>
              rw [hx] at hr; cases hr
              unfold intS at hx
              split at hx
              · cases hx
              · rename_i h8
                cases hx
                have e : ((beV (M.take 8) : Int) - 9223372036854775808 + 9223372036854775808).toNat = beV (M.take 8) := by omega
                show 48 :: M = encD ⟨3, false, (beV (M.take 8) : Int) - 9223372036854775808, ⟨#[]⟩⟩ ++ M.drop 8
                rw [show encD ⟨3, false, (beV (M.take 8) : Int) - 9223372036854775808, ⟨#[]⟩⟩ = 48 :: be 8 ((beV (M.take 8) : Int) - 9223372036854775808 + 9223372036854775808).toNat from rfl, e]
                unfold beV
                rw [be_beV 8 (M.take 8) 0 (by rw [List.length_take]; omega), List.cons_append, List.take_append_drop]
          split at hr
          · rename_i e; subst e
            cases hx : textS M with
            | none => rw [hx] at hr; cases hr
            | some x =>
              obtain ⟨x1, x2⟩ := x
              rw [hx] at hr; cases hr
              rw [textS_back M hx]
              show _ = 64 :: (escT x1.toArray.toList ++ [0, 1]) ++ _
              simp
          · cases hr
        · unfold rawS at hr
          split at hr
          · cases hr; decide
          split at hr
          · cases hr; decide
          split at hr
          · cases hr; decide
          split at hr
          · cases hx : intS M with
            | none => rw [hx] at hr; cases hr
            | some x =>
              rw [hx] at hr; cases hr
              unfold intS at hx
              split at hx
              · cases hx
              · cases hx
                have h1 := beV_lt (M.take 8)
                have h2 : 256 ^ (M.take 8).length ≤ 256 ^ 8 := Nat.pow_le_pow_right (by decide) (by rw [List.length_take]; omega)
                have h3 : (256 : Nat) ^ 8 = 18446744073709551616 := by decide
                simp only
                omega
          split at hr
          · cases hx : textS M with
            | none => rw [hx] at hr; cases hr
            | some x => rw [hx] at hr; cases hr; exact ⟨by simp, by simp⟩
          · cases hr
      · cases h
theorem rowS_back : ∀ (n : Nat) {L : List UInt8} {l : List Dat}, rowS n L = some l → L = encR l ∧ l.length ≤ n ∧ ∀ d ∈ l, chk d = 0 ∧ -9223372036854775808 ≤ d.n ∧ d.n ≤ 9223372036854775807
  | n, [], l, h => by
    have : l = [] := by cases n <;> (simp [rowS] at h; exact h)
    subst this
    exact ⟨rfl, Nat.zero_le _, by simp⟩
  | 0, _ :: _, l, h => by simp [rowS] at h
  | n + 1, b :: L, l, h => by
    rw [rowS] at h
    cases hd : datS (b :: L) with
    | none => rw [hd] at h; cases h
    | some x =>
      obtain ⟨d, r⟩ := x
      rw [hd] at h
      simp only at h
      cases hr : rowS n r with
      | none => rw [hr] at h; cases h
      | some m =>
        rw [hr] at h; cases h
        obtain ⟨h1, h2⟩ := datS_back hd
        obtain ⟨h3, h4, h5⟩ := rowS_back n hr
        refine ⟨?_, by simpa using h4, fun x hx => ?_⟩
        · rw [h1, h3]
          unfold encR
          rw [List.flatMap_cons]
        · rcases List.mem_cons.1 hx with rfl | hx
          · exact h2
          · exact h5 x hx
/-- What is read is written so again. -/
theorem decRow_back {L : List UInt8} {l : List Dat} (h : decRow L = some l) : L = encR l ∧ chkR l = 0 ∧ ∀ d ∈ l, -9223372036854775808 ≤ d.n ∧ d.n ≤ 9223372036854775807 := by
  obtain ⟨h1, h2, h3⟩ := rowS_back 32 h
  exact ⟨h1, chkR_of h2 (fun d hd => by simp [okD, (h3 d hd).1]), fun d hd => (h3 d hd).2⟩
end Go.Proofs.YtpmfbmigdpmloaaGreatDoor
end
section
/-
  The law RowWritten, walked at this program: of any two rows. Condition: the variables strconv.ErrSyntax and strconv.ErrRange hold errors; the tables of Go's library lie as their initialisers lay them.
-/
set_option linter.unusedVariables false
set_option linter.unusedSimpArgs false
namespace Go.Proofs.YtpmfbmigdpmloaaGreatDoor
open Go.RowKit Go.Lib

theorem cmpR_enc : ∀ {l m : List Dat}, cmpR l m = 0 → encR l = encR m
  | [], [], _ => rfl
  | [], _ :: _, h => absurd h (by simp [cmpR])
  | _ :: _, [], h => absurd h (by simp [cmpR])
  | d :: l, e :: m, h => by
    rw [cmpR] at h
    by_cases h0 : cmpS d e = 0
    · rw [if_pos h0] at h
      unfold encR
      rw [List.flatMap_cons, List.flatMap_cons, encD_same h0]
      congr 1
      exact cmpR_enc h
    · rw [if_neg h0] at h
      exact absurd h h0
/-- Rows that may be and compare as the same are the same. -/
theorem cmpR_ok {l m : List Dat} (hl : chkR l = 0) (hm : chkR m = 0) (wl : I64d l) (wm : I64d m) (h : cmpR l m = 0) : l = m := by
  have h1 := decRow_enc hl wl
  have h2 := decRow_enc hm wm
  rw [cmpR_enc h] at h1
  exact Option.some.inj (h1.symm.trans h2)
theorem joinR_clean : ∀ {l : List Dat}, (∀ d ∈ l, okD d = true) → ∀ b ∈ joinR l, 32 ≤ b.toNat
  | [], _, b, hb => by simp [joinR, Lib.join_nil] at hb
  | d :: l, h, b, hb => by
    rw [joinR_cons] at hb
    rcases List.mem_append.1 hb with hb | hb
    · exact (print_clean (h d (by simp)) b hb).1
    · cases l with
      | nil => rw [tailR_nil] at hb; cases hb
      | cons e m =>
        rw [tailR_cons] at hb
        rcases List.mem_cons.1 hb with rfl | hb
        · decide
        rcases List.mem_cons.1 hb with rfl | hb
        · decide
        · exact joinR_clean (fun x hx => h x (by simp [hx])) b hb
theorem printR_clean {l : List Dat} (h : chkR l = 0) : ∀ b ∈ printR l, 32 ≤ b.toNat := by
  intro b hb
  unfold printR at hb
  rcases List.mem_cons.1 hb with rfl | hb
  · decide
  rcases List.mem_append.1 hb with hb | hb
  · exact joinR_clean (okL h).2 b hb
  · rw [List.mem_singleton.1 hb]; decide
theorem printR_len {l : List Dat} (h : chkR l = 0) (hw : I64d l) : (printR l).length ≤ 200000 := by
  have := joinR_len (l := l) (fun d hd => ⟨(okL h).2 d hd, hw d hd⟩)
  have := (okL h).1
  unfold printR
  simp
  omega
theorem strR_list {l : List Dat} (h : chkR l = 0) : (strR l).data.toList = printR l := by unfold strR; rw [if_pos h]
theorem wide_i64 {l : List Dat} (h : ∀ d ∈ l, Wide d ∧ d.s.size ≤ 9223372036854775807) : I64d l := fun d hd => (h d hd).1.2
def RelWr (S : ByteArray) (w : World) (s9 : Value) (wr : World) : Prop := ∃ p : Nat, p ≤ S.size ∧ s9 = .int .i64 (p : Int) ∧ Below w.heap.size w wr
set_option maxHeartbeats 8000000 in
set_option maxRecDepth 100000 in
theorem rowWritten_any (va vb : Value) (l m : List Dat) (w : World) (hT : Tabs w) (hV : VarsE w) (ha : RowV w va l) (hb : RowV w vb m) (wl : ∀ d ∈ l, Wide d ∧ d.s.size ≤ 9223372036854775807) (wm : ∀ d ∈ m, Wide d ∧ d.s.size ≤ 9223372036854775807) :
    Calls Tryz.prog 6 #[va, vb] w fun e w' => e = .returned (.bool true) ∧ Below w.heap.size w w' := by
  obtain ⟨A, c, rfl, _⟩ := ha.form
  obtain ⟨B, c', rfl, _⟩ := hb.form
  have hTH := Lib.hid hT; have hVH := Lib.hid hV; have haH := Lib.hid ha; have hbH := Lib.hid hb; have wlH := Lib.hid wl; have wmH := Lib.hid wm
  clear hT hV ha hb wl wm
  obtain ⟨S, hS⟩ : ∃ S, strR l = S := ⟨_, rfl⟩
  obtain ⟨T, hT⟩ : ∃ T, strR m = T := ⟨_, rfl⟩
  obtain ⟨x, hx⟩ : ∃ x, chkR l = x := ⟨_, rfl⟩
  obtain ⟨y, hy⟩ : ∃ y, chkR m = y := ⟨_, rfl⟩
  have hSH := Lib.hid hS; have hTsH := Lib.hid hT; have hxH := Lib.hid hx; have hyH := Lib.hid hy
  have hSe := Lib.hid (show x ≠ 0 → S = ⟨#[]⟩ from fun h => by rw [← hS]; unfold strR; rw [if_neg (by rw [hx]; exact h)])
  have hTe := Lib.hid (show y ≠ 0 → T = ⟨#[]⟩ from fun h => by rw [← hT]; unfold strR; rw [if_neg (by rw [hy]; exact h)])
  clear hS hT hx hy
  go_enter Tryz.func6, Tryz.ntmps6
  go_wp2_with fail
  refine (printRow_any _ l w haH.out hTH.out wlH.out).mono ?_
  rw [hSH.out, hxH.out]
  rintro e w1 ⟨rfl, hb1⟩
  have hb1H := Lib.hid hb1
  clear hb1
  go_wp2_with fail
  refine (printRow_any _ m w1 (hbH.out.below hb1H.out) (hTH.out.below hb1H.out) wmH.out).mono ?_
  rw [hTsH.out, hyH.out]
  rintro e w2 ⟨rfl, hb2⟩
  have hb2H := Lib.hid (hb1H.out.trans (hb2.mono hb1H.out.size))
  clear hb2
  by_cases hx0 : x = 0
  case neg =>
    have hSn := hSe.out hx0
    subst hSn
    have nx : (x != 0) = true := by simpa using hx0
    have mx : (x == 0) = false := by simpa using hx0
    clear hx0
    by_cases hy0 : y = 0
    · subst hy0
      go_wp2_with fail
      refine (known_any _).mono ?_
      rintro e w4 ⟨rfl, hb4⟩
      have hb4H := Lib.hid (hb2H.out.trans (hb4.mono hb2H.out.size))
      clear hb4
      go_wp2_with fail
      go_ret
      exact ⟨rfl, hb4H.out⟩
    · have hTn := hTe.out hy0
      subst hTn
      have ny : (y != 0) = true := by simpa using hy0
      have my : (y == 0) = false := by simpa using hy0
      clear hy0
      go_wp2_with fail
      refine (known_any _).mono ?_
      rintro e w4 ⟨rfl, hb4⟩
      have hb4H := Lib.hid (hb2H.out.trans (hb4.mono hb2H.out.size))
      clear hb4
      go_wp2_with fail
      go_ret
      exact ⟨rfl, hb4H.out⟩
  subst hx0
  by_cases hy0 : y = 0
  case neg =>
    have hTn := hTe.out hy0
    subst hTn
    have ny : (y != 0) = true := by simpa using hy0
    have my : (y == 0) = false := by simpa using hy0
    clear hy0
    go_wp2_with fail
    refine (known_any _).mono ?_
    rintro e w4 ⟨rfl, hb4⟩
    have hb4H := Lib.hid (hb2H.out.trans (hb4.mono hb2H.out.size))
    clear hb4
    go_wp2_with fail
    go_ret
    exact ⟨rfl, hb4H.out⟩
  subst hy0
  have hSl := Lib.hid (show S.data.toList = printR l by rw [← hSH.out]; exact strR_list hxH.out)
  have hTl := Lib.hid (show T.data.toList = printR m by rw [← hTsH.out]; exact strR_list hyH.out)
  have hSs := Lib.hid (show S.size ≤ 200000 by rw [size_eq, hSl.out]; exact printR_len hxH.out (wide_i64 wlH.out))
  have hcl := Lib.hid (show ∀ p, p < S.size → 32 ≤ bt S p by
    intro p hp
    rw [bt_at S p hp]
    exact printR_clean hxH.out _ (by simp only [← hSl.out]; exact List.getElem_mem _))
  clear hSe hTe
  go_wp2_with fail
  go_loopw [9] (fun s9 wr => RelWr S w s9 wr) (fun s9 _ => S.size - (Go.RowKit.intOf s9).toNat)
  case atStart => exact ⟨0, by omega, rfl, hb2H.out⟩
  case round =>
    unfold RelWr at hrel
    obtain ⟨p, hp, rfl, hbr⟩ := hrel
    have hbrH := Lib.hid hbr
    have hS2 := hSs.out
    clear hbr
    by_cases hlt : p < S.size
    · have hx0 := fun w' => idx_run S p (p : Int) rfl hlt w'
      have h32 := hcl.out p hlt
      obtain ⟨c, hc⟩ : ∃ c, bt S p = c := ⟨_, rfl⟩
      rw [hc] at hx0 h32
      clear hc
      have n10 : ((c : Int) == 10) = false := by rw [beq_eq_false_iff_ne]; omega
      go_wp2_with fail
      go_roundw
      case rel => exact ⟨p + 1, by omega, by go_num, hbrH.out⟩
      case measure => simp [Go.RowKit.intOf]; omega
    · obtain rfl : p = S.size := by omega
      clear hlt hp
      go_wp2_with fail
      refine (parseRow_any S wr (hTH.out.below hbrH.out) (hVH.out.below hbrH.out) (by omega)).mono ?_
      rintro e w3 ⟨v3, l3, z3, rfl, hz3, ho3⟩
      have hone := hz3.one (.inl ⟨hxH.out, wide_i64 wlH.out, hSl.out.symm, rfl⟩)
      obtain ⟨rfl, rfl⟩ := hone
      obtain ⟨A3, c3, rfl⟩ := ho3.form
      have hr3 := Lib.hid ho3.rowV
      have hb3H := Lib.hid (hbrH.out.trans (ho3.2.1.mono hbrH.out.size))
      clear hz3 ho3
      go_wp2_with fail
      refine (known_any _).mono ?_
      rintro e w4 ⟨rfl, hb4⟩
      have hb4H := Lib.hid (hb3H.out.trans (hb4.mono hb3H.out.size))
      have hr4 := Lib.hid (hr3.out.below hb4)
      clear hb4
      obtain ⟨q, hq⟩ : ∃ q, cmpR l3 m = q := ⟨_, rfl⟩
      have hqH := Lib.hid hq
      clear hq
      go_wp2_with fail
      refine (rowCmp_any _ _ l3 m w4 (haH.out.below hb4H.out) (hbH.out.below hb4H.out)).mono ?_
      rw [hqH.out]
      rintro e w5 ⟨rfl, hb5⟩
      have hb5H := Lib.hid (hb4H.out.trans (hb5.mono hb4H.out.size))
      have hr5 := Lib.hid (hr4.out.below hb5)
      clear hb5
      by_cases hq0 : q = 0
      · subst hq0
        have hlm := Lib.hid (cmpR_ok hxH.out hyH.out (wide_i64 wlH.out) (wide_i64 wmH.out) hqH.out)
        obtain rfl : S = T := bytes_eq (by rw [hSl.out, hTl.out, hlm.out])
        have heq : (S.toList == S.toList) = true := beq_self_eq_true _
        go_wp2_with fail
        refine (rowCmp_any _ _ l3 l3 w5 hr5.out (haH.out.below hb5H.out)).mono ?_
        rw [cmpR_self]
        rintro e w6 ⟨rfl, hb6⟩
        have hb6H := Lib.hid (hb5H.out.trans (hb6.mono hb5H.out.size))
        clear hb6
        go_wp2_with fail
        go_ret
        exact ⟨rfl, hb6H.out⟩
      · have hne : (S.toList == T.toList) = false := by
          rw [beq_eq_false_iff_ne]
          intro e
          rw [ByteArray.toList_eq, ByteArray.toList_eq] at e
          have := printR_inj hxH.out hyH.out (by rw [← hSl.out, ← hTl.out, e])
          refine hq0 ?_
          rw [← hqH.out, ← this]
          exact cmpR_self _
        have nq : (q == 0) = false := by simpa using hq0
        clear hq0
        go_wp2_with fail
        refine (rowCmp_any _ _ l3 l3 w5 hr5.out (haH.out.below hb5H.out)).mono ?_
        rw [cmpR_self]
        rintro e w6 ⟨rfl, hb6⟩
        have hb6H := Lib.hid (hb5H.out.trans (hb6.mono hb5H.out.size))
        clear hb6
        go_wp2_with fail
        go_ret
        exact ⟨rfl, hb6H.out⟩
end Go.Proofs.YtpmfbmigdpmloaaGreatDoor
end
