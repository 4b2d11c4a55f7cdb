/-
  Texts that belong together: RwH, RwN, SlA, RwB8, RwBy, RowD, RwRa, Base0, Build. What each one says stands ahead of it.
-/
import Derived.Test.YtpmfbmigdpmloaaGreatDoorPc02
import Derived.Test.YtpmfbmigdpmloaaGreatDoorPc01
import Derived.Laws.MakeOwn
import Derived.Laws.AppendOwn
import Derived.Laws.AppendOwnNone
import Derived.Lib.LaidU8T
import Derived.Defers
import Derived.Recover
import Derived.Deep.Cut
import Derived.Laws.Bits64b
import Derived.Lib.LaidTab
import Derived.Shelf.Unicode.DecodeSlow
import Derived.Lib.ItoaNum
import Derived.Lib.FrozenHead
import Derived.Lib.OthersKept
import Derived.WalkKit
import Derived.WalkLawsBesides
import Derived.WalkSpells
import Derived.Handy
import Derived.Test.YtpmfbmigdpmloaaGreatDoorProg
import Derived.Shelf.Strings.BuilderK
import Derived.Lib.FrozenHead2
section
/-
  A row in new memory, at this program. Conditions: those written.
-/
set_option linter.unusedVariables false
set_option linter.unusedSimpArgs false
namespace Go.Proofs.YtpmfbmigdpmloaaGreatDoor
open Go.RowKit Go.Lib

set_option maxHeartbeats 2000000 in
theorem clone_any (s : ByteArray) (w : World) (hs : s.size ≤ 281474976710656) :
    Calls Tryz.prog 49 #[.string s] w fun e w' => e = .returned (.string s) ∧ Below w.heap.size w w' := by
  go_enter Tryz.func49, Tryz.ntmps49
  go_wp2_with (go_at_call 84; refine (Tryz.stringslite_Clone s _ hs).mono ?_; rintro e w' ⟨rfl, hb⟩)
  go_ret
  exact ⟨rfl, hb⟩
set_option maxHeartbeats 2000000 in
theorem fresh_any (k : Int) (b : Bool) (n : Int) (s : ByteArray) (w : World) (hs : s.size ≤ 281474976710656) :
    Calls Tryz.prog 29 #[.agg #[.int .u8 k, .bool b, .int .i64 n, .string s]] w fun e w' => e = .returned (.agg #[.int .u8 k, .bool b, .int .i64 n, .string s]) ∧ Below w.heap.size w w' := by
  go_enter Tryz.func29, Tryz.ntmps29
  go_wp2_with fail
  refine (clone_any s _ hs).mono ?_
  rintro e w1 ⟨rfl, hb⟩
  have hD := ((Has.new w (.int .u8 k) (.bool b) (.int .i64 n) (.string s)).alloc (.cells #[.int .u8 0, .bool false, .int .i64 0, .string ⟨#[]⟩] 60)).below hb
  have hE := (Has.new (w.alloc (.cells #[.int .u8 k, .bool b, .int .i64 n, .string s] 60)) (.int .u8 0) (.bool false) (.int .i64 0) (.string ⟨#[]⟩)).below hb
  rw [World.size_alloc] at hE
  obtain ⟨d0_, d1_, d2_, d3_⟩ := hD.cells
  obtain ⟨e0_, e1_, e2_, e3_⟩ := hE.cells
  obtain ⟨fd0, fd1, fd2, fd3⟩ := hD.free
  obtain ⟨fe0, fe1, fe2, fe3⟩ := hE.free
  have hne : w.heap.size ≠ w.heap.size + 1 := by omega
  have hall := Lib.hid (show Below w.heap.size w w1 from (((Below.refl _ w).alloc (Nat.le_refl _) _).alloc (by simp) _).trans (hb.mono (by simp; omega)))
  have hs1 := hE.lt
  clear hD hE hb
  go_wp2_with fail
  refine bodyPost_ret (v := .agg #[.int .u8 k, .bool b, .int .i64 n, .string s]) (by simp [results, Tryz.results29, go_sem, e0_, e1_, e2_, e3_]) rfl ?_
  exact ⟨rfl, ((((hall.out.setCell (by simp) _).setCell (by simp) _).setCell (by simp) _).setCell (by simp) _).setCell (by simp) _⟩
theorem info_datum : ∃ i, Tryz.prog.info? 60 = some i ∧ i.zero = some (.agg #[.int .u8 0, .bool false, .int .i64 0, .string ⟨#[]⟩]) ∧ i.size = 4 ∧ i.bytes ≤ 64 := by
  have h : (Tryz.prog.info? 60).map (fun i => (i.zero, i.size, decide (i.bytes ≤ 64))) = some (some (.agg #[.int .u8 0, .bool false, .int .i64 0, .string ⟨#[]⟩]), 4, true) := by kernel_rfl
  cases hi : Tryz.prog.info? 60 with
  | none => rw [hi] at h; cases h
  | some i => rw [hi] at h; simp at h; exact ⟨i, rfl, h.1, h.2.1, h.2.2⟩
def zeroL : List Value := [.int .u8 0, .bool false, .int .i64 0, .string ⟨#[]⟩]
theorem flat_replicate (n : Nat) : (List.replicate n zeroL).flatten = (Builtin.zeroCells zeroL.toArray n).toList := by
    apply List.ext_getElem?
    intro t
    have hk : ∀ x ∈ List.replicate n zeroL, x.length = 4 := fun x hx => by rw [List.eq_of_mem_replicate hx]; rfl
    have e : t = t / 4 * 4 + t % 4 := by omega
    have h4 : t % 4 < 4 := Nat.mod_lt _ (by omega)
    have ee : (Builtin.zeroCells zeroL.toArray n).toList[t]? = (Builtin.zeroCells zeroL.toArray n)[t]? := by simp
    rw [ee]
    by_cases ht : t < n * 4
    · have hq : t / 4 < n := by omega
      conv => lhs; rw [e, flat_get _ hk _ _ h4, List.getElem?_replicate, if_pos hq, Option.bind_some]
      simp only [Builtin.zeroCells, Array.getElem?_map, Array.getElem?_range]
      have hs : zeroL.toArray.size = 4 := rfl
      rw [hs, if_pos ht, Option.map_some]
      rw [getElem!_pos zeroL.toArray (t % 4) (by rw [hs]; exact h4), List.getElem?_eq_getElem (show t % 4 < zeroL.length from h4)]
      simp
    · rw [List.getElem?_eq_none (by rw [flats_len _ hk, List.length_replicate]; omega), Array.getElem?_eq_none (by simp [Builtin.zeroCells, zeroL]; omega)]
/-- make([]Datum, n): so many zero data. -/
theorem make_row (n : Nat) (hn : n ≤ 1099511627776) (w : World) : ∃ c, (Instr.makeSlice 23 (.int .i64 (n : Int)) (.int .i64 (n : Int))).run Tryz.prog w = .ok (.slice (some ⟨w.heap.size, 0, none⟩) n n) (w.alloc (.cells c 60)) ∧
    OwnL 60 4 w.heap.size n (List.replicate n zeroL) (w.alloc (.cells c 60)) := by
  obtain ⟨i, hi, hz, hs, hb⟩ := info_datum
  have hr := run_make (P := Tryz.prog) w 23 60 i _ Tryz.underlying23 hi hz .i64 .i64 (n : Int) (n : Int) (by omega) (by omega) (by
    have h1 : (i.bytes : Int) * (n : Int) ≤ 64 * (n : Int) := Int.mul_le_mul_of_nonneg_right (by omega) (by omega)
    omega) (by omega)
  refine ⟨_, hr, ?_⟩
  refine ⟨fun x hx => by rw [List.eq_of_mem_replicate hx]; rfl, by simp, by unfold maxLen; omega, _, heap_alloc_new w _, ?_, ?_⟩
  · rw [size_madeCells, Int.toNat_natCast, hs]
  · rw [List.length_replicate, flat_replicate, List.take_of_length_le]
    · unfold madeCells Builtin.zeroCells
      rw [Int.toNat_natCast, hs]
      rfl
    · rw [Array.length_toList, size_madeCells, Int.toNat_natCast, hs]; omega
/-- An element of four cells is written over. -/
theorem OwnL.put4 {g cap : Nat} {xs : List (List Value)} {w : World} {T : TypeId} (h : OwnL T 4 g cap xs w) {i : Nat} (hi : i < xs.length) (a b c d : Value) :
    OwnL T 4 g cap (xs.set i [a, b, c, d]) ((((w.setCell ⟨g, i * 4, none⟩ a).setCell ⟨g, i * 4 + 1, none⟩ b).setCell ⟨g, i * 4 + 2, none⟩ c).setCell ⟨g, i * 4 + 3, none⟩ d) := by
  have hx := h.1 _ (List.getElem_mem hi)
  have h1 := h.set (i := i) (j := 0) hi (by omega) a
  have h2 := h1.set (i := i) (j := 1) (by simpa using hi) (by omega) b
  have h3 := h2.set (i := i) (j := 2) (by simpa using hi) (by omega) c
  have h4 := h3.set (i := i) (j := 3) (by simpa using hi) (by omega) d
  have e : ((((xs.modify i (·.set 0 a)).modify i (·.set 1 b)).modify i (·.set 2 c)).modify i (·.set 3 d)) = xs.set i [a, b, c, d] := by
    apply List.ext_getElem?
    intro j
    simp only [List.getElem?_modify, List.getElem?_set]
    by_cases hij : i = j
    · subst hij
      obtain ⟨p, q, r, s, hy⟩ : ∃ p q r s, xs[i] = [p, q, r, s] := by
        match xs[i], hx with
        | [p, q, r, s], _ => exact ⟨p, q, r, s, rfl⟩
      simp [hi, hy]
    · cases xs[j]? <;> simp [hij]
  rw [e] at h4
  exact h4
/-- What the rounds hold: the first ones are laid. -/
def RelF (l : List Dat) (g : Nat) (w0 : World) (s11 : Value) (wr : World) : Prop :=
  ∃ p : Nat, p ≤ l.length ∧ s11 = .int .i64 (p : Int) ∧ OwnL 60 4 g l.length ((l.take p).map cellsD ++ List.replicate (l.length - p) zeroL) wr ∧ Below w0.heap.size w0 wr
theorem fresh_step {l : List Dat} {p : Nat} (h : p < l.length) : ((l.take p).map cellsD ++ List.replicate (l.length - p) zeroL).set p (cellsD l[p]) = (l.take (p + 1)).map cellsD ++ List.replicate (l.length - (p + 1)) zeroL := by
  have hl : ((l.take p).map cellsD).length = p := by rw [List.length_map, List.length_take]; omega
  rw [List.set_append_right _ _ (by omega), hl, Nat.sub_self, List.take_succ_eq_append_getElem h, List.map_append, List.append_assoc]
  congr 1
  rw [show l.length - p = (l.length - (p + 1)) + 1 by omega, List.replicate_succ]
  rfl
theorem flatten_cells : ∀ l : List Dat, (l.map cellsD).flatten = l.flatMap cellsD := fun l => by rw [List.flatMap_def]
set_option maxHeartbeats 4000000 in
set_option maxRecDepth 1000000 in
theorem freshRow_any (v : Value) (l : List Dat) (w : World) (h : RowV w v l) (hl : l.length ≤ 1099511627776) (hs : ∀ d ∈ l, d.s.size ≤ 281474976710656) :
    Calls Tryz.prog 67 #[v] w fun e w' => ∃ g, e = .returned (.slice (some ⟨g, 0, none⟩) l.length l.length) ∧ w.heap.size ≤ g ∧ OwnL 60 4 g l.length (l.map cellsD) w' ∧ Below w.heap.size w w' := by
  obtain ⟨A, ca, rfl, hla⟩ := h.form
  have hH := Lib.hid h; have hsH := Lib.hid hs
  clear h hs
  obtain ⟨c, hmk, hown⟩ := make_row l.length hl w
  obtain ⟨W1, hW1⟩ : ∃ W1, w.alloc (.cells c 60) = W1 := ⟨_, rfl⟩
  rw [hW1] at hmk hown
  have hownH := Lib.hid hown
  have hb1 := Lib.hid (show Below w.heap.size w W1 from hW1 ▸ (Below.refl _ w).alloc (Nat.le_refl _) _)
  have hg1 := Lib.hid hown.lt
  clear hown hW1
  go_enter Tryz.func67, Tryz.ntmps67
  go_wp2_with fail
  go_loopw [4, 5, 11] (fun s4 s5 s11 wr => RelF l w.heap.size w s11 wr) (fun _ _ s11 _ => l.length - (Go.RowKit.intOf s11).toNat)
  case atStart => exact ⟨0, by omega, rfl, by rw [List.take_zero]; exact hownH.out, hb1.out⟩
  case round =>
    unfold RelF at hrel
    obtain ⟨p, hp, rfl, hown, hbw⟩ := hrel
    have hownR := Lib.hid hown; have hbwR := Lib.hid hbw
    clear hown hbw hmk
    by_cases hlt : p < l.length
    · obtain ⟨ad, rfl, hba, a0_, a1_, a2_, a3_⟩ := (hH.out.below hbwR.out).at hlt
      have hst := Lib.hid (fresh_step hlt)
      have hsd := Lib.hid (hsH.out _ (List.getElem_mem hlt))
      have hpl : p < ((l.take p).map cellsD ++ List.replicate (l.length - p) zeroL).length := by
        rw [List.length_append, List.length_map, List.length_take, List.length_replicate]; omega
      obtain ⟨d, hd⟩ : ∃ d, l[p] = d := ⟨_, rfl⟩
      rw [hd] at a0_ a1_ a2_ a3_ hst hsd
      clear hd
      obtain ⟨k, b, n, s⟩ := d
      simp only at a0_ a1_ a2_ a3_
      have hltH := Lib.hid hlt
      obtain ⟨xs, hxs⟩ : ∃ xs, (l.take p).map cellsD ++ List.replicate (l.length - p) zeroL = xs := ⟨_, rfl⟩
      rw [hxs] at hownR hpl hst
      have hplH := Lib.hid hpl
      clear hxs hpl
      have hgl := hownR.out.lt
      go_wp2_with fail
      refine (fresh_any k b n s _ hsd.out).mono ?_
      rintro e w2 ⟨rfl, hb⟩
      have hown2 := Lib.hid ((hownR.out.alloc (.cells #[.int .u8 k, .bool b, .int .i64 n, .string s] 60)).below hb)
      have hb2 := Lib.hid (show Below w.heap.size w w2 from (hbwR.out.alloc (Nat.le_of_lt hgl) _).trans (hb.mono (by simp; omega)))
      obtain ⟨y, hy⟩ : ∃ y, xs[p]? = some y := ⟨_, List.getElem?_eq_getElem hplH.out⟩
      obtain ⟨y0, y1, y2, y3, rfl⟩ : ∃ p q r s, y = [p, q, r, s] := by
        have := hown2.out.1 y (List.mem_of_getElem? hy)
        match y, this with
        | [p, q, r, s], _ => exact ⟨p, q, r, s, rfl⟩
      have e0_ := hown2.out.cell hy (j := 0) rfl
      have e1_ := hown2.out.cell hy (j := 1) rfl
      have e2_ := hown2.out.cell hy (j := 2) rfl
      have e3_ := hown2.out.cell hy (j := 3) rfl
      rw [Nat.add_zero] at e0_
      have f0 := hown2.out.free (p * 4); have f1 := hown2.out.free (p * 4 + 1); have f2 := hown2.out.free (p * 4 + 2); have f3 := hown2.out.free (p * 4 + 3)
      have hg2 := hown2.out.lt
      clear hb hy a0_ a1_ a2_ a3_
      go_wp2_with fail
      go_roundw
      case rel => exact ⟨p + 1, hltH.out, by go_num, by rw [← hst.out]; exact hown2.out.put4 hplH.out _ _ _ _, (((hb2.out.setCell (Nat.le_refl _) _).setCell (Nat.le_refl _) _).setCell (Nat.le_refl _) _).setCell (Nat.le_refl _) _⟩
      case measure => simp [Go.RowKit.intOf]; omega
    · obtain rfl : p = l.length := by omega
      have hfin := Lib.hid (show (l.take l.length).map cellsD ++ List.replicate (l.length - l.length) zeroL = l.map cellsD by rw [List.take_length, Nat.sub_self]; simp)
      go_wp2_with fail
      go_ret
      exact ⟨_, rfl, Nat.le_refl _, by rw [← hfin.out]; exact hownR.out, hbwR.out⟩
end Go.Proofs.YtpmfbmigdpmloaaGreatDoor
end
section
/-
  Words for row.Sum, at this program: what its rounds make of the counted rows; rows that lie in blocks of their own. Nothing is walked here. Conditions: those written.
-/
set_option linter.unusedVariables false
set_option linter.unusedSimpArgs false
namespace Go.Proofs.YtpmfbmigdpmloaaGreatDoor
open Go.RowKit Go.Lib Go.Proofs

/-- A counted row with another count. -/
def setN (y : Cd) (n : Int) : Cd := (⟨y.1.A, y.1.k, y.1.c, n⟩, y.2)
def withD (acc : List Cd) (d : Cd) : List Cd := if keyR d.2 ∈ (acc.map cnD).map keyN then acc else acc ++ [setN d 0]
def addD (acc : List Cd) (d : Cd) : List Cd := (withD acc d).modify (placeN ((acc.map cnD).map keyN) (keyR d.2)) (fun y => setN y (wrap64 (y.1.n + d.1.n)))
def sumD (l : List Cd) : List Cd := l.foldl addD []
theorem map_modify {α β : Type} (f : α → β) (g : α → α) (h : β → β) (e : ∀ x, f (g x) = h (f x)) : ∀ (l : List α) (i : Nat), (l.modify i g).map f = (l.map f).modify i h := by
  intro l i
  apply List.ext_getElem?
  intro j
  rw [List.getElem?_map, List.getElem?_modify, List.getElem?_modify, List.getElem?_map]
  cases l[j]? with
  | none => simp
  | some y => by_cases c : i = j <;> simp [c, e]
theorem addD_cn (acc : List Cd) (d : Cd) : (addD acc d).map cnD = addN (acc.map cnD) (cnD d) := by
  unfold addD addN
  rw [map_modify cnD _ (fun y => (y.1, wrap64 (y.2 + d.1.n))) (fun x => rfl)]
  have : (withD acc d).map cnD = withN (acc.map cnD) (cnD d).1 := by
    unfold withD withN
    show _ = if keyR d.2 ∈ (acc.map cnD).map keyN then _ else _
    split
    · rfl
    · rw [List.map_append]; rfl
  rw [this]
  rfl
theorem sumD_cn (l : List Cd) : (sumD l).map cnD = sumN (l.map cnD) := by
  have h : ∀ (l acc : List Cd), (l.foldl addD acc).map cnD = (l.map cnD).foldl addN (acc.map cnD) := by
    intro l
    induction l with
    | nil => intro acc; rfl
    | cons d l ih => intro acc; rw [List.foldl_cons, ih, addD_cn]; rfl
  exact h l []
theorem sumD_snoc (l : List Cd) (d : Cd) : sumD (l ++ [d]) = addD (sumD l) d := by simp [sumD, List.foldl_append]
theorem sumD_take {l : List Cd} {p : Nat} {d : Cd} (h : l[p]? = some d) : sumD (l.take (p + 1)) = addD (sumD (l.take p)) d := by
  obtain ⟨hp, rfl⟩ := List.getElem?_eq_some_iff.1 h
  rw [List.take_succ_eq_append_getElem hp, sumD_snoc]
theorem sumD_len (l : List Cd) : (sumD l).length ≤ l.length := by
  have := sum_len (l.map cnD)
  rw [← sumD_cn, List.length_map, List.length_map] at this
  exact this
theorem addD_rows {w : World} {acc : List Cd} {d : Cd} (h : ∀ a ∈ acc, RowV w (valD a) a.2) (hd : RowV w (valD d) d.2) : ∀ a ∈ addD acc d, RowV w (valD a) a.2 := by
  intro a ha
  have h1 : ∀ a ∈ withD acc d, RowV w (valD a) a.2 := by
    intro b hb
    unfold withD at hb
    split at hb
    · exact h b hb
    · rcases List.mem_append.1 hb with hb | hb
      · exact h b hb
      · simp at hb; subst hb; exact hd
  obtain ⟨i, hi⟩ := List.mem_iff_getElem?.1 ha
  unfold addD at hi
  rw [List.getElem?_modify] at hi
  cases hy : (withD acc d)[i]? with
  | none => rw [hy] at hi; simp at hi
  | some y =>
    have h2 := h1 y (List.mem_of_getElem? hy)
    rw [hy] at hi
    split at hi <;> (simp at hi; subst hi; exact h2)
theorem sumD_rows {w : World} {l : List Cd} (h : ∀ a ∈ l, RowV w (valD a) a.2) : ∀ a ∈ sumD l, RowV w (valD a) a.2 := by
  have g : ∀ (l acc : List Cd), (∀ a ∈ l, RowV w (valD a) a.2) → (∀ a ∈ acc, RowV w (valD a) a.2) → ∀ a ∈ l.foldl addD acc, RowV w (valD a) a.2 := by
    intro l
    induction l with
    | nil => intro acc _ h; exact h
    | cons d l ih => intro acc hl ha; exact ih _ (fun x hx => hl x (by simp [hx])) (addD_rows ha (hl d (by simp)))
  exact g l [] h (by simp)
theorem withD_seen {acc : List Cd} {d : Cd} (h : keyR d.2 ∈ (acc.map cnD).map keyN) : withD acc d = acc := if_pos h
theorem withD_new {acc : List Cd} {d : Cd} (h : keyR d.2 ∉ (acc.map cnD).map keyN) : withD acc d = acc ++ [setN d 0] := if_neg h
theorem keys_new {acc : List Cd} {d : Cd} (h : keyR d.2 ∉ (acc.map cnD).map keyN) : ((addD acc d).map cnD).map keyN = (acc.map cnD).map keyN ++ [keyR d.2] := by
  rw [addD_cn, keys_add, keys_with]
  exact if_neg h
theorem keys_seen {acc : List Cd} {d : Cd} (h : keyR d.2 ∈ (acc.map cnD).map keyN) : ((addD acc d).map cnD).map keyN = (acc.map cnD).map keyN := by
  rw [addD_cn, keys_add, keys_with]
  exact if_pos h
/-- The count of one is written. -/
theorem OwnC.bump {g cap : Nat} {xs : List Cd} {w : World} (h : OwnC g cap (xs.map (·.1)) w) {i : Nat} {y : Cd} (hy : xs[i]? = some y) (f : Int → Int) :
    OwnC g cap ((xs.modify i (fun y => setN y (f y.1.n))).map (·.1)) (w.setCell ⟨g, i * 2 + 1, none⟩ (.int .i64 (f y.1.n))) := by
  have hi : i < xs.length := (List.getElem?_eq_some_iff.1 hy).1
  have h1 := OwnL.set h (i := i) (j := 1) (by simpa using hi) (by omega) (.int .i64 (f y.1.n))
  have e : ((xs.map (·.1)).map cellsV).modify i (·.set 1 (.int .i64 (f y.1.n))) = ((xs.modify i (fun y => setN y (f y.1.n))).map (·.1)).map cellsV := by
    apply List.ext_getElem?
    intro j
    rw [List.getElem?_modify, List.getElem?_map, List.getElem?_map, List.getElem?_map, List.getElem?_map, List.getElem?_modify]
    by_cases c : i = j
    · subst c; rw [hy]; simp [setN, cellsV]
    · cases xs[j]? <;> simp [c]
  rw [e] at h1
  exact h1
/-- The row of one is written. -/
theorem OwnC.lay {g cap : Nat} {xs : List Cd} {w : World} (h : OwnC g cap (xs.map (·.1)) w) {i : Nat} {y : Cd} (hy : xs[i]? = some y) (A : Option Addr) (k c : Nat) :
    OwnC g cap ((xs.set i (⟨A, k, c, y.1.n⟩, y.2)).map (·.1)) (w.setCell ⟨g, i * 2, none⟩ (.slice A k c)) := by
  have hi : i < xs.length := (List.getElem?_eq_some_iff.1 hy).1
  have h1 := OwnL.set h (i := i) (j := 0) (by simpa using hi) (by omega) (.slice A k c)
  have e : ((xs.map (·.1)).map cellsV).modify i (·.set 0 (.slice A k c)) = ((xs.set i (⟨A, k, c, y.1.n⟩, y.2)).map (·.1)).map cellsV := by
    apply List.ext_getElem?
    intro j
    rw [List.getElem?_modify, List.getElem?_map, List.getElem?_map, List.getElem?_map, List.getElem?_map, List.getElem?_set]
    by_cases c : i = j
    · subst c; rw [hy]; simp [hi, cellsV]
    · cases xs[j]? <;> simp [c]
  rw [e] at h1
  exact h1
theorem OwnC.two {g cap : Nat} {xs : List Cd} {w : World} (h : OwnC g cap (xs.map (·.1)) w) {i : Nat} {y : Cd} (hy : xs[i]? = some y) :
    w.cell? ⟨g, i * 2, none⟩ = some (.slice y.1.A y.1.k y.1.c) ∧ w.cell? ⟨g, i * 2 + 1, none⟩ = some (.int .i64 y.1.n) :=
  OwnC.cells h (i := i) (x := y.1) (by rw [List.getElem?_map, hy]; rfl)
theorem OwnU.form {B : Nat} {v : Value} {l : List UInt8} {w : World} (h : OwnU B v l w) : ∃ A c, v = .slice A l.length c := by
  rcases h.2 with ⟨rfl, h0⟩ | ⟨g, cap, cur, rfl, _⟩
  · exact ⟨none, 0, by rw [h0]⟩
  · exact ⟨_, _, rfl⟩
theorem OwnCs.row {B : Nat} {A : Option Addr} {n c : Nat} {ds : List Cd} {w : World} (h : OwnCs B (.slice A n c) ds w) (hn : 0 < ds.length) : ∃ g, A = some ⟨g, 0, none⟩ ∧ n = ds.length ∧ B ≤ g ∧ OwnC g c (ds.map (·.1)) w := by
  rcases h.slice with ⟨_, rfl⟩ | ⟨g, cap, e, hB, ho⟩
  · simp at hn
  · obtain ⟨rfl, h2, rfl⟩ := Value.slice.inj e
    exact ⟨g, rfl, h2, hB, ho⟩
theorem OwnCs.lenN {B n : Nat} {v : Value} {ds : List Cd} {w : World} (h : OwnCs B v ds w) (hn : ds.length = n) : ∃ A c N, N = n ∧ v = .slice A N c := by
  obtain ⟨A, c, rfl⟩ := h.len
  exact ⟨A, c, _, hn, rfl⟩
theorem OwnCs.of' {B g cap n : Nat} {ds : List Cd} {w : World} (h : OwnC g cap (ds.map (·.1)) w) (hB : B ≤ g) (hn : ds.length = n) : OwnCs B (.slice (some ⟨g, 0, none⟩) n cap) ds w := by
  subst hn
  exact OwnCs.of h hB
theorem place_in {acc : List Cd} {r : List Dat} (h : keyR r ∈ (acc.map cnD).map keyN) : placeN ((acc.map cnD).map keyN) (keyR r) < acc.length := by
  have := placeN_lt (acc.map cnD) r
  unfold withN at this
  rw [if_pos h, List.length_map] at this
  exact this
theorem sumD_pos {l : List Cd} (h : l ≠ []) : 0 < (sumD l).length := by
  obtain ⟨d, m, rfl⟩ : ∃ d m, l = m ++ [d] := ⟨l.getLast h, l.dropLast, (List.dropLast_concat_getLast h).symm⟩
  rw [sumD_snoc]
  unfold addD withD
  rw [List.length_modify]
  split
  · have := List.length_pos_of_mem (by assumption)
    simpa using this
  · simp
theorem mix_at {α : Type} {f r : List α} {p : Nat} (h : f.length = p) : (f ++ r.drop p)[p]? = r[p]? := by
  rw [List.getElem?_append_right (by omega), List.getElem?_drop]
  congr 1
  omega
theorem mix_set {α : Type} {f r : List α} {p : Nat} (h : f.length = p) (hp : p < r.length) (x : α) : (f ++ r.drop p).set p x = (f ++ [x]) ++ r.drop (p + 1) := by
  rw [List.set_append_right _ _ (by omega), h, Nat.sub_self, List.drop_eq_getElem_cons hp, List.set_cons_zero, List.append_assoc]
  rfl
theorem szR_mem {l : List Dat} {d : Dat} (h : d ∈ l) : szD d.s ≤ szR l := by
  induction l with
  | nil => cases h
  | cons e l ih =>
    rw [szR]
    rcases List.mem_cons.1 h with rfl | h
    · omega
    · have := ih h; omega
/-- Each row that is told was handed in. -/
theorem sumD_mem {l : List Cd} : ∀ a ∈ sumD l, ∃ b ∈ l, a.2 = b.2 := by
  intro a ha
  have h1 : cnD a ∈ sumN (l.map cnD) := by rw [← sumD_cn]; exact List.mem_map_of_mem ha
  obtain ⟨y, hy, e⟩ := sum_rows _ _ h1
  obtain ⟨b, hb, rfl⟩ := List.mem_map.1 hy
  exact ⟨b, hb, e⟩
/-- A counted row's variable. -/
theorem OwnC.box (w : World) (x : Cv) : OwnC w.heap.size 1 [x] (w.alloc (.cells #[.slice x.A x.k x.c, .int .i64 x.n] 74)) :=
  ⟨fun y hy => by simp at hy; subst hy; rfl, by simp, by decide, _, heap_alloc_new w _, rfl, rfl⟩
/-- A block of rows of k cells, as a slice. -/
theorem OwnL.slV {T : TypeId} {k g cap : Nat} {xs : List (List Value)} {w : World} (h : OwnL T k g cap xs w) : SlV w k (.slice (some ⟨g, 0, none⟩) xs.length cap) xs.length xs.flatten := by
  refine ⟨flats_len xs h.1, _, _, rfl, h.len, by have := h.capLe; unfold maxLen at this; omega, fun q => (by cases q), fun _ => ⟨_, rfl, h.lt, fun j u hj => ?_⟩⟩
  obtain ⟨_, _, _, cur, hg, _, h5⟩ := h
  rw [← h5, List.getElem?_take] at hj
  split at hj
  · rw [show (⟨g, 0, none⟩ : Addr).add j = ⟨g, j, none⟩ by unfold Addr.add; split <;> simp_all]
    simp only [World.cell?, hg]
    simpa using hj
  · cases hj
theorem OwnL.rowV {g cap : Nat} {l : List Dat} {w : World} (h : OwnL 60 4 g cap (l.map cellsD) w) : RowV w (.slice (some ⟨g, 0, none⟩) l.length cap) l := by
  have := h.slV
  rw [List.length_map, flatten_cells] at this
  exact this
/-- The row of a counted one lies in a block of its own, from B on, that has room for it alone. -/
def FreshD (B : Nat) (w : World) (d : Cd) : Prop := ∃ gd, d.1.A = some ⟨gd, 0, none⟩ ∧ d.1.k = d.2.length ∧ d.1.c = d.2.length ∧ B ≤ gd ∧ OwnL 60 4 gd d.2.length (d.2.map cellsD) w
/-- These counted rows' rows do, each in another one. -/
def FreshL (B : Nat) (w : World) (f : List Cd) : Prop := (∀ d ∈ f, FreshD B w d) ∧ f.Pairwise (fun a b => a.1.A ≠ b.1.A)
theorem FreshD.below {B : Nat} {w w' : World} {d : Cd} (h : FreshD B w d) (hb : Below w.heap.size w w') : FreshD B w' d := by
  obtain ⟨gd, h1, h2, h3, h4, h5⟩ := h
  exact ⟨gd, h1, h2, h3, h4, h5.below hb⟩
theorem FreshL.below {B : Nat} {w w' : World} {f : List Cd} (h : FreshL B w f) (hb : Below w.heap.size w w') : FreshL B w' f := ⟨fun d hd => (h.1 d hd).below hb, h.2⟩
theorem FreshD.rowV {B : Nat} {w : World} {d : Cd} (h : FreshD B w d) : RowV w (valD d) d.2 := by
  obtain ⟨gd, h1, h2, h3, h4, h5⟩ := h
  unfold valD
  rw [h1, h2, h3]
  exact h5.rowV
theorem OwnL.apart {T T' : TypeId} {k k' g g' cap cap' : Nat} {xs xs' : List (List Value)} {w : World} (h : OwnL T k g cap xs w) (h' : OwnL T' k' g' cap' xs' w) (hT : T ≠ T') : g ≠ g' := by
  rintro rfl
  obtain ⟨_, _, _, cur, hg, _⟩ := h
  obtain ⟨_, _, _, cur', hg', _⟩ := h'
  rw [hg] at hg'
  simp only [Option.some.injEq, Obj.cells.injEq] at hg'
  exact hT hg'.2.1
theorem OwnL.cap_of {T T' : TypeId} {k g cap cap' : Nat} {xs xs' : List (List Value)} {w : World} (h : OwnL T (k + 1) g cap xs w) (h' : OwnL T' (k + 1) g cap' xs' w) : cap' = cap := by
  obtain ⟨_, _, _, cur, hg, hs, _⟩ := h
  obtain ⟨_, _, _, cur', hg', hs', _⟩ := h'
  rw [hg] at hg'
  cases hg'
  exact Nat.eq_of_mul_eq_mul_right (Nat.succ_pos k) (hs'.symm.trans hs)
theorem OwnL.setOther {T : TypeId} {k g cap g' : Nat} {xs : List (List Value)} {w : World} (h : OwnL T k g cap xs w) (hne : g ≠ g') (o : Nat) (u : Value) : OwnL T k g cap xs (w.setCell ⟨g', o, none⟩ u) :=
  h.of_block (by simp [World.setCell, Array.getElem?_modify, Ne.symm hne])
theorem FreshL.setOther {B g cap : Nat} {w : World} {f : List Cd} {xs : List Cv} (h : FreshL B w f) (hg : OwnC g cap xs w) (o : Nat) (u : Value) : FreshL B (w.setCell ⟨g, o, none⟩ u) f := by
  refine ⟨fun d hd => ?_, h.2⟩
  obtain ⟨gd, h1, h2, h3, h4, h5⟩ := h.1 d hd
  exact ⟨gd, h1, h2, h3, h4, h5.setOther (OwnL.apart h5 hg (by decide)) o u⟩
/-- One more, in a newer block. -/
theorem FreshL.snoc {B : Nat} {w w' : World} {f : List Cd} {d : Cd} {gd : Nat} (h : FreshL B w f) (hb : Below w.heap.size w w') (hA : d.1.A = some ⟨gd, 0, none⟩) (hg : w.heap.size ≤ gd) (hd : FreshD B w' d) : FreshL B w' (f ++ [d]) := by
  refine ⟨fun x hx => ?_, ?_⟩
  · rcases List.mem_append.1 hx with hx | hx
    · exact (h.1 x hx).below hb
    · simp at hx; subst hx; exact hd
  · rw [List.pairwise_append]
    refine ⟨h.2, by simp, fun a ha b hb' => ?_⟩
    simp at hb'; subst hb'
    obtain ⟨ga, h1, _, _, _, h5⟩ := h.1 a ha
    rw [h1, hA]
    intro q
    have := h5.lt
    cases q
    omega
end Go.Proofs.YtpmfbmigdpmloaaGreatDoor
end
section
/-
  Slices of whatever elements: cut in front and behind; appended to a row that the call owns. Nothing is walked here. No condition but those written.
-/
set_option linter.unusedVariables false
set_option linter.unusedSimpArgs false
namespace Go.Proofs.YtpmfbmigdpmloaaGreatDoor
open Go.RowKit Go.Lib

theorem add_zero (a : Addr) : a.add 0 = a := rfl
/-- What the call owns, as a slice. -/
theorem own_slV {T : TypeId} {k B n : Nat} {v : Value} {xs : List Value} {w : World} (h : w.ownsRow B T k v n xs) : SlV w k v n xs := by
  rcases h.2 with ⟨rfl, h0⟩ | ⟨g, cap, cur, rfl, _, hg, h2, h3, h4, h5⟩
  · exact ⟨h.1, none, 0, by rw [h0], by omega, by omega, fun _ => rfl, fun q => by omega⟩
  · refine ⟨h.1, _, _, rfl, h2, by unfold maxLen at h3; exact h3, fun q => (by cases q), fun _ => ⟨_, rfl, (Array.getElem?_eq_some_iff.1 hg).1, fun j u hj => ?_⟩⟩
    rw [← h5, List.getElem?_take] at hj
    split at hj
    · rw [show (⟨g, 0, none⟩ : Addr).add j = ⟨g, j, none⟩ by unfold Addr.add; split <;> simp_all]
      simp only [World.cell?, hg]
      simpa using hj
    · cases hj
/-- s[:m] -/
theorem SlV.front {w : World} {k n m : Nat} {A : Option Addr} {c : Nat} {xs : List Value} (h : SlV w k (.slice A n c) n xs) (hm : m ≤ n) : SlV w k (.slice A m c) m (xs.take (m * k)) := by
  obtain ⟨h1, A', c', e, h2, h3, h0, h4⟩ := h
  obtain ⟨rfl, _, rfl⟩ := Value.slice.inj e
  refine ⟨by rw [List.length_take, h1]; have := Nat.mul_le_mul_right k hm; omega, A, c, rfl, by omega, h3, h0, fun hp => ?_⟩
  obtain ⟨ad, rfl, h5, h6⟩ := h4 (by omega)
  refine ⟨ad, rfl, h5, fun j u hj => h6 j u ?_⟩
  rw [List.getElem?_take] at hj
  split at hj
  · exact hj
  · cases hj
/-- s[m:] -/
theorem SlV.back {w : World} {k n m : Nat} {ad : Addr} {c : Nat} {xs : List Value} (h : SlV w k (.slice (some ad) n c) n xs) (hm : m ≤ n) : SlV w k (.slice (some (ad.add (m * k))) (n - m) (c - m)) (n - m) (xs.drop (m * k)) := by
  obtain ⟨h1, A', c', e, h2, h3, h0, h4⟩ := h
  obtain ⟨rfl, _, rfl⟩ := Value.slice.inj e
  refine ⟨by rw [List.length_drop, h1, Nat.sub_mul], _, _, rfl, by omega, by omega, fun q => (by cases q), fun hp => ?_⟩
  obtain ⟨ad', e', h5, h6⟩ := h4 (by omega)
  cases e'
  refine ⟨_, rfl, by rw [add_block]; exact h5, fun j u hj => ?_⟩
  rw [List.getElem?_drop] at hj
  rw [add_twice]
  exact h6 _ _ hj
section
variable {P : Program}
/-- 'v = append(v, s...)': v the call's own, s any slice. -/
theorem wpList_append_sl {ops : Array Oper} {rest : List Oper} {o : Oper} {a : Act} {Q : Exit → Act → World → Prop} (hgd : o.guard = none) (s x : Operand) (t : TypeId)
    (ho : o.op = .call { callee := .builtin .append, args := #[s, x], argTypes := #[t, t] })
    (B : Nat) (e : TypeId) (i : TypeInfo) (z : Value) (k bytes : Nat) (ht : P.underlying t = some (.slice e)) (hi : P.info? e = some i) (hz : i.zero = some z) (hsize : i.size = k) (hby : i.bytes = bytes) (hzs : z.cells.size = k) (hk : 0 < k)
    (v : Value) (n : Nat) (xs : List Value) (w : World) (sv : Value) (m : Nat) (news : List Value) (hown : w.ownsRow B e k v n xs) (hs : a.eval s = v)
    (hsv : SlV w k sv m news) (hx : a.eval x = sv) (h1 : ∀ u ∈ news, u.oneCell' = true) (hlen : n + m ≤ maxLen) (hbytes : (n + m) * bytes ≤ 140737488355328) (hB : B ≤ w.heap.size)
    (h : ∀ v' w', w'.ownsRow B e k v' (n + m) (xs ++ news) → w.grownBy w' v.ownBlock → wpList P ops Q rest (a.put o.dst v') w') : wpList P ops Q (o :: rest) a w := by
  obtain ⟨hl, A, c, rfl, hmc, hc, h0, h4⟩ := hsv
  rcases A with _ | ad
  · have hm : m = 0 := by
      rcases Nat.eq_zero_or_pos m with h | h
      · exact h
      · obtain ⟨ad, h5, _⟩ := h4 h; cases h5
    subst hm
    obtain rfl := h0 rfl
    have hn : news = [] := List.eq_nil_of_length_eq_zero (by simpa using hl)
    subst hn
    refine wpList_append_own_none hgd s x t ho B e i k ht hi v n xs hs hown hx (h v w (by simpa using hown) ⟨rfl, rfl, rfl, Nat.le_refl _, fun _ _ _ => rfl⟩)
  · refine wpList_append_own w hgd s x t ho B e i z k bytes ht hi hz hsize hby hzs hk v n xs hs hown ad m c news hx hl ?_ h1 hlen hbytes hB (fun v' w' h2 h3 _ => h v' w' h2 h3)
    intro j u hj
    have hp : 0 < m := by
      rcases Nat.eq_zero_or_pos m with h | h
      · subst h
        have : news = [] := List.eq_nil_of_length_eq_zero (by simpa using hl)
        subst this
        simp at hj
      · exact h
    obtain ⟨ad', e', _, h6⟩ := h4 hp
    cases e'
    exact h6 j u hj
end
theorem ownsRow_low {e : TypeId} {k B B' n : Nat} {v : Value} {xs : List Value} {w : World} (h : w.ownsRow B e k v n xs) (hB : B' ≤ B) : w.ownsRow B' e k v n xs := by
  refine ⟨h.1, ?_⟩
  rcases h.2 with h1 | ⟨g, cap, cur, rfl, h1, h3⟩
  · exact .inl h1
  · exact .inr ⟨g, cap, cur, rfl, Nat.le_trans hB h1, h3⟩
/-- What lay below B stays, behind an append to a row that the call owns. -/
theorem below_own {e : TypeId} {k B n : Nat} {v : Value} {xs : List Value} {a w w' : World} (h : Below B a w) (ho : w.ownsRow B e k v n xs) (hg : w.grownBy w' v.ownBlock) (hB : B ≤ w.heap.size) : Below B a w' :=
  h.grown hg hB (fun j hj => (own_lt ho j hj).1)
end Go.Proofs.YtpmfbmigdpmloaaGreatDoor
end
section
/-
  What datum.Check, row.Check and row.Encode answer, at this program: for every row. Condition: unicode/utf8's two tables lie as their initialisers lay them.
-/
set_option linter.unusedVariables false
set_option linter.unusedSimpArgs false
namespace Go.Proofs.YtpmfbmigdpmloaaGreatDoor
open Go.RowKit Go.Lib

/-- The tables of unicode/utf8 lie as the program's text lays them. -/
def Tab8 (w : World) : Prop := Lib.Utf8Tabs 0 1 w
theorem Tab8.below {w w' : World} (h : Tab8 w) (hb : Below w.heap.size w w') : Tab8 w' := Utf8Tabs_below h hb
theorem Tab8.alloc {w : World} (h : Tab8 w) (o : Obj) : Tab8 (w.alloc o) := h.below ((Below.refl _ _).alloc (Nat.le_refl _) _)
theorem Tab8.drew {w : World} (h : Tab8 w) : Tab8 w.drew := h.below (Below.refl _ _).drew

set_option maxHeartbeats 1000000 in
/-- datum.wellFormed -/
theorem wellFormed8_any (k : Int) (b : Bool) (n : Int) (s : ByteArray) (w : World) (hT : Tab8 w) (hs : s.size ≤ 9223372036854775807) :
    Calls Tryz.prog 60 #[.agg #[.int .u8 k, .bool b, .int .i64 n, .string s]] w fun e w' => e = .returned (.bool (form ⟨k, b, n, s⟩)) ∧ Below w.heap.size w w' := by
  have hTH := Lib.hid hT
  clear hT
  by_cases h1 : k = 1
  · subst h1
    by_cases hn : n = 0
    · subst hn
      cases b with
      | true =>
        have hf : form ⟨1, true, 0, s⟩ = false := rfl
        rw [hf]; clear hf
        go_enter Tryz.func60, Tryz.ntmps60
        go_wp2
        go_ret
        exact ⟨rfl, by go_grown⟩
      | false =>
        have hf : form ⟨1, false, 0, s⟩ = decide (s.size = 0) := by simp [form]
        rw [hf]; clear hf
        go_enter Tryz.func60, Tryz.ntmps60
        go_wp2
        go_ret
        exact ⟨ret_bool (toList_size s), by go_grown⟩
    · have hf : form ⟨1, b, n, s⟩ = false := by simp [form, hn]
      rw [hf]; clear hf
      go_enter Tryz.func60, Tryz.ntmps60
      go_wp2
      go_ret
      exact ⟨rfl, by go_grown⟩
  · by_cases h3 : k = 3
    · subst h3
      cases b with
      | true =>
        have hf : form ⟨3, true, n, s⟩ = false := rfl
        rw [hf]; clear hf
        go_enter Tryz.func60, Tryz.ntmps60
        go_wp2
        go_ret
        exact ⟨rfl, by go_grown⟩
      | false =>
        have hf : form ⟨3, false, n, s⟩ = decide (s.size = 0) := by simp [form]
        rw [hf]; clear hf
        go_enter Tryz.func60, Tryz.ntmps60
        go_wp2
        go_ret
        exact ⟨ret_bool (toList_size s), by go_grown⟩
    · by_cases h2 : k = 2
      · subst h2
        by_cases hn : n = 0
        · subst hn
          have hf : form ⟨2, b, 0, s⟩ = decide (s.size = 0) := by simp [form]
          rw [hf]; clear hf
          go_enter Tryz.func60, Tryz.ntmps60
          go_wp2
          go_ret
          exact ⟨ret_bool (toList_size s), by go_grown⟩
        · have hf : form ⟨2, b, n, s⟩ = false := by simp [form, hn]
          rw [hf]; clear hf
          go_enter Tryz.func60, Tryz.ntmps60
          go_wp2
          go_ret
          exact ⟨rfl, by go_grown⟩
      · by_cases h4 : k = 4
        · subst h4
          cases b with
          | true =>
            have hf : form ⟨4, true, n, s⟩ = false := rfl
            rw [hf]; clear hf
            go_enter Tryz.func60, Tryz.ntmps60
            go_wp2
            go_ret
            exact ⟨rfl, by go_grown⟩
          | false =>
            by_cases hn : n = 0
            · subst hn
              have hf : form ⟨4, false, 0, s⟩ = validD s.data.toList := by simp [form]
              rw [hf]; clear hf
              go_enter Tryz.func60, Tryz.ntmps60
              go_wp2_with fail
              refine (Tryz.utf8_ValidString s _ hs (hTH.out.alloc _)).mono ?_
              rintro e w' ⟨rfl, hb⟩
              go_wp2
              go_ret
              exact ⟨rfl, chainB (by go_grown) hb (by simp)⟩
            · have hf : form ⟨4, false, n, s⟩ = false := by simp [form, hn]
              rw [hf]; clear hf
              go_enter Tryz.func60, Tryz.ntmps60
              go_wp2
              go_ret
              exact ⟨rfl, by go_grown⟩
        · have hf : form ⟨k, b, n, s⟩ = false := by simp [form, h1, h2, h3, h4]
          rw [hf]; clear hf
          go_enter Tryz.func60, Tryz.ntmps60
          go_wp2
          go_ret
          exact ⟨rfl, by go_grown⟩

set_option maxHeartbeats 1000000 in
/-- datum.Check -/
theorem check8_any (k : Int) (b : Bool) (n : Int) (s : ByteArray) (w : World) (hT : Tab8 w) (hs : s.size ≤ 9223372036854775807) :
    Calls Tryz.prog 35 #[.agg #[.int .u8 k, .bool b, .int .i64 n, .string s]] w fun e w' => e = .returned (.int .u16 (chk ⟨k, b, n, s⟩)) ∧ Below w.heap.size w w' := by
  have hTH := Lib.hid hT
  clear hT
  cases hf : form ⟨k, b, n, s⟩ with
  | false =>
    have hc := Lib.hid (chk_bad hf)
    go_enter Tryz.func35, Tryz.ntmps35
    go_wp2_with fail
    refine (wellFormed8_any k b n s _ (hTH.out.alloc _) hs).mono ?_
    rintro e w' ⟨rfl, hb⟩
    go_wp2
    go_ret
    exact ⟨ret_int hc.out.symm, chainB (by go_grown) hb (by simp)⟩
  | true =>
    have hc := Lib.hid (chk_of_form hf)
    by_cases hl : 1000 < s.size
    · go_enter Tryz.func35, Tryz.ntmps35
      go_wp2_with fail
      refine (wellFormed8_any k b n s _ (hTH.out.alloc _) hs).mono ?_
      rintro e w' ⟨rfl, hb⟩
      have hcell : w'.cell? ⟨w.heap.size, 3, none⟩ = some (.string s) := by rw [hb.cell (by simp)]; exact cell_new w _ _ 3
      have hlz : (1000 : Int) < (s.size : Int) := by omega
      go_wp2
      go_ret
      exact ⟨ret_int (by rw [hc.out]; simp [hl]), chainB (by go_grown) hb (by simp)⟩
    · go_enter Tryz.func35, Tryz.ntmps35
      go_wp2_with fail
      refine (wellFormed8_any k b n s _ (hTH.out.alloc _) hs).mono ?_
      rintro e w' ⟨rfl, hb⟩
      have hcell : w'.cell? ⟨w.heap.size, 3, none⟩ = some (.string s) := by rw [hb.cell (by simp)]; exact cell_new w _ _ 3
      have hlz : ¬ (1000 : Int) < (s.size : Int) := by omega
      go_wp2
      go_ret
      exact ⟨ret_int (by rw [hc.out]; simp [hl]), chainB (by go_grown) hb (by simp)⟩

/-- What the rounds hold. -/
def RelCk (l : List Dat) (w0 : World) (s11 : Value) (wr : World) : Prop := ∃ p : Nat, p ≤ l.length ∧ s11 = .int .i64 (p : Int) ∧ chkL l = chkL (l.drop p) ∧ Below w0.heap.size w0 wr
theorem chkL_at {l : List Dat} {p : Nat} (h : p < l.length) : chkL (l.drop p) = if chk l[p] = 0 then chkL (l.drop (p + 1)) else chk l[p] := by
  rw [List.drop_eq_getElem_cons h, chkL]
set_option maxHeartbeats 4000000 in
set_option maxRecDepth 1000000 in
theorem rowCheck_any (v : Value) (l : List Dat) (w : World) (h : RowV w v l) (hT : Tab8 w) (hs : ∀ d ∈ l, d.s.size ≤ 9223372036854775807) :
    Calls Tryz.prog 16 #[v] w fun e w' => e = .returned (.int .u16 (chkR l)) ∧ Below w.heap.size w w' := by
  obtain ⟨A, c, rfl, hla⟩ := h.form
  have hH := Lib.hid h; have hTH := Lib.hid hT; have hsH := Lib.hid hs
  clear h hT hs
  by_cases hbig : 32 < l.length
  · have hr := Lib.hid (show chkR l = 20 by unfold chkR; rw [if_pos hbig])
    go_enter Tryz.func16, Tryz.ntmps16
    go_wp2_with fail
    go_ret
    exact ⟨ret_int hr.out.symm, by go_grown⟩
  · have hr := Lib.hid (show chkR l = chkL l by unfold chkR; rw [if_neg (by omega)])
    go_enter Tryz.func16, Tryz.ntmps16
    go_wp2_with fail
    go_loopw [4, 5, 11] (fun s4 s5 s11 wr => RelCk l w s11 wr) (fun _ _ s11 _ => l.length - (Go.RowKit.intOf s11).toNat)
    case atStart => exact ⟨0, by omega, rfl, rfl, Below.refl _ _⟩
    case round =>
      unfold RelCk at hrel
      obtain ⟨p, hp, rfl, hck, hb⟩ := hrel
      have hbH := Lib.hid hb; have hckH := Lib.hid hck
      have hB := hb.size
      clear hb hck
      by_cases hlt : p < l.length
      · obtain ⟨ad, rfl, hba, a0_, a1_, a2_, a3_⟩ := (hH.out.below hbH.out).at hlt
        have hat := Lib.hid (chkL_at hlt)
        have hsz := Lib.hid (hsH.out _ (List.getElem_mem hlt))
        obtain ⟨d, hd⟩ : ∃ d, l[p] = d := ⟨_, rfl⟩
        rw [hd] at a0_ a1_ a2_ a3_ hat hsz
        clear hd
        obtain ⟨k, b, m, s⟩ := d
        simp only at a0_ a1_ a2_ a3_ hsz
        obtain ⟨wd, hwdE⟩ : ∃ wd, wr.alloc (.cells #[.int .u8 k, .bool b, .int .i64 m, .string s] 60) = wd := ⟨_, rfl⟩
        have hD := Lib.hid (show Has wd wr.heap.size (.int .u8 k) (.bool b) (.int .i64 m) (.string s) from hwdE ▸ Has.new wr _ _ _ _)
        have hbD := Lib.hid (show Below w.heap.size w wd from hwdE ▸ hbH.out.alloc hB _)
        obtain ⟨e0_, e1_, e2_, e3_⟩ := hD.out.cells
        go_wp2_with fail
        refine (check8_any k b m s _ (hTH.out.below hbD.out) hsz.out).mono ?_
        obtain ⟨r, hr'⟩ : ∃ r, chk ⟨k, b, m, s⟩ = r := ⟨_, rfl⟩
        rw [hr'] at hat
        rw [hr']
        rintro e w2 ⟨rfl, hb2⟩
        have hb2H := Lib.hid (hbD.out.trans (hb2.mono hbD.out.size))
        clear hb2 a0_ a1_ a2_ a3_ e0_ e1_ e2_ e3_ hwdE hr'
        by_cases hz : r = 0
        · subst hz
          have hat2 := Lib.hid (show chkL l = chkL (l.drop (p + 1)) by rw [hckH.out, hat.out, if_pos rfl])
          go_wp2_with fail
          go_roundw
          case rel => exact ⟨p + 1, hlt, by go_num, hat2.out, hb2H.out⟩
          case measure => simp [Go.RowKit.intOf]; omega
        · have hat2 := Lib.hid (show chkR l = r by rw [hr.out, hckH.out, hat.out, if_neg hz])
          go_wp2_with fail
          go_ret
          exact ⟨ret_int hat2.out.symm, hb2H.out⟩
      · obtain rfl : p = l.length := by omega
        have hat2 := Lib.hid (show chkR l = 0 by rw [hr.out, hckH.out, List.drop_length]; rfl)
        go_wp2_with fail
        go_ret
        exact ⟨ret_int hat2.out.symm, hbH.out⟩
theorem chkL_all : ∀ {l : List Dat}, chkL l = 0 → ∀ d ∈ l, chk d = 0
  | [], _, d, hd => by cases hd
  | e :: l, h, d, hd => by
    unfold chkL at h
    by_cases h0 : chk e = 0
    · rw [if_pos h0] at h
      rcases List.mem_cons.1 hd with rfl | hd
      · exact h0
      · exact chkL_all h d hd
    · rw [if_neg h0] at h
      exact absurd h h0
theorem chkR_all {l : List Dat} (h : chkR l = 0) : l.length ≤ 32 ∧ ∀ d ∈ l, chk d = 0 := by
  unfold chkR at h
  split at h
  · omega
  · exact ⟨by omega, chkL_all h⟩
theorem chk_small {d : Dat} (h : chk d = 0) : d.s.size ≤ 1000 := by
  unfold chk at h
  split at h
  · split at h
    · omega
    · omega
  · omega
theorem szR_small : ∀ {l : List Dat}, (∀ d ∈ l, chk d = 0) → szR l ≤ l.length * 2016
  | [], _ => by simp [szR]
  | d :: l, h => by
    have h1 := chk_small (h d (by simp))
    have h2 := szR_small (l := l) (fun e he => h e (by simp [he]))
    rw [szR, szD, List.length_cons]
    omega
def RelEn (l : List Dat) (B : Nat) (w0 : World) (s5 s15 : Value) (wr : World) : Prop := ∃ p : Nat, p ≤ l.length ∧ s15 = .int .i64 (p : Int) ∧ OwnB B s5 ((l.take p).flatMap encD) w0 wr
set_option maxHeartbeats 4000000 in
set_option maxRecDepth 1000000 in
theorem encode_any (v : Value) (l : List Dat) (w : World) (h : RowV w v l) (hT : Tab8 w) (hw : ∀ d ∈ l, Wide d ∧ d.s.size ≤ 9223372036854775807) :
    Calls Tryz.prog 10 #[v] w fun e w' => ∃ v', e = .returned (.tuple #[v', .int .u16 (chkR l)]) ∧ ((chkR l = 0 ∧ OwnU w.heap.size v' (encR l) w') ∨ (chkR l ≠ 0 ∧ v' = .slice none 0 0)) ∧ Below w.heap.size w w' := by
  obtain ⟨A, c, rfl, hla⟩ := h.form
  have hH := Lib.hid h; have hTH := Lib.hid hT; have hwH := Lib.hid hw
  clear h hT hw
  obtain ⟨r, hr⟩ : ∃ r, chkR l = r := ⟨_, rfl⟩
  rw [hr]
  have hrH := Lib.hid hr
  clear hr
  go_enter Tryz.func10, Tryz.ntmps10
  go_wp2_with fail
  refine (rowCheck_any _ l w hH.out hTH.out (fun d hd => (hwH.out d hd).2)).mono ?_
  rw [hrH.out]
  rintro e w1 ⟨rfl, hb1⟩
  have hb1H := Lib.hid hb1
  clear hb1
  by_cases hz : r = 0
  · subst hz
    obtain ⟨h32, hall⟩ := chkR_all hrH.out
    have hszl := Lib.hid (szR_small hall)
    clear hall
    go_wp2_with fail
    go_loopw [5, 7, 15] (fun s5 s7 s15 wr => RelEn l w.heap.size w1 s5 s15 wr) (fun _ _ s15 _ => l.length - (Go.RowKit.intOf s15).toNat)
    case atStart => exact ⟨0, by omega, rfl, OwnK.start (World.ownsRow_nil _ _ _ _) hb1H.out.size⟩
    case round =>
      unfold RelEn at hrel
      obtain ⟨p, hp, rfl, hown⟩ := hrel
      obtain ⟨A0, c0, rfl⟩ := hown.form
      have hownH := Lib.hid hown
      clear hown
      by_cases hlt : p < l.length
      · obtain ⟨ad, rfl, hba, a0_, a1_, a2_, a3_⟩ := (hH.out.below (hb1H.out.trans hownH.out.2.1)).at hlt
        have hft := Lib.hid (flat_take (f := encD) hlt)
        have hsz := Lib.hid (show ((l.take p).flatMap encD).length + szD l[p].s ≤ 70368744177664 by
          have h1 := szR_take l p hlt
          have h2 := encR_le (l.take p)
          have h3 := hszl.out
          unfold encR at h2
          omega)
        have hwd := Lib.hid (hwH.out _ (List.getElem_mem hlt)).1
        obtain ⟨d, hd⟩ : ∃ d, l[p] = d := ⟨_, rfl⟩
        rw [hd] at a0_ a1_ a2_ a3_ hft hsz hwd
        clear hd
        obtain ⟨k, b, n, s⟩ := d
        obtain ⟨L, hL⟩ : ∃ L, (l.take p).flatMap encD = L := ⟨_, rfl⟩
        rw [hL] at hownH hft hsz ⊢
        clear hL
        simp only at a0_ a1_ a2_ a3_
        obtain ⟨wd, hwdE⟩ : ∃ wd, wr.alloc (.cells #[.int .u8 k, .bool b, .int .i64 n, .string s] 60) = wd := ⟨_, rfl⟩
        have hD := Lib.hid (show Has wd wr.heap.size (.int .u8 k) (.bool b) (.int .i64 n) (.string s) from hwdE ▸ Has.new wr _ _ _ _)
        have hownD := Lib.hid (show OwnB w.heap.size (.slice A0 L.length c0) L w1 wd from hwdE ▸ hownH.out.alloc _)
        obtain ⟨e0_, e1_, e2_, e3_⟩ := hD.out.cells
        have hltH := Lib.hid hlt
        go_wp2_with fail
        refine (appendDatum_any w.heap.size _ L k b n s _ hownD.out.again hwd.out.2 hsz.out).mono ?_
        rintro e w2 ⟨v2, rfl, h2⟩
        have h2H := Lib.hid h2
        clear h2 e0_ e1_ e2_ e3_ a0_ a1_ a2_ a3_ hwdE
        go_wp2_with fail
        go_roundw
        case rel => exact ⟨p + 1, hltH.out, by go_num, by rw [hft.out]; exact OwnK.trans hownD.out h2H.out⟩
        case measure => have := hltH.out; simp [Go.RowKit.intOf]; omega
      · obtain rfl : p = l.length := by omega
        rw [List.take_length] at hownH ⊢
        go_wp2_with fail
        refine bodyPost_ret (v := .tuple #[.slice A0 (l.flatMap encD).length c0, .int .u16 0]) (by simp [results, Tryz.results10, go_sem]) rfl ?_
        first | exact ⟨_, rfl, .inl ⟨rfl, hownH.out.1⟩, hb1H.out.trans hownH.out.2.1⟩ | exact ⟨_, rfl, hownH.out.1, hb1H.out.trans hownH.out.2.1⟩ | exact ⟨hownH.out.1, hb1H.out.trans hownH.out.2.1⟩
  · go_wp2_with fail
    refine bodyPost_ret (v := .tuple #[.slice none 0 0, .int .u16 r]) (by simp [results, Tryz.results10, go_sem]) rfl ?_
    first | exact ⟨_, rfl, .inr ⟨hz, rfl⟩, hb1H.out⟩ | exact ⟨_, rfl, rfl, hb1H.out⟩ | exact hb1H.out
end Go.Proofs.YtpmfbmigdpmloaaGreatDoor
end
section
/-
  Bytes in memory: a slice value read as a list. Nothing is walked here. No condition.
-/
set_option linter.unusedVariables false
set_option linter.unusedSimpArgs false
namespace Go.Proofs.YtpmfbmigdpmloaaGreatDoor
open Go.RowKit Go.Lib

/-- The slice value v holds these bytes. -/
def BytsV (w : World) (v : Value) (l : List UInt8) : Prop := SlV w 1 v l.length (Lib.byteCells l)
theorem BytsV.below {w w' : World} {v : Value} {l : List UInt8} (h : BytsV w v l) (hb : Below w.heap.size w w') : BytsV w' v l := SlV.below h hb
theorem OwnU.byts {B : Nat} {v : Value} {l : List UInt8} {w : World} (h : OwnU B v l w) : BytsV w v l := own_slV h
theorem BytsV.form {w : World} {v : Value} {l : List UInt8} (h : BytsV w v l) : ∃ A c, v = .slice A l.length c ∧ l.length ≤ 9223372036854775807 := by
  obtain ⟨_, A, c, rfl, h2, h3, _⟩ := h
  exact ⟨A, c, rfl, by omega⟩
theorem BytsV.at {w : World} {A : Option Addr} {c : Nat} {l : List UInt8} (h : BytsV w (.slice A l.length c) l) {i : Nat} {b : UInt8} (hb : l[i]? = some b) :
    ∃ ad : Addr, A = some ad ∧ (ad.add i).block < w.heap.size ∧ w.cell? (ad.add i) = some (.int .u8 b.toNat) := by
  obtain ⟨_, A', c', e, _, _, _, h4⟩ := h
  obtain ⟨rfl, _, rfl⟩ := Value.slice.inj e
  have hi : i < l.length := (List.getElem?_eq_some_iff.1 hb).1
  obtain ⟨ad, rfl, h5, h6⟩ := h4 (by omega)
  exact ⟨ad, rfl, by rw [add_block]; exact h5, h6 i _ (by simp [Lib.byteCells, hb])⟩
end Go.Proofs.YtpmfbmigdpmloaaGreatDoor
end
section
/-
  Plain mathematics: what the bytes of a row are read as. No condition but those written.
-/
set_option linter.unusedVariables false
set_option linter.unusedSimpArgs false
namespace Go.Proofs.YtpmfbmigdpmloaaGreatDoor
open Go.Lib

/-- The number of bytes, the greatest first. -/
def beV (l : List UInt8) : Nat := l.foldl (fun a b => a * 256 + b.toNat) 0
/-- Eight bytes, as a number, and what stands behind. -/
def intS (L : List UInt8) : Option (Int × List UInt8) := if L.length < 8 then none else some ((beV (L.take 8) : Int) - 9223372036854775808, L.drop 8)
/-- A text, up to its end, and what stands behind. -/
def textS : List UInt8 → Option (List UInt8 × List UInt8)
  | [] => none
  | [_] => none
  | b :: m :: r =>
    if b = 0 then (if m = 1 then some ([], r) else if m = 255 then (textS r).map (fun x => (0 :: x.1, x.2)) else none) else (textS (m :: r)).map (fun x => (b :: x.1, x.2))
/-- A datum, checked or not. -/
def rawS (b : UInt8) (L : List UInt8) : Option (Dat × List UInt8) :=
  if b = 16 then some (⟨1, false, 0, ⟨#[]⟩⟩, L) else if b = 32 then some (⟨2, false, 0, ⟨#[]⟩⟩, L) else if b = 33 then some (⟨2, true, 0, ⟨#[]⟩⟩, L)
  else if b = 48 then (intS L).map (fun x => (⟨3, false, x.1, ⟨#[]⟩⟩, x.2)) else if b = 64 then (textS L).map (fun x => (⟨4, false, 0, ⟨x.1.toArray⟩⟩, x.2)) else none
def datS : List UInt8 → Option (Dat × List UInt8)
  | [] => none
  | b :: L => match rawS b L with
    | none => none
    | some (d, r) => if chk d = 0 then some (d, r) else none
/-- At most n more data, up to the end. -/
def rowS : Nat → List UInt8 → Option (List Dat)
  | _, [] => some []
  | 0, _ :: _ => none
  | n + 1, b :: L => match datS (b :: L) with
    | none => none
    | some (d, r) => (rowS n r).map (d :: ·)
def decRow (L : List UInt8) : Option (List Dat) := rowS 32 L
theorem intS_short {L : List UInt8} (h : L.length < 8) : intS L = none := if_pos h
theorem beV_snoc (l : List UInt8) (b : UInt8) : beV (l ++ [b]) = beV l * 256 + b.toNat := by simp [beV, List.foldl_append]
theorem beF_lt : ∀ (l : List UInt8) (a : Nat), l.foldl (fun a b => a * 256 + b.toNat) a < (a + 1) * 256 ^ l.length
  | [], a => by simp
  | b :: l, a => by
    have h := beF_lt l (a * 256 + b.toNat)
    have hb := b.toNat_lt
    rw [List.foldl_cons, List.length_cons, Nat.pow_succ]
    refine Nat.lt_of_lt_of_le h ?_
    rw [Nat.mul_comm (256 ^ l.length) 256, ← Nat.mul_assoc]
    exact Nat.mul_le_mul_right _ (by omega)
theorem beV_lt (l : List UInt8) : beV l < 256 ^ l.length := by
  have := beF_lt l 0
  simpa [beV] using this
/-- What stands behind is of what was there, and shorter. -/
theorem textS_len : ∀ (L : List UInt8) (x : List UInt8 × List UInt8), textS L = some x → x.1.length + x.2.length + 2 ≤ L.length
  | [], x, h => by simp [textS] at h
  | [_], x, h => by simp [textS] at h
  | b :: m :: r, x, h => by
    rw [textS] at h
    split at h
    · split at h
      · cases h; simp
      · split at h
        · cases hr : textS r with
          | none => rw [hr] at h; cases h
          | some y =>
            rw [hr] at h; cases h
            have := textS_len r y hr
            simp only [List.length_cons]; omega
        · cases h
    · cases hr : textS (m :: r) with
      | none => rw [hr] at h; cases h
      | some y =>
        rw [hr] at h; cases h
        have := textS_len (m :: r) y hr
        simp only [List.length_cons] at this ⊢; omega
end Go.Proofs.YtpmfbmigdpmloaaGreatDoor
end
section
/-
  How the program reads a row's bytes, at this program: the reader's words, must, next. Conditions: those written.
  How the program reads a number of a row's bytes, at this program. Conditions: those written.
  How the program reads a text of a row's bytes, at this program. Conditions: those written.
-/
set_option linter.unusedVariables false
set_option linter.unusedSimpArgs false
namespace Go.Proofs.YtpmfbmigdpmloaaGreatDoor
open Go.RowKit Go.Lib

/-- The reader's own panic. -/
abbrev mal : List PanicEntry := [{ v := .iface 124 (.agg #[.int .u16 20]), recovered := false }]
theorem must_yes (p : Value) (w : World) : Calls Tryz.prog 77 #[p, .bool true] w fun e w' => e = .returned (.tuple #[]) ∧ w' = w := by
  go_enter Tryz.func77, Tryz.ntmps77
  go_wp2
  first | go_end0 | refine bodyPost_ret (results_none rfl _ _ _) rfl ?_
  exact ⟨rfl, rfl⟩
theorem must_no (p : Value) (w : World) : Calls Tryz.prog 77 #[p, .bool false] w fun e w' => e = .panicked mal ∧ w' = w := by
  go_enter Tryz.func77, Tryz.ntmps77
  go_wp2
  exact ⟨rfl, rfl, rfl⟩
/-- Of the blocks below B none but g has turned. -/
structure Stay (g B : Nat) (w w' : World) : Prop where
  os : w'.os = w.os
  tape : w'.tape = w.tape
  output : w'.output = w.output
  size : w.heap.size ≤ w'.heap.size
  block : ∀ k, k < B → k ≠ g → w'.heap[k]? = w.heap[k]?
theorem Stay.refl (g B : Nat) (w : World) : Stay g B w w := ⟨rfl, rfl, rfl, Nat.le_refl _, fun _ _ _ => rfl⟩
theorem Stay.trans {g B : Nat} {a b c : World} (h : Stay g B a b) (k : Stay g B b c) : Stay g B a c :=
  ⟨k.os.trans h.os, k.tape.trans h.tape, k.output.trans h.output, Nat.le_trans h.size k.size, fun i hi hg => (k.block i hi hg).trans (h.block i hi hg)⟩
theorem Stay.mono {g B B' : Nat} {w w' : World} (h : Stay g B w w') (hB : B' ≤ B) : Stay g B' w w' := ⟨h.os, h.tape, h.output, h.size, fun k hk hg => h.block k (by omega) hg⟩
theorem Stay.of {g B : Nat} {w w' : World} (h : Below B w w') : Stay g B w w' := ⟨h.os, h.tape, h.output, h.size, fun k hk _ => h.block k hk⟩
theorem Stay.low {g B : Nat} {w w' : World} (h : Stay g B w w') (hg : g ≤ B) : Below g w w' := ⟨h.os, h.tape, h.output, h.size, fun k hk => h.block k (by omega) (by omega)⟩
theorem Stay.set {g B : Nat} {a w : World} (h : Stay g B a w) (o : Nat) (u : Value) : Stay g B a (w.setCell ⟨g, o, none⟩ u) :=
  h.trans ⟨rfl, rfl, rfl, by simp [World.setCell], fun k hk hg => Below.heap_setCell _ _ _ _ hg⟩
theorem Stay.row {g B e k n : Nat} {v : Value} {xs : List Value} {w w' : World} (h : w.ownsRow B e k v n xs) (hs : Stay g w.heap.size w w') (hg : g < B) : w'.ownsRow B e k v n xs := by
  refine ⟨h.1, ?_⟩
  rcases h.2 with h1 | ⟨b, cap, cur, rfl, h1, h2, h3⟩
  · exact .inl h1
  · exact .inr ⟨b, cap, cur, rfl, h1, (hs.block b (Array.getElem?_eq_some_iff.1 h2).1 (by omega)).trans h2, h3⟩
/-- Block b is a variable of the type t that holds these cells. -/
def HasV (w : World) (b : Nat) (cs : List Value) (t : TypeId) : Prop := w.heap[b]? = some (.cells cs.toArray t (0, 0))
theorem HasV.lt {w : World} {b : Nat} {cs : List Value} {t : TypeId} (h : HasV w b cs t) : b < w.heap.size := (Array.getElem?_eq_some_iff.1 h).1
theorem HasV.cell {w : World} {b : Nat} {cs : List Value} {t : TypeId} (h : HasV w b cs t) (i : Nat) {u : Value} (hu : cs[i]? = some u) : w.cell? ⟨b, i, none⟩ = some u := by
  unfold HasV at h
  simp only [World.cell?, h]
  simpa using hu
theorem HasV.free {w : World} {b : Nat} {cs : List Value} {t : TypeId} (h : HasV w b cs t) (i : Nat) : w.frozen? ⟨b, i, none⟩ = false := Lib.frozen_of_heap h i
theorem HasV.new (w : World) (cs : List Value) (t : TypeId) : HasV (w.alloc (.cells cs.toArray t)) w.heap.size cs t := heap_alloc_new w _
theorem HasV.stay {g : Nat} {w w' : World} {b : Nat} {cs : List Value} {t : TypeId} (h : HasV w b cs t) (hs : Stay g w.heap.size w w') (hb : b ≠ g) : HasV w' b cs t := (hs.block b h.lt hb).trans h
theorem HasV.below {w w' : World} {b : Nat} {cs : List Value} {t : TypeId} {B : Nat} (h : HasV w b cs t) (hs : Below B w w') (hb : b < B) : HasV w' b cs t := (hs.block b hb).trans h
theorem HasV.set {w : World} {b : Nat} {cs : List Value} {t : TypeId} (h : HasV w b cs t) (i : Nat) (u : Value) : HasV (w.setCell ⟨b, i, none⟩ u) b (cs.set i u) t := by
  unfold HasV at h ⊢
  simp only [World.setCell, Array.getElem?_modify, if_true, h]
  simp
/-- The bytes behind the first one. -/
theorem BytsV.tail {w : World} {ad : Addr} {n c j : Nat} {b : UInt8} {L : List UInt8} (h : BytsV w (.slice (some ad) n c) (b :: L)) (hj : L.length = j) : BytsV w (.slice (if c = 1 then some ad else some (ad.add 1)) j (c - 1)) L := by
  subst hj
  obtain ⟨_, A', c', e, h2, h3, h0, h4⟩ := h
  obtain ⟨rfl, rfl, rfl⟩ := Value.slice.inj e
  rw [List.length_cons] at h2
  refine ⟨by rw [Lib.byteCells_length, Nat.mul_one], _, _, rfl, by omega, by omega, (fun q => by (split at q <;> cases q)), fun hp => ?_⟩
  obtain ⟨ad', e', h5, h6⟩ := h4 (by simp)
  cases e'
  rw [if_neg (by omega)]
  refine ⟨_, rfl, by rw [add_block]; exact h5, fun j u hj => ?_⟩
  rw [add_twice, Nat.add_comm 1 j]
  refine h6 (j + 1) u ?_
  simpa [Lib.byteCells] using hj
/-- The reader's variable is the first block behind W0, and what is left of what W0 holds are these bytes. -/
def RdS (W0 w : World) (L : List UInt8) : Prop := ∃ A c, HasV w W0.heap.size [.slice A L.length c] 85 ∧ BytsV W0 (.slice A L.length c) L ∧ Below W0.heap.size W0 w
/-- What a read answers: a panic, or what it read. -/
def OutRd {α : Type} (W0 : World) (f : α → Value) (r : Option (α × List UInt8)) (w : World) (e : Ending) (w' : World) : Prop :=
  Stay W0.heap.size w.heap.size w w' ∧ ((r = none ∧ e = .panicked mal) ∨ ∃ x L, r = some (x, L) ∧ e = .returned (f x) ∧ RdS W0 w' L)
theorem OutRd.next {α : Type} {W0 w : World} {L : List UInt8} {A : Option Addr} {c : Nat} {old : Value} (hv : HasV w W0.heap.size [old] 85) (hb : BytsV W0 (.slice A L.length c) L) (hbl : Below W0.heap.size W0 w) (f : α → Value) (x : α) :
    OutRd W0 f (some (x, L)) w (.returned (f x)) (w.setCell ⟨W0.heap.size, 0, none⟩ (.slice A L.length c)) :=
  ⟨(Stay.refl _ _ _).set _ _, .inr ⟨x, L, rfl, rfl, A, c, hv.set 0 _, hb, hbl.setCell (Nat.le_refl _) _⟩⟩
def nextS : List UInt8 → Option (UInt8 × List UInt8)
  | [] => none
  | b :: L => some (b, L)
abbrev readerP (W0 : World) : Value := .pointer (some ⟨W0.heap.size, 0, none⟩)
set_option maxHeartbeats 2000000 in
theorem next_any (W0 w : World) (L : List UInt8) (h : RdS W0 w L) :
    Calls Tryz.prog 105 #[readerP W0] w fun e w' => OutRd W0 (fun b => .int .u8 b.toNat) (nextS L) w e w' := by
  obtain ⟨A, c, hv, hby, hbl⟩ := h
  have hvH := Lib.hid hv; have hbyH := Lib.hid hby; have hblH := Lib.hid hbl
  have v0_ := hv.cell 0 rfl
  have vf_ := hv.free 0
  clear hv hby hbl
  cases L with
  | nil =>
    go_enter Tryz.func105, Tryz.ntmps105
    go_wp2_with fail
    refine (must_no _ _).mono ?_
    rintro e w' ⟨rfl, rfl⟩
    go_wp2_with fail
    exact ⟨rfl, Stay.refl _ _ _, .inl ⟨rfl, rfl⟩⟩
  | cons b L =>
    obtain ⟨ad, rfl, hba, a0_⟩ := (hbyH.out.below (hblH.out)).at (i := 0) rfl
    rw [add_zero] at hba a0_
    go_enter Tryz.func105, Tryz.ntmps105
    go_wp2_with fail
    refine (must_yes _ _).mono ?_
    rintro e w' ⟨rfl, rfl⟩
    have hc1 : (1 : Int) ≤ (L.length : Int) + 1 := by omega
    have htl := Lib.hid (BytsV.tail hbyH.out rfl)
    by_cases c1 : c = 1
    · subst c1
      rw [if_pos rfl] at htl
      go_wp2_with fail
      go_ret
      exact OutRd.next hvH.out htl.out hblH.out (fun b : UInt8 => .int .u8 b.toNat) b
    · rw [if_neg c1] at htl
      go_wp2_with fail
      go_ret
      exact OutRd.next hvH.out htl.out hblH.out (fun b : UInt8 => .int .u8 b.toNat) b
open Go.RowKit Go.Lib

def RelIn (W0 w : World) (L : List UInt8) (s3 s4 : Value) (wr : World) : Prop := ∃ p : Nat, p ≤ 8 ∧ p ≤ L.length ∧ s3 = .int .u64 (beV (L.take p) : Int) ∧ s4 = .int .i64 (p : Int) ∧ RdS W0 wr (L.drop p) ∧ Stay W0.heap.size w.heap.size w wr
theorem beV_take {L M' : List UInt8} {p : Nat} {b : UInt8} (h : L.drop p = b :: M') : beV (L.take (p + 1)) = beV (L.take p) * 256 + b.toNat ∧ p < L.length ∧ L.drop (p + 1) = M' := by
  have hp : p < L.length := by
    rcases Nat.lt_or_ge p L.length with h1 | h1
    · exact h1
    · rw [List.drop_eq_nil_iff.2 h1] at h; cases h
  have h1 := List.drop_eq_getElem_cons hp
  rw [h] at h1
  injection h1 with h2 h3
  refine ⟨?_, hp, h3.symm⟩
  rw [List.take_succ_eq_append_getElem hp, beV_snoc, ← h2]
theorem beV_small (L : List UInt8) {p : Nat} (hp : p ≤ 8) : beV (L.take p) ≤ 18446744073709551615 := by
  have h1 := beV_lt (L.take p)
  have h2 : 256 ^ (L.take p).length ≤ 256 ^ 8 := Nat.pow_le_pow_right (by decide) (by rw [List.length_take]; omega)
  have h3 : (256 : Nat) ^ 8 = 18446744073709551616 := by decide
  omega
theorem u64_small {n : Nat} (h : n ≤ 18446744073709551615) : IntKind.u64.wrap (n : Int) = (n : Int) := by
  rw [IntKind.wrap_u64]; omega
theorem or_byte {n : Nat} {b : UInt8} (h : n * 256 + b.toNat ≤ 18446744073709551615) :
    bits .or .u64 (IntKind.u64.wrap ((n : Int) * 256)) (IntKind.u64.wrap (b.toNat : Int)) = ((n * 256 + b.toNat : Nat) : Int) := by
  have hb := b.toNat_lt
  obtain ⟨m, hm⟩ : ∃ m, n * 256 = m := ⟨_, rfl⟩
  have hmi : (n : Int) * 256 = (m : Int) := by omega
  have e1 : IntKind.u64.wrap (m : Int) = (m : Int) := u64_small (by omega)
  have e2 : IntKind.u64.wrap (b.toNat : Int) = (b.toNat : Int) := u64_small (by omega)
  rw [hmi, e1, e2, bits_or_u64_nat m b.toNat (by omega) (by omega)]
  have h1 : n * 256 ||| b.toNat = n * 256 + b.toNat := by
    have := Nat.two_pow_add_eq_or_of_lt (i := 8) (b := b.toNat) (by omega) n
    rw [show 2 ^ 8 = 256 from rfl] at this
    rw [Nat.mul_comm n 256]
    exact this.symm
  rw [← hm, h1]
theorem RdS.lt {W0 w : World} {L : List UInt8} (h : RdS W0 w L) : W0.heap.size < w.heap.size := by
  obtain ⟨A, c, h, _⟩ := h
  exact h.lt
set_option maxHeartbeats 2000000 in
theorem rdInteger_any (W0 w : World) (L : List UInt8) (h : RdS W0 w L) :
    Calls Tryz.prog 106 #[readerP W0] w fun e w' => OutRd W0 (fun n => .int .i64 n) (intS L) w e w' := by
  have hH := Lib.hid h
  clear h
  go_enter Tryz.func106, Tryz.ntmps106
  go_wp2_with fail
  go_loopw [3, 4] (fun s3 s4 wr => RelIn W0 w L s3 s4 wr) (fun _ s4 _ => 8 - (Go.RowKit.intOf s4).toNat)
  case atStart => exact ⟨0, by omega, by omega, rfl, rfl, hH.out, Stay.refl _ _ _⟩
  case round =>
    unfold RelIn at hrel
    obtain ⟨p, hp, hl, rfl, rfl, hrd, hst⟩ := hrel
    have hrdH := Lib.hid hrd; have hstH := Lib.hid hst
    clear hrd hst
    by_cases hlt : p < 8
    · obtain ⟨M, hM⟩ : ∃ M, L.drop p = M := ⟨_, rfl⟩
      obtain ⟨n, hn⟩ : ∃ n, beV (L.take p) = n := ⟨_, rfl⟩
      rw [hM] at hrdH
      have hMH := Lib.hid hM; have hnH := Lib.hid hn
      rw [hn]
      clear hM hn
      go_wp2_with fail
      refine (next_any W0 wr M hrdH.out).mono ?_
      rintro e w' ⟨hs, hcase⟩
      have hsH := Lib.hid (hstH.out.trans (hs.mono hstH.out.size))
      clear hs
      rcases hcase with ⟨hnone, rfl⟩ | ⟨b, M', hsome, rfl, hrd'⟩
      · have hnoH := Lib.hid hnone
        clear hnone
        go_wp2_with fail
        have hno : intS L = none := by
          refine intS_short ?_
          have h1 := hnoH.out
          have h2 := hMH.out
          cases M with
          | nil => have := List.drop_eq_nil_iff.1 h2; omega
          | cons c M => cases h1
        exact ⟨rfl, hsH.out, .inl ⟨hno, rfl⟩⟩
      · have hsoH := Lib.hid hsome; have hrd2 := Lib.hid hrd'
        clear hsome hrd'
        go_wp2_with fail
        have hM := hsoH.out
        cases M with
        | nil => cases hM
        | cons c M =>
          cases hM
          obtain ⟨h1, h2, h3⟩ := beV_take hMH.out
          have h4 := beV_small L (p := p + 1) (by omega)
          rw [hnH.out] at h1
          rw [h1] at h4
          refine ⟨⟨p + 1, by omega, h2, ?_, by go_num, by rw [h3]; exact hrd2.out, hsH.out⟩, by simp [Go.RowKit.intOf]; omega⟩
          rw [h1, or_byte h4]
    · obtain rfl : p = 8 := by omega
      go_wp2_with fail
      have h1 : intS L = some ((beV (L.take 8) : Int) - 9223372036854775808, L.drop 8) := if_neg (by omega)
      have h2 := beV_small L (p := 8) (by omega)
      have h3 : wrap64 (IntKind.u64.wrap ((beV (L.take 8) : Int) - 9223372036854775808)) = (beV (L.take 8) : Int) - 9223372036854775808 := by
        rw [IntKind.wrap_u64]
        unfold wrap64
        omega
      go_ret
      exact ⟨hstH.out, .inr ⟨_, _, h1, by rw [h3]; rfl, hrdH.out⟩⟩
open Go.RowKit Go.Lib

theorem textS_other {b : UInt8} {L : List UInt8} (h : b ≠ 0) : textS (b :: L) = (textS L).map (fun x => (b :: x.1, x.2)) := by
  cases L with
  | nil => rfl
  | cons m r => rw [textS, if_neg h]
theorem textS_end (r : List UInt8) : textS (0 :: 1 :: r) = some ([], r) := by rw [textS, if_pos rfl, if_pos rfl]
theorem textS_zero (r : List UInt8) : textS (0 :: 255 :: r) = (textS r).map (fun x => (0 :: x.1, x.2)) := by rw [textS, if_pos rfl, if_neg (by decide), if_pos rfl]
theorem textS_bad {m : UInt8} (r : List UInt8) (h1 : m ≠ 1) (h2 : m ≠ 255) : textS (0 :: m :: r) = none := by rw [textS, if_pos rfl, if_neg h1, if_neg h2]
theorem textS_on {L M M' acc : List UInt8} {b : UInt8} (h : textS L = (textS M).map (fun x => (acc ++ x.1, x.2))) (hM : textS M = (textS M').map (fun x => (b :: x.1, x.2))) : textS L = (textS M').map (fun x => ((acc ++ [b]) ++ x.1, x.2)) := by
  rw [h, hM]
  cases textS M' <;> simp
/-- How many bytes the reader has left. -/
def rdN (W0 w : World) : Nat := match w.cell? ⟨W0.heap.size, 0, none⟩ with
  | some (.slice _ n _) => n
  | _ => 0
theorem RdS.n {W0 w : World} {L : List UInt8} (h : RdS W0 w L) : rdN W0 w = L.length := by
  obtain ⟨A, c, h, _⟩ := h
  unfold rdN
  rw [h.cell 0 rfl]
theorem u8_ne {a b : UInt8} (h : a ≠ b) : ((a.toNat : Int) == (b.toNat : Int)) = false := by
  rw [beq_eq_false_iff_ne]
  intro q
  exact h (UInt8.toNat_inj.1 (by omega))
def RelTx (W0 w : World) (L : List UInt8) (s3 : Value) (wr : World) : Prop :=
  ∃ acc M, textS L = (textS M).map (fun x => (acc ++ x.1, x.2)) ∧ OwnU w.heap.size s3 acc wr ∧ RdS W0 wr M ∧ Stay W0.heap.size w.heap.size w wr ∧ acc.length + M.length ≤ L.length
theorem RdS.below {W0 w w' : World} {L : List UInt8} (h : RdS W0 w L) {B : Nat} (hb : Below B w w') (hB : W0.heap.size < B) : RdS W0 w' L := by
  obtain ⟨A, c, h1, h2, h3⟩ := h
  exact ⟨A, c, h1.below hb hB, h2, h3.trans (hb.mono (by omega))⟩
set_option maxHeartbeats 4000000 in
theorem rdText_any (W0 w : World) (L : List UInt8) (h : RdS W0 w L) (hl : L.length ≤ 1099511627776) :
    Calls Tryz.prog 107 #[readerP W0] w fun e w' => OutRd W0 (fun l : List UInt8 => .string ⟨l.toArray⟩) (textS L) w e w' := by
  have hH := Lib.hid h
  have hlt := h.lt
  clear h
  go_enter Tryz.func107, Tryz.ntmps107
  go_wp2_with fail
  go_loopw [3] (fun s3 wr => RelTx W0 w L s3 wr) (fun _ wr => rdN W0 wr)
  case atStart => exact ⟨[], L, by cases textS L <;> simp, World.ownsRow_nil _ _ _ _, hH.out, Stay.refl _ _ _, by simp⟩
  case round =>
    unfold RelTx at hrel
    obtain ⟨acc, M, htx, hown, hrd, hst, hle⟩ := hrel
    obtain ⟨A0, c0, rfl⟩ := hown.form
    have hownH := Lib.hid hown; have hrdH := Lib.hid hrd; have hstH := Lib.hid hst; have htxH := Lib.hid htx
    have hn := Lib.hid hrd.n
    clear hown hrd hst htx
    go_wp2_with fail
    refine (next_any W0 wr M hrdH.out).mono ?_
    rintro e w' ⟨hs, hcase⟩
    have hown1 := Lib.hid (hs.row hownH.out hlt)
    have hsH := Lib.hid (hstH.out.trans (hs.mono hstH.out.size))
    clear hs
    rcases hcase with ⟨hnone, rfl⟩ | ⟨b, M', hsome, rfl, hrd'⟩
    · have hno : Hid (textS L = none) := by
        have h1 := htxH.out
        cases M with
        | nil => exact h1
        | cons c M => cases hnone
      clear hnone
      go_wp2_with fail
      exact ⟨rfl, hsH.out, .inl ⟨hno.out, rfl⟩⟩
    · have hrd2 := Lib.hid hrd'
      obtain rfl : M = b :: M' := by
        cases M with
        | nil => cases hsome
        | cons c M => cases hsome; rfl
      clear hsome hrd'
      by_cases hz : b = 0
      · subst hz
        go_wp2_with fail
        refine (next_any W0 _ M' hrd2.out).mono ?_
        rintro e w2 ⟨hs2, hcase⟩
        have hown2 := Lib.hid (hs2.row hown1.out hlt)
        have hs2H := Lib.hid (hsH.out.trans (hs2.mono hsH.out.size))
        clear hs2
        rcases hcase with ⟨hnone, rfl⟩ | ⟨m, M2, hsome, rfl, hrd'⟩
        · have hno : Hid (textS L = none) := by
            have h1 := htxH.out
            cases M' with
            | nil => exact h1
            | cons c M => cases hnone
          clear hnone
          go_wp2_with fail
          exact ⟨rfl, hs2H.out, .inl ⟨hno.out, rfl⟩⟩
        · have hrd3 := Lib.hid hrd'
          obtain rfl : M' = m :: M2 := by
            cases M' with
            | nil => cases hsome
            | cons c M => cases hsome; rfl
          clear hsome hrd'
          by_cases h1 : m = 1
          · subst h1
            have hfin := Lib.hid (show textS L = some (acc, M2) by rw [htxH.out, textS_end]; simp)
            have hcv := conv_key hown2.out
            go_wp2_with fail
            go_ret
            exact ⟨hs2H.out, .inr ⟨acc, M2, hfin.out, rfl, hrd3.out⟩⟩
          · have hne1 : ((m.toNat : Int) == 1) = false := u8_ne h1
            by_cases h2 : m = 255
            · subst h2
              have hcs : Hid ((#[Value.int .u8 0] : Array Value) = (Lib.byteCells [0]).toArray) := by exact (show _ = _ by simp [Lib.byteCells])
              have htx2 := Lib.hid (textS_on htxH.out (textS_zero M2))
              have hsz := Lib.hid hs2H.out.size
              clear h1
              go_wp2_with fail
              refine (must_yes _ _).mono ?_
              rintro e w3 ⟨rfl, rfl⟩
              go_wp2_with (at_builtin; refine wpList_bytes rfl _ _ rfl w.heap.size _ _ w3 _ 1 [0] _ hcs.out (OwnK.start hown2.out hsz.out) rfl rfl rfl (by simp only [List.length_cons] at hle; omega) ?_; intro v' w4 hq; have hown3 := Lib.hid hq; clear hq)
              have hrd4 := Lib.hid (hrd3.out.below hown3.out.2.1 hlt)
              exact ⟨⟨acc ++ [0], M2, htx2.out, hown3.out.1, hrd4.out, hs2H.out.trans (Stay.of hown3.out.2.1), by simp only [List.length_cons, List.length_append, List.length_nil] at hle ⊢; omega⟩, by rw [hrd4.out.n, hn.out]; simp only [List.length_cons]; omega⟩
            · have hno := Lib.hid (show textS L = none by rw [htxH.out, textS_bad M2 h1 h2]; rfl)
              have hne2 : ((m.toNat : Int) == 255) = false := u8_ne h2
              clear h1 h2
              go_wp2_with fail
              refine (must_no _ _).mono ?_
              rintro e w3 ⟨rfl, rfl⟩
              go_wp2_with fail
              exact ⟨rfl, hs2H.out, .inl ⟨hno.out, rfl⟩⟩
      · have hne : ((b.toNat : Int) == 0) = false := u8_ne hz
        have hcs : Hid ((#[Value.int .u8 (b.toNat : Int)] : Array Value) = (Lib.byteCells [b]).toArray) := by exact (show _ = _ by simp [Lib.byteCells])
        have htx2 := Lib.hid (textS_on htxH.out (textS_other hz))
        have hsz := Lib.hid hsH.out.size
        clear hz
        go_wp2_with (at_builtin; refine wpList_bytes rfl _ _ rfl w.heap.size _ _ w' _ 1 [b] _ hcs.out (OwnK.start hown1.out hsz.out) rfl rfl rfl (by simp only [List.length_cons] at hle; omega) ?_; intro v' w2 hq; have hown2 := Lib.hid hq; clear hq)
        have hrd4 := Lib.hid (hrd2.out.below hown2.out.2.1 hlt)
        exact ⟨⟨acc ++ [b], M', htx2.out, hown2.out.1, hrd4.out, hsH.out.trans (Stay.of hown2.out.2.1), by simp only [List.length_cons, List.length_append, List.length_nil] at hle ⊢; omega⟩, by rw [hrd4.out.n, hn.out]; simp only [List.length_cons]; omega⟩
end Go.Proofs.YtpmfbmigdpmloaaGreatDoor
end
section
/-
  What datum.Check and its helpers answer, at this program: for every datum. Condition: unicode/utf8's two tables and internal/strconv's table of powers lie as their initialisers lay them.
-/
set_option linter.unusedVariables false
set_option linter.unusedSimpArgs false
namespace Go.Proofs.YtpmfbmigdpmloaaGreatDoor
open Go.RowKit Go.Lib

/-- The tables of Go's library that the proofs read, as the program's text lays them. -/
structure Tabs (w : World) : Prop where
  u8 : Lib.Utf8Tabs 0 1 w
  pow : Lib.TabIs Tryz.prog w "internal/strconv.uint64pow10" .u64 Lib.pow10Tab
  size : 3 < w.heap.size

theorem pow_global : Tryz.prog.globalNamed "internal/strconv.uint64pow10" = some 3 := by kernel_rfl

theorem Tabs.below {w w' : World} (h : Tabs w) (hb : Below w.heap.size w w') : Tabs w' := by
  refine ⟨Utf8Tabs_below h.u8 hb, ?_, Nat.lt_of_lt_of_le h.size hb.size⟩
  have hv := h.pow
  unfold Lib.TabIs World.var? at hv ⊢
  simp only [pow_global, Option.bind_some] at hv ⊢
  rw [hb.block 3 h.size]
  exact hv
theorem Tabs.alloc {w : World} (h : Tabs w) (o : Obj) : Tabs (w.alloc o) := h.below ((Below.refl _ _).alloc (Nat.le_refl _) _)
theorem Tabs.drew {w : World} (h : Tabs w) : Tabs w.drew := h.below (Below.refl _ _).drew

set_option maxHeartbeats 1000000 in
/-- datum.wellFormed -/
theorem wellFormed_any (k : Int) (b : Bool) (n : Int) (s : ByteArray) (w : World) (hT : Tabs w) (hs : s.size ≤ 9223372036854775807) :
    Calls Tryz.prog 60 #[.agg #[.int .u8 k, .bool b, .int .i64 n, .string s]] w fun e w' => e = .returned (.bool (form ⟨k, b, n, s⟩)) ∧ Below w.heap.size w w' := by
  have hTH := Lib.hid hT
  clear hT
  by_cases h1 : k = 1
  · subst h1
    by_cases hn : n = 0
    · subst hn
      cases b with
      | true =>
        have hf : form ⟨1, true, 0, s⟩ = false := rfl
        rw [hf]; clear hf
        go_enter Tryz.func60, Tryz.ntmps60
        go_wp2
        go_ret
        exact ⟨rfl, by go_grown⟩
      | false =>
        have hf : form ⟨1, false, 0, s⟩ = decide (s.size = 0) := by simp [form]
        rw [hf]; clear hf
        go_enter Tryz.func60, Tryz.ntmps60
        go_wp2
        go_ret
        exact ⟨ret_bool (toList_size s), by go_grown⟩
    · have hf : form ⟨1, b, n, s⟩ = false := by simp [form, hn]
      rw [hf]; clear hf
      go_enter Tryz.func60, Tryz.ntmps60
      go_wp2
      go_ret
      exact ⟨rfl, by go_grown⟩
  · by_cases h3 : k = 3
    · subst h3
      cases b with
      | true =>
        have hf : form ⟨3, true, n, s⟩ = false := rfl
        rw [hf]; clear hf
        go_enter Tryz.func60, Tryz.ntmps60
        go_wp2
        go_ret
        exact ⟨rfl, by go_grown⟩
      | false =>
        have hf : form ⟨3, false, n, s⟩ = decide (s.size = 0) := by simp [form]
        rw [hf]; clear hf
        go_enter Tryz.func60, Tryz.ntmps60
        go_wp2
        go_ret
        exact ⟨ret_bool (toList_size s), by go_grown⟩
    · by_cases h2 : k = 2
      · subst h2
        by_cases hn : n = 0
        · subst hn
          have hf : form ⟨2, b, 0, s⟩ = decide (s.size = 0) := by simp [form]
          rw [hf]; clear hf
          go_enter Tryz.func60, Tryz.ntmps60
          go_wp2
          go_ret
          exact ⟨ret_bool (toList_size s), by go_grown⟩
        · have hf : form ⟨2, b, n, s⟩ = false := by simp [form, hn]
          rw [hf]; clear hf
          go_enter Tryz.func60, Tryz.ntmps60
          go_wp2
          go_ret
          exact ⟨rfl, by go_grown⟩
      · by_cases h4 : k = 4
        · subst h4
          cases b with
          | true =>
            have hf : form ⟨4, true, n, s⟩ = false := rfl
            rw [hf]; clear hf
            go_enter Tryz.func60, Tryz.ntmps60
            go_wp2
            go_ret
            exact ⟨rfl, by go_grown⟩
          | false =>
            by_cases hn : n = 0
            · subst hn
              have hf : form ⟨4, false, 0, s⟩ = validD s.data.toList := by simp [form]
              rw [hf]; clear hf
              go_enter Tryz.func60, Tryz.ntmps60
              go_wp2_with fail
              refine (Tryz.utf8_ValidString s _ hs (hTH.out.alloc _).u8).mono ?_
              rintro e w' ⟨rfl, hb⟩
              go_wp2
              go_ret
              exact ⟨rfl, chainB (by go_grown) hb (by simp)⟩
            · have hf : form ⟨4, false, n, s⟩ = false := by simp [form, hn]
              rw [hf]; clear hf
              go_enter Tryz.func60, Tryz.ntmps60
              go_wp2
              go_ret
              exact ⟨rfl, by go_grown⟩
        · have hf : form ⟨k, b, n, s⟩ = false := by simp [form, h1, h2, h3, h4]
          rw [hf]; clear hf
          go_enter Tryz.func60, Tryz.ntmps60
          go_wp2
          go_ret
          exact ⟨rfl, by go_grown⟩

set_option maxHeartbeats 1000000 in
/-- datum.Check -/
theorem check_any (k : Int) (b : Bool) (n : Int) (s : ByteArray) (w : World) (hT : Tabs w) (hs : s.size ≤ 9223372036854775807) :
    Calls Tryz.prog 35 #[.agg #[.int .u8 k, .bool b, .int .i64 n, .string s]] w fun e w' => e = .returned (.int .u16 (chk ⟨k, b, n, s⟩)) ∧ Below w.heap.size w w' := by
  have hTH := Lib.hid hT
  clear hT
  cases hf : form ⟨k, b, n, s⟩ with
  | false =>
    have hc := Lib.hid (chk_bad hf)
    go_enter Tryz.func35, Tryz.ntmps35
    go_wp2_with fail
    refine (wellFormed_any k b n s _ (hTH.out.alloc _) hs).mono ?_
    rintro e w' ⟨rfl, hb⟩
    go_wp2
    go_ret
    exact ⟨ret_int hc.out.symm, chainB (by go_grown) hb (by simp)⟩
  | true =>
    have hc := Lib.hid (chk_of_form hf)
    by_cases hl : 1000 < s.size
    · go_enter Tryz.func35, Tryz.ntmps35
      go_wp2_with fail
      refine (wellFormed_any k b n s _ (hTH.out.alloc _) hs).mono ?_
      rintro e w' ⟨rfl, hb⟩
      have hcell : w'.cell? ⟨w.heap.size, 3, none⟩ = some (.string s) := by rw [hb.cell (by simp)]; exact cell_new w _ _ 3
      have hlz : (1000 : Int) < (s.size : Int) := by omega
      go_wp2
      go_ret
      exact ⟨ret_int (by rw [hc.out]; simp [hl]), chainB (by go_grown) hb (by simp)⟩
    · go_enter Tryz.func35, Tryz.ntmps35
      go_wp2_with fail
      refine (wellFormed_any k b n s _ (hTH.out.alloc _) hs).mono ?_
      rintro e w' ⟨rfl, hb⟩
      have hcell : w'.cell? ⟨w.heap.size, 3, none⟩ = some (.string s) := by rw [hb.cell (by simp)]; exact cell_new w _ _ 3
      have hlz : ¬ (1000 : Int) < (s.size : Int) := by omega
      go_wp2
      go_ret
      exact ⟨ret_int (by rw [hc.out]; simp [hl]), chainB (by go_grown) hb (by simp)⟩

/-- Is a datum null, or of a kind, and may it be? -/
def fitsD (kk : Int) (d : Dat) : Bool := okD d && (d.k == kk || d.k == 1)

theorem okD_chk {d : Dat} (h : okD d = true) : chk d = 0 := by simpa [okD] using h
theorem okD_chk_ne {d : Dat} (h : okD d = false) : (chk d == 0) = false := by simpa [okD] using h

end Go.Proofs.YtpmfbmigdpmloaaGreatDoor
end
section
/-
  (*strings.Builder).copyCheck, WriteByte, WriteString at this program: what each does to a builder that the call has made. Condition: the new length takes at most 2^47 bytes.
-/
set_option linter.unusedVariables false
set_option linter.unusedSimpArgs false
namespace Go.Proofs.YtpmfbmigdpmloaaGreatDoor
open Go.RowKit Go.Lib

theorem own_info_builder : (Tryz.prog.info? 96).map (·.size) = some 2 := by kernel_rfl
theorem own_lies_builder : liesAt Tryz.prog Tryz.prog.depth 96 (2 / Tryz.prog.cellsOf 96) 0 96 1 = true := by kernel_rfl
theorem own_info_byte : (Tryz.prog.info? 5).map (fun i => (i.zero, i.size, i.bytes)) = some (some (.int .u8 0), 1, 1) := by kernel_rfl

set_option maxHeartbeats 1000000 in
set_option maxRecDepth 100000 in
theorem copyCheck_new (b : Nat) (w : World) (h0 : w.cell? ⟨b, 0, none⟩ = some (.pointer none)) (hsh : w.shape? b = some (96, 2)) (hfz : w.frozen? ⟨b, 0, none⟩ = false) :
    Calls Tryz.prog 89 #[.pointer (some ⟨b, 0, none⟩)] w fun e w' => e = .returned (.tuple #[]) ∧ w' = w.setCell ⟨b, 0, none⟩ (.pointer (some ⟨b, 0, none⟩)) := by
  obtain ⟨j, hj, hjs⟩ := Option.map_eq_some_iff.1 own_info_builder
  go_enter Tryz.func89, Tryz.ntmps89
  go_wp2
  rw [Lib.run_to_unsafe w ⟨b, 0, none⟩ Tryz.underlying94 Tryz.underlying150 hj (by rw [hjs]; decide) hsh (Nat.zero_lt_succ 1)]
  simp only [Result.andThen]
  rw [Oper.upon_value]
  go_wp2
  rw [run_callFunc_extern Tryz.func115 (by kernel_rfl) (by kernel_rfl) (by kernel_rfl) (e := Extern.AbiNoEscape.same) (by kernel_rfl)]
  rw [Lib.run_noEscape]
  simp only [Result.andThen]
  rw [Oper.upon_value]
  go_wp2
  rw [Lib.run_from_unsafe w ⟨b, 0, none⟩ Tryz.underlying150 Tryz.underlying94 hj hsh own_lies_builder]
  simp only [Result.andThen]
  rw [Oper.upon_value]
  go_wp2
  go_end0
  exact ⟨rfl, rfl⟩

set_option maxHeartbeats 1000000 in
set_option maxRecDepth 100000 in
theorem copyCheck_old (b : Nat) (w : World) (h0 : w.cell? ⟨b, 0, none⟩ = some (.pointer (some ⟨b, 0, none⟩))) :
    Calls Tryz.prog 89 #[.pointer (some ⟨b, 0, none⟩)] w fun e w' => e = .returned (.tuple #[]) ∧ w' = w := by
  obtain ⟨j, hj, _⟩ := Option.map_eq_some_iff.1 own_info_builder
  go_enter Tryz.func89, Tryz.ntmps89
  go_wp2
  rw [Lib.run_neq_ptr_same w _ Tryz.underlying94 hj]
  go_wp2
  go_end0
  exact ⟨rfl, rfl⟩

theorem copyCheck_k (B b : Nat) (bs : List Value) (w : World) (h : Lib.IsBuilderF 96 5 B b bs w) :
    Calls Tryz.prog 89 #[.pointer (some ⟨b, 0, none⟩)] w fun e w' => e = .returned (.tuple #[]) ∧ (Lib.BuilderAtF 96 5 B b (.pointer (some ⟨b, 0, none⟩)) bs w' ∧ Below B w w' ∧ Lib.OthersKept 5 (some b) w w') := by
  rcases h with h | h
  · refine (copyCheck_new b w h.cell0 h.shape h.frozen0).mono fun e w' ⟨he, hw⟩ => ?_
    subst hw
    exact ⟨he, h.used _, (Below.refl B w).setCell (p := ⟨b, 0, none⟩) h.1 _, (Lib.OthersKept.refl _ _ w).setCell ⟨b, 0, none⟩ rfl _⟩
  · refine (copyCheck_old b w h.cell0).mono fun e w' ⟨he, hw⟩ => ?_
    subst hw
    exact ⟨he, h, Below.refl B _, Lib.OthersKept.refl _ _ _⟩

theorem lt_of_block {w : World} {b : Nat} {o : Obj} (h : w.heap[b]? = some o) : b < w.heap.size := by
  rcases Nat.lt_or_ge b w.heap.size with h' | h'
  · exact h'
  · simp [Array.getElem?_eq_none h'] at h

theorem slice_of_own {w : World} {B e sz n : Nat} {v : Value} {xs : List Value} (h : w.ownsRowF B e sz v n xs) : ∃ ao n' cap, v = .slice ao n' cap := by
  rcases h.2 with ⟨hv, _⟩ | ⟨g, cap, cur, fz, hv, _⟩
  · exact ⟨_, _, _, hv⟩
  · exact ⟨_, _, _, hv⟩

/-- What the block of a builder, and every other block, is behind an append to its own row. -/
theorem kept_of_append {w1 w2 : World} {B b n : Nat} {v p : Value} {xs : List Value} (hown : w1.ownsRowF B 5 1 v n xs) (hne : v.ownBlock ≠ some b) (hbk : w1.heap[b]? = some (.cells #[p, v] 96 (0, 0))) (hg : w1.grownBy w2 v.ownBlock) :
    w2.heap[b]? = some (.cells #[p, v] 96 (0, 0)) ∧ Lib.OthersKept 5 (some b) w1 w2 := by
  refine ⟨?_, (Lib.OthersKept.refl _ _ w1).grown hg ?_⟩
  · rw [hg.block b (lt_of_block hbk) (fun e => hne e.symm)]
    exact hbk
  · intro g hgb
    rcases hown.2 with ⟨rfl, _⟩ | ⟨g', cap, cur, fz, rfl, _, hcur, _⟩
    · cases hgb
    · simp only [Value.ownBlock, Option.some.injEq] at hgb
      subst hgb
      exact ⟨cur, fz, hcur⟩

set_option maxHeartbeats 2000000 in
set_option maxRecDepth 100000 in
theorem writeByte_k (B b : Nat) (bs : List Value) (c : Int) (w : World) (h : Lib.IsBuilderF 96 5 B b bs w) (hlen : bs.length + 1 ≤ 140737488355328) (hBw : B ≤ w.heap.size) :
    Calls Tryz.prog 87 #[.pointer (some ⟨b, 0, none⟩), .int .u8 c] w fun e w' => e = .returned .nilIface ∧ (Lib.BuilderAtF 96 5 B b (.pointer (some ⟨b, 0, none⟩)) (bs ++ [.int .u8 c]) w' ∧ Below B w w' ∧ Lib.OthersKept 5 (some b) w w') := by
  obtain ⟨i0, hi, hz0, hz1, hz2⟩ := info_parts own_info_byte
  go_enter Tryz.func87, Tryz.ntmps87
  go_wp2_with (go_at_call 89; refine (copyCheck_k B b bs _ h).mono ?_)
  rintro e w1 ⟨rfl, h1, hb1, hk1⟩
  obtain ⟨hB, v, hbk, hown, hne⟩ := h1
  have c0 : w1.cell? ⟨b, 0, none⟩ = some (.pointer (some ⟨b, 0, none⟩)) := by rw [Lib.cell_of_heap hbk]; rfl
  have c1 : w1.cell? ⟨b, 1, none⟩ = some v := by rw [Lib.cell_of_heap hbk]; rfl
  go_wp2_with (at_builtin; refine wpList_append_ownF _ rfl _ _ 31 rfl B 5 i0 (.int .u8 0) 1 1 Tryz.underlying31 hi hz0 hz1 hz2 rfl (by decide) _ _ _ rfl (hown.alloc _) ⟨w1.heap.size, 0, none⟩ 1 1 [.int .u8 c] rfl rfl ?c1 ?c2 ?c3 ?c4 ?c5 ?_)
  case c1 =>
    intro j u hj
    match j, hj with
    | 0, hj => simp at hj; subst hj; simp [Addr.add]
  case c2 => intro u hu; simp at hu; subst hu; rfl
  case c3 => unfold maxLen; omega
  case c4 => omega
  case c5 => have := hb1.size; simp; omega
  intro v' w2 hown' hgrow _
  have hbkA : (w1.alloc (.cells #[.int .u8 c] 5)).heap[b]? = some (.cells #[.pointer (some ⟨b, 0, none⟩), v] 96 (0, 0)) := by
    rw [Lib.alloc_old _ _ _ (lt_of_block hbk)]; exact hbk
  obtain ⟨hb2, hk2⟩ := kept_of_append (hown.alloc _) hne hbkA hgrow
  have d0 : w2.cell? ⟨b, 0, none⟩ = some (.pointer (some ⟨b, 0, none⟩)) := by rw [Lib.cell_of_heap hb2]; rfl
  have d1 : w2.cell? ⟨b, 1, none⟩ = some v := by rw [Lib.cell_of_heap hb2]; rfl
  have f1 : w2.frozen? ⟨b, 1, none⟩ = false := Lib.frozen_of_heap hb2 1
  obtain ⟨ao, n', cap, rfl⟩ := slice_of_own hown'
  go_wp2
  go_ret
  refine ⟨rfl, ?_, ?_, ?_⟩
  · exact Lib.BuilderAtF.put (T := 96) (e := 5) hB hb2 (bs' := bs ++ [.int .u8 c]) (by simpa using hown') (by decide)
  · exact ((hb1.alloc (by have := hb1.size; omega) _).grown hgrow (by have := hb1.size; simp; omega) (fun k hk => (hown.lt k hk).1)).setCell (p := ⟨b, 1, none⟩) hB _
  · exact ((hk1.alloc _).trans hk2).setCell ⟨b, 1, none⟩ rfl _

set_option maxHeartbeats 2000000 in
set_option maxRecDepth 100000 in
theorem writeString_k (B b : Nat) (bs : List Value) (s : ByteArray) (w : World) (h : Lib.IsBuilderF 96 5 B b bs w) (hlen : bs.length + s.size ≤ 140737488355328) (hBw : B ≤ w.heap.size) :
    Calls Tryz.prog 56 #[.pointer (some ⟨b, 0, none⟩), .string s] w fun e w' => e = .returned (.tuple #[.int .i64 s.size, .nilIface]) ∧ (Lib.BuilderAtF 96 5 B b (.pointer (some ⟨b, 0, none⟩)) (bs ++ Lib.strCells s) w' ∧ Below B w w' ∧ Lib.OthersKept 5 (some b) w w') := by
  obtain ⟨i0, hi, hz0, hz1, hz2⟩ := info_parts own_info_byte
  go_enter Tryz.func56, Tryz.ntmps56
  go_wp2_with (go_at_call 89; refine (copyCheck_k B b bs _ h).mono ?_)
  rintro e w1 ⟨rfl, h1, hb1, hk1⟩
  obtain ⟨hB, v, hbk, hown, hne⟩ := h1
  have c0 : w1.cell? ⟨b, 0, none⟩ = some (.pointer (some ⟨b, 0, none⟩)) := by rw [Lib.cell_of_heap hbk]; rfl
  have c1 : w1.cell? ⟨b, 1, none⟩ = some v := by rw [Lib.cell_of_heap hbk]; rfl
  go_wp2_with (at_builtin; refine Lib.wpList_append_own_stringF _ rfl _ _ 31 9 rfl B 5 i0 Tryz.underlying31 Tryz.underlying9 hi hz0 hz1 hz2 _ _ _ rfl hown s rfl ?c3 ?c4 ?c5 ?_)
  case c3 => unfold maxLen; omega
  case c4 => omega
  case c5 => have := hb1.size; omega
  intro v' w2 hown' hgrow _
  obtain ⟨hb2, hk2⟩ := kept_of_append hown hne hbk hgrow
  have d0 : w2.cell? ⟨b, 0, none⟩ = some (.pointer (some ⟨b, 0, none⟩)) := by rw [Lib.cell_of_heap hb2]; rfl
  have d1 : w2.cell? ⟨b, 1, none⟩ = some v := by rw [Lib.cell_of_heap hb2]; rfl
  have f1 : w2.frozen? ⟨b, 1, none⟩ = false := Lib.frozen_of_heap hb2 1
  obtain ⟨ao, n', cap, rfl⟩ := slice_of_own hown'
  go_wp2
  go_ret2
  refine ⟨rfl, ?_, ?_, ?_⟩
  · exact Lib.BuilderAtF.put (T := 96) (e := 5) hB hb2 (bs' := bs ++ Lib.strCells s) (by simpa [Lib.strCells_length] using hown') (by decide)
  · exact (hb1.grown hgrow (by have := hb1.size; omega) (fun k hk => (hown.lt k hk).1)).setCell (p := ⟨b, 1, none⟩) hB _
  · exact (hk1.trans hk2).setCell ⟨b, 1, none⟩ rfl _
end Go.Proofs.YtpmfbmigdpmloaaGreatDoor
end
