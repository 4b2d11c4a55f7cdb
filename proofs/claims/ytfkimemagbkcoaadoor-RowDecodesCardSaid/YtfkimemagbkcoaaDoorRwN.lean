/-
  Words for row.Sum, at this program: what its rounds make of the counted rows; rows that lie in blocks of their own. Nothing is walked here. Conditions: those written.
-/
import Derived.Test.YtfkimemagbkcoaaDoorRwT
import Derived.Test.YtfkimemagbkcoaaDoorRwH
import Derived.Test.YtfkimemagbkcoaaDoorRowS
set_option linter.unusedVariables false
set_option linter.unusedSimpArgs false
namespace Go.Proofs.YtfkimemagbkcoaaDoor
open Go.RowKit Go.Lib Go.Proofs

/-- A counted row with another count. -/
def setN (y : Cd) (n : Int) : Cd := (⟨y.1.A, y.1.k, y.1.c, n⟩, y.2)
def withD (acc : List Cd) (d : Cd) : List Cd := if keyR d.2 ∈ (acc.map cnD).map keyN then acc else acc ++ [setN d 0]
def addD (acc : List Cd) (d : Cd) : List Cd := (withD acc d).modify (placeN ((acc.map cnD).map keyN) (keyR d.2)) (fun y => setN y (wrap64 (y.1.n + d.1.n)))
def sumD (l : List Cd) : List Cd := l.foldl addD []
theorem map_modify {α β : Type} (f : α → β) (g : α → α) (h : β → β) (e : ∀ x, f (g x) = h (f x)) : ∀ (l : List α) (i : Nat), (l.modify i g).map f = (l.map f).modify i h := by
  intro l i
  apply List.ext_getElem?
  intro j
  rw [List.getElem?_map, List.getElem?_modify, List.getElem?_modify, List.getElem?_map]
  cases l[j]? with
  | none => simp
  | some y => by_cases c : i = j <;> simp [c, e]
theorem addD_cn (acc : List Cd) (d : Cd) : (addD acc d).map cnD = addN (acc.map cnD) (cnD d) := by
  unfold addD addN
  rw [map_modify cnD _ (fun y => (y.1, wrap64 (y.2 + d.1.n))) (fun x => rfl)]
  have : (withD acc d).map cnD = withN (acc.map cnD) (cnD d).1 := by
    unfold withD withN
    show _ = if keyR d.2 ∈ (acc.map cnD).map keyN then _ else _
    split
    · rfl
    · rw [List.map_append]; rfl
  rw [this]
  rfl
theorem sumD_cn (l : List Cd) : (sumD l).map cnD = sumN (l.map cnD) := by
  have h : ∀ (l acc : List Cd), (l.foldl addD acc).map cnD = (l.map cnD).foldl addN (acc.map cnD) := by
    intro l
    induction l with
    | nil => intro acc; rfl
    | cons d l ih => intro acc; rw [List.foldl_cons, ih, addD_cn]; rfl
  exact h l []
theorem sumD_snoc (l : List Cd) (d : Cd) : sumD (l ++ [d]) = addD (sumD l) d := by simp [sumD, List.foldl_append]
theorem sumD_take {l : List Cd} {p : Nat} {d : Cd} (h : l[p]? = some d) : sumD (l.take (p + 1)) = addD (sumD (l.take p)) d := by
  obtain ⟨hp, rfl⟩ := List.getElem?_eq_some_iff.1 h
  rw [List.take_succ_eq_append_getElem hp, sumD_snoc]
theorem sumD_len (l : List Cd) : (sumD l).length ≤ l.length := by
  have := sum_len (l.map cnD)
  rw [← sumD_cn, List.length_map, List.length_map] at this
  exact this
theorem addD_rows {w : World} {acc : List Cd} {d : Cd} (h : ∀ a ∈ acc, RowV w (valD a) a.2) (hd : RowV w (valD d) d.2) : ∀ a ∈ addD acc d, RowV w (valD a) a.2 := by
  intro a ha
  have h1 : ∀ a ∈ withD acc d, RowV w (valD a) a.2 := by
    intro b hb
    unfold withD at hb
    split at hb
    · exact h b hb
    · rcases List.mem_append.1 hb with hb | hb
      · exact h b hb
      · simp at hb; subst hb; exact hd
  obtain ⟨i, hi⟩ := List.mem_iff_getElem?.1 ha
  unfold addD at hi
  rw [List.getElem?_modify] at hi
  cases hy : (withD acc d)[i]? with
  | none => rw [hy] at hi; simp at hi
  | some y =>
    have h2 := h1 y (List.mem_of_getElem? hy)
    rw [hy] at hi
    split at hi <;> (simp at hi; subst hi; exact h2)
theorem sumD_rows {w : World} {l : List Cd} (h : ∀ a ∈ l, RowV w (valD a) a.2) : ∀ a ∈ sumD l, RowV w (valD a) a.2 := by
  have g : ∀ (l acc : List Cd), (∀ a ∈ l, RowV w (valD a) a.2) → (∀ a ∈ acc, RowV w (valD a) a.2) → ∀ a ∈ l.foldl addD acc, RowV w (valD a) a.2 := by
    intro l
    induction l with
    | nil => intro acc _ h; exact h
    | cons d l ih => intro acc hl ha; exact ih _ (fun x hx => hl x (by simp [hx])) (addD_rows ha (hl d (by simp)))
  exact g l [] h (by simp)
theorem withD_seen {acc : List Cd} {d : Cd} (h : keyR d.2 ∈ (acc.map cnD).map keyN) : withD acc d = acc := if_pos h
theorem withD_new {acc : List Cd} {d : Cd} (h : keyR d.2 ∉ (acc.map cnD).map keyN) : withD acc d = acc ++ [setN d 0] := if_neg h
theorem keys_new {acc : List Cd} {d : Cd} (h : keyR d.2 ∉ (acc.map cnD).map keyN) : ((addD acc d).map cnD).map keyN = (acc.map cnD).map keyN ++ [keyR d.2] := by
  rw [addD_cn, keys_add, keys_with]
  exact if_neg h
theorem keys_seen {acc : List Cd} {d : Cd} (h : keyR d.2 ∈ (acc.map cnD).map keyN) : ((addD acc d).map cnD).map keyN = (acc.map cnD).map keyN := by
  rw [addD_cn, keys_add, keys_with]
  exact if_pos h
/-- The count of one is written. -/
theorem OwnC.bump {g cap : Nat} {xs : List Cd} {w : World} (h : OwnC g cap (xs.map (·.1)) w) {i : Nat} {y : Cd} (hy : xs[i]? = some y) (f : Int → Int) :
    OwnC g cap ((xs.modify i (fun y => setN y (f y.1.n))).map (·.1)) (w.setCell ⟨g, i * 2 + 1, none⟩ (.int .i64 (f y.1.n))) := by
  have hi : i < xs.length := (List.getElem?_eq_some_iff.1 hy).1
  have h1 := OwnL.set h (i := i) (j := 1) (by simpa using hi) (by omega) (.int .i64 (f y.1.n))
  have e : ((xs.map (·.1)).map cellsV).modify i (·.set 1 (.int .i64 (f y.1.n))) = ((xs.modify i (fun y => setN y (f y.1.n))).map (·.1)).map cellsV := by
    apply List.ext_getElem?
    intro j
    rw [List.getElem?_modify, List.getElem?_map, List.getElem?_map, List.getElem?_map, List.getElem?_map, List.getElem?_modify]
    by_cases c : i = j
    · subst c; rw [hy]; simp [setN, cellsV]
    · cases xs[j]? <;> simp [c]
  rw [e] at h1
  exact h1
/-- The row of one is written. -/
theorem OwnC.lay {g cap : Nat} {xs : List Cd} {w : World} (h : OwnC g cap (xs.map (·.1)) w) {i : Nat} {y : Cd} (hy : xs[i]? = some y) (A : Option Addr) (k c : Nat) :
    OwnC g cap ((xs.set i (⟨A, k, c, y.1.n⟩, y.2)).map (·.1)) (w.setCell ⟨g, i * 2, none⟩ (.slice A k c)) := by
  have hi : i < xs.length := (List.getElem?_eq_some_iff.1 hy).1
  have h1 := OwnL.set h (i := i) (j := 0) (by simpa using hi) (by omega) (.slice A k c)
  have e : ((xs.map (·.1)).map cellsV).modify i (·.set 0 (.slice A k c)) = ((xs.set i (⟨A, k, c, y.1.n⟩, y.2)).map (·.1)).map cellsV := by
    apply List.ext_getElem?
    intro j
    rw [List.getElem?_modify, List.getElem?_map, List.getElem?_map, List.getElem?_map, List.getElem?_map, List.getElem?_set]
    by_cases c : i = j
    · subst c; rw [hy]; simp [hi, cellsV]
    · cases xs[j]? <;> simp [c]
  rw [e] at h1
  exact h1
theorem OwnC.two {g cap : Nat} {xs : List Cd} {w : World} (h : OwnC g cap (xs.map (·.1)) w) {i : Nat} {y : Cd} (hy : xs[i]? = some y) :
    w.cell? ⟨g, i * 2, none⟩ = some (.slice y.1.A y.1.k y.1.c) ∧ w.cell? ⟨g, i * 2 + 1, none⟩ = some (.int .i64 y.1.n) :=
  OwnC.cells h (i := i) (x := y.1) (by rw [List.getElem?_map, hy]; rfl)
theorem OwnU.form {B : Nat} {v : Value} {l : List UInt8} {w : World} (h : OwnU B v l w) : ∃ A c, v = .slice A l.length c := by
  rcases h.2 with ⟨rfl, h0⟩ | ⟨g, cap, cur, rfl, _⟩
  · exact ⟨none, 0, by rw [h0]⟩
  · exact ⟨_, _, rfl⟩
theorem OwnCs.row {B : Nat} {A : Option Addr} {n c : Nat} {ds : List Cd} {w : World} (h : OwnCs B (.slice A n c) ds w) (hn : 0 < ds.length) : ∃ g, A = some ⟨g, 0, none⟩ ∧ n = ds.length ∧ B ≤ g ∧ OwnC g c (ds.map (·.1)) w := by
  rcases h.slice with ⟨_, rfl⟩ | ⟨g, cap, e, hB, ho⟩
  · simp at hn
  · obtain ⟨rfl, h2, rfl⟩ := Value.slice.inj e
    exact ⟨g, rfl, h2, hB, ho⟩
theorem OwnCs.lenN {B n : Nat} {v : Value} {ds : List Cd} {w : World} (h : OwnCs B v ds w) (hn : ds.length = n) : ∃ A c N, N = n ∧ v = .slice A N c := by
  obtain ⟨A, c, rfl⟩ := h.len
  exact ⟨A, c, _, hn, rfl⟩
theorem OwnCs.of' {B g cap n : Nat} {ds : List Cd} {w : World} (h : OwnC g cap (ds.map (·.1)) w) (hB : B ≤ g) (hn : ds.length = n) : OwnCs B (.slice (some ⟨g, 0, none⟩) n cap) ds w := by
  subst hn
  exact OwnCs.of h hB
theorem place_in {acc : List Cd} {r : List Dat} (h : keyR r ∈ (acc.map cnD).map keyN) : placeN ((acc.map cnD).map keyN) (keyR r) < acc.length := by
  have := placeN_lt (acc.map cnD) r
  unfold withN at this
  rw [if_pos h, List.length_map] at this
  exact this
theorem sumD_pos {l : List Cd} (h : l ≠ []) : 0 < (sumD l).length := by
  obtain ⟨d, m, rfl⟩ : ∃ d m, l = m ++ [d] := ⟨l.getLast h, l.dropLast, (List.dropLast_concat_getLast h).symm⟩
  rw [sumD_snoc]
  unfold addD withD
  rw [List.length_modify]
  split
  · have := List.length_pos_of_mem (by assumption)
    simpa using this
  · simp
theorem mix_at {α : Type} {f r : List α} {p : Nat} (h : f.length = p) : (f ++ r.drop p)[p]? = r[p]? := by
  rw [List.getElem?_append_right (by omega), List.getElem?_drop]
  congr 1
  omega
theorem mix_set {α : Type} {f r : List α} {p : Nat} (h : f.length = p) (hp : p < r.length) (x : α) : (f ++ r.drop p).set p x = (f ++ [x]) ++ r.drop (p + 1) := by
  rw [List.set_append_right _ _ (by omega), h, Nat.sub_self, List.drop_eq_getElem_cons hp, List.set_cons_zero, List.append_assoc]
  rfl
theorem szR_mem {l : List Dat} {d : Dat} (h : d ∈ l) : szD d.s ≤ szR l := by
  induction l with
  | nil => cases h
  | cons e l ih =>
    rw [szR]
    rcases List.mem_cons.1 h with rfl | h
    · omega
    · have := ih h; omega
/-- Each row that is told was handed in. -/
theorem sumD_mem {l : List Cd} : ∀ a ∈ sumD l, ∃ b ∈ l, a.2 = b.2 := by
  intro a ha
  have h1 : cnD a ∈ sumN (l.map cnD) := by rw [← sumD_cn]; exact List.mem_map_of_mem ha
  obtain ⟨y, hy, e⟩ := sum_rows _ _ h1
  obtain ⟨b, hb, rfl⟩ := List.mem_map.1 hy
  exact ⟨b, hb, e⟩
/-- A counted row's variable. -/
theorem OwnC.box (w : World) (x : Cv) : OwnC w.heap.size 1 [x] (w.alloc (.cells #[.slice x.A x.k x.c, .int .i64 x.n] 45)) :=
  ⟨fun y hy => by simp at hy; subst hy; rfl, by simp, by decide, _, heap_alloc_new w _, rfl, rfl⟩
/-- A block of rows of k cells, as a slice. -/
theorem OwnL.slV {T : TypeId} {k g cap : Nat} {xs : List (List Value)} {w : World} (h : OwnL T k g cap xs w) : SlV w k (.slice (some ⟨g, 0, none⟩) xs.length cap) xs.length xs.flatten := by
  refine ⟨flat_len xs h.1, _, _, rfl, h.len, by have := h.capLe; unfold maxLen at this; omega, fun q => (by cases q), fun _ => ⟨_, rfl, h.lt, fun j u hj => ?_⟩⟩
  obtain ⟨_, _, _, cur, hg, _, h5⟩ := h
  rw [← h5, List.getElem?_take] at hj
  split at hj
  · rw [show (⟨g, 0, none⟩ : Addr).add j = ⟨g, j, none⟩ by unfold Addr.add; split <;> simp_all]
    simp only [World.cell?, hg]
    simpa using hj
  · cases hj
theorem OwnL.rowV {g cap : Nat} {l : List Dat} {w : World} (h : OwnL 79 4 g cap (l.map cellsD) w) : RowV w (.slice (some ⟨g, 0, none⟩) l.length cap) l := by
  have := h.slV
  rw [List.length_map, flatten_cells] at this
  exact this
/-- The row of a counted one lies in a block of its own, from B on, that has room for it alone. -/
def FreshD (B : Nat) (w : World) (d : Cd) : Prop := ∃ gd, d.1.A = some ⟨gd, 0, none⟩ ∧ d.1.k = d.2.length ∧ d.1.c = d.2.length ∧ B ≤ gd ∧ OwnL 79 4 gd d.2.length (d.2.map cellsD) w
/-- These counted rows' rows do, each in another one. -/
def FreshL (B : Nat) (w : World) (f : List Cd) : Prop := (∀ d ∈ f, FreshD B w d) ∧ f.Pairwise (fun a b => a.1.A ≠ b.1.A)
theorem FreshD.below {B : Nat} {w w' : World} {d : Cd} (h : FreshD B w d) (hb : Below w.heap.size w w') : FreshD B w' d := by
  obtain ⟨gd, h1, h2, h3, h4, h5⟩ := h
  exact ⟨gd, h1, h2, h3, h4, h5.below hb⟩
theorem FreshL.below {B : Nat} {w w' : World} {f : List Cd} (h : FreshL B w f) (hb : Below w.heap.size w w') : FreshL B w' f := ⟨fun d hd => (h.1 d hd).below hb, h.2⟩
theorem FreshD.rowV {B : Nat} {w : World} {d : Cd} (h : FreshD B w d) : RowV w (valD d) d.2 := by
  obtain ⟨gd, h1, h2, h3, h4, h5⟩ := h
  unfold valD
  rw [h1, h2, h3]
  exact h5.rowV
theorem OwnL.apart {T T' : TypeId} {k k' g g' cap cap' : Nat} {xs xs' : List (List Value)} {w : World} (h : OwnL T k g cap xs w) (h' : OwnL T' k' g' cap' xs' w) (hT : T ≠ T') : g ≠ g' := by
  rintro rfl
  obtain ⟨_, _, _, cur, hg, _⟩ := h
  obtain ⟨_, _, _, cur', hg', _⟩ := h'
  rw [hg] at hg'
  simp only [Option.some.injEq, Obj.cells.injEq] at hg'
  exact hT hg'.2.1
theorem OwnL.cap_of {T T' : TypeId} {k g cap cap' : Nat} {xs xs' : List (List Value)} {w : World} (h : OwnL T (k + 1) g cap xs w) (h' : OwnL T' (k + 1) g cap' xs' w) : cap' = cap := by
  obtain ⟨_, _, _, cur, hg, hs, _⟩ := h
  obtain ⟨_, _, _, cur', hg', hs', _⟩ := h'
  rw [hg] at hg'
  cases hg'
  exact Nat.eq_of_mul_eq_mul_right (Nat.succ_pos k) (hs'.symm.trans hs)
theorem OwnL.setOther {T : TypeId} {k g cap g' : Nat} {xs : List (List Value)} {w : World} (h : OwnL T k g cap xs w) (hne : g ≠ g') (o : Nat) (u : Value) : OwnL T k g cap xs (w.setCell ⟨g', o, none⟩ u) :=
  h.of_block (by simp [World.setCell, Array.getElem?_modify, Ne.symm hne])
theorem FreshL.setOther {B g cap : Nat} {w : World} {f : List Cd} {xs : List Cv} (h : FreshL B w f) (hg : OwnC g cap xs w) (o : Nat) (u : Value) : FreshL B (w.setCell ⟨g, o, none⟩ u) f := by
  refine ⟨fun d hd => ?_, h.2⟩
  obtain ⟨gd, h1, h2, h3, h4, h5⟩ := h.1 d hd
  exact ⟨gd, h1, h2, h3, h4, h5.setOther (OwnL.apart h5 hg (by decide)) o u⟩
/-- One more, in a newer block. -/
theorem FreshL.snoc {B : Nat} {w w' : World} {f : List Cd} {d : Cd} {gd : Nat} (h : FreshL B w f) (hb : Below w.heap.size w w') (hA : d.1.A = some ⟨gd, 0, none⟩) (hg : w.heap.size ≤ gd) (hd : FreshD B w' d) : FreshL B w' (f ++ [d]) := by
  refine ⟨fun x hx => ?_, ?_⟩
  · rcases List.mem_append.1 hx with hx | hx
    · exact (h.1 x hx).below hb
    · simp at hx; subst hx; exact hd
  · rw [List.pairwise_append]
    refine ⟨h.2, by simp, fun a ha b hb' => ?_⟩
    simp at hb'; subst hb'
    obtain ⟨ga, h1, _, _, _, h5⟩ := h.1 a ha
    rw [h1, hA]
    intro q
    have := h5.lt
    cases q
    omega
end Go.Proofs.YtfkimemagbkcoaaDoor
