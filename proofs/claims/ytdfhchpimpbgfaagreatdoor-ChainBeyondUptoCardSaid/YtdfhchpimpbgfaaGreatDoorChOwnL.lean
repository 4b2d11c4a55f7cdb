/-
  A block of rows of k cells each that a call owns: what its elements are; written in place, cut, cleared, sorted. Nothing is walked here. No condition but those written.
-/
import Derived.Test.YtdfhchpimpbgfaaGreatDoorChDw
import Derived.Laws.IdiomCopy
import Derived.Lib.SliceRun
import Derived.Laws.CopyRow
set_option linter.unusedVariables false
set_option linter.unusedSimpArgs false
namespace Go.Proofs.YtdfhchpimpbgfaaGreatDoor
open Go.RowKit Go.Lib Go.Sort

theorem flat_get {k : Nat} : ∀ (xs : List (List Value)), (∀ x ∈ xs, x.length = k) → ∀ i j, j < k → xs.flatten[i * k + j]? = (xs[i]?).bind (·[j]?)
  | [], _, i, j, _ => by simp
  | x :: xs, h, 0, j, hj => by
    have hx := h x (by simp)
    rw [List.flatten_cons, Nat.zero_mul, Nat.zero_add, List.getElem?_append_left (by omega)]
    simp
  | x :: xs, h, i + 1, j, hj => by
    have hx := h x (by simp)
    rw [List.flatten_cons, Nat.add_mul, Nat.one_mul, List.getElem?_append_right (by omega), show i * k + k + j - x.length = i * k + j by omega, flat_get xs (fun y hy => h y (by simp [hy])) i j hj]
    simp
theorem flats_len {k : Nat} : ∀ (xs : List (List Value)), (∀ x ∈ xs, x.length = k) → xs.flatten.length = xs.length * k
  | [], _ => by simp
  | x :: xs, h => by
    rw [List.flatten_cons, List.length_append, flats_len xs (fun y hy => h y (by simp [hy])), h x (by simp), List.length_cons, Nat.add_mul]
    omega
theorem flat_set {k : Nat} : ∀ (xs : List (List Value)), (∀ x ∈ xs, x.length = k) → ∀ i j v, i < xs.length → j < k → (xs.modify i (·.set j v)).flatten = xs.flatten.set (i * k + j) v
  | [], _, i, j, v, h, _ => by simp at h
  | x :: xs, h, 0, j, v, _, hj => by
    have hx := h x (by simp)
    rw [List.modify_zero_cons, List.flatten_cons, List.flatten_cons, Nat.zero_mul, Nat.zero_add, List.set_append_left _ _ (by omega)]
  | x :: xs, h, i + 1, j, v, hi, hj => by
    have hx := h x (by simp)
    rw [List.modify_succ_cons, List.flatten_cons, List.flatten_cons, flat_set xs (fun y hy => h y (by simp [hy])) i j v (by simpa using hi) hj, Nat.add_mul, Nat.one_mul, List.set_append_right _ _ (by omega)]
    congr 2
    omega
/-- Block g has room for cap elements of k cells each; the first ones are xs. -/
def OwnL (T : TypeId) (k g cap : Nat) (xs : List (List Value)) (w : World) : Prop :=
  (∀ x ∈ xs, x.length = k) ∧ xs.length ≤ cap ∧ cap ≤ maxLen ∧ ∃ cur, w.heap[g]? = some (.cells cur T (0, 0)) ∧ cur.size = cap * k ∧ cur.toList.take (xs.length * k) = xs.flatten
section
variable {T : TypeId} {k g cap : Nat} {xs : List (List Value)} {w w' : World}
theorem OwnL.lt (h : OwnL T k g cap xs w) : g < w.heap.size := by
  obtain ⟨_, _, _, cur, hg, _⟩ := h
  exact (Array.getElem?_eq_some_iff.1 hg).1
theorem OwnL.len (h : OwnL T k g cap xs w) : xs.length ≤ cap := h.2.1
theorem OwnL.capLe (h : OwnL T k g cap xs w) : cap ≤ maxLen := h.2.2.1
theorem OwnL.of_block (h : OwnL T k g cap xs w) (hb : w'.heap[g]? = w.heap[g]?) : OwnL T k g cap xs w' := by
  obtain ⟨h1, h2, h3, cur, hg, h4⟩ := h
  exact ⟨h1, h2, h3, cur, hb.trans hg, h4⟩
theorem OwnL.below (h : OwnL T k g cap xs w) (hb : Below w.heap.size w w') : OwnL T k g cap xs w' := h.of_block (hb.block g h.lt)
theorem OwnL.drew (h : OwnL T k g cap xs w) : OwnL T k g cap xs w.drew := h
theorem OwnL.alloc (h : OwnL T k g cap xs w) (o : Obj) : OwnL T k g cap xs (w.alloc o) := h.of_block (Lib.alloc_old w o g h.lt)
theorem OwnL.kept (h : OwnL T k g cap xs w) {row : Option Nat} (hg : w.grownBy w' row) (hne : some g ≠ row) : OwnL T k g cap xs w' := h.of_block (hg.block g h.lt hne)
theorem OwnL.others (h : OwnL T k g cap xs w) {e : TypeId} (ho : OthersKept e none w w') (hne : T ≠ e) : OwnL T k g cap xs w' := by
  obtain ⟨h1, h2, h3, cur, hg, h4⟩ := h
  exact ⟨h1, h2, h3, cur, ho g _ hg (by simp) (fun c fz q => by cases q; exact hne rfl), h4⟩
theorem OwnL.cell (h : OwnL T k g cap xs w) {i j : Nat} {x : List Value} {v : Value} (hx : xs[i]? = some x) (hv : x[j]? = some v) : w.cell? ⟨g, i * k + j, none⟩ = some v := by
  obtain ⟨h1, h2, h3, cur, hg, h4, h5⟩ := h
  have hlx := h1 x (List.mem_of_getElem? hx)
  have hj : j < k := by rw [← hlx]; exact (List.getElem?_eq_some_iff.1 hv).1
  have hi : i < xs.length := (List.getElem?_eq_some_iff.1 hx).1
  have hb : i * k + j < xs.length * k := by
    have := Nat.mul_le_mul_right k (show i + 1 ≤ xs.length from hi)
    rw [Nat.add_mul] at this
    omega
  have e := flat_get xs h1 i j hj
  rw [hx, Option.bind_some, hv, ← h5, List.getElem?_take, if_pos hb] at e
  simp only [World.cell?, hg]
  simpa using e
theorem OwnL.free (h : OwnL T k g cap xs w) (o : Nat) : w.frozen? ⟨g, o, none⟩ = false := by
  obtain ⟨_, _, _, cur, hg, _⟩ := h
  exact Lib.frozen_of_heap hg o
/-- One cell of one element is written. -/
theorem OwnL.set (h : OwnL T k g cap xs w) {i j : Nat} (hi : i < xs.length) (hj : j < k) (v : Value) : OwnL T k g cap (xs.modify i (·.set j v)) (w.setCell ⟨g, i * k + j, none⟩ v) := by
  obtain ⟨h1, h2, h3, cur, hg, h4, h5⟩ := h
  refine ⟨?_, by simpa using h2, h3, cur.setIfInBounds (i * k + j) v, ?_, by simpa using h4, ?_⟩
  · intro x hx
    obtain ⟨m, hm⟩ := List.mem_iff_getElem?.1 hx
    rw [List.getElem?_modify] at hm
    cases hy : xs[m]? with
    | none => rw [hy] at hm; simp at hm
    | some y =>
      rw [hy] at hm
      have hl := h1 y (List.mem_of_getElem? hy)
      split at hm <;> (simp at hm; subst hm; simpa using hl)
  · simp [World.setCell, Array.getElem?_modify, hg]
  · rw [List.length_modify, Array.toList_setIfInBounds, List.take_set, h5, flat_set xs h1 i j v hi hj]
/-- Cut in front. -/
theorem OwnL.take (h : OwnL T k g cap xs w) (n : Nat) (hn : n ≤ xs.length) : OwnL T k g cap (xs.take n) w := by
  obtain ⟨h1, h2, h3, cur, hg, h4, h5⟩ := h
  have hl : (xs.take n).length = n := by rw [List.length_take]; omega
  refine ⟨fun x hx => h1 x (List.mem_of_mem_take hx), by omega, h3, cur, hg, h4, ?_⟩
  have e : (xs.take n).flatten = xs.flatten.take (n * k) := by
    apply List.ext_getElem?
    intro t
    rcases Nat.eq_zero_or_pos k with h0 | hk
    · subst h0
      have z : ∀ (ys : List (List Value)), (∀ y ∈ ys, y.length = 0) → ys.flatten = [] := fun ys hy => by
        rw [List.flatten_eq_nil_iff]; exact fun y hy' => List.eq_nil_of_length_eq_zero (hy y hy')
      rw [z _ (fun x hx => h1 x (List.mem_of_mem_take hx)), z _ h1]
      simp
    · have ht : t = t / k * k + t % k := by have := Nat.div_add_mod t k; rw [Nat.mul_comm] at this; omega
      have hm := Nat.mod_lt t hk
      rw [ht, flat_get _ (fun x hx => h1 x (List.mem_of_mem_take hx)) _ _ hm, List.getElem?_take, List.getElem?_take]
      by_cases c : t / k < n
      · rw [if_pos c, if_pos ?_, flat_get _ h1 _ _ hm]
        have := Nat.mul_le_mul_right k (show t / k + 1 ≤ n from c)
        rw [Nat.add_mul] at this
        omega
      · rw [if_neg c, if_neg ?_]
        · rfl
        · have := Nat.mul_le_mul_right k (show n ≤ t / k by omega)
          omega
  rw [hl, e, ← h5, List.take_take]
  congr 1
  have := Nat.mul_le_mul_right k hn
  omega
/-- As a row that the call owns. -/
theorem OwnL.row (h : OwnL T k g cap xs w) {B : Nat} (hB : B ≤ g) : w.ownsRow B T k (.slice (some ⟨g, 0, none⟩) xs.length cap) xs.length xs.flatten := by
  obtain ⟨h1, h2, h3, cur, hg, h4, h5⟩ := h
  exact ⟨flats_len xs h1, .inr ⟨g, cap, cur, rfl, hB, hg, h2, h3, h4, h5⟩⟩
theorem OwnL.of_row {B n : Nat} (h : w.ownsRow B T k (.slice (some ⟨g, 0, none⟩) n cap) n xs.flatten) (hn : xs.length = n) (h1 : ∀ x ∈ xs, x.length = k) : OwnL T k g cap xs w := by
  subst hn
  rcases h.2 with ⟨e0, _⟩ | ⟨g', cap', cur, e0, hb, hg, hn, hm, hs, ht⟩
  · cases e0
  · cases e0
    exact ⟨h1, hn, hm, cur, hg, hs, ht⟩
theorem own_slice {B n : Nat} {v : Value} {ys : List Value} (h : w.ownsRow B T k v n ys) : (v = .slice none 0 0 ∧ n = 0) ∨ ∃ g cap, v = .slice (some ⟨g, 0, none⟩) n cap ∧ B ≤ g := by
  rcases h.2 with h1 | ⟨g', cap', cur, e0, hb, _⟩
  · exact .inl h1
  · exact .inr ⟨g', cap', e0, hb⟩
/-- 'clear(s[i:])': the first i elements stay. -/
theorem OwnL.clear {P : Program} (h : OwnL T k g cap xs w) {i n : Nat} (hi : i ≤ xs.length) (hn : n = xs.length - i) (c : Nat) (t ty : TypeId) (z : Value) (ht : P.underlying t = some (.slice T)) (hv : (zeroValue T).run P w = .ok z w) (hzs : z.cells.size = k) (h1 : ∀ u ∈ z.cells.toList, u.oneCell' = true) :
    ∃ w', (Builtin.clear_ #[t] ty #[.slice (some ⟨g, i * k, none⟩) n c]).run P w = .ok (.tuple #[]) w' ∧ OwnL T k g cap (xs.take i) w' ∧ w.grownBy w' (some g) := by
  subst hn
  rcases Nat.eq_zero_or_pos (xs.length - i) with h0 | hp
  · rw [h0]
    refine ⟨w, ?_, h.take i hi, ⟨rfl, rfl, rfl, Nat.le_refl _, fun _ _ _ => rfl⟩⟩
    simp [Builtin.clear_, run_underlying ht]
  · obtain ⟨m, hm⟩ : ∃ m, xs.length - i = m + 1 := ⟨xs.length - i - 1, by omega⟩
    have hT := h.take i hi
    obtain ⟨g1, g2, g3, cur, hg, g4, g5⟩ := h
    have hlen : ((Builtin.zeroCells z.cells (m + 1)).toList).length = (m + 1) * k := by rw [Array.length_toList, Builtin.zeroCells]; simp [hzs]
    have hroom : i * k + (m + 1) * k ≤ cur.size := by
      rw [g4, ← Nat.add_mul]
      exact Nat.mul_le_mul_right k (by omega)
    have hst := run_storeCells_at P g (i * k) T (Builtin.zeroCells z.cells (m + 1)).toList 0 cur w hg (by rw [hlen, Nat.add_zero]; exact hroom) (by
      intro v hv'
      unfold Builtin.zeroCells at hv'
      simp only [Array.toList_map, List.mem_map, Array.toList_range, List.mem_range] at hv'
      obtain ⟨q, hq, rfl⟩ := hv'
      refine h1 _ ?_
      have : q % z.cells.size < z.cells.size := Nat.mod_lt _ (by
        rcases Nat.eq_zero_or_pos z.cells.size with e | e
        · rw [e, Nat.mul_zero] at hq; exact absurd hq (Nat.not_lt_zero _)
        · exact e)
      rw [getElem!_pos z.cells _ this]
      exact Array.getElem_mem_toList _)
    rw [hm]
    refine ⟨w.setRow g (cur.toList.take (i * k + 0) ++ (Builtin.zeroCells z.cells (m + 1)).toList ++ cur.toList.drop (i * k + 0 + (Builtin.zeroCells z.cells (m + 1)).toList.length)).toArray, ?_, ?_, ?_⟩
    · simp [Builtin.clear_, run_underlying ht, hv, hst]
    · obtain ⟨q1, q2, q3, cur', hg', q4, q5⟩ := hT
      rw [hg] at hg'
      cases hg'
      refine ⟨q1, q2, q3, _, setRow_heap w g cur _ T (0, 0) hg, ?_, ?_⟩
      · rw [List.size_toArray]
        simp only [List.length_append, List.length_take, List.length_drop, hlen, Array.length_toList]
        omega
      · have hl : (xs.take i).length = i := by rw [List.length_take]; omega
        rw [hl] at q5 ⊢
        rw [List.toList_toArray, List.append_assoc, List.take_append_of_le_length (by simp; omega), List.take_take]
        simpa using q5
    · exact ⟨rfl, rfl, rfl, by simp, fun j hj hne => setRow_other w g j _ (fun q => hne (by rw [q]))⟩
end
end Go.Proofs.YtdfhchpimpbgfaaGreatDoor
