/-
  Plain mathematics of bags of rows: same rows put together, those of count 0 left out, in the order of rows. No condition but those written.
-/
import Derived.Test.YtfkimemagbkcoaaDoorRowV
import Derived.IntWalk
set_option linter.unusedVariables false
set_option linter.unusedSimpArgs false
namespace Go.Proofs.YtfkimemagbkcoaaDoor
open Go.RowKit Go.Lib

/-- A row, how many times it is there. -/
abbrev Cn := List Dat × Int
def keyN (x : Cn) : List UInt8 := keyR x.1
/-- Where a key stands, or the end. -/
def placeN (keys : List (List UInt8)) (key : List UInt8) : Nat := if key ∈ keys then keys.idxOf key else keys.length
/-- With the row, if it is not there yet, 0 times. -/
def withN (acc : List Cn) (r : List Dat) : List Cn := if keyR r ∈ acc.map keyN then acc else acc ++ [(r, 0)]
/-- A row more, so many times. -/
def addN (acc : List Cn) (x : Cn) : List Cn := (withN acc x.1).modify (placeN (acc.map keyN) (keyN x)) (fun y => (y.1, wrap64 (y.2 + x.2)))
def sumN (l : List Cn) : List Cn := l.foldl addN []
theorem sumN_snoc (l : List Cn) (x : Cn) : sumN (l ++ [x]) = addN (sumN l) x := by simp [sumN, List.foldl_append]
theorem placeN_lt (acc : List Cn) (r : List Dat) : placeN (acc.map keyN) (keyR r) < (withN acc r).length := by
  unfold placeN withN
  by_cases h : keyR r ∈ acc.map keyN
  · rw [if_pos h, if_pos h]
    have := List.idxOf_lt_length_of_mem h
    simpa using this
  · rw [if_neg h, if_neg h]
    simp
theorem keys_modify (l : List Cn) (i : Nat) (f : Int → Int) : (l.modify i (fun y => (y.1, f y.2))).map keyN = l.map keyN := by
  apply List.ext_getElem?
  intro j
  rw [List.getElem?_map, List.getElem?_map, List.getElem?_modify]
  cases l[j]? with
  | none => simp
  | some y => by_cases h : i = j <;> simp [h, keyN]
theorem keys_with (acc : List Cn) (r : List Dat) : (withN acc r).map keyN = if keyR r ∈ acc.map keyN then acc.map keyN else acc.map keyN ++ [keyR r] := by
  unfold withN
  by_cases h : keyR r ∈ acc.map keyN
  · rw [if_pos h, if_pos h]
  · rw [if_neg h, if_neg h]
    simp [keyN]
theorem keys_add (acc : List Cn) (x : Cn) : (addN acc x).map keyN = (withN acc x.1).map keyN := keys_modify _ _ (fun n => wrap64 (n + x.2))
theorem keys_apart : ∀ (l acc : List Cn), (acc.map keyN).Nodup → ((l.foldl addN acc).map keyN).Nodup
  | [], acc, h => h
  | x :: l, acc, h => by
    refine keys_apart l _ ?_
    rw [keys_add, keys_with]
    by_cases hm : keyR x.1 ∈ acc.map keyN
    · rw [if_pos hm]; exact h
    · rw [if_neg hm, List.nodup_append]
      exact ⟨h, by simp, fun a ha b hb => by simp at hb; subst hb; exact fun q => hm (q ▸ ha)⟩
theorem add_len (acc : List Cn) (x : Cn) : (addN acc x).length ≤ acc.length + 1 := by
  unfold addN withN
  rw [List.length_modify]
  split
  · omega
  · simp
theorem sum_len (l : List Cn) : (sumN l).length ≤ l.length := by
  have h : ∀ (l acc : List Cn), (l.foldl addN acc).length ≤ acc.length + l.length := by
    intro l
    induction l with
    | nil => intro acc; simp
    | cons x l ih =>
      intro acc
      have h1 := ih (addN acc x)
      have h2 := add_len acc x
      simp only [List.foldl_cons, List.length_cons]
      omega
  simpa [sumN] using h l []
/-- Each row that is told was handed in. -/
theorem sum_rows (l : List Cn) : ∀ x ∈ sumN l, ∃ y ∈ l, x.1 = y.1 := by
  have h : ∀ (l acc : List Cn), ∀ x ∈ l.foldl addN acc, (∃ y ∈ acc, x.1 = y.1) ∨ ∃ y ∈ l, x.1 = y.1 := by
    intro l
    induction l with
    | nil => intro acc x hx; exact .inl ⟨x, hx, rfl⟩
    | cons z l ih =>
      intro acc x hx
      rcases ih _ x hx with ⟨y, hy, e⟩ | ⟨y, hy, e⟩
      · have : y.1 ∈ (withN acc z.1).map (·.1) := by
          have h1 : ((addN acc z).map (·.1)) = (withN acc z.1).map (·.1) := by
            unfold addN
            apply List.ext_getElem?
            intro j
            rw [List.getElem?_map, List.getElem?_map, List.getElem?_modify]
            cases (withN acc z.1)[j]? with
            | none => simp
            | some y => by_cases h : placeN (acc.map keyN) (keyN z) = j <;> simp [h]
          rw [← h1]
          exact List.mem_map_of_mem hy
        unfold withN at this
        split at this
        · obtain ⟨u, hu, e2⟩ := List.mem_map.1 this
          exact .inl ⟨u, hu, e.trans e2.symm⟩
        · rw [List.map_append, List.mem_append] at this
          rcases this with h2 | h2
          · obtain ⟨u, hu, e2⟩ := List.mem_map.1 h2
            exact .inl ⟨u, hu, e.trans e2.symm⟩
          · simp at h2
            exact .inr ⟨z, by simp, e.trans h2⟩
      · exact .inr ⟨y, by simp [hy], e⟩
  intro x hx
  rcases h l [] x hx with ⟨y, hy, _⟩ | h
  · cases hy
  · exact h
/-- What Sum tells. -/
def SumOf (l r : List Cn) : Prop := r.Perm ((sumN l).filter (fun x => x.2 != 0)) ∧ r.Pairwise (fun a b => cmpR a.1 b.1 = -1)
def WideN (l : List Cn) : Prop := ∀ x ∈ l, ∀ d ∈ x.1, Wide d
theorem sum_wide {l : List Cn} (h : WideN l) : WideN (sumN l) := fun x hx => by
  obtain ⟨y, hy, e⟩ := sum_rows l x hx
  rw [e]
  exact h y hy
/-- In order, and of other rows each: strictly in order. -/
theorem sum_of {l r : List Cn} (hl : WideN l) (hp : r.Perm ((sumN l).filter (fun x => x.2 != 0))) (hs : r.Pairwise (fun a b => ¬ cmpR b.1 a.1 < 0)) : SumOf l r := by
  refine ⟨hp, ?_⟩
  have hn : ((sumN l).map keyN).Nodup := keys_apart l [] (by simp)
  have h1 : ((sumN l).filter (fun x => x.2 != 0)).Pairwise (fun a b => keyN a ≠ keyN b) := by
    have : (sumN l).Pairwise (fun a b => keyN a ≠ keyN b) := List.pairwise_map.1 hn
    exact this.filter _
  have h2 : r.Pairwise (fun a b => keyN a ≠ keyN b) := (hp.symm.pairwise_iff (fun {a b} (h : keyN a ≠ keyN b) => h.symm)).1 h1
  have hw : WideN r := fun x hx => sum_wide hl x (List.mem_filter.1 (hp.mem_iff.1 hx)).1
  have h3 : r.Pairwise (fun a b => a ∈ r ∧ b ∈ r ∧ ¬ cmpR b.1 a.1 < 0 ∧ keyN a ≠ keyN b) := by
    refine List.Pairwise.imp_of_mem ?_ (hs.and h2)
    intro a b ha hb h
    exact ⟨ha, hb, h.1, h.2⟩
  refine h3.imp ?_
  rintro a b ⟨ha, hb, h4, h5⟩
  have h6 : cmpR a.1 b.1 ≠ 0 := fun q => h5 ((keyR_same a.1 b.1 (hw a ha) (hw b hb)).2 q)
  have h7 := cmpR_turn b.1 a.1
  have h8 := cmpR_range a.1 b.1
  omega
end Go.Proofs.YtfkimemagbkcoaaDoor
