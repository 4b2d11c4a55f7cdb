/-
  Plain mathematics of bags of rows: the document's own sum (each row to its place in order) is what Sum tells, and there is one such list. No condition but those written.
-/
import Derived.Test.YtfkimemagbkcoaaDoorRowS
set_option linter.unusedVariables false
set_option linter.unusedSimpArgs false
namespace Go.Proofs.YtfkimemagbkcoaaDoor
open Go.RowKit Go.Lib

def S64 (n : Int) : Prop := -9223372036854775808 ≤ n ∧ n ≤ 9223372036854775807
/-- With a row more, so many times: to its place. -/
def addI : List Cn → Cn → List Cn
  | [], x => [x]
  | y :: r, x => if cmpR y.1 x.1 < 0 then y :: addI r x else if cmpR y.1 x.1 = 0 then (y.1, wrap64 (y.2 + x.2)) :: r else x :: y :: r
def sumI (l : List Cn) : List Cn := l.foldl addI []
def Inc (l : List Cn) : Prop := l.Pairwise (fun a b => cmpR a.1 b.1 = -1)
theorem cmpR_lt_trans {a b c : List Dat} (h1 : cmpR a b = -1) (h2 : cmpR b c = -1) : cmpR a c = -1 := by
  have h3 := cmpR_trans (l := a) (m := b) (n := c) (by omega) (by omega)
  have h4 := cmpR_range a c
  have h5 : cmpR a c ≠ 0 := by
    intro q
    have t1 := cmpR_turn c a
    have h6 := cmpR_trans (l := c) (m := a) (n := b) (by omega) (by omega)
    have t2 := cmpR_turn b c
    omega
  omega
theorem cmpR_zero_left {a b c : List Dat} (h1 : cmpR a b = 0) (h2 : cmpR b c = -1) : cmpR a c = -1 := by
  have h3 := cmpR_trans (l := a) (m := b) (n := c) (by omega) (by omega)
  have h4 := cmpR_range a c
  have h5 : cmpR a c ≠ 0 := by
    intro q
    have t1 := cmpR_turn c a
    have h6 := cmpR_trans (l := c) (m := a) (n := b) (by omega) (by omega)
    have t2 := cmpR_turn b c
    omega
  omega
theorem addI_mem : ∀ (l : List Cn) (x b : Cn), b ∈ addI l x → b.1 = x.1 ∨ ∃ y ∈ l, b.1 = y.1
  | [], x, b, h => by simp [addI] at h; subst h; exact .inl rfl
  | y :: r, x, b, h => by
    unfold addI at h
    split at h
    · rcases List.mem_cons.1 h with rfl | h
      · exact .inr ⟨_, by simp, rfl⟩
      · rcases addI_mem r x b h with h | ⟨z, hz, e⟩
        · exact .inl h
        · exact .inr ⟨z, by simp [hz], e⟩
    · split at h
      · rcases List.mem_cons.1 h with rfl | h
        · exact .inr ⟨y, by simp, rfl⟩
        · exact .inr ⟨b, by simp [h], rfl⟩
      · rcases List.mem_cons.1 h with rfl | h
        · exact .inl rfl
        · exact .inr ⟨b, h, rfl⟩
theorem addI_inc : ∀ (l : List Cn) (x : Cn), Inc l → Inc (addI l x)
  | [], x, _ => by simp [addI, Inc]
  | y :: r, x, h => by
    obtain ⟨h1, h2⟩ := List.pairwise_cons.1 h
    have hr := cmpR_range y.1 x.1
    have ht := cmpR_turn x.1 y.1
    unfold addI
    split
    · refine List.pairwise_cons.2 ⟨fun b hb => ?_, addI_inc r x h2⟩
      rcases addI_mem r x b hb with e | ⟨z, hz, e⟩
      · rw [e]; omega
      · rw [e]; exact h1 z hz
    · split
      · exact List.pairwise_cons.2 ⟨h1, h2⟩
      · refine List.pairwise_cons.2 ⟨fun b hb => ?_, h⟩
        rcases List.mem_cons.1 hb with rfl | hb
        · omega
        · exact cmpR_lt_trans (b := y.1) (by omega) (h1 b hb)
theorem addI_map : ∀ (l : List Cn) (x : Cn), Inc l → (∃ y ∈ l, cmpR y.1 x.1 = 0) → addI l x = l.map (fun y => if cmpR y.1 x.1 = 0 then (y.1, wrap64 (y.2 + x.2)) else y)
  | [], x, _, h => by obtain ⟨y, hy, _⟩ := h; cases hy
  | y :: r, x, h, hex => by
    obtain ⟨h1, h2⟩ := List.pairwise_cons.1 h
    unfold addI
    rw [List.map_cons]
    split
    · rename_i hlt
      rw [if_neg (by omega), addI_map r x h2]
      obtain ⟨z, hz, e⟩ := hex
      rcases List.mem_cons.1 hz with rfl | hz
      · omega
      · exact ⟨z, hz, e⟩
    · split
      · rename_i h0
        congr 1
        symm
        rw [List.map_congr_left (g := id), List.map_id]
        intro z hz
        rw [if_neg]
        · rfl
        · intro q
          have t := cmpR_turn z.1 x.1
          have t2 := h1 z hz
          have t3 := cmpR_turn y.1 z.1
          have t4 := cmpR_turn x.1 y.1
          have := cmpR_trans (l := z.1) (m := x.1) (n := y.1) (by omega) (by omega)
          omega
      · rename_i hlt h0
        obtain ⟨z, hz, e⟩ := hex
        exfalso
        rcases List.mem_cons.1 hz with rfl | hz
        · exact h0 e
        · have t := h1 z hz
          have t2 := cmpR_trans (l := y.1) (m := z.1) (n := x.1) (by omega) (by omega)
          omega
theorem addI_new : ∀ (l : List Cn) (x : Cn), (∀ y ∈ l, cmpR y.1 x.1 ≠ 0) → (addI l x).Perm (x :: l)
  | [], x, _ => List.Perm.refl _
  | y :: r, x, h => by
    unfold addI
    split
    · exact ((addI_new r x (fun z hz => h z (by simp [hz]))).cons y).trans (List.Perm.swap x y r)
    · rw [if_neg (h y (by simp))]
theorem addN_map {l : List Cn} {x : Cn} (hn : (l.map keyN).Nodup) (h : keyR x.1 ∈ l.map keyN) : addN l x = l.map (fun y => if keyR y.1 = keyR x.1 then (y.1, wrap64 (y.2 + x.2)) else y) := by
  unfold addN
  have hw : withN l x.1 = l := if_pos h
  have hp : placeN (l.map keyN) (keyN x) = (l.map keyN).idxOf (keyR x.1) := if_pos h
  rw [hw, hp]
  have hi := List.idxOf_lt_length_of_mem h
  have hg : (l.map keyN)[(l.map keyN).idxOf (keyR x.1)] = keyR x.1 := List.getElem_idxOf hi
  apply List.ext_getElem?
  intro j
  rw [List.getElem?_modify, List.getElem?_map]
  cases hj : l[j]? with
  | none => simp
  | some y =>
    obtain ⟨hj', rfl⟩ := List.getElem?_eq_some_iff.1 hj
    have hk : (l.map keyN)[j]'(by simpa using hj') = keyR l[j].1 := by rw [List.getElem_map]; rfl
    by_cases c : (l.map keyN).idxOf (keyR x.1) = j
    · have hq : keyR l[j].1 = keyR x.1 := by
        subst c
        rw [← hk]
        exact hg
      simp only [Option.map_eq_map, Option.map_some, if_pos c, if_pos hq]
    · have hq : ¬ keyR l[j].1 = keyR x.1 := by
        intro q
        apply c
        have hj2 : j < (l.map keyN).length := by simpa using hj'
        have hp := List.pairwise_iff_getElem.1 hn
        rcases Nat.lt_trichotomy ((l.map keyN).idxOf (keyR x.1)) j with h1 | h1 | h1
        · exact absurd (by rw [hg, hk]; exact q.symm) (hp _ j hi hj2 h1)
        · exact h1
        · exact absurd (by rw [hg, hk]; exact q) (hp j _ hj2 hi h1)
      simp only [Option.map_eq_map, Option.map_some, if_neg c, if_neg hq]
theorem wrap_id {n : Int} (h : S64 n) : wrap64 n = n := by
  unfold S64 at h
  unfold wrap64
  omega
theorem addN_new {l : List Cn} {x : Cn} (h : keyR x.1 ∉ l.map keyN) (hx : S64 x.2) : addN l x = l ++ [x] := by
  unfold addN
  have hw : withN l x.1 = l ++ [(x.1, 0)] := if_neg h
  have hp : placeN (l.map keyN) (keyN x) = l.length := by unfold placeN; rw [if_neg (show keyN x ∉ _ from h), List.length_map]
  rw [hw, hp]
  apply List.ext_getElem?
  intro j
  rw [List.getElem?_modify]
  by_cases c : l.length = j
  · subst c
    simp [wrap_id hx]
  · by_cases c2 : j < l.length
    · simp [List.getElem?_append_left c2, c]
    · rw [List.getElem?_eq_none (l := l ++ [(x.1, 0)]) (by simp; omega), List.getElem?_eq_none (l := l ++ [x]) (by simp; omega)]
      rfl
theorem sumI_perm : ∀ (l acc acc' : List Cn), WideN l → (∀ x ∈ l, S64 x.2) → WideN acc → acc'.Perm acc → Inc acc' → (acc.map keyN).Nodup → (l.foldl addI acc').Perm (l.foldl addN acc) ∧ Inc (l.foldl addI acc')
  | [], _, _, _, _, _, h, hi, _ => ⟨h, hi⟩
  | x :: l, acc, acc', hw, hs, ha, hp, hi, hn => by
    have hw' : WideN l := fun y hy => hw y (by simp [hy])
    have hs' : ∀ y ∈ l, S64 y.2 := fun y hy => hs y (by simp [hy])
    have hwx := hw x (by simp)
    have haN : WideN (addN acc x) := by
      intro y hy
      by_cases hk : keyR x.1 ∈ acc.map keyN
      · rw [addN_map hn hk] at hy
        obtain ⟨z, hz, rfl⟩ := List.mem_map.1 hy
        have := ha z hz
        split <;> exact this
      · rw [addN_new hk (hs x (by simp))] at hy
        rcases List.mem_append.1 hy with hy | hy
        · exact ha y hy
        · simp at hy; subst hy; exact hwx
    have hnN : ((addN acc x).map keyN).Nodup := keys_apart [x] acc hn
    refine sumI_perm l (addN acc x) (addI acc' x) hw' hs' haN ?_ (addI_inc acc' x hi) hnN
    by_cases hk : keyR x.1 ∈ acc.map keyN
    · obtain ⟨y, hy, e⟩ := List.mem_map.1 hk
      have h0 := (keyR_same y.1 x.1 (ha y hy) hwx).1 e
      rw [addI_map acc' x hi ⟨y, hp.mem_iff.2 hy, h0⟩, addN_map hn hk]
      have hmap : acc'.map (fun y => if cmpR y.1 x.1 = 0 then (y.1, wrap64 (y.2 + x.2)) else y) = acc'.map (fun y => if keyR y.1 = keyR x.1 then (y.1, wrap64 (y.2 + x.2)) else y) := by
        apply List.map_congr_left
        intro z hz
        have := keyR_same z.1 x.1 (ha z (hp.mem_iff.1 hz)) hwx
        by_cases c : cmpR z.1 x.1 = 0
        · rw [if_pos c, if_pos (this.2 c)]
        · rw [if_neg c, if_neg (fun q => c (this.1 q))]
      rw [hmap]
      exact hp.map _
    · rw [addN_new hk (hs x (by simp))]
      refine (addI_new acc' x (fun y hy q => hk ?_)).trans ((hp.cons x).trans (List.perm_append_singleton x acc).symm)
      exact List.mem_map.2 ⟨y, hp.mem_iff.1 hy, (keyR_same y.1 x.1 (ha y (hp.mem_iff.1 hy)) hwx).2 q⟩
/-- The document's sum. -/
def refSum (l : List Cn) : List Cn := (sumI l).filter (fun x => x.2 != 0)
theorem refSum_of {l : List Cn} (hw : WideN l) (hs : ∀ x ∈ l, S64 x.2) : SumOf l (refSum l) := by
  obtain ⟨h1, h2⟩ := sumI_perm l [] [] hw hs (fun x hx => by cases hx) (List.Perm.refl _) List.Pairwise.nil (by simp)
  exact ⟨h1.filter _, h2.filter _⟩
theorem inc_one : ∀ {r r' : List Cn}, r.Perm r' → Inc r → Inc r' → r = r'
  | [], r', h, _, _ => h.nil_eq
  | a :: r, [], h, _, _ => absurd h.eq_nil (by simp)
  | a :: r, b :: r', h, h1, h2 => by
    obtain ⟨u1, u2⟩ := List.pairwise_cons.1 h1
    obtain ⟨v1, v2⟩ := List.pairwise_cons.1 h2
    have hab : a = b := by
      have ha : a ∈ b :: r' := h.mem_iff.1 (by simp)
      have hb : b ∈ a :: r := h.mem_iff.2 (by simp)
      rcases List.mem_cons.1 ha with e | ha
      · exact e
      · rcases List.mem_cons.1 hb with e | hb
        · exact e.symm
        · have t1 := v1 a ha
          have t2 := u1 b hb
          have t3 := cmpR_turn a.1 b.1
          omega
    subst hab
    rw [inc_one (List.perm_cons a |>.1 h) u2 v2]
theorem sum_one {l r r' : List Cn} (h : SumOf l r) (h' : SumOf l r') : r = r' := inc_one (h.1.trans h'.1.symm) h.2 h'.2
/-- .. where it stands. -/
theorem addI_at : ∀ (l : List Cn) (x : Cn) (k : Nat), k ≤ l.length → (∀ i y, i < k → l[i]? = some y → cmpR y.1 x.1 < 0) → (∀ y, l[k]? = some y → ¬ cmpR y.1 x.1 < 0) →
    addI l x = match l[k]? with
      | some y => if cmpR y.1 x.1 = 0 then l.take k ++ (y.1, wrap64 (y.2 + x.2)) :: l.drop (k + 1) else l.take k ++ x :: l.drop k
      | none => l.take k ++ [x]
  | [], x, 0, _, _, _ => rfl
  | [], x, k + 1, h, _, _ => by simp at h
  | y :: r, x, 0, _, _, h2 => by
    have := h2 y rfl
    unfold addI
    rw [if_neg this]
    simp
  | y :: r, x, k + 1, h, h1, h2 => by
    have h0 := h1 0 y (by omega) rfl
    have ih := addI_at r x k (by simpa using h) (fun i z hi hz => h1 (i + 1) z (by omega) (by simpa using hz)) (fun z hz => h2 z (by simpa using hz))
    unfold addI
    rw [if_pos h0, ih]
    simp only [List.getElem?_cons_succ, List.take_succ_cons, List.drop_succ_cons]
    cases r[k]? with
    | none => simp
    | some z => simp only; split <;> simp
end Go.Proofs.YtfkimemagbkcoaaDoor
