/-
  Plain mathematics of bags of rows: what Sum tells hangs on the totals of each row alone. No condition but those written.
-/
import Derived.Test.YtfkimemagbkcoaaDoorRowU
import Derived.Test.YtfkimemagbkcoaaDoorOrd
set_option linter.unusedVariables false
set_option linter.unusedSimpArgs false
namespace Go.Proofs.YtfkimemagbkcoaaDoor
open Go.RowKit Go.Lib

/-- How many times a row of this key is there, not wrapped. -/
def raw : List Cn → List UInt8 → Int
  | [], _ => 0
  | x :: l, k => (if keyN x = k then x.2 else 0) + raw l k
theorem raw_app : ∀ (l m : List Cn) (k : List UInt8), raw (l ++ m) k = raw l k + raw m k
  | [], m, k => by simp [raw]
  | x :: l, m, k => by
    rw [List.cons_append, raw, raw, raw_app l m k]
    omega
theorem raw_perm {l m : List Cn} (h : l.Perm m) (k : List UInt8) : raw l k = raw m k := by
  induction h with
  | nil => rfl
  | cons x _ ih => rw [raw, raw, ih]
  | swap x y l => simp only [raw]; omega
  | trans _ _ h1 h2 => rw [h1, h2]
theorem raw_filter : ∀ (l : List Cn) (k : List UInt8), raw (l.filter (fun x => x.2 != 0)) k = raw l k
  | [], k => rfl
  | x :: l, k => by
    rw [List.filter_cons]
    by_cases h : x.2 = 0
    · rw [if_neg (by simp [h]), raw, raw_filter l k, h]
      split <;> omega
    · rw [if_pos (by simp [h]), raw, raw, raw_filter l k]
theorem wrap_left (a b : Int) : wrap64 (wrap64 a + b) = wrap64 (a + b) := by unfold wrap64; omega
theorem wrap_both (a b : Int) : wrap64 (wrap64 a + wrap64 b) = wrap64 (a + b) := by unfold wrap64; omega
theorem wrap_twice (a : Int) : wrap64 (wrap64 a) = wrap64 a := by unfold wrap64; omega
theorem wrap_s64 (a : Int) : S64 (wrap64 a) := by unfold S64 wrap64; omega
theorem raw_modify : ∀ (l : List Cn) (i : Nat) (y : Cn) (n : Int) (k : List UInt8), l[i]? = some y → raw (l.modify i (fun z => (z.1, wrap64 (z.2 + n)))) k = raw l k + (if keyN y = k then wrap64 (y.2 + n) - y.2 else 0)
  | [], i, y, n, k, h => by simp at h
  | x :: l, 0, y, n, k, h => by
    simp at h
    subst h
    rw [List.modify_zero_cons, raw, raw]
    have e : keyN (x.1, wrap64 (x.2 + n)) = keyN x := rfl
    by_cases h : keyN x = k
    · rw [if_pos (e.trans h), if_pos h, if_pos h]
      simp only
      omega
    · rw [if_neg (fun q => h (e.symm.trans q)), if_neg h, if_neg h]
      omega
  | x :: l, i + 1, y, n, k, h => by
    rw [List.modify_succ_cons, raw, raw, raw_modify l i y n k (by simpa using h)]
    omega
theorem raw_with (acc : List Cn) (r : List Dat) (k : List UInt8) : raw (withN acc r) k = raw acc k := by
  unfold withN
  split
  · rfl
  · rw [raw_app]
    simp [raw]
theorem place_at (acc : List Cn) (x : Cn) : ∃ y, (withN acc x.1)[placeN (acc.map keyN) (keyN x)]? = some y ∧ keyN y = keyN x := by
  have hlt := placeN_lt acc x.1
  refine ⟨_, List.getElem?_eq_getElem hlt, ?_⟩
  by_cases h : keyN x ∈ acc.map keyN
  · have hw : withN acc x.1 = acc := if_pos h
    have hp : placeN (acc.map keyN) (keyN x) = (acc.map keyN).idxOf (keyN x) := if_pos h
    have hi := List.idxOf_lt_length_of_mem h
    have hg : (acc.map keyN)[(acc.map keyN).idxOf (keyN x)] = keyN x := List.getElem_idxOf hi
    rw [List.getElem_map] at hg
    simp only [hw, hp] at hlt ⊢
    have : placeN (acc.map keyN) (keyR x.1) = (acc.map keyN).idxOf (keyN x) := hp
    simp only [this]
    exact hg
  · have hw : withN acc x.1 = acc ++ [(x.1, 0)] := if_neg h
    have hp : placeN (acc.map keyN) (keyN x) = acc.length := by unfold placeN; rw [if_neg h, List.length_map]
    have : placeN (acc.map keyN) (keyR x.1) = acc.length := hp
    simp only [hw, this]
    rw [List.getElem_append_right (by omega)]
    simp
    rfl
theorem raw_add (acc : List Cn) (x : Cn) (k : List UInt8) : wrap64 (raw (addN acc x) k) = wrap64 (raw acc k + raw [x] k) := by
  obtain ⟨y, hy, hk⟩ := place_at acc x
  unfold addN
  rw [raw_modify _ _ y x.2 k hy, raw_with, raw, raw, hk]
  by_cases h : keyN x = k
  · rw [if_pos h, if_pos h]
    unfold wrap64
    omega
  · rw [if_neg h, if_neg h]
    simp only [Int.add_zero]
theorem raw_fold : ∀ (l acc : List Cn) (k : List UInt8), wrap64 (raw (l.foldl addN acc) k) = wrap64 (raw acc k + raw l k)
  | [], acc, k => by simp [raw]
  | x :: l, acc, k => by
    rw [List.foldl_cons, raw_fold l (addN acc x) k]
    have h1 := raw_add acc x k
    have h2 : raw (x :: l) k = raw [x] k + raw l k := raw_app [x] l k
    rw [h2]
    have h3 := wrap_left (raw (addN acc x) k) (raw l k)
    rw [← h3, h1, wrap_left, Int.add_assoc]
theorem raw_sum (l : List Cn) (k : List UInt8) : wrap64 (raw (sumN l) k) = wrap64 (raw l k) := by
  have h := raw_fold l [] k
  have e : raw [] k + raw l k = raw l k := by rw [raw]; omega
  rw [e] at h
  exact h
theorem s64_modify {l : List Cn} {i : Nat} {n : Int} (h : ∀ x ∈ l, S64 x.2) : ∀ x ∈ l.modify i (fun z => (z.1, wrap64 (z.2 + n))), S64 x.2 := by
  intro x hx
  obtain ⟨j, hj⟩ := List.mem_iff_getElem?.1 hx
  rw [List.getElem?_modify] at hj
  cases hy : l[j]? with
  | none => rw [hy] at hj; simp at hj
  | some y =>
    rw [hy] at hj
    have := h y (List.mem_of_getElem? hy)
    split at hj
    · simp at hj; subst hj; exact wrap_s64 _
    · simp at hj; subst hj; exact this
theorem s64_sum : ∀ (l acc : List Cn), (∀ x ∈ acc, S64 x.2) → ∀ x ∈ l.foldl addN acc, S64 x.2
  | [], acc, h => h
  | x :: l, acc, h => by
    rw [List.foldl_cons]
    refine s64_sum l _ (s64_modify ?_)
    intro y hy
    unfold withN at hy
    split at hy
    · exact h y hy
    · rcases List.mem_append.1 hy with hy | hy
      · exact h y hy
      · simp at hy; subst hy; unfold S64; simp
/-- Of keys that are apart each one's total is its count. -/
theorem raw_one : ∀ {l : List Cn}, (l.map keyN).Nodup → (∀ x ∈ l, raw l (keyN x) = x.2) ∧ ∀ k, k ∉ l.map keyN → raw l k = 0
  | [], _ => ⟨by simp, fun _ _ => rfl⟩
  | y :: l, h => by
    rw [List.map_cons, List.nodup_cons] at h
    obtain ⟨h1, h2⟩ := raw_one h.2
    refine ⟨fun x hx => ?_, fun k hk => ?_⟩
    · rw [raw]
      rcases List.mem_cons.1 hx with rfl | hx
      · rw [if_pos rfl, h2 _ h.1]
        omega
      · rw [if_neg, h1 x hx]
        · omega
        · intro q
          exact h.1 (q ▸ List.mem_map_of_mem hx)
    · rw [List.map_cons, List.mem_cons, not_or] at hk
      rw [raw, if_neg (fun q => hk.1 q.symm), h2 k hk.2]
      rfl
theorem sum_nodup (l : List Cn) : ((sumN l).map keyN).Nodup := keys_apart l [] (by simp)
/-- What Sum tells of a row: its total. -/
theorem sum_total {l r : List Cn} (h : SumOf l r) (k : List UInt8) : wrap64 (raw r k) = wrap64 (raw l k) := by
  rw [raw_perm h.1, raw_filter, raw_sum]
theorem mem_sum {l r : List Cn} (h : SumOf l r) {x : Cn} : x ∈ r ↔ x ∈ sumN l ∧ x.2 ≠ 0 := by
  rw [h.1.mem_iff, List.mem_filter]
  simp
def OkN (l : List Cn) : Prop := ∀ x ∈ l, ∀ d ∈ x.1, Wide d ∧ chk d = 0
theorem rows_same : ∀ {a b : List Dat}, (∀ d ∈ a, chk d = 0) → (∀ d ∈ b, chk d = 0) → cmpR a b = 0 → a = b
  | [], [], _, _, _ => rfl
  | [], _ :: _, _, _, h => by simp [cmpR] at h
  | _ :: _, [], _, _, h => by simp [cmpR] at h
  | d :: a, e :: b, ha, hb, h => by
    rw [cmpR] at h
    by_cases h0 : cmpS d e = 0
    · rw [if_pos h0] at h
      have h1 : d = e := (cmpS_zero (by unfold okD; simp [ha d (by simp)]) (by unfold okD; simp [hb e (by simp)])).1 h0
      rw [h1, rows_same (fun x hx => ha x (by simp [hx])) (fun x hx => hb x (by simp [hx])) h]
    · rw [if_neg h0] at h
      exact absurd h h0
theorem sum_half {l l' r r' : List Cn} (h : SumOf l r) (h' : SumOf l' r') (ho : OkN l) (ho' : OkN l') (ht : ∀ k, wrap64 (raw l k) = wrap64 (raw l' k)) : ∀ x ∈ r, x ∈ r' := by
  intro x hx
  obtain ⟨h1, h2⟩ := (mem_sum h).1 hx
  have e1 := (raw_one (sum_nodup l)).1 x h1
  have s1 := s64_sum l [] (by simp) x h1
  have t1 : wrap64 (raw l' (keyN x)) = x.2 := by
    rw [← ht, ← raw_sum, e1]
    exact wrap_id s1
  have hk : keyN x ∈ (sumN l').map keyN := by
    refine Classical.byContradiction fun q => ?_
    have := (raw_one (sum_nodup l')).2 _ q
    have t2 := raw_sum l' (keyN x)
    rw [this, t1] at t2
    exact h2 (by rw [← t2]; unfold wrap64; rfl)
  obtain ⟨y, hy, hyk⟩ := List.mem_map.1 hk
  have e2 := (raw_one (sum_nodup l')).1 y hy
  have s2 := s64_sum l' [] (by simp) y hy
  have t3 : y.2 = x.2 := by
    have := raw_sum l' (keyN y)
    rw [e2, wrap_id s2, hyk, t1] at this
    exact this
  obtain ⟨u, hu, eu⟩ := sum_rows l x h1
  obtain ⟨v, hv, ev⟩ := sum_rows l' y hy
  have e3 : y.1 = x.1 := by
    rw [eu, ev]
    have hk2 : keyR v.1 = keyR u.1 := by rw [← eu, ← ev]; exact hyk
    exact rows_same (fun d hd => (ho' v hv d hd).2) (fun d hd => (ho u hu d hd).2) ((keyR_same v.1 u.1 (fun d hd => (ho' v hv d hd).1) (fun d hd => (ho u hu d hd).1)).1 hk2)
  have e4 : y = x := Prod.ext e3 t3
  subst e4
  exact (mem_sum h').2 ⟨hy, h2⟩
theorem inc_nodup {r : List Cn} (h : Inc r) : r.Nodup := by
  refine List.Pairwise.imp ?_ h
  intro a b hab q
  subst q
  rw [cmpR_self] at hab
  cases hab
/-- Of rows that may be, with the same totals, Sum tells the same. -/
theorem sum_eq {l l' r r' : List Cn} (h : SumOf l r) (h' : SumOf l' r') (ho : OkN l) (ho' : OkN l') (ht : ∀ k, wrap64 (raw l k) = wrap64 (raw l' k)) : r = r' := by
  refine inc_one ?_ h.2 h'.2
  exact (List.perm_ext_iff_of_nodup (inc_nodup h.2) (inc_nodup h'.2)).2 fun x => ⟨sum_half h h' ho ho' ht x, sum_half h' h ho' ho (fun k => (ht k).symm) x⟩
theorem sum_ok {l r : List Cn} (h : SumOf l r) (ho : OkN l) : OkN r := by
  intro x hx
  obtain ⟨h1, _⟩ := (mem_sum h).1 hx
  obtain ⟨u, hu, eu⟩ := sum_rows l x h1
  rw [eu]
  exact ho u hu
end Go.Proofs.YtfkimemagbkcoaaDoor
