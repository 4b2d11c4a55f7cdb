/-
  Plain mathematics of layer 5 (chain), on lists of times alone: antichains in order, what is beyond them, joins, the time that stands for another one. No program is in sight. No condition but those written.
-/
import Derived.Test.YtdfhchpimpbgfaaGreatDoorStM
set_option linter.unusedVariables false
set_option linter.unusedSimpArgs false
namespace Go.Proofs.YtdfhchpimpbgfaaGreatDoor

theorem snoc_ind {α : Type} {P : List α → Prop} (h0 : P []) (h1 : ∀ l t, P l → P (l ++ [t])) (l : List α) : P l := by
  have h : ∀ r : List α, P r.reverse := by
    intro r
    induction r with
    | nil => simpa using h0
    | cons t r ih => rw [List.reverse_cons]; exact h1 _ _ ih
  have := h l.reverse
  rwa [List.reverse_reverse] at this
theorem getD_at {α : Type} (l : List α) (d : α) {k : Nat} (hk : k < l.length) : l.getD k d = l[k] := by
  rw [List.getD_eq_getElem?_getD, List.getElem?_eq_getElem hk]; rfl
/-! ### the order of times -/
theorem c3_anti (x y : Int) : c3 y x = - c3 x y := by
  unfold c3
  split <;> split <;> (try split) <;> (try split) <;> omega
theorem c3_neg {x y : Int} : c3 x y < 0 ↔ x < y := by
  unfold c3
  split
  · simp [*]
  · split <;> simp <;> omega
theorem cmpW_anti : ∀ a b : List Int, cmpW b a = - cmpW a b
  | [], [] => by simp [cmpW]
  | [], _ :: _ => by simp [cmpW]
  | _ :: _, [] => by simp [cmpW]
  | a :: l, b :: r => by
    rw [cmpW, cmpW, c3_anti a b]
    by_cases h : c3 a b = 0
    · rw [if_pos (by omega), if_pos h]; exact cmpW_anti l r
    · rw [if_neg (by omega), if_neg h]
theorem cmpW_trans : ∀ a b c : List Int, cmpW a b < 0 → cmpW b c < 0 → cmpW a c < 0
  | [], [], _, h, _ => by simp [cmpW] at h
  | [], _ :: _, [], _, h => by simp [cmpW] at h
  | [], _ :: _, _ :: _, _, _ => by simp [cmpW]
  | _ :: _, [], _, h, _ => by simp [cmpW] at h
  | _ :: _, _ :: _, [], _, h => by simp [cmpW] at h
  | a :: l, b :: r, c :: s, h, h' => by
    rw [cmpW] at h h' ⊢
    by_cases h1 : c3 a b = 0
    · have := c3_zero h1
      subst this
      rw [if_pos h1] at h
      by_cases h2 : c3 a c = 0
      · rw [if_pos h2] at h' ⊢; exact cmpW_trans l r s h h'
      · rw [if_neg h2] at h' ⊢; exact h'
    · rw [if_neg h1] at h
      by_cases h2 : c3 b c = 0
      · have := c3_zero h2
        subst this
        rw [if_neg h1]; exact h
      · rw [if_neg h2] at h'
        have h3 := c3_neg.2 (Int.lt_trans (c3_neg.1 h) (c3_neg.1 h'))
        rw [if_neg (by omega)]; exact h3
def tk (t : Tm) : List Int := (t.l.length : Int) :: t.e :: t.l
theorem cmpT_tk (a b : Tm) : cmpT a b = cmpW (tk a) (tk b) := by
  unfold cmpT tk orI
  rw [cmpW, cmpW]
theorem cmpT_anti (a b : Tm) : cmpT b a = - cmpT a b := by rw [cmpT_tk, cmpT_tk]; exact cmpW_anti _ _
theorem cmpT_trans {a b c : Tm} (h : cmpT a b < 0) (h' : cmpT b c < 0) : cmpT a c < 0 := by
  rw [cmpT_tk] at h h' ⊢
  exact cmpW_trans _ _ _ h h'
theorem cmpT_ne {a b : Tm} (h : cmpT a b < 0) : a ≠ b := fun e => by subst e; rw [cmpT_refl] at h; omega
theorem leqT_anti {a b : Tm} (h : leqT a b = true) (h' : leqT b a = true) : a = b := by
  have h1 := leqT_both a b
  rw [h, h'] at h1
  exact cmpT_zero (of_decide_eq_true h1.symm)

/-! ### antichains -/
/-- z is at or behind one of them. -/
def upL (l : List Tm) (z : Tm) : Prop := ∃ y ∈ l, leqT y z = true
def upB (l : List Tm) (z : Tm) : Bool := l.any fun y => leqT y z
theorem upB_iff {l : List Tm} {z : Tm} : upB l z = true ↔ upL l z := by simp [upB, upL, List.any_eq_true]
theorem upB_eq {l r : List Tm} (h : ∀ z, upL l z ↔ upL r z) (z : Tm) : upB l z = upB r z := by
  rw [Bool.eq_iff_iff, upB_iff, upB_iff]; exact h z
theorem upL_self {l : List Tm} {x : Tm} (h : x ∈ l) : upL l x := ⟨x, h, leqT_refl x⟩
theorem upL_mono {l : List Tm} {x z : Tm} (h : upL l x) (hz : leqT x z = true) : upL l z := by
  obtain ⟨y, hy, h1⟩ := h
  exact ⟨y, hy, leqT_trans h1 hz⟩
/-- The antichain beyond which lies just U, in its order. -/
structure Ac (U : Tm → Prop) (o : List Tm) : Prop where
  sorted : o.Pairwise fun a b => cmpT a b < 0
  anti : ∀ x ∈ o, ∀ y ∈ o, leqT x y = true → x = y
  up : ∀ z, upL o z ↔ U z
theorem Ac.mem {U : Tm → Prop} {o o' : List Tm} (h : Ac U o) (h' : Ac U o') {x : Tm} (hx : x ∈ o) : x ∈ o' := by
  obtain ⟨y, hy, hyx⟩ := (h'.up x).2 ((h.up x).1 (upL_self hx))
  obtain ⟨z, hz, hzy⟩ := (h.up y).2 ((h'.up y).1 (upL_self hy))
  have e := h.anti z hz x hx (leqT_trans hzy hyx)
  subst e
  rw [leqT_anti hzy hyx]
  exact hy
theorem sorted_eq : ∀ o o' : List Tm, o.Pairwise (fun a b => cmpT a b < 0) → o'.Pairwise (fun a b => cmpT a b < 0) → (∀ x, x ∈ o ↔ x ∈ o') → o = o'
  | [], [], _, _, _ => rfl
  | [], y :: _, _, _, h => by have := (h y).2 (by simp); simp at this
  | x :: _, [], _, _, h => by have := (h x).1 (by simp); simp at this
  | x :: o, y :: o', h, h', hm => by
    rw [List.pairwise_cons] at h h'
    have e : x = y := by
      have h1 := (hm x).1 (by simp)
      have h2 := (hm y).2 (by simp)
      rw [List.mem_cons] at h1 h2
      rcases h1 with h1 | h1
      · exact h1
      · rcases h2 with h2 | h2
        · exact h2.symm
        · have a1 := h'.1 x h1
          have a2 := h.1 y h2
          rw [cmpT_anti] at a1
          omega
    subst e
    rw [sorted_eq o o' h.2 h'.2 fun z => ?_]
    have hz := hm z
    rw [List.mem_cons, List.mem_cons] at hz
    constructor
    · intro hz1
      rcases hz.1 (.inr hz1) with rfl | h1
      · exact absurd rfl (cmpT_ne (h.1 z hz1))
      · exact h1
    · intro hz1
      rcases hz.2 (.inr hz1) with rfl | h1
      · exact absurd rfl (cmpT_ne (h'.1 z hz1))
      · exact h1
theorem Ac.one {U U' : Tm → Prop} {o o' : List Tm} (h : Ac U o) (h' : Ac U' o') (e : ∀ z, U z ↔ U' z) : o = o' := by
  have hh : Ac U o' := ⟨h'.sorted, h'.anti, fun z => (h'.up z).trans (e z).symm⟩
  exact sorted_eq o o' h.sorted h'.sorted fun x => ⟨fun hx => h.mem hh hx, fun hx => hh.mem h hx⟩
theorem Ac.of {U U' : Tm → Prop} {o : List Tm} (h : Ac U o) (e : ∀ z, U z ↔ U' z) : Ac U' o := ⟨h.sorted, h.anti, fun z => (h.up z).trans (e z)⟩

/-! ### as the program makes it -/
def ofStep (out : List Tm) (t : Tm) : List Tm := if upB out t = true then out else out.filter (fun x => !leqT t x) ++ [t]
def ofFold (l : List Tm) : List Tm := l.foldl ofStep []
theorem ofFold_snoc (l : List Tm) (t : Tm) : ofFold (l ++ [t]) = ofStep (ofFold l) t := by simp [ofFold, List.foldl_append]
theorem ofFold_len (l : List Tm) : (ofFold l).length ≤ l.length := by
  induction l using snoc_ind with
  | h0 => simp [ofFold]
  | h1 l t ih =>
    rw [ofFold_snoc, List.length_append]
    unfold ofStep
    split
    · omega
    · have := List.length_filter_le (fun x => !leqT t x) (ofFold l)
      simp only [List.length_append, List.length_cons, List.length_nil]; omega
theorem ofFold_sub (l : List Tm) : ∀ x ∈ ofFold l, x ∈ l := by
  induction l using snoc_ind with
  | h0 => simp [ofFold]
  | h1 l t ih =>
    rw [ofFold_snoc]
    unfold ofStep
    intro x hx
    split at hx
    · exact List.mem_append_left _ (ih x hx)
    · rw [List.mem_append] at hx ⊢
      rcases hx with hx | hx
      · exact .inl (ih x (List.mem_filter.1 hx).1)
      · exact .inr hx
theorem ofFold_anti (l : List Tm) : (∀ x ∈ ofFold l, ∀ y ∈ ofFold l, leqT x y = true → x = y) ∧ (ofFold l).Nodup ∧ ∀ z, upL (ofFold l) z ↔ upL l z := by
  induction l using snoc_ind with
  | h0 => simp [ofFold]
  | h1 l t ih =>
    obtain ⟨h1, h2, h3⟩ := ih
    rw [ofFold_snoc]
    unfold ofStep
    have hs : ∀ z, upL (l ++ [t]) z ↔ upL l z ∨ leqT t z = true := fun z => by
      constructor
      · rintro ⟨y, hy, hz⟩
        rw [List.mem_append, List.mem_singleton] at hy
        rcases hy with hy | rfl
        · exact .inl ⟨y, hy, hz⟩
        · exact .inr hz
      · rintro (⟨y, hy, hz⟩ | hz)
        · exact ⟨y, by simp [hy], hz⟩
        · exact ⟨t, by simp, hz⟩
    split
    · rename_i hup
      refine ⟨h1, h2, fun z => ?_⟩
      rw [hs, h3]
      constructor
      · exact .inl
      · rintro (h | h)
        · exact h
        · exact upL_mono ((h3 t).1 (upB_iff.1 hup)) h
    · rename_i hup
      have hup' : ¬ upL (ofFold l) t := fun h => hup (upB_iff.2 h)
      refine ⟨?_, ?_, fun z => ?_⟩
      · intro x hx y hy hxy
        rw [List.mem_append, List.mem_singleton, List.mem_filter] at hx hy
        rcases hx with ⟨hx, hx'⟩ | rfl
        · rcases hy with ⟨hy, _⟩ | rfl
          · exact h1 x hx y hy hxy
          · exact absurd ⟨x, hx, hxy⟩ hup'
        · rcases hy with ⟨hy, hy'⟩ | rfl
          · rw [hxy] at hy'; simp at hy'
          · rfl
      · rw [List.nodup_append]
        refine ⟨h2.filter _, by simp, fun a ha b hb e => ?_⟩
        rw [List.mem_singleton] at hb
        subst hb
        subst e
        exact hup' (upL_self (List.mem_filter.1 ha).1)
      · rw [hs, ← h3]
        constructor
        · rintro ⟨y, hy, hz⟩
          rw [List.mem_append, List.mem_singleton, List.mem_filter] at hy
          rcases hy with ⟨hy, _⟩ | rfl
          · exact .inl ⟨y, hy, hz⟩
          · exact .inr hz
        · rintro (⟨y, hy, hz⟩ | hz)
          · by_cases hty : leqT t y = true
            · exact ⟨t, by simp, leqT_trans hty hz⟩
            · exact ⟨y, by simp [hy, hty], hz⟩
          · exact ⟨t, by simp, hz⟩
/-- Sorted, it is the antichain. -/
theorem ofFold_ac {l r : List Tm} (h : r.Perm (ofFold l)) (hs : r.Pairwise fun a b => ¬ cmpT b a < 0) : Ac (upL l) r := by
  obtain ⟨h1, h2, h3⟩ := ofFold_anti l
  refine ⟨?_, fun x hx y hy => h1 x (h.mem_iff.1 hx) y (h.mem_iff.1 hy), fun z => ?_⟩
  · have hn : r.Nodup := h.nodup_iff.2 h2
    refine (hs.and hn).imp ?_
    rintro a b ⟨h4, h5⟩
    rw [cmpT_anti] at h4
    have : cmpT a b ≠ 0 := fun e => h5 (cmpT_zero e)
    omega
  · rw [← h3]
    exact ⟨fun ⟨y, hy, hz⟩ => ⟨y, h.mem_iff.1 hy, hz⟩, fun ⟨y, hy, hz⟩ => ⟨y, h.mem_iff.2 hy, hz⟩⟩
/-- Each has a least one ahead of it. -/
theorem least_of {l : List Tm} {y : Tm} (h : y ∈ l) : ∃ m ∈ l, leqT m y = true ∧ ∀ w ∈ l, leqT w m = true → w = m := by
  obtain ⟨h1, h2, h3⟩ := ofFold_anti l
  obtain ⟨m, hm, hmy⟩ := (h3 y).2 (upL_self h)
  refine ⟨m, ofFold_sub l m hm, hmy, fun w hw hwm => ?_⟩
  obtain ⟨v, hv, hvw⟩ := (h3 w).2 (upL_self hw)
  have e := h1 v hv m hm (leqT_trans hvw hwm)
  subst e
  exact leqT_anti hwm hvw

/-! ### as the document says it -/
/-- l[i] is there for itself: nothing is ahead of it, and it was not there before. -/
def leastB (l : List Tm) (x : Tm) (i : Nat) : Bool := (List.range l.length).all fun k => !(leqT (l.getD k x) x && !decide (cmpT (l.getD k x) x = 0) || decide (cmpT (l.getD k x) x = 0) && decide (k < i))
def insT (x : Tm) (o : List Tm) : List Tm := o.takeWhile (fun y => decide (cmpT y x < 0)) ++ x :: o.dropWhile (fun y => decide (cmpT y x < 0))
def refStep (l out : List Tm) (i : Nat) : List Tm := if leastB l (l.getD i ⟨0, []⟩) i = true then insT (l.getD i ⟨0, []⟩) out else out
def refFold (l : List Tm) (n : Nat) : List Tm := (List.range n).foldl (refStep l) []
theorem refFold_succ (l : List Tm) (n : Nat) : refFold l (n + 1) = refStep l (refFold l n) n := by simp [refFold, List.range_succ, List.foldl_append]
theorem mem_insT {x y : Tm} {o : List Tm} : y ∈ insT x o ↔ y = x ∨ y ∈ o := by
  unfold insT
  have h : y ∈ o ↔ y ∈ o.takeWhile (fun y => decide (cmpT y x < 0)) ∨ y ∈ o.dropWhile (fun y => decide (cmpT y x < 0)) := by
    conv => lhs; rw [← List.takeWhile_append_dropWhile (p := fun y => decide (cmpT y x < 0)) (l := o)]
    rw [List.mem_append]
  rw [h, List.mem_append, List.mem_cons]
  constructor
  · rintro (h | h | h)
    · exact .inr (.inl h)
    · exact .inl h
    · exact .inr (.inr h)
  · rintro (h | h | h)
    · exact .inr (.inl h)
    · exact .inl h
    · exact .inr (.inr h)
theorem insT_len (x : Tm) (o : List Tm) : (insT x o).length = o.length + 1 := by
  unfold insT
  have h := congrArg List.length (List.takeWhile_append_dropWhile (p := fun y => decide (cmpT y x < 0)) (l := o))
  rw [List.length_append] at h ⊢
  rw [List.length_cons]; omega
theorem insT_sorted {x : Tm} : ∀ {o : List Tm}, o.Pairwise (fun a b => cmpT a b < 0) → x ∉ o → (insT x o).Pairwise fun a b => cmpT a b < 0
  | [], _, _ => by simp [insT]
  | y :: o, h, hx => by
    rw [List.pairwise_cons] at h
    rw [List.mem_cons, not_or] at hx
    unfold insT
    by_cases hc : cmpT y x < 0
    · rw [List.takeWhile_cons_of_pos (by simpa using hc), List.dropWhile_cons_of_pos (by simpa using hc), List.cons_append, List.pairwise_cons]
      refine ⟨fun z hz => ?_, insT_sorted h.2 hx.2⟩
      have hz' : z ∈ insT x o := hz
      rcases mem_insT.1 hz' with rfl | hz'
      · exact hc
      · exact h.1 z hz'
    · rw [List.takeWhile_cons_of_neg (by simpa using hc), List.dropWhile_cons_of_neg (by simpa using hc), List.nil_append, List.pairwise_cons]
      have hxy : cmpT x y < 0 := by
        have := cmpT_anti y x
        have : cmpT y x ≠ 0 := fun e => hx.1 (cmpT_zero e).symm
        omega
      refine ⟨fun z hz => ?_, List.pairwise_cons.2 h⟩
      rcases List.mem_cons.1 hz with rfl | hz
      · exact hxy
      · exact cmpT_trans hxy (h.1 z hz)
theorem leastB_iff {l : List Tm} {i : Nat} {x : Tm} (hx : l[i]? = some x) : leastB l x i = true ↔ (∀ w ∈ l, leqT w x = true → w = x) ∧ ∀ k, k < i → l[k]? ≠ some x := by
  have hi : i < l.length := (List.getElem?_eq_some_iff.1 hx).1
  unfold leastB
  rw [List.all_eq_true]
  constructor
  · intro h
    refine ⟨fun w hw hl => ?_, fun k hk e => ?_⟩
    · obtain ⟨k, hk, rfl⟩ := List.mem_iff_getElem.1 hw
      have h1 := h k (List.mem_range.2 hk)
      rw [getD_at _ _ hk, hl] at h1
      by_cases hz : cmpT l[k] x = 0
      · exact cmpT_zero hz
      · simp [hz] at h1
    · have h1 := h k (List.mem_range.2 (by omega))
      rw [List.getD_eq_getElem?_getD, e] at h1
      simp [cmpT_refl, hk] at h1
  · rintro ⟨h1, h2⟩ k hk
    have hk := List.mem_range.1 hk
    rw [getD_at _ _ hk]
    by_cases hz : cmpT l[k] x = 0
    · have e := cmpT_zero hz
      have : ¬ k < i := fun hki => h2 k hki (by rw [List.getElem?_eq_getElem hk, e])
      simp [hz, this]
    · have : leqT l[k] x = false := by
        cases hl : leqT l[k] x
        · rfl
        · exact absurd (h1 _ (List.getElem_mem hk) hl) (fun e => hz (by rw [e]; exact cmpT_refl _))
      simp [this, hz]
theorem refFold_len (l : List Tm) : ∀ n, (refFold l n).length ≤ n
  | 0 => by simp [refFold]
  | n + 1 => by
    rw [refFold_succ]
    unfold refStep
    have := refFold_len l n
    split
    · rw [insT_len]; omega
    · omega
theorem refFold_is (l : List Tm) : ∀ n, n ≤ l.length → (refFold l n).Pairwise (fun a b => cmpT a b < 0) ∧ ∀ x, x ∈ refFold l n ↔ ∃ i, i < n ∧ l[i]? = some x ∧ leastB l x i = true
  | 0, _ => by simp [refFold]
  | n + 1, hn => by
    obtain ⟨h1, h2⟩ := refFold_is l n (by omega)
    obtain ⟨t, ht⟩ : ∃ t, l[n]? = some t := ⟨_, List.getElem?_eq_getElem (by omega)⟩
    have hd : l.getD n ⟨0, []⟩ = t := by rw [List.getD_eq_getElem?_getD, ht]; rfl
    rw [refFold_succ]
    unfold refStep
    rw [hd]
    have hS : ∀ x, (∃ i, i < n + 1 ∧ l[i]? = some x ∧ leastB l x i = true) ↔ (∃ i, i < n ∧ l[i]? = some x ∧ leastB l x i = true) ∨ (x = t ∧ leastB l t n = true) := fun x => by
      constructor
      · rintro ⟨i, hi, h3, h4⟩
        rcases Nat.lt_succ_iff_lt_or_eq.1 hi with hi | rfl
        · exact .inl ⟨i, hi, h3, h4⟩
        · have e : x = t := by rw [ht] at h3; exact (Option.some.inj h3).symm
          subst e
          exact .inr ⟨rfl, h4⟩
      · rintro (⟨i, hi, h3, h4⟩ | ⟨rfl, h4⟩)
        · exact ⟨i, by omega, h3, h4⟩
        · exact ⟨n, by omega, ht, h4⟩
    by_cases hl : leastB l t n = true
    · rw [if_pos hl]
      refine ⟨insT_sorted h1 fun hm => ?_, fun x => ?_⟩
      · obtain ⟨i, hi, h3, _⟩ := (h2 t).1 hm
        exact ((leastB_iff ht).1 hl).2 i hi h3
      · rw [mem_insT, hS, h2]
        constructor
        · rintro (h | h)
          · exact .inr ⟨h, hl⟩
          · exact .inl h
        · rintro (h | ⟨h, _⟩)
          · exact .inr h
          · exact .inl h
    · rw [if_neg hl]
      refine ⟨h1, fun x => ?_⟩
      rw [hS, h2]
      constructor
      · exact .inl
      · rintro (h | ⟨_, h⟩)
        · exact h
        · exact absurd h hl
theorem first_of : ∀ {l : List Tm} {x : Tm}, x ∈ l → ∃ i : Nat, l[i]? = some x ∧ ∀ k, k < i → l[k]? ≠ some x
  | y :: l, x, h => by
    by_cases e : y = x
    · exact ⟨0, by simp [e], fun k hk => by omega⟩
    · have hx : x ∈ l := by
        rcases List.mem_cons.1 h with h | h
        · exact absurd h.symm e
        · exact h
      obtain ⟨i, h1, h2⟩ := first_of hx
      refine ⟨i + 1, by simpa using h1, fun k hk => ?_⟩
      rcases k with _ | k
      · simpa using e
      · simpa using h2 k (by omega)
theorem refFold_ac (l : List Tm) : Ac (upL l) (refFold l l.length) := by
  obtain ⟨h1, h2⟩ := refFold_is l l.length (Nat.le_refl _)
  refine ⟨h1, fun x hx y hy hxy => ?_, fun z => ⟨?_, ?_⟩⟩
  · obtain ⟨i, _, hi, _⟩ := (h2 x).1 hx
    obtain ⟨j, _, hj, hl⟩ := (h2 y).1 hy
    exact ((leastB_iff hj).1 hl).1 x (List.mem_of_getElem? hi) hxy
  · rintro ⟨y, hy, hz⟩
    obtain ⟨i, _, hi, _⟩ := (h2 y).1 hy
    exact ⟨y, List.mem_of_getElem? hi, hz⟩
  · rintro ⟨y, hy, hz⟩
    obtain ⟨m, hm, hmy, hmin⟩ := least_of hy
    obtain ⟨i, hi, hf⟩ := first_of hm
    exact ⟨m, (h2 m).2 ⟨i, (List.getElem?_eq_some_iff.1 hi).1, hi, (leastB_iff hi).2 ⟨hmin, hf⟩⟩, leqT_trans hmy hz⟩

/-! ### joins -/
def joinO (x y : Tm) : List Tm := if x.l.length = y.l.length then [chosenT max x y] else []
def joinsL (a b : List Tm) : List Tm := a.flatMap fun x => b.flatMap (joinO x)
theorem joinsL_up (a b : List Tm) (z : Tm) : upL (joinsL a b) z ↔ upL a z ∧ upL b z := by
  constructor
  · rintro ⟨t, ht, hz⟩
    unfold joinsL at ht
    rw [List.mem_flatMap] at ht
    obtain ⟨x, hx, ht⟩ := ht
    rw [List.mem_flatMap] at ht
    obtain ⟨y, hy, ht⟩ := ht
    unfold joinO at ht
    split at ht
    · rename_i e
      rw [List.mem_singleton] at ht
      subst ht
      exact ⟨⟨x, hx, leqT_trans (joinT_l e) hz⟩, ⟨y, hy, leqT_trans (joinT_r e) hz⟩⟩
    · simp at ht
  · rintro ⟨⟨x, hx, hxz⟩, ⟨y, hy, hyz⟩⟩
    have e1 := leqT_len hxz
    have e2 := leqT_len hyz
    refine ⟨chosenT max x y, List.mem_flatMap.2 ⟨x, hx, List.mem_flatMap.2 ⟨y, hy, by unfold joinO; rw [if_pos (e1.trans e2.symm)]; simp⟩⟩, ?_⟩
    rw [joinT_least (e1.trans e2.symm) e2, hxz, hyz]; rfl

/-! ### the time that stands for another one -/
/-- What has been found: nothing yet, or a time. -/
def advStep (t : Tm) (o : Option Tm) (x : Tm) : Option Tm :=
  if t.l.length = x.l.length then some (match o with | none => chosenT max t x | some m => chosenT min m (chosenT max t x)) else o
def advO (t : Tm) (a : List Tm) : Option Tm := a.foldl (advStep t) none
def advT (a : List Tm) (t : Tm) : Tm := (advO t a).getD t
theorem advO_snoc (t : Tm) (a : List Tm) (x : Tm) : advO t (a ++ [x]) = advStep t (advO t a) x := by simp [advO, List.foldl_append]
theorem advO_is (t : Tm) (a : List Tm) : match advO t a with
    | none => ∀ x ∈ a, t.l.length ≠ x.l.length
    | some m => m.l.length = t.l.length ∧ leqT t m = true ∧ ∀ x ∈ a, t.l.length = x.l.length → leqT m (chosenT max t x) = true := by
  induction a using snoc_ind with
  | h0 => simp [advO]
  | h1 a x ih =>
    rw [advO_snoc]
    unfold advStep
    by_cases hx : t.l.length = x.l.length
    · rw [if_pos hx]
      have hj : (chosenT max t x).l.length = t.l.length := chosen_len hx
      rcases ho : advO t a with _ | m
      · rw [ho] at ih
        refine ⟨hj, joinT_l hx, fun y hy hyl => ?_⟩
        rw [List.mem_append, List.mem_singleton] at hy
        rcases hy with hy | rfl
        · exact absurd hyl (ih y hy)
        · exact leqT_refl _
      · rw [ho] at ih
        obtain ⟨h1, h2, h3⟩ := ih
        have hm : m.l.length = (chosenT max t x).l.length := by rw [hj, h1]
        refine ⟨(chosen_len hm).trans h1, ?_, fun y hy hyl => ?_⟩
        · simp only
          rw [meetT_great hm hj, h2, joinT_l hx]; rfl
        · rw [List.mem_append, List.mem_singleton] at hy
          rcases hy with hy | rfl
          · exact leqT_trans (meetT_l hm) (h3 y hy hyl)
          · exact meetT_r hm
    · rw [if_neg hx]
      rcases ho : advO t a with _ | m
      · rw [ho] at ih
        intro y hy
        rw [List.mem_append, List.mem_singleton] at hy
        rcases hy with hy | rfl
        · exact ih y hy
        · exact hx
      · rw [ho] at ih
        refine ⟨ih.1, ih.2.1, fun y hy hyl => ?_⟩
        rw [List.mem_append, List.mem_singleton] at hy
        rcases hy with hy | rfl
        · exact ih.2.2 y hy hyl
        · exact absurd hyl hx
/-- Beyond the antichain nothing can tell them apart. -/
theorem advT_same {a : List Tm} {s t : Tm} (h : upL a t) (hl : s.l.length = t.l.length) : leqT s t = leqT (advT a s) t := by
  obtain ⟨x, hx, hxt⟩ := h
  have hxl := leqT_len hxt
  have hsx : s.l.length = x.l.length := hl.trans hxl.symm
  unfold advT
  have h1 := advO_is s a
  rcases ho : advO s a with _ | m
  · rw [ho] at h1
    exact absurd hsx (h1 x hx)
  · rw [ho] at h1
    obtain ⟨h2, h3, h4⟩ := h1
    simp only [Option.getD_some]
    rw [Bool.eq_iff_iff]
    constructor
    · intro hst
      refine leqT_trans (h4 x hx hsx) ?_
      rw [joinT_least hsx hxl, hst, hxt]; rfl
    · exact leqT_trans h3
theorem advO_len {t : Tm} {a : List Tm} {m : Tm} (h : advO t a = some m) : m.l.length = t.l.length := by
  have := advO_is t a
  rw [h] at this
  exact this.1
theorem advT_len (a : List Tm) (t : Tm) : (advT a t).l.length = t.l.length := by
  unfold advT
  rcases h : advO t a with _ | m
  · rfl
  · exact advO_len h
end Go.Proofs.YtdfhchpimpbgfaaGreatDoor
