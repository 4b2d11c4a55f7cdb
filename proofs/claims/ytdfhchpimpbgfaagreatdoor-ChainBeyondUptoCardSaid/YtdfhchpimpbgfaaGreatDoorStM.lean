/-
  Plain mathematics of layer 4 (stamp), on lists of integers alone: times, ways, their orders, what becomes of a time on a way. No program is in sight. No condition.
-/
set_option linter.unusedVariables false
set_option linter.unusedSimpArgs false
namespace Go.Proofs.YtdfhchpimpbgfaaGreatDoor

structure Tm where
  e : Int
  l : List Int
structure Pt where
  lv : Int
  ad : Int
  en : List Int
theorem Tm.eq_of {x y : Tm} (h : x.e = y.e) (h' : x.l = y.l) : x = y := by cases x; cases y; simp_all

def c3 (x y : Int) : Int := if x < y then -1 else if x = y then 0 else 1
def orI (a b : Int) : Int := if a = 0 then b else a
def leqL : List Int → List Int → Bool
  | a :: l, b :: r => if b < a then false else leqL l r
  | [], _ => true
  | _ :: _, [] => true
def leqT (a b : Tm) : Bool := if a.l.length = b.l.length then (if b.e < a.e then false else leqL a.l b.l) else false
def cmpW : List Int → List Int → Int
  | [], [] => 0
  | [], _ :: _ => -1
  | _ :: _, [] => 1
  | a :: l, b :: r => if c3 a b = 0 then cmpW l r else c3 a b
def cmpT (a b : Tm) : Int := orI (c3 (a.l.length : Int) (b.l.length : Int)) (orI (c3 a.e b.e) (cmpW a.l b.l))
def tl (t : Tm) : List Int := t.e :: t.l
def ofL : List Int → Tm
  | e :: l => ⟨e, l⟩
  | [] => ⟨0, []⟩

theorem c3_self (x : Int) : c3 x x = 0 := by simp [c3]
theorem c3_zero {x y : Int} (h : c3 x y = 0) : x = y := by
  unfold c3 at h
  split at h
  · cases h
  · split at h
    · assumption
    · cases h
theorem c3_le {x y : Int} (h : x ≤ y) : c3 x y ≤ 0 := by
  unfold c3
  split
  · decide
  · rw [if_pos (by omega)]; decide
theorem leqL_refl : ∀ l : List Int, leqL l l = true
  | [] => rfl
  | a :: l => by rw [leqL, if_neg (by omega)]; exact leqL_refl l
theorem leqL_trans : ∀ a b c : List Int, a.length = b.length → b.length = c.length → leqL a b = true → leqL b c = true → leqL a c = true
  | [], _, _, _, _, _, _ => by rw [leqL]
  | x :: a, [], _, h, _, _, _ => by simp at h
  | x :: a, y :: b, [], _, h, _, _ => by simp at h
  | x :: a, y :: b, z :: c, h, h', h1, h2 => by
    rw [leqL] at h1 h2 ⊢
    split at h1
    · cases h1
    · split at h2
      · cases h2
      · rw [if_neg (by omega)]
        exact leqL_trans a b c (by simpa using h) (by simpa using h') h1 h2
theorem cmpW_refl : ∀ l : List Int, cmpW l l = 0
  | [] => rfl
  | a :: l => by rw [cmpW, if_pos (c3_self a)]; exact cmpW_refl l
theorem cmpW_zero : ∀ a b : List Int, cmpW a b = 0 → a = b
  | [], [], _ => rfl
  | [], _ :: _, h => by rw [cmpW] at h; cases h
  | _ :: _, [], h => by rw [cmpW] at h; cases h
  | a :: l, b :: r, h => by
    rw [cmpW] at h
    split at h
    · next h1 => rw [c3_zero h1, cmpW_zero l r h]
    · contradiction
theorem leqL_cmp : ∀ a b : List Int, a.length = b.length → leqL a b = true → cmpW a b ≤ 0
  | [], [], _, _ => by rw [cmpW]; decide
  | [], _ :: _, h, _ => by simp at h
  | _ :: _, [], h, _ => by simp at h
  | a :: l, b :: r, h, h1 => by
    rw [leqL] at h1
    split at h1
    · cases h1
    · rw [cmpW]
      split
      · exact leqL_cmp l r (by simpa using h) h1
      · exact c3_le (by omega)
theorem leqL_anti : ∀ a b : List Int, a.length = b.length → leqL a b = true → leqL b a = true → a = b
  | [], [], _, _, _ => rfl
  | [], _ :: _, h, _, _ => by simp at h
  | _ :: _, [], h, _, _ => by simp at h
  | a :: l, b :: r, h, h1, h2 => by
    rw [leqL] at h1 h2
    split at h1
    · cases h1
    · split at h2
      · cases h2
      · rw [show a = b by omega, leqL_anti l r (by simpa using h) h1 h2]
/-! ### times -/
theorem leqT_len {a b : Tm} (h : leqT a b = true) : a.l.length = b.l.length := by
  unfold leqT at h
  split at h
  · assumption
  · cases h
theorem leqT_tl {a b : Tm} (h : a.l.length = b.l.length) : leqT a b = leqL (tl a) (tl b) := by
  unfold leqT tl
  rw [if_pos h, leqL]
theorem leqT_refl (a : Tm) : leqT a a = true := by rw [leqT_tl rfl]; exact leqL_refl _
theorem leqT_trans {a b c : Tm} (h : leqT a b = true) (h' : leqT b c = true) : leqT a c = true := by
  have e1 := leqT_len h
  have e2 := leqT_len h'
  rw [leqT_tl e1] at h
  rw [leqT_tl e2] at h'
  rw [leqT_tl (e1.trans e2)]
  exact leqL_trans _ _ _ (by simp [tl, e1]) (by simp [tl, e2]) h h'
theorem orI_zero {a b : Int} (h : orI a b = 0) : a = 0 ∧ b = 0 := by
  unfold orI at h
  split at h
  · exact ⟨by assumption, h⟩
  · contradiction
theorem cmpT_zero {a b : Tm} (h : cmpT a b = 0) : a = b := by
  obtain ⟨_, h⟩ := orI_zero h
  obtain ⟨h1, h2⟩ := orI_zero h
  exact Tm.eq_of (c3_zero h1) (cmpW_zero _ _ h2)
theorem cmpT_refl (a : Tm) : cmpT a a = 0 := by
  unfold cmpT orI
  rw [if_pos (c3_self _), if_pos (c3_self _)]
  exact cmpW_refl _
theorem leqT_cmp {a b : Tm} (h : leqT a b = true) : cmpT a b ≤ 0 := by
  have e1 := leqT_len h
  unfold leqT at h
  rw [if_pos e1] at h
  split at h
  · cases h
  · unfold cmpT orI
    rw [e1, if_pos (c3_self _)]
    split
    · exact leqL_cmp _ _ e1 h
    · exact c3_le (by omega)
theorem leqT_both (a b : Tm) : (leqT a b && leqT b a) = decide (cmpT a b = 0) := by
  by_cases h : cmpT a b = 0
  · have := cmpT_zero h
    subst this
    rw [leqT_refl, decide_eq_true h]; rfl
  · rw [decide_eq_false h]
    by_cases h1 : leqT a b = true
    · by_cases h2 : leqT b a = true
      · exfalso
        apply h
        have e1 := leqT_len h1
        rw [leqT_tl e1] at h1
        rw [leqT_tl e1.symm] at h2
        have := leqL_anti _ _ (by simp [tl, e1]) h1 h2
        unfold tl at this
        injection this with q1 q2
        have : a = b := Tm.eq_of q1 q2
        subst this
        exact cmpT_refl _
      · rw [show leqT b a = false by simpa using h2]; simp
    · rw [show leqT a b = false by simpa using h1]; simp
/-! ### joins and meets -/
def zipL (f : Int → Int → Int) : List Int → List Int → List Int
  | a :: l, b :: r => f a b :: zipL f l r
  | _, _ => []
theorem zipL_len (f : Int → Int → Int) : ∀ a b : List Int, a.length = b.length → (zipL f a b).length = a.length
  | [], [], _ => rfl
  | [], _ :: _, h => by simp at h
  | _ :: _, [], h => by simp at h
  | a :: l, b :: r, h => by rw [zipL, List.length_cons, zipL_len f l r (by simpa using h), List.length_cons]
theorem join_l : ∀ a b : List Int, a.length = b.length → leqL a (zipL max a b) = true
  | [], _, _ => by rw [leqL]
  | _ :: _, [], h => by simp at h
  | a :: l, b :: r, h => by rw [zipL, leqL, if_neg (by omega)]; exact join_l l r (by simpa using h)
theorem join_r : ∀ a b : List Int, a.length = b.length → leqL b (zipL max a b) = true
  | _, [], _ => by rw [leqL]
  | [], _ :: _, h => by simp at h
  | a :: l, b :: r, h => by rw [zipL, leqL, if_neg (by omega)]; exact join_r l r (by simpa using h)
theorem meet_l : ∀ a b : List Int, a.length = b.length → leqL (zipL min a b) a = true
  | [], [], _ => by rw [zipL]; rfl; simp
  | [], _ :: _, h => by simp at h
  | _ :: _, [], h => by simp at h
  | a :: l, b :: r, h => by rw [zipL, leqL, if_neg (by omega)]; exact meet_l l r (by simpa using h)
theorem meet_r : ∀ a b : List Int, a.length = b.length → leqL (zipL min a b) b = true
  | [], [], _ => by rw [zipL]; rfl; simp
  | [], _ :: _, h => by simp at h
  | _ :: _, [], h => by simp at h
  | a :: l, b :: r, h => by rw [zipL, leqL, if_neg (by omega)]; exact meet_r l r (by simpa using h)
theorem join_least : ∀ a b c : List Int, a.length = b.length → b.length = c.length → leqL (zipL max a b) c = (leqL a c && leqL b c)
  | [], [], c, _, _ => by rw [zipL, leqL]; rfl; simp
  | [], _ :: _, _, h, _ => by simp at h
  | _ :: _, [], _, h, _ => by simp at h
  | _ :: _, _ :: _, [], _, h => by simp at h
  | a :: l, b :: r, c :: s, h, h' => by
    rw [zipL, leqL, leqL, leqL, join_least l r s (by simpa using h) (by simpa using h')]
    by_cases h1 : c < a
    · rw [if_pos (by omega), if_pos h1]; rfl
    · rw [if_neg h1]
      by_cases h2 : c < b
      · rw [if_pos (by omega), if_pos h2]; simp
      · rw [if_neg (by omega), if_neg h2]
theorem meet_great : ∀ a b c : List Int, a.length = b.length → b.length = c.length → leqL c (zipL min a b) = (leqL c a && leqL c b)
  | [], [], [], _, _ => rfl
  | [], [], _ :: _, _, h => by simp at h
  | [], _ :: _, _, h, _ => by simp at h
  | _ :: _, [], _, h, _ => by simp at h
  | _ :: _, _ :: _, [], _, h => by simp at h
  | a :: l, b :: r, c :: s, h, h' => by
    rw [zipL, leqL, leqL, leqL, meet_great l r s (by simpa using h) (by simpa using h')]
    by_cases h1 : a < c
    · rw [if_pos (by omega), if_pos h1]; rfl
    · rw [if_neg h1]
      by_cases h2 : b < c
      · rw [if_pos (by omega), if_pos h2]; simp
      · rw [if_neg (by omega), if_neg h2]
def chosenT (f : Int → Int → Int) (a b : Tm) : Tm := if a.l.length = b.l.length then ⟨f a.e b.e, zipL f a.l b.l⟩ else ⟨0, []⟩
def chosenE (a b : Tm) : Int := if a.l.length = b.l.length then 0 else 40
theorem chosen_tl {f : Int → Int → Int} {a b : Tm} (h : a.l.length = b.l.length) : tl (chosenT f a b) = zipL f (tl a) (tl b) := by
  unfold chosenT tl
  rw [if_pos h, zipL]
theorem chosen_len {f : Int → Int → Int} {a b : Tm} (h : a.l.length = b.l.length) : (chosenT f a b).l.length = a.l.length := by
  unfold chosenT
  rw [if_pos h]
  exact zipL_len f _ _ h
theorem tl_len {a b : Tm} (h : a.l.length = b.l.length) : (tl a).length = (tl b).length := by simp [tl, h]
theorem joinT_l {a b : Tm} (h : a.l.length = b.l.length) : leqT a (chosenT max a b) = true := by
  rw [leqT_tl (chosen_len h).symm, chosen_tl h]; exact join_l _ _ (tl_len h)
theorem joinT_r {a b : Tm} (h : a.l.length = b.l.length) : leqT b (chosenT max a b) = true := by
  rw [leqT_tl ((chosen_len h).trans h).symm, chosen_tl h]; exact join_r _ _ (tl_len h)
theorem meetT_l {a b : Tm} (h : a.l.length = b.l.length) : leqT (chosenT min a b) a = true := by
  rw [leqT_tl (chosen_len h), chosen_tl h]; exact meet_l _ _ (tl_len h)
theorem meetT_r {a b : Tm} (h : a.l.length = b.l.length) : leqT (chosenT min a b) b = true := by
  rw [leqT_tl ((chosen_len h).trans h), chosen_tl h]; exact meet_r _ _ (tl_len h)
theorem joinT_least {a b c : Tm} (h : a.l.length = b.l.length) (h' : b.l.length = c.l.length) : leqT (chosenT max a b) c = (leqT a c && leqT b c) := by
  rw [leqT_tl ((chosen_len h).trans (h.trans h')), chosen_tl h, leqT_tl (h.trans h'), leqT_tl h']; exact join_least _ _ _ (tl_len h) (tl_len h')
theorem meetT_great {a b c : Tm} (h : a.l.length = b.l.length) (h' : b.l.length = c.l.length) : leqT c (chosenT min a b) = (leqT c a && leqT c b) := by
  rw [leqT_tl ((chosen_len h).trans (h.trans h')).symm, chosen_tl h, leqT_tl (h.trans h').symm, leqT_tl h'.symm]; exact meet_great _ _ _ (tl_len h) (tl_len h')
/-! ### ways -/
def ap (T : List Int) (k : Nat) (ad : Int) (en : List Int) : List Int := T.take k ++ (T.getD k 0 + ad) :: en
def topK (k : Nat) : Int := if k = 0 then 18446744073709551615 else 4294967295
def keptT (p : Pt) (n : Nat) : Nat := n - p.lv.toNat
def applyE (p : Pt) (t : Tm) : Int :=
  if p.lv < 0 ∨ (t.l.length : Int) < p.lv then 40
  else if topK (keptT p t.l.length) < (tl t).getD (keptT p t.l.length) 0 + p.ad then 41
  else if 3 < keptT p t.l.length + p.en.length then 40 else 0
def applyT (p : Pt) (t : Tm) : Tm := if applyE p t = 0 then ofL (ap (tl t) (keptT p t.l.length) p.ad p.en) else ⟨0, []⟩
def thenE (p q : Pt) : Int :=
  if q.lv < 0 then 40
  else if q.lv < (p.en.length : Int) then (if 4294967295 < p.en.getD (p.en.length - q.lv.toNat - 1) 0 + q.ad then 41 else 0)
  else if q.lv = (p.en.length : Int) then (if 4294967295 < p.ad + q.ad then 41 else 0)
  else if 4294967295 < p.lv + (q.lv - p.en.length) then 41 else 0
def thenP (p q : Pt) : Pt :=
  if thenE p q = 0 then
    (if q.lv < (p.en.length : Int) then ⟨p.lv, p.ad, p.en.take (p.en.length - q.lv.toNat - 1) ++ (p.en.getD (p.en.length - q.lv.toNat - 1) 0 + q.ad) :: q.en⟩
    else if q.lv = (p.en.length : Int) then ⟨p.lv, p.ad + q.ad, q.en⟩
    else ⟨p.lv + (q.lv - p.en.length), q.ad, q.en⟩)
  else ⟨0, 0, []⟩
theorem applyE_lv {p : Pt} {t : Tm} (h : applyE p t = 0) : 0 ≤ p.lv ∧ p.lv ≤ t.l.length ∧ (tl t).getD (keptT p t.l.length) 0 + p.ad ≤ topK (keptT p t.l.length) ∧ keptT p t.l.length + p.en.length ≤ 3 := by
  unfold applyE at h
  split at h
  · cases h
  · split at h
    · cases h
    · split at h
      · cases h
      · exact ⟨by omega, by omega, by omega, by omega⟩
theorem kept_lt (p : Pt) (t : Tm) : keptT p t.l.length < (tl t).length := by simp [keptT, tl]; omega
theorem ap_len {T : List Int} {k : Nat} (a : Int) (en : List Int) (h : k < T.length) : (ap T k a en).length = k + 1 + en.length := by
  unfold ap
  rw [List.length_append, List.length_take, List.length_cons]; omega
theorem ap_getD {T : List Int} {k : Nat} (a : Int) (en : List Int) (h : k < T.length) (i : Nat) : (ap T k a en).getD i 0 = if i < k then T.getD i 0 else if i = k then T.getD k 0 + a else en.getD (i - k - 1) 0 := by
  unfold ap
  have hl : (T.take k).length = k := by rw [List.length_take]; omega
  by_cases h1 : i < k
  · rw [if_pos h1, List.getD_eq_getElem?_getD, List.getElem?_append_left (by omega), List.getElem?_take, if_pos h1, ← List.getD_eq_getElem?_getD]
  · rw [if_neg h1, List.getD_eq_getElem?_getD, List.getElem?_append_right (by omega), hl]
    by_cases h2 : i = k
    · subst h2
      rw [if_pos rfl]; simp
    · rw [if_neg h2]
      obtain ⟨j, hj⟩ : ∃ j, i - k = j + 1 := ⟨i - k - 1, by omega⟩
      rw [hj, List.getElem?_cons_succ, List.getD_eq_getElem?_getD]
      rfl
theorem ap_take {T : List Int} {k : Nat} (a : Int) (en : List Int) (h : k < T.length) (i : Nat) (hi : i ≤ k) : (ap T k a en).take i = T.take i := by
  unfold ap
  rw [List.take_append_of_le_length (by rw [List.length_take]; omega), List.take_take, Nat.min_eq_left hi]
theorem ap_lt {T : List Int} {k i : Nat} (a a2 : Int) (en en2 : List Int) (h : k < T.length) (hi : i < k) : ap (ap T k a en) i a2 en2 = ap T i a2 en2 := by
  rw [ap, ap_take a en h i (by omega), ap_getD a en h, if_pos hi]; rfl
theorem ap_eq {T : List Int} {k : Nat} (a a2 : Int) (en en2 : List Int) (h : k < T.length) : ap (ap T k a en) k a2 en2 = ap T k (a + a2) en2 := by
  rw [ap, ap_take a en h k (Nat.le_refl _), ap_getD a en h, if_neg (by omega), if_pos rfl, Int.add_assoc]; rfl
theorem ap_gt {T : List Int} {k j : Nat} (a a2 : Int) (en en2 : List Int) (h : k < T.length) : ap (ap T k a en) (k + 1 + j) a2 en2 = ap T k a (en.take j ++ (en.getD j 0 + a2) :: en2) := by
  rw [ap, ap_getD a en h, if_neg (by omega), if_neg (by omega), show k + 1 + j - k - 1 = j by omega]
  unfold ap
  have hl : (T.take k).length = k := by rw [List.length_take]; omega
  rw [List.take_append, hl, show k + 1 + j - k = j + 1 by omega, List.take_succ_cons, List.take_of_length_le (by omega)]
  simp
theorem ofL_tl (t : Tm) : ofL (tl t) = t := rfl
theorem tl_ofL {l : List Int} (h : 0 < l.length) : tl (ofL l) = l := by
  cases l with
  | nil => simp at h
  | cons a l => rfl
theorem applyT_tl {p : Pt} {t : Tm} (h : applyE p t = 0) : tl (applyT p t) = ap (tl t) (keptT p t.l.length) p.ad p.en := by
  unfold applyT
  rw [if_pos h]
  exact tl_ofL (by rw [ap_len _ _ (kept_lt p t)]; omega)
theorem applyT_len {p : Pt} {t : Tm} (h : applyE p t = 0) : (applyT p t).l.length = keptT p t.l.length + p.en.length := by
  have h1 := congrArg List.length (applyT_tl h)
  rw [ap_len _ _ (kept_lt p t)] at h1
  simp [tl] at h1
  omega
theorem tl_inj {a b : Tm} (h : tl a = tl b) : a = b := by
  unfold tl at h
  injection h with h1 h2
  exact Tm.eq_of h1 h2
theorem then_goes {p q : Pt} {a : Tm} (h : applyE p a = 0) (h1 : thenE p q = 0) (h2 : applyE q (applyT p a) = 0) (h3 : applyE (thenP p q) a = 0) : applyT q (applyT p a) = applyT (thenP p q) a := by
  apply tl_inj
  rw [applyT_tl h2, applyT_tl h3, applyT_tl h, applyT_len h]
  obtain ⟨p0, p1, _, _⟩ := applyE_lv h
  obtain ⟨q0, q1, _, _⟩ := applyE_lv h2
  rw [applyT_len h] at q1
  have hk := kept_lt p a
  unfold thenP
  rw [if_pos h1]
  have e1 : keptT p a.l.length = a.l.length - p.lv.toNat := rfl
  by_cases c1 : q.lv < (p.en.length : Int)
  · rw [if_pos c1]
    have e2 : keptT q (keptT p a.l.length + p.en.length) = keptT p a.l.length + 1 + (p.en.length - q.lv.toNat - 1) := by
      show keptT p a.l.length + p.en.length - q.lv.toNat = _
      omega
    rw [e2, ap_gt _ _ _ _ hk]
    rfl
  · rw [if_neg c1]
    by_cases c2 : q.lv = (p.en.length : Int)
    · rw [if_pos c2]
      have e2 : keptT q (keptT p a.l.length + p.en.length) = keptT p a.l.length := by
        show keptT p a.l.length + p.en.length - q.lv.toNat = _
        omega
      rw [e2, ap_eq _ _ _ _ hk]
      rfl
    · rw [if_neg c2]
      have e2 : keptT q (keptT p a.l.length + p.en.length) = keptT (⟨p.lv + (q.lv - p.en.length), q.ad, q.en⟩ : Pt) a.l.length := by
        show keptT p a.l.length + p.en.length - q.lv.toNat = a.l.length - (p.lv + (q.lv - p.en.length)).toNat
        omega
      rw [e2]
      have e3 : keptT (⟨p.lv + (q.lv - p.en.length), q.ad, q.en⟩ : Pt) a.l.length < keptT p a.l.length := by
        show a.l.length - (p.lv + (q.lv - p.en.length)).toNat < _
        omega
      rw [ap_lt _ _ _ _ hk e3]
theorem leqL_of_getD : ∀ a b : List Int, a.length = b.length → (∀ i, i < a.length → a.getD i 0 ≤ b.getD i 0) → leqL a b = true
  | [], _, _, _ => by rw [leqL]
  | _ :: _, [], h, _ => by simp at h
  | x :: a, y :: b, h, h1 => by
    have h0 := h1 0 (by simp)
    simp at h0
    rw [leqL, if_neg (by omega)]
    exact leqL_of_getD a b (by simpa using h) (fun i hi => by simpa using h1 (i + 1) (by simpa using hi))
theorem leqL_getD : ∀ a b : List Int, a.length = b.length → leqL a b = true → ∀ i, a.getD i 0 ≤ b.getD i 0
  | [], [], _, _, i => by simp
  | [], _ :: _, h, _, _ => by simp at h
  | _ :: _, [], h, _, _ => by simp at h
  | x :: a, y :: b, h, h1, i => by
    rw [leqL] at h1
    split at h1
    · cases h1
    · cases i with
      | zero => simp; omega
      | succ i => simpa using leqL_getD a b (by simpa using h) h1 i
theorem apply_keeps {p : Pt} {a b : Tm} (h : applyE p a = 0) (h' : applyE p b = 0) (hl : leqT a b = true) : leqT (applyT p a) (applyT p b) = true := by
  have e := leqT_len hl
  rw [leqT_tl e] at hl
  have hg := leqL_getD _ _ (tl_len e) hl
  rw [leqT_tl (by rw [applyT_len h, applyT_len h', e]), applyT_tl h, applyT_tl h']
  have hk := kept_lt p a
  have hk' := kept_lt p b
  rw [← e] at hk' ⊢
  refine leqL_of_getD _ _ (by rw [ap_len _ _ hk, ap_len _ _ hk']) (fun i _ => ?_)
  rw [ap_getD _ _ hk, ap_getD _ _ hk']
  split
  · exact hg i
  · split
    · exact Int.add_le_add_right (hg _) _
    · exact Int.le_refl _
/-! ### ways in order -/
def atK (p : Pt) (k i : Nat) : Bool := decide (i ≤ k)
def atB (p : Pt) (k i : Nat) : Int := if k < i then p.en.getD (i - k - 1) 0 else if i = k then p.ad else 0
def okAt (p q : Pt) (kp kq i : Nat) : Bool := !(atK p kp i && !atK q kq i || decide (atB q kq i < atB p kp i))
def leavesB (p : Pt) (d : Int) : Bool := decide (0 ≤ p.lv) && decide (p.lv ≤ d)
def pathLeq (p q : Pt) (d : Int) : Bool :=
  if d < 0 ∨ 3 < d ∨ leavesB p d = false ∨ leavesB q d = false then false
  else if 3 < d - p.lv + p.en.length ∨ d - p.lv + p.en.length ≠ d - q.lv + q.en.length then false
  else (List.range ((d - p.lv + p.en.length).toNat + 1)).all (okAt p q (d - p.lv).toNat (d - q.lv).toNat)
theorem pathLeq_iff {p q : Pt} {d : Int} : pathLeq p q d = true ↔ (0 ≤ d ∧ d ≤ 3 ∧ 0 ≤ p.lv ∧ p.lv ≤ d ∧ 0 ≤ q.lv ∧ q.lv ≤ d ∧ d - p.lv + p.en.length ≤ 3 ∧ d - p.lv + p.en.length = d - q.lv + q.en.length ∧ ∀ i, i ≤ (d - p.lv + p.en.length).toNat → okAt p q (d - p.lv).toNat (d - q.lv).toNat i = true) := by
  unfold pathLeq
  constructor
  · intro h
    split at h
    · cases h
    · next h1 =>
      split at h
      · cases h
      · next h2 =>
        have h3 : leavesB p d = true := by simpa using fun c => h1 (.inr (.inr (.inl c)))
        have h4 : leavesB q d = true := by simpa using fun c => h1 (.inr (.inr (.inr c)))
        simp [leavesB] at h3 h4
        refine ⟨by omega, by omega, h3.1, h3.2, h4.1, h4.2, by omega, by omega, fun i hi => ?_⟩
        exact List.all_eq_true.1 h i (List.mem_range.2 (by omega))
  · rintro ⟨a1, a2, a3, a4, a5, a6, a7, a8, a9⟩
    have h3 : leavesB p d = true := by simp [leavesB]; omega
    have h4 : leavesB q d = true := by simp [leavesB]; omega
    rw [if_neg (by rw [h3, h4]; simp; omega), if_neg (by omega)]
    exact List.all_eq_true.2 fun i hi => a9 i (by have := List.mem_range.1 hi; omega)
theorem okAt_iff {p q : Pt} {kp kq i : Nat} : okAt p q kp kq i = true ↔ (i ≤ kp → i ≤ kq) ∧ atB p kp i ≤ atB q kq i := by
  unfold okAt atK
  by_cases h1 : i ≤ kp <;> by_cases h2 : i ≤ kq <;> simp [h1, h2]
theorem pathLeq_trans {p q r : Pt} {d : Int} (h : pathLeq p q d = true) (h' : pathLeq q r d = true) : pathLeq p r d = true := by
  obtain ⟨a1, a2, a3, a4, a5, a6, a7, a8, a9⟩ := pathLeq_iff.1 h
  obtain ⟨b1, b2, b3, b4, b5, b6, b7, b8, b9⟩ := pathLeq_iff.1 h'
  refine pathLeq_iff.2 ⟨a1, a2, a3, a4, b5, b6, a7, by omega, fun i hi => ?_⟩
  obtain ⟨c1, c2⟩ := okAt_iff.1 (a9 i hi)
  obtain ⟨d1, d2⟩ := okAt_iff.1 (b9 i (by omega))
  exact okAt_iff.2 ⟨fun h => d1 (c1 h), Int.le_trans c2 d2⟩
theorem pathLeq_refl {p : Pt} {d : Int} (h1 : 0 ≤ d) (h2 : d ≤ 3) (h3 : 0 ≤ p.lv) (h4 : p.lv ≤ d) (h5 : d - p.lv + p.en.length ≤ 3) : pathLeq p p d = true :=
  pathLeq_iff.2 ⟨h1, h2, h3, h4, h3, h4, h5, rfl, fun i _ => okAt_iff.2 ⟨fun h => h, Int.le_refl _⟩⟩
theorem pathLeq_leq {p q : Pt} {a : Tm} (hp : applyE p a = 0) (hq : applyE q a = 0) (hn : ∀ z ∈ tl a, 0 ≤ z) (h : pathLeq p q (a.l.length : Int) = true) : leqT (applyT p a) (applyT q a) = true := by
  obtain ⟨a1, a2, a3, a4, a5, a6, a7, a8, a9⟩ := pathLeq_iff.1 h
  have ep : keptT p a.l.length = ((a.l.length : Int) - p.lv).toNat := by unfold keptT; omega
  have eq : keptT q a.l.length = ((a.l.length : Int) - q.lv).toNat := by unfold keptT; omega
  have hk := kept_lt p a
  have hk' := kept_lt q a
  rw [leqT_tl (by rw [applyT_len hp, applyT_len hq, ep, eq]; omega), applyT_tl hp, applyT_tl hq]
  refine leqL_of_getD _ _ (by rw [ap_len _ _ hk, ap_len _ _ hk', ep, eq]; omega) (fun i hi => ?_)
  rw [ap_len _ _ hk] at hi
  obtain ⟨c1, c2⟩ := okAt_iff.1 (a9 i (by omega))
  rw [← ep, ← eq] at c1 c2
  rw [ap_getD _ _ hk, ap_getD _ _ hk']
  have h0 : ∀ i, 0 ≤ (tl a).getD i 0 := fun i => by
    rw [List.getD_eq_getElem?_getD]
    cases hh : (tl a)[i]? with
    | none => simp
    | some z => simpa using hn z (List.mem_of_getElem? hh)
  have h1 := h0 i
  unfold atB at c2
  by_cases x1 : i < keptT p a.l.length
  · have y1 := c1 (by omega)
    rw [if_pos x1]
    rw [if_neg (by omega), if_neg (by omega), if_neg (by omega)] at c2
    by_cases y2 : i = keptT q a.l.length
    · rw [if_neg (by omega), if_pos y2, ← y2]
      rw [if_pos y2] at c2
      omega
    · rw [if_pos (by omega)]; exact Int.le_refl _
  · rw [if_neg x1]
    by_cases x2 : i = keptT p a.l.length
    · have y1 := c1 (by omega)
      rw [if_pos x2, ← x2]
      rw [if_neg (by omega), if_pos x2, if_neg (by omega)] at c2
      by_cases y2 : i = keptT q a.l.length
      · rw [if_neg (by omega), if_pos y2, ← y2]
        rw [if_pos y2] at c2
        omega
      · rw [if_pos (by omega)]
        rw [if_neg y2] at c2
        omega
    · rw [if_neg x2]
      rw [if_pos (by omega)] at c2
      by_cases y1 : i < keptT q a.l.length
      · rw [if_pos y1]
        rw [if_neg (by omega), if_neg (by omega)] at c2
        omega
      · rw [if_neg y1]
        by_cases y2 : i = keptT q a.l.length
        · rw [if_pos y2, ← y2]
          rw [if_neg (by omega), if_pos y2] at c2
          omega
        · rw [if_neg y2]
          rw [if_pos (by omega)] at c2
          exact c2
end Go.Proofs.YtdfhchpimpbgfaaGreatDoor
