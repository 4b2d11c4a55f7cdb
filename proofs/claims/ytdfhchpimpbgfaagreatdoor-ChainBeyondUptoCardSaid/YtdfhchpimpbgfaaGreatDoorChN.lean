/-
  Plain mathematics of layer 5: counts of times, and how an antichain moves to another one. No program is in sight. No condition but those written.
-/
import Derived.Test.YtdfhchpimpbgfaaGreatDoorChM
set_option linter.unusedVariables false
set_option linter.unusedSimpArgs false
namespace Go.Proofs.YtdfhchpimpbgfaaGreatDoor

instance : DecidableEq Tm := fun x y => decidable_of_iff (cmpT x y = 0) ⟨cmpT_zero, fun h => h ▸ cmpT_refl x⟩
/-- is x among them? -/
def hasT (o : List Tm) (x : Tm) : Bool := o.any fun y => decide (cmpT y x = 0)
theorem hasT_iff {o : List Tm} {x : Tm} : hasT o x = true ↔ x ∈ o := by
  unfold hasT
  rw [List.any_eq_true]
  constructor
  · rintro ⟨y, hy, h⟩
    rw [← cmpT_zero (of_decide_eq_true h)]; exact hy
  · intro h
    exact ⟨x, h, decide_eq_true (cmpT_refl x)⟩
/-- What of l the other has not, each with a number. -/
def chg (d : Int) (l o : List Tm) : List (Tm × Int) := (l.filter fun x => !hasT o x).map fun x => (x, d)
/-- What goes, what comes. -/
def chgL (o o' : List Tm) : List (Tm × Int) := chg (-1) o o' ++ chg 1 o' o
theorem chg_len (d : Int) (l o : List Tm) : (chg d l o).length ≤ l.length := by
  unfold chg
  rw [List.length_map]
  exact List.length_filter_le _ _
theorem mem_chg {d : Int} {l o : List Tm} {x : Tm × Int} : x ∈ chg d l o ↔ x.1 ∈ l ∧ x.1 ∉ o ∧ x.2 = d := by
  unfold chg
  rw [List.mem_map]
  constructor
  · rintro ⟨y, hy, rfl⟩
    rw [List.mem_filter] at hy
    refine ⟨hy.1, fun h => ?_, rfl⟩
    have := hy.2
    rw [hasT_iff.2 h] at this
    cases this
  · rintro ⟨h1, h2, h3⟩
    refine ⟨x.1, List.mem_filter.2 ⟨h1, ?_⟩, ?_⟩
    · cases h : hasT o x.1
      · rfl
      · exact absurd (hasT_iff.1 h) h2
    · rw [← h3]
abbrev Strict (r : List (Tm × Int)) : Prop := r.Pairwise fun a b => cmpT a.1 b.1 < 0
theorem chg_strict {d : Int} {l o : List Tm} (h : l.Pairwise fun a b => cmpT a b < 0) : Strict (chg d l o) := by
  unfold chg Strict
  rw [List.pairwise_map]
  exact (h.sublist List.filter_sublist)
theorem chgL_nodup {o o' : List Tm} (h : o.Pairwise fun a b => cmpT a b < 0) (h' : o'.Pairwise fun a b => cmpT a b < 0) : ((chgL o o').map (·.1)).Nodup := by
  have hn : ∀ {d : Int} {l r : List Tm}, l.Pairwise (fun a b => cmpT a b < 0) → ((chg d l r).map (·.1)).Nodup := by
    intro d l r hl
    unfold List.Nodup
    rw [List.pairwise_map]
    exact (chg_strict hl).imp fun h => cmpT_ne h
  unfold chgL
  rw [List.map_append, List.nodup_append]
  refine ⟨hn h, hn h', fun a ha b hb e => ?_⟩
  subst e
  obtain ⟨x, hx, rfl⟩ := List.mem_map.1 ha
  obtain ⟨y, hy, e⟩ := List.mem_map.1 hb
  have h1 := mem_chg.1 hx
  have h2 := mem_chg.1 hy
  rw [e] at h2
  exact h2.2.1 h1.1
/-- Sorted, it is told in one way. -/
theorem chg_sorted {r l : List (Tm × Int)} (h : r.Perm l) (hn : (l.map (·.1)).Nodup) (hs : r.Pairwise fun a b => ¬ cmpT b.1 a.1 < 0) : Strict r := by
  have h1 : (r.map (·.1)).Nodup := (h.map _).nodup_iff.2 hn
  unfold List.Nodup at h1
  rw [List.pairwise_map] at h1
  refine (hs.and h1).imp ?_
  rintro a b ⟨h2, h3⟩
  rw [cmpT_anti] at h2
  have : cmpT a.1 b.1 ≠ 0 := fun e => h3 (cmpT_zero e)
  omega
theorem strict_eq : ∀ r s : List (Tm × Int), Strict r → Strict s → (∀ x, x ∈ r ↔ x ∈ s) → r = s
  | [], [], _, _, _ => rfl
  | [], y :: _, _, _, h => by have := (h y).2 (by simp); simp at this
  | x :: _, [], _, _, h => by have := (h x).1 (by simp); simp at this
  | x :: o, y :: o', h, h', hm => by
    unfold Strict at h h'
    rw [List.pairwise_cons] at h h'
    have e : x = y := by
      have h1 := (hm x).1 (by simp)
      have h2 := (hm y).2 (by simp)
      rw [List.mem_cons] at h1 h2
      rcases h1 with h1 | h1
      · exact h1
      · rcases h2 with h2 | h2
        · exact h2.symm
        · have a1 := h'.1 x h1
          have a2 := h.1 y h2
          rw [cmpT_anti] at a1
          omega
    subst e
    rw [strict_eq o o' h.2 h'.2 fun z => ?_]
    have hz := hm z
    rw [List.mem_cons, List.mem_cons] at hz
    constructor
    · intro hz1
      rcases hz.1 (.inr hz1) with rfl | h1
      · exact absurd rfl (cmpT_ne (h.1 z hz1))
      · exact h1
    · intro hz1
      rcases hz.2 (.inr hz1) with rfl | h1
      · exact absurd rfl (cmpT_ne (h'.1 z hz1))
      · exact h1
theorem chg_one {r s l : List (Tm × Int)} (h : r.Perm l) (h' : s.Perm l) (hr : Strict r) (hs : Strict s) : r = s :=
  strict_eq r s hr hs fun x => (h.mem_iff).trans h'.mem_iff.symm

/-! ### counts -/
def wrapC (n : Int) : Int := (n + 9223372036854775808) % 18446744073709551616 - 9223372036854775808
def addM (M : Tm → Int) (x : Tm × Int) : Tm → Int := fun s => if s = x.1 then wrapC (M s + x.2) else M s
def addsM (M : Tm → Int) (l : List (Tm × Int)) : Tm → Int := l.foldl addM M
theorem addsM_snoc (M : Tm → Int) (l : List (Tm × Int)) (x : Tm × Int) : addsM M (l ++ [x]) = addM (addsM M l) x := by simp [addsM, List.foldl_append]
theorem addM_same (M : Tm → Int) (x : Tm × Int) : addM M x x.1 = wrapC (M x.1 + x.2) := by simp [addM]
theorem addM_other (M : Tm → Int) (x : Tm × Int) {s : Tm} (h : s ≠ x.1) : addM M x s = M s := by simp [addM, h]
def posM (M : Tm → Int) (z : Tm) : Prop := ∃ t, 0 < M t ∧ leqT t z = true
/-- Of all times above 0, in whatever order. -/
theorem posM_up {M : Tm → Int} {l : List Tm} (h : ∀ t, t ∈ l ↔ 0 < M t) (z : Tm) : upL l z ↔ posM M z :=
  ⟨fun ⟨y, hy, hz⟩ => ⟨y, (h y).1 hy, hz⟩, fun ⟨y, hy, hz⟩ => ⟨y, (h y).2 hy, hz⟩⟩
end Go.Proofs.YtdfhchpimpbgfaaGreatDoor
