/-
  Words on what a time is chosen, or made, in: the mathematics of what is chosen so far, and the memory. Nothing is walked here. No condition but those written.
-/
import Derived.Test.YtdfhchpimpbgfaaGreatDoorStCat
import Derived.Deep.RegionHeld3
import Derived.Deep.DeepCutAuto
set_option linter.unusedVariables false
set_option linter.unusedSimpArgs false
namespace Go.Proofs.YtdfhchpimpbgfaaGreatDoor
open Go.RowKit Go.Lib

/-- The first p of them chosen, the rest as in l. -/
def chP (f : Int → Int → Int) : Nat → List Int → List Int → List Int
  | 0, l, _ => l
  | p + 1, a :: l, b :: m => f a b :: chP f p l m
  | _ + 1, l, _ => l
theorem chP_len (f : Int → Int → Int) : ∀ (p : Nat) (l m : List Int), (chP f p l m).length = l.length
  | 0, l, m => by rw [chP]
  | p + 1, a :: l, b :: m => by rw [chP, List.length_cons, chP_len f p l m, List.length_cons]
  | p + 1, [], m => by rw [chP]; simp
  | p + 1, a :: l, [] => by rw [chP]; simp
theorem chP_all (f : Int → Int → Int) : ∀ (l m : List Int), l.length = m.length → chP f l.length l m = zipL f l m
  | [], [], _ => by simp [chP, zipL]
  | [], _ :: _, h => by simp at h
  | _ :: _, [], h => by simp at h
  | a :: l, b :: m, h => by rw [List.length_cons, chP, zipL, chP_all f l m (by simpa using h)]
theorem chP_get (f : Int → Int → Int) : ∀ (p : Nat) (l m : List Int), l.length = m.length → (chP f p l m)[p]? = l[p]?
  | 0, l, m, _ => by rw [chP]
  | p + 1, a :: l, b :: m, h => by rw [chP, List.getElem?_cons_succ, chP_get f p l m (by simpa using h), List.getElem?_cons_succ]
  | p + 1, [], m, _ => by rw [chP]; simp
  | p + 1, a :: l, [], h => by simp at h
theorem chP_set (f : Int → Int → Int) : ∀ (p : Nat) (l m : List Int) (x y : Int), l[p]? = some x → m[p]? = some y → (chP f p l m).set p (f x y) = chP f (p + 1) l m
  | 0, a :: l, b :: m, x, y, h, h' => by
    simp at h h'
    subst h h'
    rw [chP, chP, chP, List.set_cons_zero]
  | p + 1, a :: l, b :: m, x, y, h, h' => by
    rw [chP, List.set_cons_succ, chP_set f p l m x y (by simpa using h) (by simpa using h'), chP]
  | _, [], _, x, y, h, _ => by simp at h
  | _, _ :: _, [], x, y, _, h => by simp at h
/-- Behind the making of a time in a variable of the call's own. -/
def RelN (e : Int) (l : List Int) (B : Nat) (w0 : World) (s : Value) (w : World) : Prop := ∃ o v, s = .pointer (some ⟨o, 0, none⟩) ∧ B ≤ o ∧ HasC w o [.int .u64 e, v] 26 ∧ OwnW B v l w ∧ Below B w0 w
theorem relN_new {e : Int} {l : List Int} {B : Nat} {w0 w : World} {v : Value} (h : OwnW B v l w) (hb : Below B w0 w) (hB : B ≤ w.heap.size) : RelN e l B w0 (.pointer (some ⟨w.heap.size, 0, none⟩)) (w.alloc (.cells #[.int .u64 e, v] 26)) :=
  ⟨_, v, rfl, hB, HasC.new w [.int .u64 e, v] _, h.below ((Below.refl _ _).alloc (Nat.le_refl _) _), hb.alloc hB _⟩
theorem relN_set {e : Int} {l : List Int} {B o : Nat} {w0 w : World} {v x y : Value} (h : OwnW B v l w) (hb : Below B w0 w) (ho : HasC w o [x, y] 26) (hB : B ≤ o) :
    RelN e l B w0 (.pointer (some ⟨o, 0, none⟩)) ((w.setCell ⟨o, 0, none⟩ (.int .u64 e)).setCell ⟨o, 1, none⟩ v) :=
  ⟨_, v, rfl, hB, (ho.set 0 _).set 1 _, (h.far ho (by decide) 0 _).far (ho.set 0 _) (by decide) 1 _, (hb.setCell hB _).setCell hB _⟩
theorem keepS {p q : Nat} {a0 a1 b0 b1 : Value} {t : TypeId} {W0 w : World} (h : HasC W0 p [a0, a1] t) (h' : HasC W0 q [b0, b1] t) (hb : Below W0.heap.size W0 w) : w.cell? ⟨p, 0, none⟩ = some a0 ∧ w.cell? ⟨p, 1, none⟩ = some a1 ∧ w.cell? ⟨q, 0, none⟩ = some b0 ∧ w.cell? ⟨q, 1, none⟩ = some b1 :=
  ⟨(h.below hb).cell 0 rfl, (h.below hb).cell 1 rfl, (h'.below hb).cell 0 rfl, (h'.below hb).cell 1 rfl⟩
/-- What a function that makes a time answers. -/
def OutT (t : Tm) (c : Int) (w : World) (e : Ending) (w' : World) : Prop := ∃ v, e = .returned (.tuple #[.agg #[.int .u64 t.e, v], .int .u16 c]) ∧ OwnW w.heap.size v t.l w' ∧ Below w.heap.size w w'
/-- What the rounds hold. -/
def RelCh (f : Int → Int → Int) (l m : List Int) (e : Int) (o : Nat) (v : Value) (B : Nat) (w0 : World) (i : Value) (wr : World) : Prop :=
  ∃ p : Nat, i = .int .i64 (p : Int) ∧ p ≤ l.length ∧ HasC wr o [.int .u64 e, v] 26 ∧ OwnW B v (chP f p l m) wr ∧ Below B w0 wr
theorem keepO {o g p : Nat} {x y u : Value} {t : TypeId} {w : World} (h : HasC w o [x, y] t) (hg : o ≠ g) : (w.setCell ⟨g, p, none⟩ u).cell? ⟨o, 0, none⟩ = some x ∧ (w.setCell ⟨g, p, none⟩ u).cell? ⟨o, 1, none⟩ = some y :=
  ⟨(h.far (p := ⟨g, p, none⟩) hg u).cell 0 rfl, (h.far (p := ⟨g, p, none⟩) hg u).cell 1 rfl⟩
theorem ret_tm {e : Int} {v : Value} {c : Int} : Ending.returned (.tuple #[.agg #[.int .u64 e, v], .int .u16 c]) = .returned (.tuple #[.agg #[.int .u64 e, v], .int .u16 c]) := rfl
end Go.Proofs.YtdfhchpimpbgfaaGreatDoor
