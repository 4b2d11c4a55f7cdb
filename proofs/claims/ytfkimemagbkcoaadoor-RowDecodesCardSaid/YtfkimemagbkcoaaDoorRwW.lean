/-
  Words for counted rows in memory, at this program. Nothing is walked here. No condition but those written.
-/
import Derived.Test.YtfkimemagbkcoaaDoorOwnL
import Derived.Test.YtfkimemagbkcoaaDoorRowV
set_option linter.unusedVariables false
set_option linter.unusedSimpArgs false
namespace Go.Proofs.YtfkimemagbkcoaaDoor
open Go.RowKit Go.Lib Go.Proofs

instance : Inhabited Dat := ⟨⟨0, false, 0, ⟨#[]⟩⟩⟩
/-- A counted row as it lies in memory: its row's slice, its count. -/
structure Cv where
  A : Option Addr
  k : Nat
  c : Nat
  n : Int
instance : Inhabited Cv := ⟨⟨none, 0, 0, 0⟩⟩
def cellsV (x : Cv) : List Value := [.slice x.A x.k x.c, .int .i64 x.n]
def keepV (x : Cv) : Bool := !(x.n == 0)
theorem cellsV_len (x : Cv) : (cellsV x).length = 2 := rfl
theorem cellsV_one (x : Cv) : ∀ v ∈ cellsV x, v.oneCell' = true := by
  intro v hv
  simp [cellsV] at hv
  rcases hv with rfl | rfl <;> rfl
abbrev OwnC (g cap : Nat) (xs : List Cv) (w : World) : Prop := OwnL 45 2 g cap (xs.map cellsV) w
theorem OwnC.cells {g cap : Nat} {xs : List Cv} {w : World} (h : OwnC g cap xs w) {i : Nat} {x : Cv} (hx : xs[i]? = some x) :
    w.cell? ⟨g, i * 2, none⟩ = some (.slice x.A x.k x.c) ∧ w.cell? ⟨g, i * 2 + 1, none⟩ = some (.int .i64 x.n) := by
  have e : (xs.map cellsV)[i]? = some (cellsV x) := by rw [List.getElem?_map, hx]; rfl
  exact ⟨h.cell e (j := 0) rfl, h.cell e (j := 1) rfl⟩
/-- An element is written over. -/
theorem OwnC.put {g cap : Nat} {xs : List Cv} {w : World} (h : OwnC g cap xs w) {i : Nat} (hi : i < xs.length) (x : Cv) :
    OwnC g cap (xs.set i x) ((w.setCell ⟨g, i * 2, none⟩ (.slice x.A x.k x.c)).setCell ⟨g, i * 2 + 1, none⟩ (.int .i64 x.n)) := by
  have h1 := OwnL.set h (i := i) (j := 0) (by simpa using hi) (by omega) (.slice x.A x.k x.c)
  have h2 := OwnL.set h1 (i := i) (j := 1) (by simpa using hi) (by omega) (.int .i64 x.n)
  have e : (((xs.map cellsV).modify i (·.set 0 (.slice x.A x.k x.c))).modify i (·.set 1 (.int .i64 x.n))) = (xs.set i x).map cellsV := by
    apply List.ext_getElem?
    intro j
    rw [List.getElem?_modify, List.getElem?_modify, List.getElem?_map, List.getElem?_map, List.getElem?_set]
    cases hj : xs[j]? with
    | none =>
      have : xs.length ≤ j := List.getElem?_eq_none_iff.1 hj
      rw [if_neg (by omega)]
      simp
    | some y =>
      by_cases hij : i = j
      · subst hij
        simp [hi, cellsV]
      · simp [hij]
  rw [e] at h2
  exact h2
abbrev Cd := Cv × List Dat
def valD (d : Cd) : Value := .slice d.1.A d.1.k d.1.c
theorem RowV.nil (w : World) : RowV w (.slice none 0 0) [] := ⟨rfl, none, 0, rfl, Nat.le_refl _, by decide, fun _ => rfl, fun h => absurd h (by simp)⟩
end Go.Proofs.YtfkimemagbkcoaaDoor
