/-
  A slice value of the program's memory read as a list: elements of k cells each; a row of data. Nothing is walked here. No condition but those written.
-/
import Derived.Test.YtfkimemagbkcoaaDoorRowM
import Derived.Test.YtfkimemagbkcoaaDoorLite
set_option linter.unusedVariables false
set_option linter.unusedSimpArgs false
namespace Go.Proofs.YtfkimemagbkcoaaDoor
open Go.RowKit Go.Lib

/-- The slice value v has n elements of k cells each, and these cells hold xs. -/
def SlV (w : World) (k : Nat) (v : Value) (n : Nat) (xs : List Value) : Prop :=
  xs.length = n * k ∧ ∃ A c, v = .slice A n c ∧ n ≤ c ∧ c ≤ 9223372036854775807 ∧ (A = none → c = 0) ∧ (0 < n → ∃ ad : Addr, A = some ad ∧ ad.block < w.heap.size ∧ ∀ j u, xs[j]? = some u → w.cell? (ad.add j) = some u)
theorem add_block (a : Addr) (i : Nat) : (a.add i).block = a.block := by unfold Addr.add; split <;> rfl
theorem add_twice (a : Addr) (i j : Nat) : (a.add i).add j = a.add (i + j) := by
  rcases Nat.eq_zero_or_pos i with rfl | hi
  · rw [Nat.zero_add]; rfl
  · rcases Nat.eq_zero_or_pos j with rfl | hj
    · rfl
    · unfold Addr.add
      simp [Nat.add_assoc, show i ≠ 0 by omega, show j ≠ 0 by omega, show i + j ≠ 0 by omega]
theorem SlV.below {w w' : World} {k n : Nat} {v : Value} {xs : List Value} (h : SlV w k v n xs) (hb : Below w.heap.size w w') : SlV w' k v n xs := by
  obtain ⟨h1, A, c, rfl, h2, h3, h0, h4⟩ := h
  refine ⟨h1, A, c, rfl, h2, h3, h0, fun hn => ?_⟩
  obtain ⟨ad, rfl, h5, h6⟩ := h4 hn
  exact ⟨ad, rfl, Nat.lt_of_lt_of_le h5 hb.size, fun j u hj => (hb.cell (p := ad.add j) (by rw [add_block]; exact h5)).trans (h6 j u hj)⟩
theorem SlV.alloc {w : World} {k n : Nat} {v : Value} {xs : List Value} (h : SlV w k v n xs) (o : Obj) : SlV (w.alloc o) k v n xs := h.below ((Below.refl _ _).alloc (Nat.le_refl _) _)
theorem SlV.drew {w : World} {k n : Nat} {v : Value} {xs : List Value} (h : SlV w k v n xs) : SlV w.drew k v n xs := h.below (Below.refl _ _).drew
/-- A datum's four cells. -/
def cellsD (d : Dat) : List Value := [.int .u8 d.k, .bool d.b, .int .i64 d.n, .string d.s]
theorem cells_get : ∀ (l : List Dat) (i : Nat) (h : i < l.length) (j : Nat), j < 4 → (l.flatMap cellsD)[i * 4 + j]? = (cellsD l[i])[j]?
  | [], i, h, _, _ => absurd h (by simp)
  | d :: l, 0, _, j, hj => by
    rw [List.flatMap_cons, List.getElem?_append_left (by show _ < 4; omega)]
    simp
  | d :: l, i + 1, h, j, hj => by
    rw [List.flatMap_cons, List.getElem?_append_right (by show 4 ≤ _; omega)]
    rw [show (i + 1) * 4 + j - (cellsD d).length = i * 4 + j by show _ - 4 = _; omega]
    rw [cells_get l i (by simpa using h) j hj]
    simp
theorem cells_len : ∀ l : List Dat, (l.flatMap cellsD).length = l.length * 4
  | [] => rfl
  | d :: l => by
    rw [List.flatMap_cons, List.length_append, cells_len l, List.length_cons, show (cellsD d).length = 4 from rfl]
    omega
/-- The slice value v is a row: it holds the data l. -/
def RowV (w : World) (v : Value) (l : List Dat) : Prop := SlV w 4 v l.length (l.flatMap cellsD)
theorem RowV.below {w w' : World} {v : Value} {l : List Dat} (h : RowV w v l) (hb : Below w.heap.size w w') : RowV w' v l := SlV.below h hb
theorem RowV.form {w : World} {v : Value} {l : List Dat} (h : RowV w v l) : ∃ A c, v = .slice A l.length c ∧ l.length ≤ 9223372036854775807 := by
  obtain ⟨_, A, c, rfl, h2, h3, _⟩ := h
  exact ⟨A, c, rfl, by omega⟩
theorem add_more (a : Addr) (i j : Nat) (hj : 0 < j) : a.add (i + j) = ⟨(a.add i).block, (a.add i).off + j, none⟩ := by
  rw [← add_twice]
  obtain ⟨j, rfl⟩ : ∃ k, j = k + 1 := ⟨j - 1, by omega⟩
  rfl
/-- The four cells of an element, as a load reads them. -/
theorem RowV.at {w : World} {A : Option Addr} {c : Nat} {l : List Dat} (h : RowV w (.slice A l.length c) l) {i : Nat} (hi : i < l.length) :
    ∃ ad : Addr, A = some ad ∧ (ad.add (i * 4)).block < w.heap.size ∧ w.cell? (ad.add (i * 4)) = some (.int .u8 l[i].k) ∧ w.cell? ⟨(ad.add (i * 4)).block, (ad.add (i * 4)).off + 1, none⟩ = some (.bool l[i].b) ∧
      w.cell? ⟨(ad.add (i * 4)).block, (ad.add (i * 4)).off + 2, none⟩ = some (.int .i64 l[i].n) ∧ w.cell? ⟨(ad.add (i * 4)).block, (ad.add (i * 4)).off + 3, none⟩ = some (.string l[i].s) := by
  obtain ⟨_, A', c', e, _, _, _, h4⟩ := h
  obtain ⟨rfl, _, rfl⟩ := Value.slice.inj e
  obtain ⟨ad, rfl, h5, h6⟩ := h4 (by omega)
  refine ⟨ad, rfl, by rw [add_block]; exact h5, ?_, ?_, ?_, ?_⟩
  · exact h6 (i * 4) _ ((cells_get l i hi 0 (by omega)).trans rfl)
  · rw [← add_more ad (i * 4) 1 (by omega)]; exact h6 (i * 4 + 1) _ ((cells_get l i hi 1 (by omega)).trans rfl)
  · rw [← add_more ad (i * 4) 2 (by omega)]; exact h6 (i * 4 + 2) _ ((cells_get l i hi 2 (by omega)).trans rfl)
  · rw [← add_more ad (i * 4) 3 (by omega)]; exact h6 (i * 4 + 3) _ ((cells_get l i hi 3 (by omega)).trans rfl)
theorem RowV.at_ {w : World} {A : Option Addr} {c : Nat} {l : List Dat} (h : RowV w (.slice A l.length c) l) {i : Nat} {x : Dat} (hx : l[i]? = some x) :
    ∃ ad : Addr, A = some ad ∧ (ad.add (i * 4)).block < w.heap.size ∧ w.cell? (ad.add (i * 4)) = some (.int .u8 x.k) ∧ w.cell? ⟨(ad.add (i * 4)).block, (ad.add (i * 4)).off + 1, none⟩ = some (.bool x.b) ∧
      w.cell? ⟨(ad.add (i * 4)).block, (ad.add (i * 4)).off + 2, none⟩ = some (.int .i64 x.n) ∧ w.cell? ⟨(ad.add (i * 4)).block, (ad.add (i * 4)).off + 3, none⟩ = some (.string x.s) := by
  obtain ⟨hi, rfl⟩ := List.getElem?_eq_some_iff.1 hx
  exact h.at hi
/-- Each datum has a kind of a byte, a number of 64 bits, a text of at most 2^47 bytes. -/
def WideR (l : List Dat) : Prop := ∀ d ∈ l, Wide d ∧ d.s.size ≤ 140737488355328
/-- May a row be? 0: yes. -/
def chkL : List Dat → Int
  | [] => 0
  | d :: l => if chk d = 0 then chkL l else chk d
def chkR (l : List Dat) : Int := if l.length > 32 then 20 else chkL l
end Go.Proofs.YtfkimemagbkcoaaDoor
