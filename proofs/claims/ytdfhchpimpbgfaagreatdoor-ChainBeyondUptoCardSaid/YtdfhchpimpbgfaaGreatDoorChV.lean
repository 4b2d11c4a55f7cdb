/-
  Words of layer 5: a slice of times in memory, one that the call owns, the times in blocks of their own. Nothing is walked here. No condition but those written.
-/
import Derived.Test.YtdfhchpimpbgfaaGreatDoorStOwn
import Derived.Test.YtdfhchpimpbgfaaGreatDoorChM
import Derived.Test.YtdfhchpimpbgfaaGreatDoorChOwnL
import Derived.Test.YtdfhchpimpbgfaaGreatDoorChOwnK
set_option linter.unusedVariables false
set_option linter.unusedSimpArgs false
namespace Go.Proofs.YtdfhchpimpbgfaaGreatDoor
open Go.RowKit Go.Lib

/-- What the call owns, as a slice. -/
theorem own_slV {T : TypeId} {k B n : Nat} {v : Value} {xs : List Value} {w : World} (h : w.ownsRow B T k v n xs) : SlV w k v n xs := by
  rcases h.2 with ⟨rfl, h0⟩ | ⟨g, cap, cur, rfl, _, hg, h2, h3, h4, h5⟩
  · exact ⟨h.1, none, 0, by rw [h0], by omega, by omega, fun _ => rfl, fun q => by omega⟩
  · refine ⟨h.1, _, _, rfl, h2, by unfold maxLen at h3; exact h3, fun q => (by cases q), fun _ => ⟨_, rfl, (Array.getElem?_eq_some_iff.1 hg).1, fun j u hj => ?_⟩⟩
    rw [← h5, List.getElem?_take] at hj
    split at hj
    · rw [show (⟨g, 0, none⟩ : Addr).add j = ⟨g, j, none⟩ by unfold Addr.add; split <;> simp_all]
      simp only [World.cell?, hg]
      simpa using hj
    · cases hj
/-- s[:m] -/
theorem SlV.front {w : World} {k n m : Nat} {A : Option Addr} {c : Nat} {xs : List Value} (h : SlV w k (.slice A n c) n xs) (hm : m ≤ n) : SlV w k (.slice A m c) m (xs.take (m * k)) := by
  obtain ⟨h1, A', c', e, h2, h3, h0, h4⟩ := h
  obtain ⟨rfl, _, rfl⟩ := Value.slice.inj e
  refine ⟨by rw [List.length_take, h1]; have := Nat.mul_le_mul_right k hm; omega, A, c, rfl, by omega, h3, h0, fun hp => ?_⟩
  obtain ⟨ad, rfl, h5, h6⟩ := h4 (by omega)
  refine ⟨ad, rfl, h5, fun j u hj => h6 j u ?_⟩
  rw [List.getElem?_take] at hj
  split at hj
  · exact hj
  · cases hj
/-- s[m:] -/
theorem SlV.back {w : World} {k n m : Nat} {ad : Addr} {c : Nat} {xs : List Value} (h : SlV w k (.slice (some ad) n c) n xs) (hm : m ≤ n) : SlV w k (.slice (some (ad.add (m * k))) (n - m) (c - m)) (n - m) (xs.drop (m * k)) := by
  obtain ⟨h1, A', c', e, h2, h3, h0, h4⟩ := h
  obtain ⟨rfl, _, rfl⟩ := Value.slice.inj e
  refine ⟨by rw [List.length_drop, h1, Nat.sub_mul], _, _, rfl, by omega, by omega, fun q => (by cases q), fun hp => ?_⟩
  obtain ⟨ad', e', h5, h6⟩ := h4 (by omega)
  cases e'
  refine ⟨_, rfl, by rw [add_block]; exact h5, fun j u hj => ?_⟩
  rw [List.getElem?_drop] at hj
  rw [add_twice]
  exact h6 _ _ hj
/-- A time as it lies in a slice. -/
structure Td where
  A : Option Addr
  c : Nat
  t : Tm
instance : Inhabited Td := ⟨⟨none, 0, ⟨0, []⟩⟩⟩
def slD (d : Td) : Value := .slice d.A d.t.l.length d.c
def cellsT (d : Td) : List Value := [.int .u64 d.t.e, .slice d.A d.t.l.length d.c]
def valT (d : Td) : Value := .agg #[.int .u64 d.t.e, .slice d.A d.t.l.length d.c]
theorem cellsT_len (d : Td) : (cellsT d).length = 2 := rfl
theorem cellsT_one (d : Td) : ∀ u ∈ cellsT d, u.oneCell' = true := by
  intro u hu
  simp only [cellsT, List.mem_cons, List.not_mem_nil, or_false] at hu
  rcases hu with rfl | rfl <;> rfl
def cellsTs (ds : List Td) : List Value := (ds.map cellsT).flatten
def tmsD (ds : List Td) : List Tm := ds.map (·.t)
theorem cells2 (ds : List Td) : ∀ x ∈ ds.map cellsT, x.length = 2 := fun x hx => by obtain ⟨y, _, rfl⟩ := List.mem_map.1 hx; rfl
theorem cellsTs_len (ds : List Td) : (cellsTs ds).length = ds.length * 2 := by
  unfold cellsTs
  rw [flats_len (k := 2) _ (cells2 ds), List.length_map]
theorem cellsTs_one (ds : List Td) : ∀ u ∈ cellsTs ds, u.oneCell' = true := by
  intro u hu
  obtain ⟨x, hx, hu⟩ := List.mem_flatten.1 hu
  obtain ⟨d, _, rfl⟩ := List.mem_map.1 hx
  exact cellsT_one d u hu
theorem cellsTs_append (a b : List Td) : cellsTs (a ++ b) = cellsTs a ++ cellsTs b := by simp [cellsTs]
theorem cellsTs_take (ds : List Td) (m : Nat) : cellsTs (ds.take m) = (cellsTs ds).take (m * 2) := by
  unfold cellsTs
  induction ds generalizing m with
  | nil => simp
  | cons d ds ih =>
    rcases m with _ | m
    · simp
    · rw [List.take_succ_cons, List.map_cons, List.map_cons, List.flatten_cons, List.flatten_cons, ih m, Nat.add_mul, Nat.one_mul]
      rfl
theorem cellsTs_drop (ds : List Td) (m : Nat) : cellsTs (ds.drop m) = (cellsTs ds).drop (m * 2) := by
  unfold cellsTs
  induction ds generalizing m with
  | nil => simp
  | cons d ds ih =>
    rcases m with _ | m
    · simp
    · rw [List.drop_succ_cons, List.map_cons, List.flatten_cons, ih m, Nat.add_mul, Nat.one_mul]
      rfl
/-- The counters of each lie where it says. -/
def RdT (w : World) (ds : List Td) : Prop := ∀ d ∈ ds, WordsV w (slD d) d.t.l
theorem RdT.below {w w' : World} {ds : List Td} (h : RdT w ds) (hb : Below w.heap.size w w') : RdT w' ds := fun d hd => (h d hd).below hb
theorem RdT.tm {w : World} {ds : List Td} (h : RdT w ds) {d : Td} (hd : d ∈ ds) : TmV w (valT d) d.t := ⟨_, rfl, h d hd⟩
theorem TmV.td {w : World} {v : Value} {t : Tm} (h : TmV w v t) : ∃ d : Td, d.t = t ∧ v = valT d ∧ WordsV w (slD d) d.t.l := by
  obtain ⟨s, rfl, h⟩ := h
  obtain ⟨A, n, c, rfl, hn, _⟩ := h.form
  subst hn
  exact ⟨⟨A, c, t⟩, rfl, rfl, h⟩
/-- The slice value v holds these times. -/
def TmsV (w : World) (v : Value) (ds : List Td) : Prop := SlV w 2 v ds.length (cellsTs ds) ∧ RdT w ds
theorem TmsV.below {w w' : World} {v : Value} {ds : List Td} (h : TmsV w v ds) (hb : Below w.heap.size w w') : TmsV w' v ds := ⟨h.1.below hb, h.2.below hb⟩
theorem TmsV.nil (w : World) : TmsV w (.slice none 0 0) [] := ⟨⟨rfl, none, 0, rfl, Nat.le_refl _, by decide, fun _ => rfl, fun h => absurd h (by simp)⟩, fun d hd => by simp at hd⟩
theorem TmsV.form {w : World} {v : Value} {ds : List Td} (h : TmsV w v ds) : ∃ A n c, v = .slice A n c ∧ ds.length = n ∧ n ≤ c ∧ c ≤ 9223372036854775807 := by
  obtain ⟨⟨_, A, c, rfl, h2, h3, _⟩, _⟩ := h
  exact ⟨A, _, c, rfl, rfl, h2, h3⟩
theorem TmsV.at {w : World} {A : Option Addr} {n c : Nat} {ds : List Td} (h : TmsV w (.slice A n c) ds) {i : Nat} {d : Td} (hd : ds[i]? = some d) :
    ∃ ad : Addr, A = some ad ∧ (ad.add (i * 2)).block < w.heap.size ∧ w.cell? (ad.add (i * 2)) = some (.int .u64 d.t.e) ∧ w.cell? ⟨(ad.add (i * 2)).block, (ad.add (i * 2)).off + 1, none⟩ = some (.slice d.A d.t.l.length d.c) := by
  obtain ⟨⟨_, A', c', e, _, _, _, h4⟩, _⟩ := h
  obtain ⟨rfl, _, rfl⟩ := Value.slice.inj e
  have hi : i < ds.length := (List.getElem?_eq_some_iff.1 hd).1
  obtain ⟨ad, rfl, h5, h6⟩ := h4 (by omega)
  have g (j : Nat) (hj : j < 2) : (cellsTs ds)[i * 2 + j]? = (cellsT d)[j]? := by
    unfold cellsTs
    rw [flat_get _ (cells2 ds) i j hj, List.getElem?_map, hd]
    rfl
  refine ⟨ad, rfl, by rw [add_block]; exact h5, h6 (i * 2) _ ((g 0 (by omega)).trans rfl), ?_⟩
  rw [← add_more ad (i * 2) 1 (by omega)]
  exact h6 (i * 2 + 1) _ ((g 1 (by omega)).trans rfl)
theorem TmsV.front {w : World} {A : Option Addr} {n c m : Nat} {ds : List Td} (h : TmsV w (.slice A n c) ds) (hm : m ≤ ds.length) : TmsV w (.slice A m c) (ds.take m) := by
  obtain ⟨A', n', c', e, hn, _⟩ := h.form
  obtain ⟨rfl, rfl, rfl⟩ := Value.slice.inj e
  have h1 := h.1
  rw [hn] at h1
  refine ⟨?_, fun d hd => h.2 d (List.mem_of_mem_take hd)⟩
  rw [cellsTs_take, List.length_take, show min m ds.length = m by omega]
  exact h1.front (by omega)
/-- A block of the call's own that holds these times. -/
abbrev OwnT (g cap : Nat) (ds : List Td) (w : World) : Prop := OwnL 26 2 g cap (ds.map cellsT) w
theorem OwnT.cells {g cap : Nat} {ds : List Td} {w : World} (h : OwnT g cap ds w) {i : Nat} {d : Td} (hd : ds[i]? = some d) : w.cell? ⟨g, i * 2, none⟩ = some (.int .u64 d.t.e) ∧ w.cell? ⟨g, i * 2 + 1, none⟩ = some (.slice d.A d.t.l.length d.c) :=
  ⟨OwnL.cell h (i := i) (j := 0) (x := cellsT d) (by rw [List.getElem?_map, hd]; rfl) rfl, OwnL.cell h (i := i) (j := 1) (x := cellsT d) (by rw [List.getElem?_map, hd]; rfl) rfl⟩
theorem OwnT.put {g cap : Nat} {ds : List Td} {w : World} (h : OwnT g cap ds w) {i : Nat} (hi : i < ds.length) (d : Td) : OwnT g cap (ds.set i d) ((w.setCell ⟨g, i * 2, none⟩ (.int .u64 d.t.e)).setCell ⟨g, i * 2 + 1, none⟩ (.slice d.A d.t.l.length d.c)) := by
  have h1 := OwnL.set h (i := i) (j := 0) (by simpa using hi) (by omega) (.int .u64 d.t.e)
  have h2 := OwnL.set h1 (i := i) (j := 1) (by simpa using hi) (by omega) (.slice d.A d.t.l.length d.c)
  have e : (((ds.map cellsT).modify i (·.set 0 (.int .u64 d.t.e))).modify i (·.set 1 (.slice d.A d.t.l.length d.c))) = (ds.set i d).map cellsT := by
    apply List.ext_getElem?
    intro m
    rw [List.getElem?_modify, List.getElem?_modify, List.getElem?_map, List.getElem?_map, List.getElem?_set]
    by_cases hm : i = m
    · subst hm
      rw [List.getElem?_eq_getElem hi]
      simp [cellsT, hi]
    · rw [if_neg hm]
      cases ds[m]? <;> simp [hm]
  unfold OwnT
  rw [← e]
  exact h2
abbrev OwnTs (B : Nat) (v : Value) (ds : List Td) (w : World) : Prop := w.ownsRow B 26 2 v ds.length (cellsTs ds)
theorem OwnTs.slice {B : Nat} {v : Value} {ds : List Td} {w : World} (h : OwnTs B v ds w) : (v = .slice none 0 0 ∧ ds = []) ∨ ∃ g cap, v = .slice (some ⟨g, 0, none⟩) ds.length cap ∧ B ≤ g ∧ OwnT g cap ds w := by
  rcases own_slice h with ⟨h1, h2⟩ | ⟨g, cap, rfl, hB⟩
  · exact .inl ⟨h1, List.eq_nil_of_length_eq_zero h2⟩
  · exact .inr ⟨g, cap, rfl, hB, OwnL.of_row h (by simp) (cells2 ds)⟩
theorem OwnTs.of {B g cap : Nat} {ds : List Td} {w : World} (h : OwnT g cap ds w) (hB : B ≤ g) : OwnTs B (.slice (some ⟨g, 0, none⟩) ds.length cap) ds w := by
  have := OwnL.row h hB
  simpa [OwnTs, cellsTs] using this
theorem OwnTs.nil (B : Nat) (w : World) : OwnTs B (.slice none 0 0) [] w := World.ownsRow_nil w B _ _
theorem OwnTs.below {B : Nat} {v : Value} {ds : List Td} {w w' : World} (h : OwnTs B v ds w) (hb : Below w.heap.size w w') : OwnTs B v ds w' := ownsRow_below h hb
theorem OwnTs.tms {B : Nat} {v : Value} {ds : List Td} {w : World} (h : OwnTs B v ds w) (hr : RdT w ds) : TmsV w v ds := ⟨own_slV h, hr⟩
theorem time_info : (Tryz.prog.info? 26).map (fun i => (i.zero, i.size, i.bytes)) = some (some (.agg #[.int .u64 0, .slice none 0 0]), 2, 32) := by kernel_rfl
end Go.Proofs.YtdfhchpimpbgfaaGreatDoor
