/-
  From what the statements of layer 2 say of an argument (it reads as a datum) to the words of the walks: a row, counted rows, integers. Conditions: those written.
-/
import Derived.Test.YtfkimemagbkcoaaDoorRwI
import Derived.Test.YtfkimemagbkcoaaDoorRwT
import Derived.Test.YtfkimemagbkcoaaDoorRowU
import Derived.Test.YtfkimemagbkcoaaDoorRows
import Derived.ProofKit
import Derived.Lib.SmallJoins
import Derived.ChangeSlices
import Derived.Deep.Slices
import Derived.Carry
set_option linter.unusedVariables false
set_option linter.unusedSimpArgs false
namespace Go.Proofs.YtfkimemagbkcoaaDoor
open Go.ChangeShapes Go.WideShapes Go.ChangeAt Go.RowKit Go.Joins Go.Lib Go.Deep

theorem cell_lt {W : World} {a : Addr} {u : Value} (h : W.cell? a = some u) : a.block < W.heap.size := by
  rcases Nat.lt_or_ge a.block W.heap.size with h1 | h1
  · exact h1
  · simp [World.cell?, Array.getElem?_eq_none h1] at h
theorem cellsDat : Tryd.prog.cellsOf 79 = 4 := by kernel_rfl
section
variable {H : Type} {enc : TypeId × Value → H} {W : World}
/-- What a datum reads as. -/
def datD (d : Dat) : DataW H := .agg [.lit (.int .u8 d.k), .lit (.bool d.b), .lit (.int .i64 d.n), .lit (.string d.s.data.toList)]
/-- What a row reads as: its data, and what stands in its room behind. -/
def DatR (x : DataW H) (l : List Dat) : Prop := (x = .nil ∧ l = []) ∨ ∃ r, x = .slice (l.map datD) r
theorem open_cells4 {P : Program} {base : Nat} {spare : Nat → Bool} {held : Bool} {t : TypeId} {f0 f1 f2 f3 : Field} {fuel : Nat} {cs : List Value} {x : DataW H × List MemPlace} (hs : P.underlying t = some (.struct #[f0, f1, f2, f3])) (hone : oneCellFields P #[f0, f1, f2, f3] = true) (hC : P.cellsOf t = 4)
    (h : DataW.trod enc P W base spare held fuel t cs = some x) :
    ∃ (v0 v1 v2 v3 : Value) (y0 y1 y2 y3 : DataW H × List MemPlace) (n : Nat), cs = [v0, v1, v2, v3] ∧ x.1 = .agg [y0.1, y1.1, y2.1, y3.1] ∧
      DataW.trod enc P W base spare held n f0.type [v0] = some y0 ∧ DataW.trod enc P W base spare held n f1.type [v1] = some y1 ∧ DataW.trod enc P W base spare held n f2.type [v2] = some y2 ∧ DataW.trod enc P W base spare held n f3.type [v3] = some y3 := by
  obtain ⟨y0, y1, y2, y3, n, rfl, hl, h0, h1, h2, h3⟩ := trod_struct4 hs h
  rw [hC] at hl
  obtain ⟨o0, k0⟩ := hone_of hone 0 f0 rfl
  obtain ⟨o1, k1⟩ := hone_of hone 1 f1 rfl
  obtain ⟨o2, k2⟩ := hone_of hone 2 f2 rfl
  obtain ⟨o3, k3⟩ := hone_of hone 3 f3 rfl
  match cs, hl with
  | [v0, v1, v2, v3], _ => exact ⟨v0, v1, v2, v3, y0, y1, y2, y3, n, rfl, rfl, by simpa [o0, k0] using h0, by simpa [o1, k1] using h1, by simpa [o2, k2] using h2, by simpa [o3, k3] using h3⟩
theorem open_cells2 {P : Program} {base : Nat} {spare : Nat → Bool} {held : Bool} {t : TypeId} {f0 f1 : Field} {fuel : Nat} {cs : List Value} {x : DataW H × List MemPlace} (hs : P.underlying t = some (.struct #[f0, f1])) (hone : oneCellFields P #[f0, f1] = true) (hC : P.cellsOf t = 2)
    (h : DataW.trod enc P W base spare held fuel t cs = some x) :
    ∃ (v0 v1 : Value) (y0 y1 : DataW H × List MemPlace) (n : Nat), cs = [v0, v1] ∧ x.1 = .agg [y0.1, y1.1] ∧
      DataW.trod enc P W base spare held n f0.type [v0] = some y0 ∧ DataW.trod enc P W base spare held n f1.type [v1] = some y1 := by
  obtain ⟨y0, y1, n, rfl, hl, h0, h1⟩ := trod_struct2 hs h
  rw [hC] at hl
  obtain ⟨o0, k0⟩ := hone_of hone 0 f0 rfl
  obtain ⟨o1, k1⟩ := hone_of hone 1 f1 rfl
  match cs, hl with
  | [v0, v1], _ => exact ⟨v0, v1, y0, y1, n, rfl, rfl, by simpa [o0, k0] using h0, by simpa [o1, k1] using h1⟩
set_option maxRecDepth 100000 in
theorem open_datum {fuel : Nat} {cs : List Value} {x : DataW H × List MemPlace} (h : DataW.trod enc Tryd.prog W 0 (fun _ => true) true fuel 79 cs = some x) : ∃ d : Dat, cs = cellsD d ∧ x.1 = datD d ∧ Wide d ∧ d.s.size ≤ 9223372036854775807 := by
  obtain ⟨v0, v1, v2, v3, y0, y1, y2, y3, n, rfl, hx, h0, h1, h2, h3⟩ := open_cells4 Tryd.underlying79 (by kernel_rfl) cellsDat h
  obtain ⟨k0, e0, rfl, w0⟩ := DataW.trod_int Tryd.underlying77 h0
  obtain ⟨b0, e1, rfl⟩ := DataW.trod_bool Tryd.underlying4 h1
  obtain ⟨n0, e2, rfl, w2⟩ := DataW.trod_int Tryd.underlying2 h2
  obtain ⟨s0, e3, rfl, w3⟩ := DataW.trod_string Tryd.underlying9 h3
  simp only [List.cons.injEq, and_true] at e0 e1 e2 e3
  subst e0 e1 e2 e3
  refine ⟨⟨k0, b0, n0, s0⟩, rfl, hx, ⟨?_, ?_⟩, ?_⟩
  · simpa [Lit.wf, IntKind.min, IntKind.max, IntKind.signed, IntKind.bits] using w0
  · simpa [Lit.wf, IntKind.min, IntKind.max, IntKind.signed, IntKind.bits] using w2
  · unfold maxLen at w3; exact w3
theorem map_range {n : Nat} {f : Nat → Dat} {D : Nat → DataW H} (h : ∀ i, i < n → D i = datD (f i)) : (List.range n).map D = ((List.range n).map f).map datD := by
  rw [List.map_map]
  exact List.map_congr_left fun i hi => h i (List.mem_range.1 hi)
/-- Cells that lie so make a row. -/
theorem rowV_of {a : Addr} {len cap : Nat} {f : Nat → Dat} (hlc : len ≤ cap) (hcm : cap ≤ 9223372036854775807) (hc : ∀ i, i < len → ∀ j u, (cellsD (f i))[j]? = some u → W.cell? (a.add (i * 4 + j)) = some u) :
    RowV W (.slice (some a) len cap) ((List.range len).map f) := by
  have hl : ((List.range len).map f).length = len := by simp
  refine ⟨cells_len _, some a, cap, by rw [hl], by rw [hl]; exact hlc, hcm, fun q => (by cases q), fun hp => ⟨a, rfl, ?_, fun j u hj => ?_⟩⟩
  · rw [hl] at hp
    have := cell_lt (hc 0 hp 0 _ rfl)
    rwa [add_block] at this
  · have e : j = j / 4 * 4 + j % 4 := by omega
    have hm : j % 4 < 4 := Nat.mod_lt _ (by omega)
    have hj2 : j < ((List.range len).map f).length * 4 := by
      rw [← cells_len]
      exact (List.getElem?_eq_some_iff.1 hj).1
    rw [hl] at hj2
    have hi : j / 4 < len := by omega
    rw [e, cells_get _ (j / 4) (by rw [hl]; exact hi) (j % 4) hm] at hj
    rw [e]
    exact hc (j / 4) hi (j % 4) u (by simpa using hj)
set_option maxRecDepth 100000 in
theorem open_row {fuel : Nat} {v : Value} {x : DataW H × List MemPlace} (h : DataW.trod enc Tryd.prog W 0 (fun _ => true) true fuel 25 [v] = some x) : ∃ l, RowV W v l ∧ (∀ d ∈ l, Wide d ∧ d.s.size ≤ 9223372036854775807) ∧ DatR x.1 l := by
  rcases open_slice Tryd.underlying25 h with ⟨h1, rfl⟩ | ⟨a, len, cap, m, n, D, Pl, h1, _, hlc, hcm, hm, rfl, hx⟩
  · obtain rfl : v = .slice none 0 0 := by simpa using h1
    exact ⟨[], RowV.nil W, by simp, .inl ⟨rfl, rfl⟩⟩
  · obtain rfl : v = .slice (some a) len cap := by simpa using h1
    have hlm : len ≤ m := by rw [hm]; simpa using hlc
    have each : ∀ i, i < len → ∃ d : Dat, (∀ j u, (cellsD d)[j]? = some u → W.cell? (a.add (i * 4 + j)) = some u) ∧ D i = datD d ∧ Wide d ∧ d.s.size ≤ 9223372036854775807 := by
      intro i hi
      obtain ⟨cs, g1, g2⟩ := hx i (by omega)
      obtain ⟨d, rfl, e, hw, hs⟩ := open_datum g2
      rw [cellsDat] at g1
      obtain ⟨_, hlen, hcell⟩ := World.cells?_some g1
      refine ⟨d, fun j u hj => ?_, e, hw, hs⟩
      have hj4 : j < 4 := (List.getElem?_eq_some_iff.1 hj).1
      have := hcell j hj4
      rw [add_twice] at this
      rw [this]
      first | exact hj | simpa using hj
    obtain ⟨f, hf⟩ := choose_lt each
    refine ⟨(List.range len).map f, rowV_of hlc (by unfold maxLen at hcm; exact hcm) (fun i hi => (hf i hi).1), fun d hd => ?_, .inr ⟨_, by rw [map_range (fun i hi => (hf i hi).2.1)]⟩⟩
    obtain ⟨i, hi, rfl⟩ := List.mem_map.1 hd
    exact (hf i (List.mem_range.1 hi)).2.2
set_option maxRecDepth 100000 in
theorem arg_row {b : Nat} {v : Value} {d : DataW H} {p : List MemPlace} (hv : Value.okWide Tryd.prog W .any b 25 v) (h : DataW.Trod enc Tryd.prog W 0 (fun _ => true) true 25 v d p) : ∃ l, RowV W v l ∧ (∀ d ∈ l, Wide d ∧ d.s.size ≤ 9223372036854775807) ∧ DatR d l := by
  obtain ⟨a, len, cap, rfl⟩ := okWide_slice Tryd.underlying25 hv
  obtain ⟨fuel, hf⟩ := h
  exact open_row hf
/-- What a slice of integers reads as. -/
def DatI (x : DataW H) (l : List Int) : Prop := (x = .nil ∧ l = []) ∨ ∃ r, x = .slice (l.map (fun z => .lit (.int .i64 z))) r
set_option maxRecDepth 100000 in
theorem arg_ints {b : Nat} {v : Value} {d : DataW H} {p : List MemPlace} (hv : Value.okWide Tryd.prog W .any b 49 v) (h : DataW.Trod enc Tryd.prog W 0 (fun _ => true) true 49 v d p) : ∃ l, IntsV W v l ∧ True ∧ DatI d l := by
  obtain ⟨a', len', cap', rfl⟩ := okWide_slice Tryd.underlying49 hv
  obtain ⟨fuel, hf⟩ := h
  rcases open_slice1 Tryd.underlying49 (by kernel_rfl) hf with ⟨h1, h2⟩ | ⟨a, len, cap, m, n, V, D, Pl, h1, _, hlc, hcm, hm, hx, hc⟩
  · simp [Value.cells] at h1
    obtain ⟨rfl, rfl, rfl⟩ := h1
    cases h2
    exact ⟨[], ⟨rfl, none, 0, rfl, Nat.le_refl _, by decide, fun _ => rfl, fun q => absurd q (by simp)⟩, trivial, .inl ⟨rfl, rfl⟩⟩
  · simp [Value.cells] at h1
    obtain ⟨rfl, rfl, rfl⟩ := h1
    cases hx
    have hlm : len' ≤ m := by rw [hm]; simpa using hlc
    have each : ∀ i, i < len' → ∃ z : Int, W.cell? (a.add i) = some (.int .i64 z) ∧ D i = .lit (.int .i64 z) := by
      intro i hi
      obtain ⟨g1, g2⟩ := hc i (by omega)
      obtain ⟨z, e, hz, _⟩ := DataW.trod_int Tryd.underlying3 g2
      simp only [List.cons.injEq, and_true] at e
      rw [e] at g1
      exact ⟨z, g1, congrArg (·.1) hz⟩
    obtain ⟨f, hf'⟩ := choose_lt each
    have hl : ((List.range len').map f).length = len' := by simp
    refine ⟨(List.range len').map f, ⟨by rw [List.length_map, hl]; omega, some a, cap', by rw [hl], by rw [hl]; exact hlc, by unfold maxLen at hcm; exact hcm, fun q => (by cases q), fun hp => ⟨a, rfl, ?_, fun j u hj => ?_⟩⟩, trivial, .inr ⟨(List.range (m - len')).map fun j => D (len' + j), ?_⟩⟩
    · rw [hl] at hp
      have := cell_lt (hf' 0 hp).1
      rwa [add_block] at this
    · have hj' : j < len' := by
        have := (List.getElem?_eq_some_iff.1 hj).1
        simpa using this
      rw [(hf' j hj').1]
      simp [hj', intV] at hj
      rw [hj]
    · congr 1
      rw [List.map_map]
      exact List.map_congr_left fun i hi => (hf' i (List.mem_range.1 hi)).2
/-- What counted rows read as. -/
def DatC (x : DataW H) (ds : List Cd) : Prop := (x = .nil ∧ ds = []) ∨ ∃ es r, x = .slice es r ∧ es.length = ds.length ∧ ∀ d ∈ ds, ∃ y, .agg [y, .lit (.int .i64 d.1.n)] ∈ es ∧ DatR y d.2
theorem cellsCt : Tryd.prog.cellsOf 45 = 2 := by kernel_rfl
instance : Inhabited Cd := ⟨(⟨none, 0, 0, 0⟩, [])⟩
theorem cells_get2 : ∀ (l : List Cd) (i : Nat) (h : i < l.length) (j : Nat), j < 2 → (cellsC l)[i * 2 + j]? = (cellsV l[i].1)[j]? := by
  intro l i h j hj
  unfold cellsC
  rw [flat_get _ (fun x hx => by obtain ⟨y, _, rfl⟩ := List.mem_map.1 hx; rfl) i j hj, List.getElem?_map, List.getElem?_eq_getElem h]
  rfl
set_option maxRecDepth 100000 in
theorem arg_counted {b : Nat} {v : Value} {d : DataW H} {p : List MemPlace} (hv : Value.okWide Tryd.prog W .any b 41 v) (h : DataW.Trod enc Tryd.prog W 0 (fun _ => true) true 41 v d p) :
    ∃ ds, CtsV W v ds ∧ (∀ d ∈ ds, (∀ x ∈ d.2, Wide x ∧ x.s.size ≤ 9223372036854775807) ∧ S64 d.1.n) ∧ DatC d ds := by
  obtain ⟨a', len', cap', rfl⟩ := okWide_slice Tryd.underlying41 hv
  obtain ⟨fuel, hf⟩ := h
  rcases open_slice Tryd.underlying41 hf with ⟨h1, h2⟩ | ⟨a, len, cap, m, n, D, Pl, h1, _, hlc, hcm, hm, hx, hc⟩
  · simp [Value.cells] at h1
    obtain ⟨rfl, rfl, rfl⟩ := h1
    cases h2
    exact ⟨[], ⟨⟨rfl, none, 0, rfl, Nat.le_refl _, by decide, fun _ => rfl, fun q => absurd q (by simp)⟩, by simp⟩, by simp, .inl ⟨rfl, rfl⟩⟩
  · simp [Value.cells] at h1
    obtain ⟨rfl, rfl, rfl⟩ := h1
    cases hx
    have hlm : len' ≤ m := by rw [hm]; simpa using hlc
    have each : ∀ i, i < len' → ∃ d : Cd, (∀ j u, (cellsV d.1)[j]? = some u → W.cell? (a.add (i * 2 + j)) = some u) ∧ RowV W (valD d) d.2 ∧ ((∀ x ∈ d.2, Wide x ∧ x.s.size ≤ 9223372036854775807) ∧ S64 d.1.n) ∧ ∃ y, D i = .agg [y, .lit (.int .i64 d.1.n)] ∧ DatR y d.2 := by
      intro i hi
      obtain ⟨cs, g1, g2⟩ := hc i (by omega)
      obtain ⟨v0, v1, y0, y1, k, rfl, e, t0, t1⟩ := open_cells2 Tryd.underlying45 (by kernel_rfl) cellsCt g2
      obtain ⟨A0, l0, c0, e0⟩ := slice_form Tryd.underlying25 t0
      simp only [List.cons.injEq, and_true] at e0
      subst e0
      obtain ⟨l, hl, hw, hd⟩ := open_row t0
      obtain ⟨z, e1, rfl, w1⟩ := DataW.trod_int Tryd.underlying2 t1
      simp only [List.cons.injEq, and_true] at e1
      subst e1
      rw [cellsCt] at g1
      obtain ⟨_, hlen, hcell⟩ := World.cells?_some g1
      refine ⟨(⟨A0, l0, c0, z⟩, l), fun j u hj => ?_, hl, ⟨hw, ?_⟩, y0.1, e, hd⟩
      · have hj2 : j < 2 := (List.getElem?_eq_some_iff.1 hj).1
        have := hcell j hj2
        rw [add_twice] at this
        rw [this]
        exact hj
      · simpa [S64, Lit.wf, IntKind.min, IntKind.max, IntKind.signed, IntKind.bits] using w1
    obtain ⟨f, hf'⟩ := choose_lt each
    have hl : ((List.range len').map f).length = len' := by simp
    refine ⟨(List.range len').map f, ⟨⟨cellsC_len _, some a, cap', by rw [hl], by rw [hl]; exact hlc, by unfold maxLen at hcm; exact hcm, fun q => (by cases q), fun hp => ⟨a, rfl, ?_, fun j u hj => ?_⟩⟩, ?_⟩, ?_, .inr ⟨_, (List.range (m - len')).map fun j => D (len' + j), rfl, by simp, ?_⟩⟩
    · rw [hl] at hp
      have := cell_lt ((hf' 0 hp).1 0 _ rfl)
      rwa [add_block] at this
    · have e : j = j / 2 * 2 + j % 2 := by omega
      have hj2 : j < len' * 2 := by
        have := (List.getElem?_eq_some_iff.1 hj).1
        rw [cellsC_len, hl] at this
        exact this
      have hi : j / 2 < len' := by omega
      rw [e, cells_get2 _ (j / 2) (by rw [hl]; exact hi) (j % 2) (Nat.mod_lt _ (by omega))] at hj
      rw [e]
      exact (hf' (j / 2) hi).1 (j % 2) u (by simpa using hj)
    · intro d hd
      obtain ⟨i, hi, rfl⟩ := List.mem_map.1 hd
      exact (hf' i (List.mem_range.1 hi)).2.1
    · intro d hd
      obtain ⟨i, hi, rfl⟩ := List.mem_map.1 hd
      exact (hf' i (List.mem_range.1 hi)).2.2.1
    · intro d hd
      obtain ⟨i, hi, rfl⟩ := List.mem_map.1 hd
      obtain ⟨y, hy, hdr⟩ := (hf' i (List.mem_range.1 hi)).2.2.2
      exact ⟨y, hy ▸ List.mem_map.2 ⟨i, hi, rfl⟩, hdr⟩
/-! ### what the bound gives -/
theorem bulk_all {l : List (DataW H)} : l.length ≤ Rows.uptoBulkAll l := by
  induction l with
  | nil => simp [Rows.uptoBulkAll]
  | cons x r ih =>
    have : 1 ≤ Rows.uptoBulk x := by
      cases x with
      | lit l => cases l <;> simp [Rows.uptoBulk]
      | nil => simp [Rows.uptoBulk]
      | ptr d => simp [Rows.uptoBulk]
      | slice elems spare => simp [Rows.uptoBulk]
      | agg parts => simp [Rows.uptoBulk]
      | iface t d => simp [Rows.uptoBulk]
      | map entries => simp [Rows.uptoBulk]
      | held h => simp [Rows.uptoBulk]
    simp only [Rows.uptoBulkAll, List.length_cons]
    omega
theorem bulk_mem {l : List (DataW H)} {d : DataW H} (h : d ∈ l) : Rows.uptoBulk d ≤ Rows.uptoBulkAll l := by
  induction l with
  | nil => cases h
  | cons x r ih =>
    simp only [Rows.uptoBulkAll]
    rcases List.mem_cons.1 h with rfl | h
    · omega
    · have := ih h; omega
theorem bulk_le {l : List (DataW H)} (h : Rows.uptoSmall H l = true) : Rows.uptoBulkAll l ≤ 1048576 := of_decide_eq_true h
theorem bulk_row : ∀ l : List Dat, szR l ≤ 4 * Rows.uptoBulkAll (H := H) (l.map datD)
  | [] => by simp [szR]
  | d :: l => by
    have h := bulk_row l
    have e : d.s.data.toList.length = d.s.size := by rw [Array.length_toList]; rfl
    simp only [List.map_cons, Rows.uptoBulkAll, szR, datD, Rows.uptoBulk, szD] at h ⊢
    omega
theorem bulkR {x : DataW H} {l : List Dat} (h : DatR x l) (hb : Rows.uptoBulk x ≤ 1048576) : szR l ≤ 4194304 := by
  rcases h with ⟨rfl, rfl⟩ | ⟨r, rfl⟩
  · simp [szR]
  · have := bulk_row (H := H) l
    simp only [Rows.uptoBulk] at hb
    omega
theorem bulkI {x : DataW H} {l : List Int} (h : DatI x l) (hb : Rows.uptoBulk x ≤ 1048576) : l.length ≤ 1048576 := by
  rcases h with ⟨rfl, rfl⟩ | ⟨r, rfl⟩
  · simp
  · have := bulk_all (l := (l.map (fun z => (DataW.lit (.int .i64 z) : DataW H))))
    simp only [Rows.uptoBulk] at hb
    rw [List.length_map] at this
    omega
theorem bulkC {x : DataW H} {ds : List Cd} (h : DatC x ds) (hb : Rows.uptoBulk x ≤ 1048576) : ds.length ≤ 1048576 ∧ ∀ d ∈ ds, szR d.2 ≤ 4194304 := by
  rcases h with ⟨rfl, rfl⟩ | ⟨es, r, rfl, hl, he⟩
  · simp
  · simp only [Rows.uptoBulk] at hb
    refine ⟨by have := bulk_all (l := es); omega, fun d hd => ?_⟩
    obtain ⟨y, hy, hr⟩ := he d hd
    have h1 := bulk_mem hy
    simp only [Rows.uptoBulk, Rows.uptoBulkAll] at h1
    exact bulkR hr (by omega)
end
end Go.Proofs.YtfkimemagbkcoaaDoor
