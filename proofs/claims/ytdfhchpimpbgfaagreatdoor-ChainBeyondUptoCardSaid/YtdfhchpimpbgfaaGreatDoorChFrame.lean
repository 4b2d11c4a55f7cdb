/-
  From what the statements of layer 5 say of an argument (it reads as a datum) to the words of the walks: a time, a slice of times, the table of powers. Conditions: those written.
-/
import Derived.Test.YtdfhchpimpbgfaaGreatDoorStPr0
import Derived.Test.YtdfhchpimpbgfaaGreatDoorChV
import Derived.Test.YtdfhchpimpbgfaaGreatDoorRows
import Derived.ProofKit
import Derived.Lib.SmallJoins
import Derived.Lib.LaidU8T
import Derived.PinnedBridge
import Derived.ChangeSlices
import Derived.Deep.Slices
import Derived.Carry
set_option linter.unusedVariables false
set_option linter.unusedSimpArgs false
namespace Go.Proofs.YtdfhchpimpbgfaaGreatDoor
open Go.ChangeShapes Go.WideShapes Go.ChangeAt Go.RowKit Go.Joins Go.Lib Go.Shelf Go.Deep

theorem pows_of {W : World} (h : VarReads Tryz.prog W "internal/strconv.uint64pow10" Rows.laid_internal_strconv_uint64pow10) : Pows W := by
  obtain ⟨g, t, cs, fuel, p, hg, hty, hvar, hd⟩ := h
  obtain rfl := Option.some.inj ((show Tryz.prog.globalNamed "internal/strconv.uint64pow10" = some 0 by kernel_rfl).symm.trans hg)
  obtain rfl := Option.some.inj ((show (Tryz.prog.globals[0]?).map (·.type) = some 212 by kernel_rfl).symm.trans hty)
  constructor
  · unfold Lib.TabIs
    rw [hvar]
    have e : (Rows.laid_internal_strconv_uint64pow10 : DataW Unit) = Lib.tabData .u64 Lib.pow10Tab := by kernel_rfl
    rw [e] at hd
    have := Lib.cells_of_tab Tryz.underlying212 Tryz.underlying23 (by kernel_rfl) (by kernel_rfl) hd
    rw [← this]
  · unfold World.var? at hvar
    rw [show Tryz.prog.globalNamed "internal/strconv.uint64pow10" = some 0 by kernel_rfl] at hvar
    simp only [Option.bind_some] at hvar
    rcases Nat.lt_or_ge 0 W.heap.size with h | h
    · exact h
    · rw [Array.getElem?_eq_none h] at hvar
      cases hvar
theorem cell_lt {W : World} {a : Addr} {u : Value} (h : W.cell? a = some u) : a.block < W.heap.size := by
  rcases Nat.lt_or_ge a.block W.heap.size with h1 | h1
  · exact h1
  · simp [World.cell?, Array.getElem?_eq_none h1] at h
section
variable {H : Type} {enc : TypeId × Value → H} {W : World}
theorem open_words {fuel : Nat} {v : Value} {x : DataW H × List MemPlace} (h : DataW.trod enc Tryz.prog W 0 (fun _ => true) true fuel 24 [v] = some x) : ∃ l, WordsV W v l ∧ W32 l := by
  rcases open_ints Tryz.underlying24 Tryz.underlying86 (by kernel_rfl) h with ⟨h1, _⟩ | ⟨a, len, cap, zs, h1, _, hlc, hcm, hzl, _, hcell, hwf⟩
  · obtain rfl : v = .slice none 0 0 := by simpa using h1
    exact ⟨[], WordsV.nil W, fun z hz => by cases hz⟩
  · obtain rfl : v = .slice (some a) len cap := by simpa using h1
    simp only [if_true] at hzl
    have hcap : cap ≤ 9223372036854775807 := by unfold maxLen at hcm; exact hcm
    have hl : (zs.take len).length = len := by rw [List.length_take]; omega
    refine ⟨zs.take len, ?_, fun z hz => ?_⟩
    · unfold WordsV
      rw [hl]
      refine ⟨by rw [List.length_map, hl, Nat.mul_one], some a, cap, rfl, hlc, hcap, (fun e => by cases e), fun hp => ⟨a, rfl, ?_, fun j u hj => ?_⟩⟩
      · have := cell_lt (hcell 0 (by omega))
        rwa [add_block] at this
      · rw [List.getElem?_map] at hj
        obtain ⟨z, hz, rfl⟩ := Option.map_eq_some_iff.1 hj
        obtain ⟨hjl, rfl⟩ := List.getElem?_eq_some_iff.1 hz
        have hj2 : j < zs.length := by rw [hl] at hjl; omega
        rw [hcell j hj2, List.getElem_take]
        simp [List.getD_eq_getElem?_getD, List.getElem?_eq_getElem hj2]
    · have := hwf z (List.mem_of_mem_take hz)
      simpa [Lit.wf, IntKind.min, IntKind.max, IntKind.signed, IntKind.bits] using this
theorem cellsTime : Tryz.prog.cellsOf 26 = 2 := by kernel_rfl
set_option maxRecDepth 100000 in
theorem open_time {b : Nat} {v : Value} {d : DataW H} {p : List MemPlace} (hv : Value.okWide Tryz.prog W .any b 26 v) (h : DataW.Trod enc Tryz.prog W 0 (fun _ => true) true 26 v d p) : ∃ q, TmV W v q ∧ TmW q := by
  obtain ⟨c0, c1, y0, y1, m, rfl, rfl, rfl, h0, h1⟩ := open_agg2 Tryz.underlying26 (by kernel_rfl) cellsTime hv h
  obtain ⟨n0, e0, rfl, w0⟩ := DataW.trod_int Tryz.underlying23 h0
  obtain ⟨l, hl, wl⟩ := open_words h1
  simp only [List.cons.injEq, and_true] at e0
  subst e0
  refine ⟨⟨n0, l⟩, ⟨c1, rfl, hl⟩, ?_, wl⟩
  simpa [Lit.wf, IntKind.min, IntKind.max, IntKind.signed, IntKind.bits] using w0
set_option maxRecDepth 100000 in
theorem open_td {b : Nat} {v : Value} {d : DataW H} {p : List MemPlace} (hv : Value.okWide Tryz.prog W .any b 26 v) (h : DataW.Trod enc Tryz.prog W 0 (fun _ => true) true 26 v d p) : ∃ q : Td, (v = valT q ∧ WordsV W (slD q) q.t.l) ∧ TmW q.t := by
  obtain ⟨t, h1, h2⟩ := open_time hv h
  obtain ⟨d, rfl, e, h3⟩ := h1.td
  exact ⟨d, ⟨e, h3⟩, h2⟩
theorem open_cells2 {P : Program} {base : Nat} {spare : Nat → Bool} {held : Bool} {t : TypeId} {f0 f1 : Field} {fuel : Nat} {cs : List Value} {x : DataW H × List MemPlace} (hs : P.underlying t = some (.struct #[f0, f1])) (hone : oneCellFields P #[f0, f1] = true) (hC : P.cellsOf t = 2)
    (h : DataW.trod enc P W base spare held fuel t cs = some x) :
    ∃ (v0 v1 : Value) (y0 y1 : DataW H × List MemPlace) (n : Nat), cs = [v0, v1] ∧ x.1 = .agg [y0.1, y1.1] ∧
      DataW.trod enc P W base spare held n f0.type [v0] = some y0 ∧ DataW.trod enc P W base spare held n f1.type [v1] = some y1 := by
  obtain ⟨y0, y1, n, rfl, hl, h0, h1⟩ := trod_struct2 hs h
  rw [hC] at hl
  obtain ⟨o0, k0⟩ := hone_of hone 0 f0 rfl
  obtain ⟨o1, k1⟩ := hone_of hone 1 f1 rfl
  match cs, hl with
  | [v0, v1], _ => exact ⟨v0, v1, y0, y1, n, rfl, rfl, by simpa [o0, k0] using h0, by simpa [o1, k1] using h1⟩
theorem cellsTs_get : ∀ (l : List Td) (i : Nat) (h : i < l.length) (j : Nat), j < 2 → (cellsTs l)[i * 2 + j]? = (cellsT l[i])[j]? := by
  intro l i h j hj
  unfold cellsTs
  induction l generalizing i with
  | nil => simp at h
  | cons d l ih =>
    rw [List.map_cons, List.flatten_cons]
    cases i with
    | zero =>
      rw [List.getElem?_append_left (by rw [cellsT_len]; omega)]
      simp
    | succ i =>
      rw [List.getElem?_append_right (by rw [cellsT_len]; omega), cellsT_len, show (i + 1) * 2 + j - 2 = i * 2 + j by omega]
      simp only [List.getElem_cons_succ]
      exact ih i (by simpa using h)
set_option maxRecDepth 100000 in
theorem arg_times {b : Nat} {v : Value} {d : DataW H} {p : List MemPlace} (hv : Value.okWide Tryz.prog W .any b 22 v) (h : DataW.Trod enc Tryz.prog W 0 (fun _ => true) true 22 v d p) :
    ∃ ds, TmsV W v ds ∧ ∀ d ∈ ds, TmW d.t := by
  obtain ⟨a', len', cap', rfl⟩ := okWide_slice Tryz.underlying22 hv
  obtain ⟨fuel, hf⟩ := h
  rcases open_slice Tryz.underlying22 hf with ⟨h1, h2⟩ | ⟨a, len, cap, m, n, D, Pl, h1, _, hlc, hcm, hm, hx, hc⟩
  · simp [Value.cells] at h1
    obtain ⟨rfl, rfl, rfl⟩ := h1
    exact ⟨[], TmsV.nil W, by simp⟩
  · simp [Value.cells] at h1
    obtain ⟨rfl, rfl, rfl⟩ := h1
    cases hx
    have hlm : len' ≤ m := by rw [hm]; simpa using hlc
    have each : ∀ i, i < len' → ∃ d : Td, (∀ j u, (cellsT d)[j]? = some u → W.cell? (a.add (i * 2 + j)) = some u) ∧ WordsV W (slD d) d.t.l ∧ TmW d.t := by
      intro i hi
      obtain ⟨cs, g1, g2⟩ := hc i (by omega)
      obtain ⟨v0, v1, y0, y1, k, rfl, e, t0, t1⟩ := open_cells2 Tryz.underlying26 (by kernel_rfl) cellsTime g2
      obtain ⟨z, e0, rfl, w0⟩ := DataW.trod_int Tryz.underlying23 t0
      simp only [List.cons.injEq, and_true] at e0
      subst e0
      obtain ⟨l, hl, hw⟩ := open_words t1
      obtain ⟨A1, n1, c1, rfl, hn1, _⟩ := hl.form
      subst hn1
      rw [cellsTime] at g1
      obtain ⟨_, hlen, hcell⟩ := World.cells?_some g1
      refine ⟨⟨A1, c1, ⟨z, l⟩⟩, fun j u hj => ?_, hl, ?_, hw⟩
      · have hj2 : j < 2 := (List.getElem?_eq_some_iff.1 hj).1
        have := hcell j hj2
        rw [add_twice] at this
        rw [this]
        exact hj
      · simpa [Lit.wf, IntKind.min, IntKind.max, IntKind.signed, IntKind.bits] using w0
    obtain ⟨f, hf'⟩ := choose_lt each
    have hl : ((List.range len').map f).length = len' := by simp
    refine ⟨(List.range len').map f, ⟨⟨cellsTs_len _, some a, cap', by rw [hl], by rw [hl]; exact hlc, by unfold maxLen at hcm; exact hcm, fun q => (by cases q), fun hp => ⟨a, rfl, ?_, fun j u hj => ?_⟩⟩, ?_⟩, ?_⟩
    · rw [hl] at hp
      have := cell_lt ((hf' 0 hp).1 0 _ rfl)
      rwa [add_block] at this
    · have e : j = j / 2 * 2 + j % 2 := by omega
      have hj2 : j < len' * 2 := by
        have := (List.getElem?_eq_some_iff.1 hj).1
        rw [cellsTs_len, hl] at this
        exact this
      have hi : j / 2 < len' := by omega
      rw [e, cellsTs_get _ (j / 2) (by rw [hl]; exact hi) (j % 2) (Nat.mod_lt _ (by omega))] at hj
      rw [e]
      exact (hf' (j / 2) hi).1 (j % 2) u (by simpa using hj)
    · intro d hd
      obtain ⟨i, hi, rfl⟩ := List.mem_map.1 hd
      exact (hf' i (List.mem_range.1 hi)).2.1
    · intro d hd
      obtain ⟨i, hi, rfl⟩ := List.mem_map.1 hd
      exact (hf' i (List.mem_range.1 hi)).2.2
end
end Go.Proofs.YtdfhchpimpbgfaaGreatDoor
