/-
  From what the statements of layer 4 say of an argument (it reads as a datum) to the words of the walks: a way, a time, the table of powers. Conditions: those written.
-/
import Derived.Test.YtkpjbmbdndkalaaDoorStPr0
import Derived.Test.YtkpjbmbdndkalaaDoorRows
import Derived.ProofKit
import Derived.Lib.SmallJoins
import Derived.Lib.LaidU8T
import Derived.PinnedBridge
import Derived.ChangeSlices
import Derived.Carry
set_option linter.unusedVariables false
set_option linter.unusedSimpArgs false
namespace Go.Proofs.YtkpjbmbdndkalaaDoor
open Go.ChangeShapes Go.WideShapes Go.ChangeAt Go.RowKit Go.Joins Go.Lib Go.Shelf

theorem pows_of {W : World} (h : VarReads Tryd.prog W "internal/strconv.uint64pow10" Rows.laid_internal_strconv_uint64pow10) : Pows W := by
  obtain ⟨g, t, cs, fuel, p, hg, hty, hvar, hd⟩ := h
  obtain rfl := Option.some.inj ((show Tryd.prog.globalNamed "internal/strconv.uint64pow10" = some 0 by kernel_rfl).symm.trans hg)
  obtain rfl := Option.some.inj ((show (Tryd.prog.globals[0]?).map (·.type) = some 164 by kernel_rfl).symm.trans hty)
  constructor
  · unfold Lib.TabIs
    rw [hvar]
    have e : (Rows.laid_internal_strconv_uint64pow10 : DataW Unit) = Lib.tabData .u64 Lib.pow10Tab := by kernel_rfl
    rw [e] at hd
    have := Lib.cells_of_tab Tryd.underlying164 Tryd.underlying22 (by kernel_rfl) (by kernel_rfl) hd
    rw [← this]
  · unfold World.var? at hvar
    rw [show Tryd.prog.globalNamed "internal/strconv.uint64pow10" = some 0 by kernel_rfl] at hvar
    simp only [Option.bind_some] at hvar
    rcases Nat.lt_or_ge 0 W.heap.size with h | h
    · exact h
    · rw [Array.getElem?_eq_none h] at hvar
      cases hvar
theorem cell_lt {W : World} {a : Addr} {u : Value} (h : W.cell? a = some u) : a.block < W.heap.size := by
  rcases Nat.lt_or_ge a.block W.heap.size with h1 | h1
  · exact h1
  · simp [World.cell?, Array.getElem?_eq_none h1] at h
section
variable {H : Type} {enc : TypeId × Value → H} {W : World}
theorem open_words {fuel : Nat} {v : Value} {x : DataW H × List MemPlace} (h : DataW.trod enc Tryd.prog W 0 (fun _ => true) true fuel 23 [v] = some x) : ∃ l, WordsV W v l ∧ W32 l := by
  rcases open_ints Tryd.underlying23 Tryd.underlying60 (by kernel_rfl) h with ⟨h1, _⟩ | ⟨a, len, cap, zs, h1, _, hlc, hcm, hzl, _, hcell, hwf⟩
  · obtain rfl : v = .slice none 0 0 := by simpa using h1
    exact ⟨[], WordsV.nil W, fun z hz => by cases hz⟩
  · obtain rfl : v = .slice (some a) len cap := by simpa using h1
    simp only [if_true] at hzl
    have hcap : cap ≤ 9223372036854775807 := by unfold maxLen at hcm; exact hcm
    have hl : (zs.take len).length = len := by rw [List.length_take]; omega
    refine ⟨zs.take len, ?_, fun z hz => ?_⟩
    · unfold WordsV
      rw [hl]
      refine ⟨by rw [List.length_map, hl, Nat.mul_one], some a, cap, rfl, hlc, hcap, (fun e => by cases e), fun hp => ⟨a, rfl, ?_, fun j u hj => ?_⟩⟩
      · have := cell_lt (hcell 0 (by omega))
        rwa [add_block] at this
      · rw [List.getElem?_map] at hj
        obtain ⟨z, hz, rfl⟩ := Option.map_eq_some_iff.1 hj
        obtain ⟨hjl, rfl⟩ := List.getElem?_eq_some_iff.1 hz
        have hj2 : j < zs.length := by rw [hl] at hjl; omega
        rw [hcell j hj2, List.getElem_take]
        simp [List.getD_eq_getElem?_getD, List.getElem?_eq_getElem hj2]
    · have := hwf z (List.mem_of_mem_take hz)
      simpa [Lit.wf, IntKind.min, IntKind.max, IntKind.signed, IntKind.bits] using this
theorem cellsPath : Tryd.prog.cellsOf 62 = 3 := by kernel_rfl
theorem cellsTime : Tryd.prog.cellsOf 25 = 2 := by kernel_rfl
set_option maxRecDepth 100000 in
theorem open_path {b : Nat} {v : Value} {d : DataW H} {p : List MemPlace} (hv : Value.okWide Tryd.prog W .any b 62 v) (h : DataW.Trod enc Tryd.prog W 0 (fun _ => true) true 62 v d p) : ∃ q, PtV W v q ∧ PtW q := by
  obtain ⟨c0, c1, c2, y0, y1, y2, m, rfl, rfl, rfl, h0, h1, h2⟩ := open_agg3 Tryd.underlying62 (by kernel_rfl) cellsPath hv h
  obtain ⟨n0, e0, rfl, w0⟩ := DataW.trod_int Tryd.underlying3 h0
  obtain ⟨n1, e1, rfl, w1⟩ := DataW.trod_int Tryd.underlying60 h1
  obtain ⟨l, hl, wl⟩ := open_words h2
  simp only [List.cons.injEq, and_true] at e0 e1
  subst e0 e1
  refine ⟨⟨n0, n1, l⟩, ⟨c2, rfl, hl⟩, ?_, ?_, wl⟩
  · simpa [Lit.wf, IntKind.min, IntKind.max, IntKind.signed, IntKind.bits] using w0
  · simpa [Lit.wf, IntKind.min, IntKind.max, IntKind.signed, IntKind.bits] using w1
set_option maxRecDepth 100000 in
theorem open_time {b : Nat} {v : Value} {d : DataW H} {p : List MemPlace} (hv : Value.okWide Tryd.prog W .any b 25 v) (h : DataW.Trod enc Tryd.prog W 0 (fun _ => true) true 25 v d p) : ∃ q, TmV W v q ∧ TmW q := by
  obtain ⟨c0, c1, y0, y1, m, rfl, rfl, rfl, h0, h1⟩ := open_agg2 Tryd.underlying25 (by kernel_rfl) cellsTime hv h
  obtain ⟨n0, e0, rfl, w0⟩ := DataW.trod_int Tryd.underlying22 h0
  obtain ⟨l, hl, wl⟩ := open_words h1
  simp only [List.cons.injEq, and_true] at e0
  subst e0
  refine ⟨⟨n0, l⟩, ⟨c1, rfl, hl⟩, ?_, wl⟩
  simpa [Lit.wf, IntKind.min, IntKind.max, IntKind.signed, IntKind.bits] using w0
end
end Go.Proofs.YtkpjbmbdndkalaaDoor
