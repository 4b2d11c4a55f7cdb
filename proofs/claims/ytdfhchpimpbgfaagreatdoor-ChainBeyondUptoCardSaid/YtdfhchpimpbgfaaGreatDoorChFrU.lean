/-
  What the bound of the second form gives at layer 5: a time of an argument has no more counters than the bound. Conditions: those written.
-/
import Derived.Test.YtdfhchpimpbgfaaGreatDoorChFrame
set_option linter.unusedVariables false
set_option linter.unusedSimpArgs false
namespace Go.Proofs.YtdfhchpimpbgfaaGreatDoor
open Go.ChangeShapes Go.WideShapes Go.ChangeAt Go.RowKit Go.Joins Go.Lib Go.Shelf Go.Deep

section
variable {H : Type} {enc : TypeId × Value → H} {W : World}
theorem open_wordsU {fuel : Nat} {v : Value} {x : DataW H × List MemPlace} (h : DataW.trod enc Tryz.prog W 0 (fun _ => true) true fuel 24 [v] = some x) : ∃ l, WordsV W v l ∧ W32 l ∧ ((x.1 = .nil ∧ l = []) ∨ ∃ es r, x.1 = .slice es r ∧ es.length = l.length) := by
  rcases open_ints Tryz.underlying24 Tryz.underlying86 (by kernel_rfl) h with ⟨h1, hx⟩ | ⟨a, len, cap, zs, h1, _, hlc, hcm, hzl, hx, hcell, hwf⟩
  · obtain rfl : v = .slice none 0 0 := by simpa using h1
    exact ⟨[], WordsV.nil W, (fun z hz => by cases hz), .inl ⟨by rw [hx], rfl⟩⟩
  · obtain rfl : v = .slice (some a) len cap := by simpa using h1
    simp only [if_true] at hzl
    have hcap : cap ≤ 9223372036854775807 := by unfold maxLen at hcm; exact hcm
    have hl : (zs.take len).length = len := by rw [List.length_take]; omega
    refine ⟨zs.take len, ?_, (fun z hz => ?_), .inr ⟨_, _, by rw [hx], by simp [lits]⟩⟩
    · unfold WordsV
      rw [hl]
      refine ⟨by rw [List.length_map, hl, Nat.mul_one], some a, cap, rfl, hlc, hcap, (fun e => by cases e), fun hp => ⟨a, rfl, ?_, fun j u hj => ?_⟩⟩
      · have := cell_lt (hcell 0 (by omega))
        rwa [add_block] at this
      · rw [List.getElem?_map] at hj
        obtain ⟨z, hz, rfl⟩ := Option.map_eq_some_iff.1 hj
        obtain ⟨hjl, rfl⟩ := List.getElem?_eq_some_iff.1 hz
        have hj2 : j < zs.length := by rw [hl] at hjl; omega
        rw [hcell j hj2, List.getElem_take]
        simp [List.getD_eq_getElem?_getD, List.getElem?_eq_getElem hj2]
    · have := hwf z (List.mem_of_mem_take hz)
      simpa [Lit.wf, IntKind.min, IntKind.max, IntKind.signed, IntKind.bits] using this
def DatL (x : DataW H) (l : List Int) : Prop := (x = .nil ∧ l = []) ∨ ∃ es r, x = .slice es r ∧ es.length = l.length
set_option maxRecDepth 100000 in
theorem open_tdU {b : Nat} {v : Value} {d : DataW H} {p : List MemPlace} (hv : Value.okWide Tryz.prog W .any b 26 v) (h : DataW.Trod enc Tryz.prog W 0 (fun _ => true) true 26 v d p) :
    ∃ q : Td, (v = valT q ∧ WordsV W (slD q) q.t.l) ∧ TmW q.t ∧ ∃ y0 y1 : DataW H, d = .agg [y0, y1] ∧ DatL y1 q.t.l := by
  obtain ⟨c0, c1, y0, y1, m, rfl, rfl, rfl, h0, h1⟩ := open_agg2 Tryz.underlying26 (by kernel_rfl) cellsTime hv h
  obtain ⟨n0, e0, rfl, w0⟩ := DataW.trod_int Tryz.underlying23 h0
  obtain ⟨l, hl, wl, hd⟩ := open_wordsU h1
  obtain ⟨A, n, c, rfl, hn, _⟩ := hl.form
  subst hn
  simp only [List.cons.injEq, and_true] at e0
  subst e0
  refine ⟨⟨A, c, ⟨n0, l⟩⟩, ⟨rfl, hl⟩, ⟨?_, wl⟩, _, _, rfl, hd⟩
  simpa [Lit.wf, IntKind.min, IntKind.max, IntKind.signed, IntKind.bits] using w0
theorem bulk_all {l : List (DataW H)} : l.length ≤ Rows.uptoBulkAll l := by
  induction l with
  | nil => simp [Rows.uptoBulkAll]
  | cons x r ih =>
    have : 1 ≤ Rows.uptoBulk x := by
      cases x with
      | lit l => cases l <;> simp [Rows.uptoBulk]
      | nil => simp [Rows.uptoBulk]
      | ptr d => simp [Rows.uptoBulk]
      | slice elems spare => simp [Rows.uptoBulk]
      | agg parts => simp [Rows.uptoBulk]
      | iface t d => simp [Rows.uptoBulk]
      | map entries => simp [Rows.uptoBulk]
      | held h => simp [Rows.uptoBulk]
    simp only [Rows.uptoBulkAll, List.length_cons]
    omega
theorem bulk_le {l : List (DataW H)} (h : Rows.uptoSmall H l = true) : Rows.uptoBulkAll l ≤ 1048576 := of_decide_eq_true h
theorem bulkD {d : DataW H} {q : Td} (h : ∃ y0 y1 : DataW H, d = .agg [y0, y1] ∧ DatL y1 q.t.l) (hb : Rows.uptoBulk d ≤ 1048576) : q.t.l.length ≤ 1048576 := by
  obtain ⟨y0, y1, rfl, ⟨rfl, e⟩ | ⟨es, r, rfl, e⟩⟩ := h
  · rw [e]
    simp
  · simp only [Rows.uptoBulk, Rows.uptoBulkAll] at hb
    have := bulk_all (l := es)
    omega
end
end Go.Proofs.YtdfhchpimpbgfaaGreatDoor
