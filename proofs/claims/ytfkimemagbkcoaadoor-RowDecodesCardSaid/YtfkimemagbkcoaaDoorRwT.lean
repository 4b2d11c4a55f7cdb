/-
  Words and laws for row.Sum, at this program: counted rows in memory, its key as a text, one more counted row behind those that the call owns. Conditions: those written.
-/
import Derived.Test.YtfkimemagbkcoaaDoorRwW
import Derived.Test.YtfkimemagbkcoaaDoorRwG
import Derived.Test.YtfkimemagbkcoaaDoorMpI
import Derived.Test.YtfkimemagbkcoaaDoorRowS
import Derived.Laws.IdiomStrings
set_option linter.unusedVariables false
set_option linter.unusedSimpArgs false
namespace Go.Proofs.YtfkimemagbkcoaaDoor
open Go.RowKit Go.Lib Go.Proofs

def cnD (d : Cd) : Cn := (d.2, d.1.n)
def cellsC (ds : List Cd) : List Value := (ds.map (fun d => cellsV d.1)).flatten
theorem cellsC_len (ds : List Cd) : (cellsC ds).length = ds.length * 2 := by
  unfold cellsC
  rw [flat_len (k := 2) _ (fun x hx => by obtain ⟨y, _, rfl⟩ := List.mem_map.1 hx; rfl), List.length_map]
/-- The slice value v holds these counted rows, each of which reads as its row. -/
def CtsV (w : World) (v : Value) (ds : List Cd) : Prop := SlV w 2 v ds.length (cellsC ds) ∧ ∀ d ∈ ds, RowV w (valD d) d.2
theorem CtsV.below {w w' : World} {v : Value} {ds : List Cd} (h : CtsV w v ds) (hb : Below w.heap.size w w') : CtsV w' v ds := ⟨h.1.below hb, fun d hd => (h.2 d hd).below hb⟩
theorem CtsV.form {w : World} {v : Value} {ds : List Cd} (h : CtsV w v ds) : ∃ A c, v = .slice A ds.length c ∧ ds.length ≤ 9223372036854775807 := by
  obtain ⟨⟨_, A, c, rfl, h2, h3, _⟩, _⟩ := h
  exact ⟨A, c, rfl, by omega⟩
theorem CtsV.at {w : World} {A : Option Addr} {c : Nat} {ds : List Cd} (h : CtsV w (.slice A ds.length c) ds) {i : Nat} {d : Cd} (hd : ds[i]? = some d) :
    ∃ ad : Addr, A = some ad ∧ (ad.add (i * 2)).block < w.heap.size ∧ w.cell? (ad.add (i * 2)) = some (valD d) ∧ w.cell? ⟨(ad.add (i * 2)).block, (ad.add (i * 2)).off + 1, none⟩ = some (.int .i64 d.1.n) := by
  obtain ⟨⟨_, A', c', e, _, _, _, h4⟩, _⟩ := h
  obtain ⟨rfl, _, rfl⟩ := Value.slice.inj e
  have hi : i < ds.length := (List.getElem?_eq_some_iff.1 hd).1
  obtain ⟨ad, rfl, h5, h6⟩ := h4 (by omega)
  have hk : ∀ x ∈ ds.map (fun d => cellsV d.1), x.length = 2 := fun x hx => by obtain ⟨y, _, rfl⟩ := List.mem_map.1 hx; rfl
  have g (j : Nat) (hj : j < 2) : (cellsC ds)[i * 2 + j]? = (cellsV d.1)[j]? := by
    unfold cellsC
    rw [flat_get _ hk i j hj, List.getElem?_map, hd]
    rfl
  refine ⟨ad, rfl, by rw [add_block]; exact h5, h6 (i * 2) _ ((g 0 (by omega)).trans rfl), ?_⟩
  rw [← add_more ad (i * 2) 1 (by omega)]
  exact h6 (i * 2 + 1) _ ((g 1 (by omega)).trans rfl)
/-- The slice v, a row of the call's own, holds these. -/
abbrev OwnCs (B : Nat) (v : Value) (ds : List Cd) (w : World) : Prop := w.ownsRow B 45 2 v ds.length (cellsC ds)
theorem OwnCs.slice {B : Nat} {v : Value} {ds : List Cd} {w : World} (h : OwnCs B v ds w) : (v = .slice none 0 0 ∧ ds = []) ∨ ∃ g cap, v = .slice (some ⟨g, 0, none⟩) ds.length cap ∧ B ≤ g ∧ OwnC g cap (ds.map (·.1)) w := by
  rcases own_slice h with ⟨h1, h2⟩ | ⟨g, cap, rfl, hB⟩
  · exact .inl ⟨h1, List.eq_nil_of_length_eq_zero h2⟩
  · refine .inr ⟨g, cap, rfl, hB, ?_⟩
    have e : (ds.map (·.1)).map cellsV = ds.map (fun d => cellsV d.1) := by rw [List.map_map]; rfl
    unfold OwnC
    rw [e]
    exact OwnL.of_row h (by simp) (fun x hx => by obtain ⟨y, _, rfl⟩ := List.mem_map.1 hx; rfl)
theorem OwnCs.of {B g cap : Nat} {ds : List Cd} {w : World} (h : OwnC g cap (ds.map (·.1)) w) (hB : B ≤ g) : OwnCs B (.slice (some ⟨g, 0, none⟩) ds.length cap) ds w := by
  have := OwnL.row h hB
  have e : (ds.map (·.1)).map cellsV = ds.map (fun d => cellsV d.1) := by rw [List.map_map]; rfl
  rw [e] at this
  simpa [OwnCs, cellsC] using this
theorem OwnCs.nil (B : Nat) (w : World) : OwnCs B (.slice none 0 0) [] w := World.ownsRow_nil w B _ _
theorem OwnCs.len {B : Nat} {v : Value} {ds : List Cd} {w : World} (h : OwnCs B v ds w) : ∃ A c, v = .slice A ds.length c := by
  rcases h.slice with ⟨rfl, rfl⟩ | ⟨g, cap, rfl, _⟩
  · exact ⟨none, 0, rfl⟩
  · exact ⟨_, _, rfl⟩
abbrev OwnU (B : Nat) (v : Value) (l : List UInt8) (w : World) : Prop := w.ownsRow B 5 1 v l.length (Lib.byteCells l)
/-- string(key) -/
theorem conv_key {B : Nat} {v : Value} {l : List UInt8} {w : World} (h : OwnU B v l w) : (convert 22 9 v).run Tryd.prog w = .ok (.string ⟨l.toArray⟩) w := by
  rcases h.2 with ⟨rfl, h0⟩ | ⟨g, cap, cur, rfl, _⟩
  · have : l = [] := List.eq_nil_of_length_eq_zero h0
    subst this
    have h1 := run_convert_bytes_string (P := Tryd.prog) w 22 9 5 none 0 0 Tryd.underlying22 Tryd.underlying5 Tryd.underlying9
    rw [h1]
    rfl
  · refine run_convert_bytes_back (P := Tryd.prog) w 22 9 5 ⟨g, 0, none⟩ cap l Tryd.underlying22 Tryd.underlying5 Tryd.underlying9 (fun j hj => World.ownsRow.cells h (g := g) rfl j _ ?_)
    simp [Lib.byteCells, hj]
theorem info_ct : ∃ i, Tryd.prog.info? 45 = some i ∧ i.zero = some (.agg #[.slice none 0 0, .int .i64 0]) ∧ i.size = 2 ∧ i.bytes ≤ 64 := by
  have h : (Tryd.prog.info? 45).map (fun i => (i.zero, i.size, decide (i.bytes ≤ 64))) = some (some (.agg #[.slice none 0 0, .int .i64 0]), 2, true) := by kernel_rfl
  cases hi : Tryd.prog.info? 45 with
  | none => rw [hi] at h; cases h
  | some i => rw [hi] at h; simp at h; exact ⟨i, rfl, h.1, h.2.1, h.2.2⟩
section
/-- 'out = append(out, Counted{..})', the one new one in the block that the statement has just laid. -/
theorem wpList_count {ops : Array Oper} {rest : List Oper} {o : Oper} {a : Act} {Q : Exit → Act → World → Prop} (hgd : o.guard = none) (s x : Operand)
    (ho : o.op = .call { callee := .builtin .append, args := #[s, x], argTypes := #[41, 41] })
    (B : Nat) (v : Value) (ds : List Cd) (w0 : World) (d : Cd) (cs : Array Value) (hcs : cs = (cellsV d.1).toArray) (hb : OwnCs B v ds w0) (hs : a.eval s = v)
    (hx : a.eval x = .slice (some ⟨w0.heap.size, 0, none⟩) 1 1) (hlen : ds.length ≤ 1099511627776) (hB : B ≤ w0.heap.size)
    (h : ∀ v' w', OwnCs B v' (ds ++ [d]) w' → (v = .slice none 0 0 → OwnCs w0.heap.size v' (ds ++ [d]) w') → w0.grownBy w' v.ownBlock → wpList Tryd.prog ops Q rest (a.put o.dst v') w') : wpList Tryd.prog ops Q (o :: rest) a (w0.alloc (.cells cs 45)) := by
  subst hcs
  obtain ⟨i, hi, hz, hsz, hby⟩ := info_ct
  have hsx : ∀ j u, (cellsV d.1)[j]? = some u → (w0.alloc (.cells (cellsV d.1).toArray 45)).cell? ((⟨w0.heap.size, 0, none⟩ : Addr).add j) = some u := by
    intro j u hj
    have := cell_new w0 (cellsV d.1).toArray 45 j
    rw [show (⟨w0.heap.size, 0, none⟩ : Addr).add j = ⟨w0.heap.size, j, none⟩ by unfold Addr.add; split <;> simp_all]
    rw [this]
    simpa using hj
  have hby' : (ds.length + 1) * i.bytes ≤ 140737488355328 := by
    have := Nat.mul_le_mul (show ds.length + 1 ≤ 1099511627777 by omega) hby
    omega
  have hup : ∀ (B' : Nat) (v' : Value) (w' : World), w'.ownsRow B' 45 2 v' (ds.length + 1) (cellsC ds ++ cellsV d.1) → OwnCs B' v' (ds ++ [d]) w' := by
    intro B' v' w' ho'
    unfold OwnCs cellsC at *
    rw [List.length_append, List.map_append, List.flatten_append]
    simpa using ho'
  by_cases hv : v = .slice none 0 0
  · subst hv
    have h0 : ds.length = 0 := by
      rcases hb.slice with ⟨_, rfl⟩ | ⟨g, cap, e, _⟩
      · rfl
      · cases e
    have hb0 : (w0.alloc (.cells (cellsV d.1).toArray 45)).ownsRow w0.heap.size 45 2 (.slice none 0 0) ds.length (cellsC ds) := by
      rw [h0, List.eq_nil_of_length_eq_zero h0]
      exact World.ownsRow_nil _ _ _ _
    refine wpList_append_own _ hgd s x 41 ho w0.heap.size 45 i _ 2 i.bytes Tryd.underlying41 hi hz hsz rfl rfl (by decide) (.slice none 0 0) ds.length (cellsC ds) hs hb0 ⟨w0.heap.size, 0, none⟩ 1 1 (cellsV d.1) hx rfl hsx (cellsV_one _) (by unfold maxLen; omega) hby' (by rw [World.size_alloc]; omega) ?_
    intro v' w' ho' hg _
    have h1 := hup _ _ _ ho'
    refine h v' w' ⟨h1.1, ?_⟩ (fun _ => h1) (grown_trans (World.grownBy_alloc _ _ _) hg)
    rcases h1.2 with h2 | ⟨g, cap, cur, e, h2, h3⟩
    · exact .inl h2
    · exact .inr ⟨g, cap, cur, e, Nat.le_trans hB h2, h3⟩
  · have hb' := hb.alloc (.cells (cellsV d.1).toArray 45)
    refine wpList_append_own _ hgd s x 41 ho B 45 i _ 2 i.bytes Tryd.underlying41 hi hz hsz rfl rfl (by decide) v ds.length (cellsC ds) hs hb' ⟨w0.heap.size, 0, none⟩ 1 1 (cellsV d.1) hx rfl hsx (cellsV_one _) (by unfold maxLen; omega) hby' (by rw [World.size_alloc]; omega) ?_
    intro v' w' ho' hg _
    exact h v' w' (hup _ _ _ ho') (fun q => absurd q hv) (grown_trans (World.grownBy_alloc _ _ _) hg)
end
end Go.Proofs.YtfkimemagbkcoaaDoor
