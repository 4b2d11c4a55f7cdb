/-
  A row in new memory, at this program. Conditions: those written.
-/
import Derived.Test.YtfkimemagbkcoaaDoorRwG
import Derived.Test.YtfkimemagbkcoaaDoorOwnL
import Derived.Test.YtfkimemagbkcoaaDoorShelf
import Derived.Laws.MakeOwn
set_option linter.unusedVariables false
set_option linter.unusedSimpArgs false
namespace Go.Proofs.YtfkimemagbkcoaaDoor
open Go.RowKit Go.Lib

set_option maxHeartbeats 2000000 in
theorem clone_any (s : ByteArray) (w : World) (hs : s.size ≤ 281474976710656) :
    Calls Tryd.prog 81 #[.string s] w fun e w' => e = .returned (.string s) ∧ Below w.heap.size w w' := by
  go_enter Tryd.func81, Tryd.ntmps81
  go_wp2_with (go_at_call 101; refine (Tryd.stringslite_Clone s _ hs).mono ?_; rintro e w' ⟨rfl, hb⟩)
  go_ret
  exact ⟨rfl, hb⟩
set_option maxHeartbeats 2000000 in
theorem fresh_any (k : Int) (b : Bool) (n : Int) (s : ByteArray) (w : World) (hs : s.size ≤ 281474976710656) :
    Calls Tryd.prog 47 #[.agg #[.int .u8 k, .bool b, .int .i64 n, .string s]] w fun e w' => e = .returned (.agg #[.int .u8 k, .bool b, .int .i64 n, .string s]) ∧ Below w.heap.size w w' := by
  go_enter Tryd.func47, Tryd.ntmps47
  go_wp2_with fail
  refine (clone_any s _ hs).mono ?_
  rintro e w1 ⟨rfl, hb⟩
  have hD := ((Has.new w (.int .u8 k) (.bool b) (.int .i64 n) (.string s)).alloc (.cells #[.int .u8 0, .bool false, .int .i64 0, .string ⟨#[]⟩] 79)).below hb
  have hE := (Has.new (w.alloc (.cells #[.int .u8 k, .bool b, .int .i64 n, .string s] 79)) (.int .u8 0) (.bool false) (.int .i64 0) (.string ⟨#[]⟩)).below hb
  rw [World.size_alloc] at hE
  obtain ⟨d0_, d1_, d2_, d3_⟩ := hD.cells
  obtain ⟨e0_, e1_, e2_, e3_⟩ := hE.cells
  obtain ⟨fd0, fd1, fd2, fd3⟩ := hD.free
  obtain ⟨fe0, fe1, fe2, fe3⟩ := hE.free
  have hne : w.heap.size ≠ w.heap.size + 1 := by omega
  have hall := Lib.hid (show Below w.heap.size w w1 from (((Below.refl _ w).alloc (Nat.le_refl _) _).alloc (by simp) _).trans (hb.mono (by simp; omega)))
  have hs1 := hE.lt
  clear hD hE hb
  go_wp2_with fail
  refine bodyPost_ret (v := .agg #[.int .u8 k, .bool b, .int .i64 n, .string s]) (by simp [results, Tryd.results47, go_sem, e0_, e1_, e2_, e3_]) rfl ?_
  exact ⟨rfl, ((((hall.out.setCell (by simp) _).setCell (by simp) _).setCell (by simp) _).setCell (by simp) _).setCell (by simp) _⟩
theorem info_datum : ∃ i, Tryd.prog.info? 79 = some i ∧ i.zero = some (.agg #[.int .u8 0, .bool false, .int .i64 0, .string ⟨#[]⟩]) ∧ i.size = 4 ∧ i.bytes ≤ 64 := by
  have h : (Tryd.prog.info? 79).map (fun i => (i.zero, i.size, decide (i.bytes ≤ 64))) = some (some (.agg #[.int .u8 0, .bool false, .int .i64 0, .string ⟨#[]⟩]), 4, true) := by kernel_rfl
  cases hi : Tryd.prog.info? 79 with
  | none => rw [hi] at h; cases h
  | some i => rw [hi] at h; simp at h; exact ⟨i, rfl, h.1, h.2.1, h.2.2⟩
def zeroL : List Value := [.int .u8 0, .bool false, .int .i64 0, .string ⟨#[]⟩]
theorem flat_replicate (n : Nat) : (List.replicate n zeroL).flatten = (Builtin.zeroCells zeroL.toArray n).toList := by
    apply List.ext_getElem?
    intro t
    have hk : ∀ x ∈ List.replicate n zeroL, x.length = 4 := fun x hx => by rw [List.eq_of_mem_replicate hx]; rfl
    have e : t = t / 4 * 4 + t % 4 := by omega
    have h4 : t % 4 < 4 := Nat.mod_lt _ (by omega)
    have ee : (Builtin.zeroCells zeroL.toArray n).toList[t]? = (Builtin.zeroCells zeroL.toArray n)[t]? := by simp
    rw [ee]
    by_cases ht : t < n * 4
    · have hq : t / 4 < n := by omega
      conv => lhs; rw [e, flat_get _ hk _ _ h4, List.getElem?_replicate, if_pos hq, Option.bind_some]
      simp only [Builtin.zeroCells, Array.getElem?_map, Array.getElem?_range]
      have hs : zeroL.toArray.size = 4 := rfl
      rw [hs, if_pos ht, Option.map_some]
      rw [getElem!_pos zeroL.toArray (t % 4) (by rw [hs]; exact h4), List.getElem?_eq_getElem (show t % 4 < zeroL.length from h4)]
      simp
    · rw [List.getElem?_eq_none (by rw [flat_len _ hk, List.length_replicate]; omega), Array.getElem?_eq_none (by simp [Builtin.zeroCells, zeroL]; omega)]
/-- make([]Datum, n): so many zero data. -/
theorem make_row (n : Nat) (hn : n ≤ 1099511627776) (w : World) : ∃ c, (Instr.makeSlice 25 (.int .i64 (n : Int)) (.int .i64 (n : Int))).run Tryd.prog w = .ok (.slice (some ⟨w.heap.size, 0, none⟩) n n) (w.alloc (.cells c 79)) ∧
    OwnL 79 4 w.heap.size n (List.replicate n zeroL) (w.alloc (.cells c 79)) := by
  obtain ⟨i, hi, hz, hs, hb⟩ := info_datum
  have hr := run_make (P := Tryd.prog) w 25 79 i _ Tryd.underlying25 hi hz .i64 .i64 (n : Int) (n : Int) (by omega) (by omega) (by
    have h1 : (i.bytes : Int) * (n : Int) ≤ 64 * (n : Int) := Int.mul_le_mul_of_nonneg_right (by omega) (by omega)
    omega) (by omega)
  refine ⟨_, hr, ?_⟩
  refine ⟨fun x hx => by rw [List.eq_of_mem_replicate hx]; rfl, by simp, by unfold maxLen; omega, _, heap_alloc_new w _, ?_, ?_⟩
  · rw [size_madeCells, Int.toNat_natCast, hs]
  · rw [List.length_replicate, flat_replicate, List.take_of_length_le]
    · unfold madeCells Builtin.zeroCells
      rw [Int.toNat_natCast, hs]
      rfl
    · rw [Array.length_toList, size_madeCells, Int.toNat_natCast, hs]; omega
/-- An element of four cells is written over. -/
theorem OwnL.put4 {g cap : Nat} {xs : List (List Value)} {w : World} {T : TypeId} (h : OwnL T 4 g cap xs w) {i : Nat} (hi : i < xs.length) (a b c d : Value) :
    OwnL T 4 g cap (xs.set i [a, b, c, d]) ((((w.setCell ⟨g, i * 4, none⟩ a).setCell ⟨g, i * 4 + 1, none⟩ b).setCell ⟨g, i * 4 + 2, none⟩ c).setCell ⟨g, i * 4 + 3, none⟩ d) := by
  have hx := h.1 _ (List.getElem_mem hi)
  have h1 := h.set (i := i) (j := 0) hi (by omega) a
  have h2 := h1.set (i := i) (j := 1) (by simpa using hi) (by omega) b
  have h3 := h2.set (i := i) (j := 2) (by simpa using hi) (by omega) c
  have h4 := h3.set (i := i) (j := 3) (by simpa using hi) (by omega) d
  have e : ((((xs.modify i (·.set 0 a)).modify i (·.set 1 b)).modify i (·.set 2 c)).modify i (·.set 3 d)) = xs.set i [a, b, c, d] := by
    apply List.ext_getElem?
    intro j
    simp only [List.getElem?_modify, List.getElem?_set]
    by_cases hij : i = j
    · subst hij
      obtain ⟨p, q, r, s, hy⟩ : ∃ p q r s, xs[i] = [p, q, r, s] := by
        match xs[i], hx with
        | [p, q, r, s], _ => exact ⟨p, q, r, s, rfl⟩
      simp [hi, hy]
    · cases xs[j]? <;> simp [hij]
  rw [e] at h4
  exact h4
/-- What the rounds hold: the first ones are laid. -/
def RelF (l : List Dat) (g : Nat) (w0 : World) (s11 : Value) (wr : World) : Prop :=
  ∃ p : Nat, p ≤ l.length ∧ s11 = .int .i64 (p : Int) ∧ OwnL 79 4 g l.length ((l.take p).map cellsD ++ List.replicate (l.length - p) zeroL) wr ∧ Below w0.heap.size w0 wr
theorem fresh_step {l : List Dat} {p : Nat} (h : p < l.length) : ((l.take p).map cellsD ++ List.replicate (l.length - p) zeroL).set p (cellsD l[p]) = (l.take (p + 1)).map cellsD ++ List.replicate (l.length - (p + 1)) zeroL := by
  have hl : ((l.take p).map cellsD).length = p := by rw [List.length_map, List.length_take]; omega
  rw [List.set_append_right _ _ (by omega), hl, Nat.sub_self, List.take_succ_eq_append_getElem h, List.map_append, List.append_assoc]
  congr 1
  rw [show l.length - p = (l.length - (p + 1)) + 1 by omega, List.replicate_succ]
  rfl
theorem flatten_cells : ∀ l : List Dat, (l.map cellsD).flatten = l.flatMap cellsD := fun l => by rw [List.flatMap_def]
set_option maxHeartbeats 4000000 in
set_option maxRecDepth 1000000 in
theorem freshRow_any (v : Value) (l : List Dat) (w : World) (h : RowV w v l) (hl : l.length ≤ 1099511627776) (hs : ∀ d ∈ l, d.s.size ≤ 281474976710656) :
    Calls Tryd.prog 45 #[v] w fun e w' => ∃ g, e = .returned (.slice (some ⟨g, 0, none⟩) l.length l.length) ∧ w.heap.size ≤ g ∧ OwnL 79 4 g l.length (l.map cellsD) w' ∧ Below w.heap.size w w' := by
  obtain ⟨A, ca, rfl, hla⟩ := h.form
  have hH := Lib.hid h; have hsH := Lib.hid hs
  clear h hs
  obtain ⟨c, hmk, hown⟩ := make_row l.length hl w
  obtain ⟨W1, hW1⟩ : ∃ W1, w.alloc (.cells c 79) = W1 := ⟨_, rfl⟩
  rw [hW1] at hmk hown
  have hownH := Lib.hid hown
  have hb1 := Lib.hid (show Below w.heap.size w W1 from hW1 ▸ (Below.refl _ w).alloc (Nat.le_refl _) _)
  have hg1 := Lib.hid hown.lt
  clear hown hW1
  go_enter Tryd.func45, Tryd.ntmps45
  go_wp2_with fail
  go_loopw [4, 5, 11] (fun s4 s5 s11 wr => RelF l w.heap.size w s11 wr) (fun _ _ s11 _ => l.length - (Go.RowKit.intOf s11).toNat)
  case atStart => exact ⟨0, by omega, rfl, by rw [List.take_zero]; exact hownH.out, hb1.out⟩
  case round =>
    unfold RelF at hrel
    obtain ⟨p, hp, rfl, hown, hbw⟩ := hrel
    have hownR := Lib.hid hown; have hbwR := Lib.hid hbw
    clear hown hbw hmk
    by_cases hlt : p < l.length
    · obtain ⟨ad, rfl, hba, a0_, a1_, a2_, a3_⟩ := (hH.out.below hbwR.out).at hlt
      have hst := Lib.hid (fresh_step hlt)
      have hsd := Lib.hid (hsH.out _ (List.getElem_mem hlt))
      have hpl : p < ((l.take p).map cellsD ++ List.replicate (l.length - p) zeroL).length := by
        rw [List.length_append, List.length_map, List.length_take, List.length_replicate]; omega
      obtain ⟨d, hd⟩ : ∃ d, l[p] = d := ⟨_, rfl⟩
      rw [hd] at a0_ a1_ a2_ a3_ hst hsd
      clear hd
      obtain ⟨k, b, n, s⟩ := d
      simp only at a0_ a1_ a2_ a3_
      have hltH := Lib.hid hlt
      obtain ⟨xs, hxs⟩ : ∃ xs, (l.take p).map cellsD ++ List.replicate (l.length - p) zeroL = xs := ⟨_, rfl⟩
      rw [hxs] at hownR hpl hst
      have hplH := Lib.hid hpl
      clear hxs hpl
      have hgl := hownR.out.lt
      go_wp2_with fail
      refine (fresh_any k b n s _ hsd.out).mono ?_
      rintro e w2 ⟨rfl, hb⟩
      have hown2 := Lib.hid ((hownR.out.alloc (.cells #[.int .u8 k, .bool b, .int .i64 n, .string s] 79)).below hb)
      have hb2 := Lib.hid (show Below w.heap.size w w2 from (hbwR.out.alloc (Nat.le_of_lt hgl) _).trans (hb.mono (by simp; omega)))
      obtain ⟨y, hy⟩ : ∃ y, xs[p]? = some y := ⟨_, List.getElem?_eq_getElem hplH.out⟩
      obtain ⟨y0, y1, y2, y3, rfl⟩ : ∃ p q r s, y = [p, q, r, s] := by
        have := hown2.out.1 y (List.mem_of_getElem? hy)
        match y, this with
        | [p, q, r, s], _ => exact ⟨p, q, r, s, rfl⟩
      have e0_ := hown2.out.cell hy (j := 0) rfl
      have e1_ := hown2.out.cell hy (j := 1) rfl
      have e2_ := hown2.out.cell hy (j := 2) rfl
      have e3_ := hown2.out.cell hy (j := 3) rfl
      rw [Nat.add_zero] at e0_
      have f0 := hown2.out.free (p * 4); have f1 := hown2.out.free (p * 4 + 1); have f2 := hown2.out.free (p * 4 + 2); have f3 := hown2.out.free (p * 4 + 3)
      have hg2 := hown2.out.lt
      clear hb hy a0_ a1_ a2_ a3_
      go_wp2_with fail
      go_roundw
      case rel => exact ⟨p + 1, hltH.out, by go_num, by rw [← hst.out]; exact hown2.out.put4 hplH.out _ _ _ _, (((hb2.out.setCell (Nat.le_refl _) _).setCell (Nat.le_refl _) _).setCell (Nat.le_refl _) _).setCell (Nat.le_refl _) _⟩
      case measure => simp [Go.RowKit.intOf]; omega
    · obtain rfl : p = l.length := by omega
      have hfin := Lib.hid (show (l.take l.length).map cellsD ++ List.replicate (l.length - l.length) zeroL = l.map cellsD by rw [List.take_length, Nat.sub_self]; simp)
      go_wp2_with fail
      go_ret
      exact ⟨_, rfl, Nat.le_refl _, by rw [← hfin.out]; exact hownR.out, hbwR.out⟩
end Go.Proofs.YtfkimemagbkcoaaDoor
