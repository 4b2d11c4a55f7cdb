/-
  The frontier of counts, at this program: the antichain of all times whose count is above 0, in whatever order the map is ranged over. Conditions: those written.
-/
import Derived.Test.YtdfhchpimpbgfaaGreatDoorChMp
import Derived.Test.YtdfhchpimpbgfaaGreatDoorChJ
import Derived.Sort.MapsRangeIn
import Derived.LoopTactic
import Derived.BigQuiet
set_option linter.unusedVariables false
set_option linter.unusedSimpArgs false
namespace Go.Proofs.YtdfhchpimpbgfaaGreatDoor
open Go.RowKit Go.Lib Go.Proofs

theorem make_T (n : Nat) (hn : n ≤ 1099511627776) (W : World) : ∃ cs : Array Value, cs.size = n * 2 ∧ (Instr.makeSlice 22 (.int .i64 0) (.int .i64 (n : Int))).run Tryz.prog W = .ok (.slice (some ⟨W.heap.size, 0, none⟩) 0 n) (W.alloc (.cells cs 26)) := by
  obtain ⟨i0, hi, hz0, hz1, hz2⟩ := info_parts time_info
  have h := run_make W _ _ i0 _ Tryz.underlying22 hi hz0 .i64 .i64 0 n (Int.le_refl 0) (by omega) (by rw [hz2]; omega) (by omega)
  refine ⟨_, ?_, by simpa [hz1] using h⟩
  simp [madeCells, Value.cells, hz1]
theorem own_room {W : World} {cs : Array Value} {n : Nat} (h : cs.size = n * 2) (hn : n ≤ 1099511627776) : OwnTs W.heap.size (.slice (some ⟨W.heap.size, 0, none⟩) 0 n) [] (W.alloc (.cells cs 26)) :=
  ⟨rfl, .inr ⟨W.heap.size, n, cs, rfl, Nat.le_refl _, heap_alloc_new W _, Nat.zero_le _, by unfold maxLen; omega, h, by simp [cellsTs]⟩⟩
theorem OwnW.iter {B b r n cnt : Nat} {D : DataW Value} {left : Lit → Bool} {v : Value} {l : List Int} {w w' : World} (h : OwnW B v l w) (hr : w.ranges Tryz.prog 9 Rv b r n D left cnt) (hg : w.grownBy w' (some r)) : OwnW B v l w' := by
  obtain ⟨es, clock, since, seen, c0, _, _, _, _, hri, _⟩ := hr
  refine ⟨h.1, ?_⟩
  rcases h.2 with h1 | ⟨g, cap, cur, rfl, hB, hgg, h3⟩
  · exact .inl h1
  · refine .inr ⟨g, cap, cur, rfl, hB, (hg.block g (Array.getElem?_eq_some_iff.1 hgg).1 (fun e => ?_)).trans hgg, h3⟩
    have e := Option.some.inj e
    subst e
    rw [hri] at hgg
    cases hgg
theorem row_kept {B k n : Nat} {e : TypeId} {v : Value} {xs : List Value} {w w' : World} {r : Nat} (h : w.ownsRow B e k v n xs) (hg : w.grownBy w' (some r)) (hne : v.ownBlock ≠ some r) : w'.ownsRow B e k v n xs := by
  refine ⟨h.1, ?_⟩
  rcases h.2 with h1 | ⟨g, cap, cur, rfl, hB, hgg, h3⟩
  · exact .inl h1
  · exact .inr ⟨g, cap, cur, rfl, hB, (hg.block g (Array.getElem?_eq_some_iff.1 hgg).1 (fun e => hne (by rw [← e]; rfl))).trans hgg, h3⟩
/-- What the rounds hold: of the entries that have come those above 0. -/
structure FrS (N mb r : Nat) (D : DataW Value) (M : Tm → Int) (w : World) (left : Lit → Bool) (cnt : Nat) (v : Value) (ps : List Td) (wr : World) : Prop where
  rg : wr.ranges Tryz.prog 9 Rv mb r N D left cnt
  own : OwnTs w.heap.size v ps wr
  is : ∀ t, t ∈ tmsD ps ↔ 0 < M t ∧ left (keyT t) = false
  each : ∀ d ∈ ps, OwnW 0 (slD d) d.t.l wr ∧ TmW d.t ∧ d.t.l.length ≤ 1000000
  much : ps.length + cnt ≤ N
  ne : v.ownBlock ≠ some r
  below : Below w.heap.size w wr
  room : w.heap.size ≤ r
def RelF (N mb r : Nat) (D : DataW Value) (M : Tm → Int) (w : World) (s3 : Value) (wr : World) : Prop := ∃ left cnt v ps, v = s3 ∧ FrS N mb r D M w left cnt v ps wr
theorem FrS.to {N mb r : Nat} {D : DataW Value} {M : Tm → Int} {w wr wx : World} {left : Lit → Bool} {cnt : Nat} {v : Value} {ps : List Td} (h : FrS N mb r D M w left cnt v ps wr) (hb : Below wr.heap.size wr wx) : FrS N mb r D M w left cnt v ps wx :=
  ⟨h.rg.kept (row := none) (grownD_below hb none) (by simp) (by simp), ownsRow_below h.own hb, h.is, fun d hd => ⟨((h.each d hd).1).below hb, (h.each d hd).2⟩, h.much, h.ne, chainB h.below hb h.below.size, h.room⟩
theorem sameKey_t {t u : Tm} (ht : TmW t) (hu : TmW u) : (keyT t).sameKey (keyT u) = decide (t = u) := by
  by_cases e : t = u
  · subst e
    rw [decide_eq_true rfl]
    exact WideAt.sameKey_self (isKeyS _)
  · rw [decide_eq_false e]
    exact Go.Maps.sameKey_ne (fun h => e (keyT_inj ht hu h))
/-- An entry that is not above 0 has come. -/
theorem is_skip {M : Tm → Int} {left : Lit → Bool} {ps : List Tm} {t : Tm} (hW : ∀ u, 0 < M u → TmW u) (wt : TmW t) (h : ∀ u, u ∈ ps ↔ 0 < M u ∧ left (keyT u) = false) (ht : ¬ 0 < M t) : ∀ u, u ∈ ps ↔ 0 < M u ∧ (left (keyT u) && !(keyT u).sameKey (keyT t)) = false := by
  intro u
  rw [h]
  constructor
  · rintro ⟨h1, h2⟩
    exact ⟨h1, by rw [h2]; rfl⟩
  · rintro ⟨h1, h2⟩
    refine ⟨h1, ?_⟩
    rw [sameKey_t (hW u h1) wt, decide_eq_false (fun e => ht (by rw [← e]; exact h1))] at h2
    simpa using h2
theorem is_more {M : Tm → Int} {left : Lit → Bool} {ps : List Tm} {t : Tm} (hW : ∀ u, 0 < M u → TmW u) (wt : TmW t) (h : ∀ u, u ∈ ps ↔ 0 < M u ∧ left (keyT u) = false) (ht : 0 < M t) : ∀ u, u ∈ ps ++ [t] ↔ 0 < M u ∧ (left (keyT u) && !(keyT u).sameKey (keyT t)) = false := by
  intro u
  rw [List.mem_append, List.mem_singleton, h]
  constructor
  · rintro (⟨h1, h2⟩ | rfl)
    · exact ⟨h1, by rw [h2]; rfl⟩
    · exact ⟨ht, by rw [sameKey_t wt wt, decide_eq_true rfl]; simp⟩
  · rintro ⟨h1, h2⟩
    by_cases e : u = t
    · exact .inr e
    · rw [sameKey_t (hW u h1) wt, decide_eq_false e] at h2
      exact .inl ⟨h1, by simpa using h2⟩
set_option maxHeartbeats 8000000 in
set_option maxRecDepth 1000000 in
theorem frontier_any (N cb mb : Nat) (M : Tm → Int) (w : World) (hc : CtI N cb mb M w) (hN : N ≤ 1000000) :
    Calls Tryz.prog 31 #[.pointer (some ⟨cb, 0, none⟩)] w fun e w' => ∃ v' r, e = .returned v' ∧ Ac (posM M) (tmsD r) ∧ OwnTs w.heap.size v' r w' ∧ FreshT w.heap.size w' r ∧ Below w.heap.size w w' ∧ r.length ≤ N ∧ ∀ t ∈ tmsD r, TmW t ∧ t.l.length ≤ 1000000 := by
  obtain ⟨hbox, D, hD, hM⟩ := hc
  have hsz := hD.size_le
  obtain ⟨cs, hcs, hmk⟩ := make_T (Go.Maps.size D) (by omega) w
  have k0_ := hbox.cell 0 rfl; have kl_ := hbox.lt
  obtain ⟨W1, hW1⟩ : ∃ x, w.alloc (.cells cs 26) = x := ⟨_, rfl⟩
  have hb1 : Below w.heap.size w W1 := by rw [← hW1]; go_grown
  rw [hW1] at hmk
  have hown1 := Lib.hid (show OwnTs w.heap.size (.slice (some ⟨w.heap.size, 0, none⟩) 0 (Go.Maps.size D)) [] W1 by rw [← hW1]; exact own_room hcs (by omega))
  obtain ⟨r, hr⟩ : ∃ r, W1.heap.size = r := ⟨_, rfl⟩
  have hrw := Lib.hid (show w.heap.size + 1 = r by rw [← hr, ← hW1]; simp)
  have hD1 := Lib.hid (hD.kept (row := none) (grownD_below hb1 none) (by simp))
  have hmbl := Lib.hid hD.lt
  have hW := Lib.hid (show ∀ u, 0 < M u → TmW u from fun u hu => by obtain ⟨d, _, h2, _⟩ := hM.there u (by omega); exact h2)
  have q0_ : W1.cell? ⟨cb, 0, none⟩ = some (.map (some mb)) := (hb1.cell (p := ⟨cb, 0, none⟩) kl_).trans k0_
  have ql_ := Nat.lt_of_lt_of_le kl_ hb1.size
  have hDH := Lib.hid hD; have hMH := Lib.hid hM; have hb1H := Lib.hid hb1; have hszH := Lib.hid hsz
  clear hbox hD hM hW1 hcs hb1
  go_enter Tryz.func31, Tryz.ntmps31
  go_wp2_with (first
    | (at_len; refine wpList_len_own _ rfl _ 102 rfl 9 59 Tryz.underlying102 Rv mb N D (by rfl) hDH.out ?_)
    | (at_range; refine wpList_range_own _ rfl _ 102 rfl 9 59 lawS Tryz.underlying102 Rv mb N D (by rfl) hD1.out ?_; intro w0 hrg0 hg0 hs0))
  have hb0 : Below W1.heap.size W1 w0 := ⟨hg0.os, hg0.tape, hg0.output, hg0.size, fun i hi => hg0.block i hi (by simp)⟩
  have his0 : ∀ t, t ∈ tmsD ([] : List Td) ↔ 0 < M t ∧ Go.Maps.has D (keyT t) = false := fun t => by
    constructor
    · intro h
      simp [tmsD] at h
    · rintro ⟨h1, h2⟩
      rw [hMH.out.has (show M t ≠ 0 by omega)] at h2
      cases h2
  rw [hr] at hrg0
  have hF0 := Lib.hid (show FrS N mb r D M w (Go.Maps.has D) (Go.Maps.size D) (.slice (some ⟨w.heap.size, 0, none⟩) 0 (Go.Maps.size D)) [] w0 from
    ⟨hrg0, ownsRow_below hown1.out hb0, his0, fun d hd => by simp at hd, by have := hszH.out; simpa using this, (by have := hrw.out; intro h; simp only [Value.ownBlock, Option.some.injEq] at h; omega), chainB hb1H.out hb0 hb1H.out.size, by have := hrw.out; omega⟩)
  rw [hr]
  clear hrg0 hg0 hs0 hmk k0_ kl_ q0_ ql_ hown1 hD1 hb0 his0
  go_frame
  go_loopw [3, 5] (fun s3 s5 wr => RelF N mb r D M w s3 wr) (fun _ _ wr => wr.rangeLeft mb r)
  case atStart => exact ⟨_, _, _, _, rfl, hF0.out⟩
  case round =>
    unfold RelF at hrel
    obtain ⟨left, cnt, v3, ps, rfl, hF⟩ := hrel
    have hFH := Lib.hid hF
    clear hF
    go_wp2_with (at_next; refine wpList_next_ranges _ rfl _ rfl 9 lawS Rv Value.string (fun v : Value => v) (fun key kl hk => by obtain ⟨x, rfl⟩ := Maps.keyOf_string_inv Tryz.underlying9 hk; exact ⟨x, rfl⟩) (fun v y hv => ⟨v, rfl⟩) mb r N D left cnt (by rfl) hFH.out.rg ?_ ?_)
    · intro hc0 hl0
      have hall := Lib.hid (show ∀ t, t ∈ tmsD ps ↔ 0 < M t from fun t => by rw [hFH.out.is t, hl0]; simp)
      clear hl0
      have hTm := Lib.hid (show TmsV wr v3 ps from hFH.out.own.tms fun d hd => ((hFH.out.each d hd).1).words)
      go_wp2_with fail
      refine (of_any v3 ps wr hTm.out (by have := hFH.out.much; omega) (fun d hd => by have := (hFH.out.each d hd).2.2; omega)).mono ?_
      rintro e w3 ⟨v', rr, rfl, hac, ho, hf, hb, hl, hs⟩
      have hacH := Lib.hid (hac.of (posM_up hall.out)); have hoH := Lib.hid ho; have hfH := Lib.hid hf; have hbH := Lib.hid hb; have hlH := Lib.hid hl; have hsH := Lib.hid hs
      clear hac ho hf hb hl hs
      go_wp2_with fail
      go_ret
      refine ⟨_, rr, rfl, hacH.out, ownsRow_low hoH.out hFH.out.below.size, hfH.out.low hFH.out.below.size, chainB hFH.out.below hbH.out hFH.out.below.size, by have := hlH.out; have := hFH.out.much; omega, fun t ht => ?_⟩
      obtain ⟨d, hd, rfl⟩ := List.mem_map.1 (hsH.out t ht)
      exact (hFH.out.each d hd).2
    · intro x c kl yd yp w2 cnt2 hkey hlk hv hat hrg2 hlt hg2 hs2 hen
      have hyd : yd = .held c := by simp only [Rv, Option.some.injEq, Prod.mk.injEq] at hv; exact hv.1.symm
      subst hyd
      obtain ⟨t, ht0, rfl⟩ := hMH.out.only kl (Go.Maps.has_true_of_atKey hat)
      obtain ⟨d, hdt, wt, hl6, hdo, hdat⟩ := hMH.out.there t ht0
      have hcd : c = valH d (M t) := by
        have h1 := hat (.held c)
        rw [hdat] at h1
        exact (DataW.held.inj h1).symm
      subst hdt
      obtain ⟨m, hm⟩ : ∃ m, M d.t = m := ⟨_, rfl⟩
      rw [hm] at hcd
      subst hcd
      have hisH := Lib.hid hFH.out.is
      have hF2 := Lib.hid (show OwnTs w.heap.size v3 ps w2 ∧ (∀ d ∈ ps, OwnW 0 (slD d) d.t.l w2 ∧ TmW d.t ∧ d.t.l.length ≤ 1000000) ∧ Below w.heap.size w w2 from
        ⟨row_kept hFH.out.own hg2 hFH.out.ne, fun d hd => ⟨((hFH.out.each d hd).1).iter hFH.out.rg hg2, (hFH.out.each d hd).2⟩, below_of_grown hg2 hFH.out.room hFH.out.below.size |> fun h => hFH.out.below.trans h⟩)
      have hmu := Lib.hid (show ps.length + 1 + cnt2 ≤ N by have := hFH.out.much; omega)
      have hne := Lib.hid hFH.out.ne; have hro := Lib.hid hFH.out.room
      have hle := Lib.hid hFH.out.rg.left_eq
      have hd2 := Lib.hid (show OwnW 0 (slD d) d.t.l w2 from (hdo.below hFH.out.below |> fun h => h.iter hFH.out.rg hg2))
      have hrl := Lib.hid (show r < w2.heap.size from hrg2.lt)
      have hrgH := Lib.hid hrg2; have hltH := Lib.hid hlt; have wtH := Lib.hid wt; have hl6H := Lib.hid hl6; have hmH := Lib.hid hm
      obtain ⟨dA, dc, ⟨de, dl⟩⟩ := d
      obtain ⟨wb, hwb⟩ : ∃ y, w2.alloc (.cells #[.int .u64 de, .slice dA dl.length dc, .int .i64 m] 59) = y := ⟨_, rfl⟩
      have hbb : Below w2.heap.size w2 wb := by rw [← hwb]; go_grown
      have hbx := (show HasC wb w2.heap.size (cellsH ⟨dA, dc, ⟨de, dl⟩⟩ m) 59 by rw [← hwb]; exact has_at _ _ _ _ rfl)
      have x0_ := hbx.cell 0 rfl; have x1_ := hbx.cell 1 rfl; have x2_ := hbx.cell 2 rfl; have xl_ := hbx.lt
      have hF3 := Lib.hid (show OwnTs w.heap.size v3 ps wb ∧ (∀ d ∈ ps, OwnW 0 (slD d) d.t.l wb ∧ TmW d.t ∧ d.t.l.length ≤ 1000000) ∧ Below w.heap.size w wb from
        ⟨ownsRow_below hF2.out.1 hbb, fun d hd => ⟨((hF2.out.2.1 d hd).1).below hbb, (hF2.out.2.1 d hd).2⟩, chainB hF2.out.2.2 hbb hF2.out.2.2.size⟩)
      have hd3 := Lib.hid (hd2.out.below hbb)
      have hrg3 := Lib.hid (hrgH.out.kept (row := none) (grownD_below hbb none) (by simp) (by simp))
      have hrl3 := Lib.hid (Nat.lt_of_lt_of_le hrl.out hbb.size)
      simp only [valH] at hen
      clear hkey hlk hv hat hrg2 hlt hg2 hs2 ht0 wt hl6 hdo hdat hm hbb hbx hFH
      by_cases hp : 0 < m
      · have hpos : decide (m > 0) = true := decide_eq_true hp
        have hpos2 : decide (0 < m) = true := decide_eq_true hp
        have his := Lib.hid (show ∀ u, u ∈ tmsD (ps ++ [⟨dA, dc, ⟨de, dl⟩⟩]) ↔ 0 < M u ∧ (left (keyT u) && !(keyT u).sameKey (keyT ⟨de, dl⟩)) = false by
          have h := is_more (t := ⟨de, dl⟩) hW.out wtH.out hisH.out (by rw [hmH.out]; exact hp)
          intro u
          rw [← h u]
          simp [tmsD])
        have hlt2 : ¬ (m ≤ 0) := by omega
        clear hp
        go_wp2_with (at_builtin; refine wpList_time rfl _ _ rfl w.heap.size v3 ps wb ⟨dA, dc, ⟨de, dl⟩⟩ _ rfl hF3.out.1 wb.heap.size rfl (by rfl) (by rfl) (by have := hmu.out; omega) hF3.out.2.2.size ?_; intro v' w' ho' hg' hl')
        have hF4 := Lib.hid (show FrS N mb r D M w (fun z => left z && !z.sameKey (keyT ⟨de, dl⟩)) cnt2 v' (ps ++ [⟨dA, dc, ⟨de, dl⟩⟩]) w' from
          ⟨hrg3.out.kept hg' (fun h => by have := (own_lt hF3.out.1 mb h.symm).1; have := hmbl.out; omega) (fun h => hne.out h.symm), ho', his.out, fun x hx => by
            rw [List.mem_append, List.mem_singleton] at hx
            rcases hx with hx | rfl
            · exact ⟨ownsRow_grown ((hF3.out.2.1 x hx).1) hF3.out.1 hg' (by decide), (hF3.out.2.1 x hx).2⟩
            · exact ⟨ownsRow_grown hd3.out hF3.out.1 hg' (by decide), wtH.out, hl6H.out⟩, by have := hmu.out; rw [List.length_append]; exact this, (by
            rcases hl' with h | h
            · rw [h]; exact hne.out
            · rw [h]; intro h2; have := hrl3.out; injection h2 with h2; omega), below_grown hF3.out.2.2 hF3.out.1 hF3.out.2.2.size hg', hro.out⟩)
        clear ho' hg' hl'
        go_wp2_with fail
        go_roundw
        case rel => first | exact ⟨_, _, _, _, rfl, hF4.out⟩ | exact ⟨_, _, ⟨_, _, _, _, rfl, hF4.out⟩, rfl, rfl⟩
        case measure => rw [hF4.out.rg.left_eq, hle.out]; exact hltH.out
      · have hpos : decide (m > 0) = false := decide_eq_false hp
        have hpos2 : decide (0 < m) = false := decide_eq_false hp
        have his := Lib.hid (is_skip (t := ⟨de, dl⟩) hW.out wtH.out hisH.out (by rw [hmH.out]; exact hp))
        have hF4 := Lib.hid (show FrS N mb r D M w (fun z => left z && !z.sameKey (keyT ⟨de, dl⟩)) cnt2 v3 ps wb from
          ⟨hrg3.out, hF3.out.1, his.out, hF3.out.2.1, by have := hmu.out; omega, hne.out, hF3.out.2.2, hro.out⟩)
        have hlt2 : m ≤ 0 := by omega
        clear hp
        go_wp2_with fail
        go_roundw
        case rel => first | exact ⟨_, _, _, _, rfl, hF4.out⟩ | exact ⟨_, _, ⟨_, _, _, _, rfl, hF4.out⟩, rfl, rfl⟩
        case measure => rw [hF4.out.rg.left_eq, hle.out]; exact hltH.out
end Go.Proofs.YtdfhchpimpbgfaaGreatDoor
