/-
  What slices.Concat answers at times, at this program: of any few slices of times, all of them, one behind the other, in memory of its own. Condition: together no more than 2^40 times, no more than 1000 slices.
-/
import Derived.Test.YtdfhchpimpbgfaaGreatDoorChV
import Derived.Test.YtdfhchpimpbgfaaGreatDoorShelfC
import Derived.Test.YtdfhchpimpbgfaaGreatDoorStCat
import Derived.LoopTactic
set_option linter.unusedVariables false
set_option linter.unusedSimpArgs false
namespace Go.Proofs.YtdfhchpimpbgfaaGreatDoor
open Go.RowKit Go.Lib

/-- An empty row with room. -/
theorem grow_empty (T : TypeId) (k n : Nat) (z : Value) (w : World) (cap : Nat) (hzs : z.cells.size = k) (hcap : n ≤ cap) (hm : cap ≤ maxLen) :
    (w.drew.alloc (.cells ((([] : List Value).toArray ++ Builtin.zeroCells z.cells (0 + n - 0)) ++ Builtin.zeroCells z.cells (cap - (0 + n))) T)).ownsRow w.heap.size T k (.slice (some ⟨w.heap.size, 0, none⟩) 0 cap) 0 [] := by
  refine ⟨by simp, .inr ⟨w.heap.size, cap, _, rfl, Nat.le_refl _, heap_alloc_new w.drew _, Nat.zero_le _, hm, ?_, by simp⟩⟩
  simp only [Array.size_append, size_zeroCells, List.size_toArray, List.length_nil, hzs, Nat.zero_add, Nat.sub_zero]
  rw [← Nat.add_mul]
  congr 1
  omega
/-- What Grow and Concat answer. -/
def OutTs (ds : List Td) (w : World) (e : Ending) (w' : World) : Prop := ∃ v, e = .returned v ∧ OwnTs w.heap.size v ds w' ∧ Below w.heap.size w w'
theorem growTNil_any (n : Nat) (w : World) (hn : n ≤ 1099511627776) : Calls Tryz.prog 88 #[.slice none 0 0, .int .i64 (n : Int)] w (OutTs [] w) := by
  obtain ⟨i0, hi, hz0, hz1, hz2⟩ := info_parts time_info
  rcases Nat.eq_zero_or_pos n with rfl | hp
  · refine Calls.mono (Any8.slices_Grow_room Tryz.growT none 0 0 0 w (Nat.le_refl _) (by decide) (by decide) (by decide)) ?_
    rintro e w' ⟨rfl, rfl⟩
    exact ⟨_, rfl, OwnTs.nil _ _, Below.refl _ _⟩
  · refine Calls.mono (Any8.slices_Grow_grow Tryz.growT i0 (.agg #[.int .u64 0, .slice none 0 0]) hi hz0 (by rw [hz1]; decide) none 0 0 n [] w (Nat.le_refl _) (by omega) (by rw [hz2]; omega) (by omega) (by simp) (fun _ => rfl) (fun a h => by cases h)) ?_
    rintro e w' ⟨rfl, rfl⟩
    refine ⟨_, rfl, grow_empty _ 2 n _ w _ rfl ?_ ?_, (Below.refl _ _).drew.alloc (Nat.le_refl _) _⟩
    · have h := grownCap_ge w (0 + n) 0 26
      have h2 : n ≤ 0 + n := by omega
      exact Nat.le_trans h2 h
    · exact grownCap_le_maxLen w _ _ _ (by unfold maxLen; omega)
/-- A slice of slices of times. -/
def SlsT (w : World) (v : Value) (vs : List Value) (ls : List (List Td)) : Prop := SlV w 1 v ls.length vs ∧ ∀ j (h : j < ls.length), ∃ s, vs[j]? = some s ∧ SlV w 2 s ls[j].length (cellsTs ls[j])
theorem SlsT.below {w w' : World} {v : Value} {vs : List Value} {ls : List (List Td)} (h : SlsT w v vs ls) (hb : Below w.heap.size w w') : SlsT w' v vs ls :=
  ⟨h.1.below hb, fun j hj => by obtain ⟨s, h1, h2⟩ := h.2 j hj; exact ⟨s, h1, h2.below hb⟩⟩
theorem SlsT.form {w : World} {v : Value} {vs : List Value} {ls : List (List Td)} (h : SlsT w v vs ls) : ∃ A n c, v = .slice A n c ∧ ls.length = n ∧ n ≤ c ∧ c ≤ 9223372036854775807 := by
  obtain ⟨A, c, h1, h2, h3⟩ := SlV.form h.1
  exact ⟨A, _, c, h1, rfl, h2, h3⟩
theorem SlsT.at {w : World} {A : Option Addr} {n c : Nat} {vs : List Value} {ls : List (List Td)} (h : SlsT w (.slice A n c) vs ls) {j : Nat} (hj : j < ls.length) :
    ∃ (ad : Addr) (s : Value), A = some ad ∧ (ad.add j).block < w.heap.size ∧ w.cell? (ad.add j) = some s ∧ SlV w 2 s ls[j].length (cellsTs ls[j]) := by
  obtain ⟨s, h1, h2⟩ := h.2 j hj
  obtain ⟨_, A', c', e, _, _, _, h4⟩ := h.1
  obtain ⟨rfl, _, rfl⟩ := Value.slice.inj e
  obtain ⟨ad, rfl, h5, h6⟩ := h4 (by omega)
  exact ⟨ad, s, rfl, by rw [add_block]; exact h5, h6 j s h1, h2⟩
theorem SlsT.two_at {w : World} {b : Nat} {s s' : Value} {l l' : List Td} (h : SlV w 2 s l.length (cellsTs l)) (h' : SlV w 2 s' l'.length (cellsTs l')) (t : TypeId) (hb : b = w.heap.size) : SlsT (w.alloc (.cells #[s, s'] t)) (.slice (some ⟨b, 0, none⟩) 2 2) [s, s'] [l, l'] := by
  subst hb
  refine ⟨⟨rfl, _, _, rfl, Nat.le_refl _, by decide, (fun e => by cases e), fun _ => ⟨_, rfl, ?_, fun j u hj => ?_⟩⟩, fun j hj => ?_⟩
  · show w.heap.size < _
    simp
  · rw [show (⟨w.heap.size, 0, none⟩ : Addr).add j = ⟨w.heap.size, j, none⟩ by unfold Addr.add; split <;> simp_all, cell_new]
    simpa using hj
  · have : j = 0 ∨ j = 1 := by simp at hj; omega
    rcases this with rfl | rfl
    · exact ⟨s, rfl, h.alloc _⟩
    · exact ⟨s', rfl, h'.alloc _⟩
def RelC3 (ls : List (List Td)) (k : Nat) (sum i : Value) : Prop := ∃ j : Nat, i = .int .i64 (j : Int) ∧ j ≤ k ∧ sum = .int .i64 (((ls.take j).flatten.length : Nat) : Int)
def RelC4 (ls : List (List Td)) (k B : Nat) (w0 : World) (v i : Value) (wr : World) : Prop := ∃ j : Nat, i = .int .i64 (j : Int) ∧ j ≤ k ∧ OwnTs B v (ls.take j).flatten wr ∧ Below B w0 wr ∧ B ≤ wr.heap.size
theorem flatT_take {ls : List (List Td)} {j : Nat} (h : j < ls.length) : (ls.take (j + 1)).flatten = (ls.take j).flatten ++ ls[j] := by
  rw [List.take_succ_eq_append_getElem h, List.flatten_append]; simp
theorem flatT_take_le {ls : List (List Td)} (j : Nat) : (ls.take j).flatten.length ≤ ls.flatten.length := by
  conv => rhs; rw [← List.take_append_drop j ls]
  rw [List.flatten_append, List.length_append]; omega
set_option maxHeartbeats 4000000 in
set_option maxRecDepth 1000000 in
theorem concatT_any (v : Value) (vs : List Value) (ls : List (List Td)) (w : World) (h : SlsT w v vs ls) (hk : ls.length ≤ 1000) (hn : ls.flatten.length ≤ 1099511627776) :
    Calls Tryz.prog 45 #[v] w (OutTs ls.flatten w) := by
  obtain ⟨i0, hi, hz0, hz1, hz2⟩ := info_parts time_info
  obtain ⟨A, k, c, rfl, hlen, hkc, hc⟩ := h.form
  have hH := Lib.hid h; have hnH := Lib.hid hn; have hlH := Lib.hid hlen
  have hk1000 : k ≤ 1000 := by omega
  clear h hn hlen hk
  go_enter Tryz.func45, Tryz.ntmps45
  go_wp2_with fail
  go_loop [3, 11] (fun s i => RelC3 ls k s i) (fun _ i => k - (Go.RowKit.intOf i).toNat)
  case atStart => exact ⟨0, rfl, Nat.zero_le _, rfl⟩
  case round =>
    unfold RelC3 at hrel
    obtain ⟨j, rfl, hjk, rfl⟩ := hrel
    by_cases hj : j < k
    · have hjl : j < ls.length := by rw [hlH.out]; exact hj
      obtain ⟨ad, s, rfl, hb, ac_, hs⟩ := hH.out.at hjl
      obtain ⟨S, d, rfl, hmd, hd⟩ := SlV.form hs
      have hle := flatT_take_le (ls := ls) (j + 1)
      have hft := flatT_take hjl
      obtain ⟨m, hm⟩ : ∃ m, ls[j].length = m := ⟨_, rfl⟩
      have hsum : (ls.take (j + 1)).flatten.length = (ls.take j).flatten.length + m := by rw [hft, List.length_append, hm]
      rw [hsum] at hle
      rw [hm] at ac_ hmd
      have := hnH.out
      obtain ⟨p, hp⟩ : ∃ p, (ls.take j).flatten.length = p := ⟨_, rfl⟩
      rw [hp] at hsum hle ⊢
      have hpm : p + m ≤ 1099511627776 := by omega
      have hsH := Lib.hid hsum
      clear hle hft hsum hm hs hjl hp this
      go_wp2_with fail
      go_round
      case rel => exact ⟨j + 1, by go_num, by omega, by rw [hsH.out]; go_num⟩
      case measure => simp [Go.RowKit.intOf]; omega
    · obtain rfl : j = k := by omega
      have hall : ls.take j = ls := by rw [← hlH.out, List.take_length]
      rw [hall]
      obtain ⟨n, hn⟩ : ∃ n, ls.flatten.length = n := ⟨_, rfl⟩
      rw [hn]
      have hnb : n ≤ 1099511627776 := by have := hnH.out; omega
      have hallH := Lib.hid hall
      clear hall hn
      go_wp2_with fail
      refine (growTNil_any n _ hnb).mono ?_
      rintro e w1 ⟨v0, rfl, ho, hb1⟩
      have hoH := Lib.hid ho; have hbH := Lib.hid hb1
      clear ho hb1
      go_wp2_with fail
      go_loopw [6, 27] (fun v i wr => RelC4 ls j w.heap.size w v i wr) (fun _ i _ => j - (Go.RowKit.intOf i).toNat)
      case atStart => exact ⟨0, rfl, Nat.zero_le _, hoH.out, hbH.out, hbH.out.size⟩
      case round =>
        unfold RelC4 at hrel
        obtain ⟨i, rfl, hij, ho, hb2, hBw⟩ := hrel
        by_cases hi' : i < j
        · have hjl : i < ls.length := by rw [hlH.out]; exact hi'
          obtain ⟨ad, s, rfl, hb, ac_, hs⟩ := (hH.out.below hb2).at hjl
          have hft := flatT_take hjl
          have hle := flatT_take_le (ls := ls) (i + 1)
          have hln : (ls.take (i + 1)).flatten.length = (ls.take i).flatten.length + ls[i].length := by rw [hft, List.length_append]
          have hbound : (ls.take i).flatten.length + ls[i].length ≤ 1099511627776 := by have := hnH.out; omega
          have hsH := Lib.hid hs; have hoH2 := Lib.hid ho; have hb2H := Lib.hid hb2; have hBH := Lib.hid hBw; have hftH := Lib.hid hft; have hboH := Lib.hid hbound; have hlnH := Lib.hid hln
          clear hs ho hb2 hBw hft hle hln hbound
          go_wp2_with (at_builtin; refine wpList_append_sl rfl _ _ 22 rfl w.heap.size 26 i0 (.agg #[.int .u64 0, .slice none 0 0]) 2 32 Tryz.underlying22 hi hz0 hz1 hz2 rfl (by decide) _ _ _ (by rfl) _ _ _ _ hoH2.out (by rfl) hsH.out (cellsTs_one _) (by have := hboH.out; unfold maxLen; omega) (by have := hboH.out; omega) hBH.out ?_; intro v' w' ho' hg')
          have ho2H := Lib.hid ho'; have hgH := Lib.hid hg'
          clear ho' hg'
          go_wp2_with fail
          go_roundw
          case rel => exact ⟨i + 1, by go_num, by omega, by (unfold OwnTs; rw [hlnH.out, hftH.out, cellsTs_append]; exact ho2H.out), below_grown hb2H.out hoH2.out hBH.out hgH.out, Nat.le_trans hBH.out hgH.out.size⟩
          case measure => simp [Go.RowKit.intOf]; omega
        · obtain rfl : i = j := by omega
          rw [hallH.out] at ho
          have hoH2 := Lib.hid ho; have hb2H := Lib.hid hb2
          clear ho hb2
          go_wp2_with fail
          go_ret
          exact ⟨_, rfl, hoH2.out, hb2H.out⟩
end Go.Proofs.YtdfhchpimpbgfaaGreatDoor
