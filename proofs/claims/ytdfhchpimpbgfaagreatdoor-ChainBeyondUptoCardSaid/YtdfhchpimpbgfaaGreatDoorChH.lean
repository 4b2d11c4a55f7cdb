/-
  Words of layer 5: a slice of changes in memory; Concat, SortFunc at changes, at this program. Conditions: those written.
-/
import Derived.Test.YtdfhchpimpbgfaaGreatDoorChMp
import Derived.Test.YtdfhchpimpbgfaaGreatDoorChCat
set_option linter.unusedVariables false
set_option linter.unusedSimpArgs false
namespace Go.Proofs.YtdfhchpimpbgfaaGreatDoor
open Go.RowKit Go.Lib Go.Proofs

/-- A change as it lies in a slice: a time with a number. -/
abbrev Hd := Td × Int
def cellsD (x : Hd) : List Value := cellsH x.1 x.2
def cellsDs (hs : List Hd) : List Value := (hs.map cellsD).flatten
def chs (hs : List Hd) : List (Tm × Int) := hs.map fun x => (x.1.t, x.2)
theorem cellsD_len (x : Hd) : (cellsD x).length = 3 := rfl
theorem cellsD_one (x : Hd) : ∀ u ∈ cellsD x, u.oneCell' = true := by
  intro u hu
  simp only [cellsD, cellsH, List.mem_cons, List.not_mem_nil, or_false] at hu
  rcases hu with rfl | rfl | rfl <;> rfl
theorem cells3 (hs : List Hd) : ∀ x ∈ hs.map cellsD, x.length = 3 := fun x hx => by obtain ⟨y, _, rfl⟩ := List.mem_map.1 hx; rfl
theorem cellsDs_len (hs : List Hd) : (cellsDs hs).length = hs.length * 3 := by
  unfold cellsDs
  rw [flats_len (k := 3) _ (cells3 hs), List.length_map]
theorem cellsDs_one (hs : List Hd) : ∀ u ∈ cellsDs hs, u.oneCell' = true := by
  intro u hu
  obtain ⟨x, hx, hu⟩ := List.mem_flatten.1 hu
  obtain ⟨d, _, rfl⟩ := List.mem_map.1 hx
  exact cellsD_one d u hu
theorem cellsDs_append (a b : List Hd) : cellsDs (a ++ b) = cellsDs a ++ cellsDs b := by simp [cellsDs]
def RdH (w : World) (hs : List Hd) : Prop := ∀ x ∈ hs, WordsV w (slD x.1) x.1.t.l
theorem RdH.below {w w' : World} {hs : List Hd} (h : RdH w hs) (hb : Below w.heap.size w w') : RdH w' hs := fun d hd => (h d hd).below hb
/-- The slice value v holds these changes. -/
def HsV (w : World) (v : Value) (hs : List Hd) : Prop := SlV w 3 v hs.length (cellsDs hs) ∧ RdH w hs
theorem HsV.below {w w' : World} {v : Value} {hs : List Hd} (h : HsV w v hs) (hb : Below w.heap.size w w') : HsV w' v hs := ⟨h.1.below hb, h.2.below hb⟩
theorem HsV.form {w : World} {v : Value} {hs : List Hd} (h : HsV w v hs) : ∃ A n c, v = .slice A n c ∧ hs.length = n ∧ n ≤ c ∧ c ≤ 9223372036854775807 := by
  obtain ⟨⟨_, A, c, rfl, h2, h3, _⟩, _⟩ := h
  exact ⟨A, _, c, rfl, rfl, h2, h3⟩
theorem HsV.at {w : World} {A : Option Addr} {n c : Nat} {hs : List Hd} (h : HsV w (.slice A n c) hs) {i : Nat} {x : Hd} (hx : hs[i]? = some x) :
    ∃ ad : Addr, A = some ad ∧ (ad.add (i * 3)).block < w.heap.size ∧ w.cell? (ad.add (i * 3)) = some (.int .u64 x.1.t.e) ∧ w.cell? ⟨(ad.add (i * 3)).block, (ad.add (i * 3)).off + 1, none⟩ = some (.slice x.1.A x.1.t.l.length x.1.c) ∧ w.cell? ⟨(ad.add (i * 3)).block, (ad.add (i * 3)).off + 2, none⟩ = some (.int .i64 x.2) := by
  obtain ⟨⟨_, A', c', e, _, _, _, h4⟩, _⟩ := h
  obtain ⟨rfl, _, rfl⟩ := Value.slice.inj e
  have hi : i < hs.length := (List.getElem?_eq_some_iff.1 hx).1
  obtain ⟨ad, rfl, h5, h6⟩ := h4 (by omega)
  have g (j : Nat) (hj : j < 3) : (cellsDs hs)[i * 3 + j]? = (cellsD x)[j]? := by
    unfold cellsDs
    rw [flat_get _ (cells3 hs) i j hj, List.getElem?_map, hx]
    rfl
  refine ⟨ad, rfl, by rw [add_block]; exact h5, h6 (i * 3) _ ((g 0 (by omega)).trans rfl), ?_, ?_⟩
  · rw [← add_more ad (i * 3) 1 (by omega)]
    exact h6 (i * 3 + 1) _ ((g 1 (by omega)).trans rfl)
  · rw [← add_more ad (i * 3) 2 (by omega)]
    exact h6 (i * 3 + 2) _ ((g 2 (by omega)).trans rfl)
abbrev OwnH (g cap : Nat) (hs : List Hd) (w : World) : Prop := OwnL 59 3 g cap (hs.map cellsD) w
abbrev OwnHs (B : Nat) (v : Value) (hs : List Hd) (w : World) : Prop := w.ownsRow B 59 3 v hs.length (cellsDs hs)
theorem OwnHs.slice {B : Nat} {v : Value} {hs : List Hd} {w : World} (h : OwnHs B v hs w) : (v = .slice none 0 0 ∧ hs = []) ∨ ∃ g cap, v = .slice (some ⟨g, 0, none⟩) hs.length cap ∧ B ≤ g ∧ OwnH g cap hs w := by
  rcases own_slice h with ⟨h1, h2⟩ | ⟨g, cap, rfl, hB⟩
  · exact .inl ⟨h1, List.eq_nil_of_length_eq_zero h2⟩
  · exact .inr ⟨g, cap, rfl, hB, OwnL.of_row h (by simp) (cells3 hs)⟩
theorem OwnHs.of {B g cap : Nat} {hs : List Hd} {w : World} (h : OwnH g cap hs w) (hB : B ≤ g) : OwnHs B (.slice (some ⟨g, 0, none⟩) hs.length cap) hs w := by
  have := OwnL.row h hB
  simpa [OwnHs, cellsDs] using this
theorem OwnHs.nil (B : Nat) (w : World) : OwnHs B (.slice none 0 0) [] w := World.ownsRow_nil w B _ _
theorem OwnHs.hsv {B : Nat} {v : Value} {hs : List Hd} {w : World} (h : OwnHs B v hs w) (hr : RdH w hs) : HsV w v hs := ⟨own_slV h, hr⟩
theorem change_info : (Tryz.prog.info? 59).map (fun i => (i.zero, i.size, i.bytes)) = some (some (.agg #[.int .u64 0, .slice none 0 0, .int .i64 0]), 3, 40) := by kernel_rfl
/-- What Grow and Concat answer. -/
def OutHs (ds : List Hd) (w : World) (e : Ending) (w' : World) : Prop := ∃ v, e = .returned v ∧ OwnHs w.heap.size v ds w' ∧ Below w.heap.size w w'
theorem growHNil_any (n : Nat) (w : World) (hn : n ≤ 1099511627776) : Calls Tryz.prog 93 #[.slice none 0 0, .int .i64 (n : Int)] w (OutHs [] w) := by
  obtain ⟨i0, hi, hz0, hz1, hz2⟩ := info_parts change_info
  rcases Nat.eq_zero_or_pos n with rfl | hp
  · refine Calls.mono (Any8.slices_Grow_room Tryz.growC none 0 0 0 w (Nat.le_refl _) (by decide) (by decide) (by decide)) ?_
    rintro e w' ⟨rfl, rfl⟩
    exact ⟨_, rfl, OwnHs.nil _ _, Below.refl _ _⟩
  · refine Calls.mono (Any8.slices_Grow_grow Tryz.growC i0 (.agg #[.int .u64 0, .slice none 0 0, .int .i64 0]) hi hz0 (by rw [hz1]; decide) none 0 0 n [] w (Nat.le_refl _) (by omega) (by rw [hz2]; omega) (by omega) (by simp) (fun _ => rfl) (fun a h => by cases h)) ?_
    rintro e w' ⟨rfl, rfl⟩
    refine ⟨_, rfl, grow_empty _ 3 n _ w _ rfl ?_ ?_, (Below.refl _ _).drew.alloc (Nat.le_refl _) _⟩
    · have h := grownCap_ge w (0 + n) 0 59
      have h2 : n ≤ 0 + n := by omega
      exact Nat.le_trans h2 h
    · exact grownCap_le_maxLen w _ _ _ (by unfold maxLen; omega)
/-- A slice of slices of times. -/
def SlsH (w : World) (v : Value) (vs : List Value) (ls : List (List Hd)) : Prop := SlV w 1 v ls.length vs ∧ ∀ j (h : j < ls.length), ∃ s, vs[j]? = some s ∧ SlV w 3 s ls[j].length (cellsDs ls[j])
theorem SlsH.below {w w' : World} {v : Value} {vs : List Value} {ls : List (List Hd)} (h : SlsH w v vs ls) (hb : Below w.heap.size w w') : SlsH w' v vs ls :=
  ⟨h.1.below hb, fun j hj => by obtain ⟨s, h1, h2⟩ := h.2 j hj; exact ⟨s, h1, h2.below hb⟩⟩
theorem SlsH.form {w : World} {v : Value} {vs : List Value} {ls : List (List Hd)} (h : SlsH w v vs ls) : ∃ A n c, v = .slice A n c ∧ ls.length = n ∧ n ≤ c ∧ c ≤ 9223372036854775807 := by
  obtain ⟨A, c, h1, h2, h3⟩ := SlV.form h.1
  exact ⟨A, _, c, h1, rfl, h2, h3⟩
theorem SlsH.at {w : World} {A : Option Addr} {n c : Nat} {vs : List Value} {ls : List (List Hd)} (h : SlsH w (.slice A n c) vs ls) {j : Nat} (hj : j < ls.length) :
    ∃ (ad : Addr) (s : Value), A = some ad ∧ (ad.add j).block < w.heap.size ∧ w.cell? (ad.add j) = some s ∧ SlV w 3 s ls[j].length (cellsDs ls[j]) := by
  obtain ⟨s, h1, h2⟩ := h.2 j hj
  obtain ⟨_, A', c', e, _, _, _, h4⟩ := h.1
  obtain ⟨rfl, _, rfl⟩ := Value.slice.inj e
  obtain ⟨ad, rfl, h5, h6⟩ := h4 (by omega)
  exact ⟨ad, s, rfl, by rw [add_block]; exact h5, h6 j s h1, h2⟩
theorem SlsH.two_at {w : World} {b : Nat} {s s' : Value} {l l' : List Hd} (h : SlV w 3 s l.length (cellsDs l)) (h' : SlV w 3 s' l'.length (cellsDs l')) (t : TypeId) (hb : b = w.heap.size) : SlsH (w.alloc (.cells #[s, s'] t)) (.slice (some ⟨b, 0, none⟩) 2 2) [s, s'] [l, l'] := by
  subst hb
  refine ⟨⟨rfl, _, _, rfl, Nat.le_refl _, by decide, (fun e => by cases e), fun _ => ⟨_, rfl, ?_, fun j u hj => ?_⟩⟩, fun j hj => ?_⟩
  · show w.heap.size < _
    simp
  · rw [show (⟨w.heap.size, 0, none⟩ : Addr).add j = ⟨w.heap.size, j, none⟩ by unfold Addr.add; split <;> simp_all, cell_new]
    simpa using hj
  · have : j = 0 ∨ j = 1 := by simp at hj; omega
    rcases this with rfl | rfl
    · exact ⟨s, rfl, h.alloc _⟩
    · exact ⟨s', rfl, h'.alloc _⟩
def RelH3 (ls : List (List Hd)) (k : Nat) (sum i : Value) : Prop := ∃ j : Nat, i = .int .i64 (j : Int) ∧ j ≤ k ∧ sum = .int .i64 (((ls.take j).flatten.length : Nat) : Int)
def RelH4 (ls : List (List Hd)) (k B : Nat) (w0 : World) (v i : Value) (wr : World) : Prop := ∃ j : Nat, i = .int .i64 (j : Int) ∧ j ≤ k ∧ OwnHs B v (ls.take j).flatten wr ∧ Below B w0 wr ∧ B ≤ wr.heap.size
theorem flatH_take {ls : List (List Hd)} {j : Nat} (h : j < ls.length) : (ls.take (j + 1)).flatten = (ls.take j).flatten ++ ls[j] := by
  rw [List.take_succ_eq_append_getElem h, List.flatten_append]; simp
theorem flatH_take_le {ls : List (List Hd)} (j : Nat) : (ls.take j).flatten.length ≤ ls.flatten.length := by
  conv => rhs; rw [← List.take_append_drop j ls]
  rw [List.flatten_append, List.length_append]; omega
set_option maxHeartbeats 4000000 in
set_option maxRecDepth 1000000 in
theorem concatH_any (v : Value) (vs : List Value) (ls : List (List Hd)) (w : World) (h : SlsH w v vs ls) (hk : ls.length ≤ 1000) (hn : ls.flatten.length ≤ 1099511627776) :
    Calls Tryz.prog 71 #[v] w (OutHs ls.flatten w) := by
  obtain ⟨i0, hi, hz0, hz1, hz2⟩ := info_parts change_info
  obtain ⟨A, k, c, rfl, hlen, hkc, hc⟩ := h.form
  have hH := Lib.hid h; have hnH := Lib.hid hn; have hlH := Lib.hid hlen
  have hk1000 : k ≤ 1000 := by omega
  clear h hn hlen hk
  go_enter Tryz.func71, Tryz.ntmps71
  go_wp2_with fail
  go_loop [3, 11] (fun s i => RelH3 ls k s i) (fun _ i => k - (Go.RowKit.intOf i).toNat)
  case atStart => exact ⟨0, rfl, Nat.zero_le _, rfl⟩
  case round =>
    unfold RelH3 at hrel
    obtain ⟨j, rfl, hjk, rfl⟩ := hrel
    by_cases hj : j < k
    · have hjl : j < ls.length := by rw [hlH.out]; exact hj
      obtain ⟨ad, s, rfl, hb, ac_, hs⟩ := hH.out.at hjl
      obtain ⟨S, d, rfl, hmd, hd⟩ := SlV.form hs
      have hle := flatH_take_le (ls := ls) (j + 1)
      have hft := flatH_take hjl
      obtain ⟨m, hm⟩ : ∃ m, ls[j].length = m := ⟨_, rfl⟩
      have hsum : (ls.take (j + 1)).flatten.length = (ls.take j).flatten.length + m := by rw [hft, List.length_append, hm]
      rw [hsum] at hle
      rw [hm] at ac_ hmd
      have := hnH.out
      obtain ⟨p, hp⟩ : ∃ p, (ls.take j).flatten.length = p := ⟨_, rfl⟩
      rw [hp] at hsum hle ⊢
      have hpm : p + m ≤ 1099511627776 := by omega
      have hsH := Lib.hid hsum
      clear hle hft hsum hm hs hjl hp this
      go_wp2_with fail
      go_round
      case rel => exact ⟨j + 1, by go_num, by omega, by rw [hsH.out]; go_num⟩
      case measure => simp [Go.RowKit.intOf]; omega
    · obtain rfl : j = k := by omega
      have hall : ls.take j = ls := by rw [← hlH.out, List.take_length]
      rw [hall]
      obtain ⟨n, hn⟩ : ∃ n, ls.flatten.length = n := ⟨_, rfl⟩
      rw [hn]
      have hnb : n ≤ 1099511627776 := by have := hnH.out; omega
      have hallH := Lib.hid hall
      clear hall hn
      go_wp2_with fail
      refine (growHNil_any n _ hnb).mono ?_
      rintro e w1 ⟨v0, rfl, ho, hb1⟩
      have hoH := Lib.hid ho; have hbH := Lib.hid hb1
      clear ho hb1
      go_wp2_with fail
      go_loopw [6, 27] (fun v i wr => RelH4 ls j w.heap.size w v i wr) (fun _ i _ => j - (Go.RowKit.intOf i).toNat)
      case atStart => exact ⟨0, rfl, Nat.zero_le _, hoH.out, hbH.out, hbH.out.size⟩
      case round =>
        unfold RelH4 at hrel
        obtain ⟨i, rfl, hij, ho, hb2, hBw⟩ := hrel
        by_cases hi' : i < j
        · have hjl : i < ls.length := by rw [hlH.out]; exact hi'
          obtain ⟨ad, s, rfl, hb, ac_, hs⟩ := (hH.out.below hb2).at hjl
          have hft := flatH_take hjl
          have hle := flatH_take_le (ls := ls) (i + 1)
          have hln : (ls.take (i + 1)).flatten.length = (ls.take i).flatten.length + ls[i].length := by rw [hft, List.length_append]
          have hbound : (ls.take i).flatten.length + ls[i].length ≤ 1099511627776 := by have := hnH.out; omega
          have hsH := Lib.hid hs; have hoH2 := Lib.hid ho; have hb2H := Lib.hid hb2; have hBH := Lib.hid hBw; have hftH := Lib.hid hft; have hboH := Lib.hid hbound; have hlnH := Lib.hid hln
          clear hs ho hb2 hBw hft hle hln hbound
          go_wp2_with (at_builtin; refine wpList_append_sl rfl _ _ 57 rfl w.heap.size 59 i0 (.agg #[.int .u64 0, .slice none 0 0, .int .i64 0]) 3 40 Tryz.underlying57 hi hz0 hz1 hz2 rfl (by decide) _ _ _ (by rfl) _ _ _ _ hoH2.out (by rfl) hsH.out (cellsDs_one _) (by have := hboH.out; unfold maxLen; omega) (by have := hboH.out; omega) hBH.out ?_; intro v' w' ho' hg')
          have ho2H := Lib.hid ho'; have hgH := Lib.hid hg'
          clear ho' hg'
          go_wp2_with fail
          go_roundw
          case rel => exact ⟨i + 1, by go_num, by omega, by (unfold OwnHs; rw [hlnH.out, hftH.out, cellsDs_append]; exact ho2H.out), below_grown hb2H.out hoH2.out hBH.out hgH.out, Nat.le_trans hBH.out hgH.out.size⟩
          case measure => simp [Go.RowKit.intOf]; omega
        · obtain rfl : i = j := by omega
          rw [hallH.out] at ho
          have hoH2 := Lib.hid ho; have hb2H := Lib.hid hb2
          clear ho hb2
          go_wp2_with fail
          go_ret
          exact ⟨_, rfl, hoH2.out, hb2H.out⟩
end Go.Proofs.YtdfhchpimpbgfaaGreatDoor
