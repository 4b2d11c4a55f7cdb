/-
  What slices.Concat answers at []uint32, at this program: of any few slices of counters, all of them, one behind the other, in memory of its own. Condition: together no more than 2^41 counters, no more than 1000 slices.
-/
import Derived.Test.YtdfhchpimpbgfaaGreatDoorStOwn
import Derived.Test.YtdfhchpimpbgfaaGreatDoorShelf4
import Derived.LoopTactic
set_option linter.unusedVariables false
set_option linter.unusedSimpArgs false
namespace Go.Proofs.YtdfhchpimpbgfaaGreatDoor
open Go.RowKit Go.Lib

theorem u32_info : (Tryz.prog.info? 86).map (fun i => (i.zero, i.size, i.bytes)) = some (some (.int .u32 0), 1, 4) := by kernel_rfl
/-- What Grow and Concat answer. -/
def OutW (l : List Int) (w : World) (e : Ending) (w' : World) : Prop := ∃ v, e = .returned v ∧ OwnW w.heap.size v l w' ∧ Below w.heap.size w w'
theorem growNil_any (n : Nat) (w : World) (hn : n ≤ 2199023255552) : Calls Tryz.prog 111 #[.slice none 0 0, .int .i64 (n : Int)] w (OutW [] w) := by
  obtain ⟨i0, hi, hz0, hz1, hz2⟩ := info_parts u32_info
  rcases Nat.eq_zero_or_pos n with rfl | hp
  · refine Calls.mono (Any8.slices_Grow_room Tryz.growW none 0 0 0 w (Nat.le_refl _) (by decide) (by decide) (by decide)) ?_
    rintro e w' ⟨rfl, rfl⟩
    exact ⟨_, rfl, OwnW.nil _ _, Below.refl _ _⟩
  · refine Calls.mono (Any8.slices_Grow_grow Tryz.growW i0 (.int .u32 0) hi hz0 (by rw [hz1]; decide) none 0 0 n [] w (Nat.le_refl _) (by omega) (by rw [hz2]; omega) (by omega) (by simp) (fun _ => rfl) (fun a h => by cases h)) ?_
    rintro e w' ⟨rfl, rfl⟩
    refine ⟨_, rfl, ⟨rfl, .inr ⟨w.heap.size, _, _, rfl, Nat.le_refl _, heap_alloc_new w.drew _, Nat.zero_le _, ?_, ?_, by simp⟩⟩, ?_⟩
    · exact grownCap_le_maxLen w _ _ _ (by unfold maxLen; omega)
    · have := grownCap_ge w (0 + n) 0 86
      simp only [Array.size_append, size_zeroCells, List.size_toArray, List.length_nil, Value.cells]
      simp
      show n + (grownCap w n 0 86 - n) = grownCap w n 0 86
      simp at this
      omega
    · exact (Below.refl _ _).drew.alloc (Nat.le_refl _) _
def RelC1 (ls : List (List Int)) (k : Nat) (sum i : Value) : Prop := ∃ j : Nat, i = .int .i64 (j : Int) ∧ j ≤ k ∧ sum = .int .i64 (((ls.take j).flatten.length : Nat) : Int)
def RelC2 (ls : List (List Int)) (k B : Nat) (w0 : World) (v i : Value) (wr : World) : Prop := ∃ j : Nat, i = .int .i64 (j : Int) ∧ j ≤ k ∧ OwnW B v (ls.take j).flatten wr ∧ Below B w0 wr ∧ B ≤ wr.heap.size
theorem flat_take {ls : List (List Int)} {j : Nat} (h : j < ls.length) : (ls.take (j + 1)).flatten = (ls.take j).flatten ++ ls[j] := by
  rw [List.take_succ_eq_append_getElem h, List.flatten_append]; simp
theorem flat_take_le {ls : List (List Int)} (j : Nat) : (ls.take j).flatten.length ≤ ls.flatten.length := by
  conv => rhs; rw [← List.take_append_drop j ls]
  rw [List.flatten_append, List.length_append]; omega
theorem uv_one (l : List Int) : ∀ u ∈ l.map uv, u.oneCell' = true := by
  intro u hu
  obtain ⟨z, _, rfl⟩ := List.mem_map.1 hu
  rfl
set_option maxHeartbeats 4000000 in
set_option maxRecDepth 1000000 in
theorem concat_any (v : Value) (vs : List Value) (ls : List (List Int)) (w : World) (h : SlsV w v vs ls) (hk : ls.length ≤ 1000) (hn : ls.flatten.length ≤ 2199023255552) :
    Calls Tryz.prog 85 #[v] w (OutW ls.flatten w) := by
  obtain ⟨i0, hi, hz0, hz1, hz2⟩ := info_parts u32_info
  obtain ⟨A, k, c, rfl, hlen, hkc, hc⟩ := h.form
  have hH := Lib.hid h; have hnH := Lib.hid hn; have hlH := Lib.hid hlen
  have hk1000 : k ≤ 1000 := by omega
  clear h hn hlen hk
  go_enter Tryz.func85, Tryz.ntmps85
  go_wp2_with fail
  go_loop [3, 11] (fun s i => RelC1 ls k s i) (fun _ i => k - (Go.RowKit.intOf i).toNat)
  case atStart => exact ⟨0, rfl, Nat.zero_le _, rfl⟩
  case round =>
    unfold RelC1 at hrel
    obtain ⟨j, rfl, hjk, rfl⟩ := hrel
    by_cases hj : j < k
    · have hjl : j < ls.length := by rw [hlH.out]; exact hj
      obtain ⟨ad, s, rfl, hb, ac_, hs⟩ := hH.out.at hjl
      obtain ⟨S, m, d, rfl, hm, hmd, hd⟩ := hs.form
      have hle := flat_take_le (ls := ls) (j + 1)
      have hft := flat_take hjl
      have hsum : (ls.take (j + 1)).flatten.length = (ls.take j).flatten.length + m := by rw [hft, List.length_append, hm]
      rw [hsum] at hle
      have := hnH.out
      obtain ⟨p, hp⟩ : ∃ p, (ls.take j).flatten.length = p := ⟨_, rfl⟩
      rw [hp] at hsum hle ⊢
      have hpm : p + m ≤ 2199023255552 := by omega
      have hsH := Lib.hid hsum
      clear hle hft hsum hm hs hjl hp this
      go_wp2_with fail
      go_round
      case rel => exact ⟨j + 1, by go_num, by omega, by rw [hsH.out]; go_num⟩
      case measure => simp [Go.RowKit.intOf]; omega
    · obtain rfl : j = k := by omega
      have hall : ls.take j = ls := by rw [← hlH.out, List.take_length]
      rw [hall]
      obtain ⟨n, hn⟩ : ∃ n, ls.flatten.length = n := ⟨_, rfl⟩
      rw [hn]
      have hnb : n ≤ 2199023255552 := by have := hnH.out; omega
      have hallH := Lib.hid hall
      clear hall hn
      go_wp2_with fail
      refine (growNil_any n _ hnb).mono ?_
      rintro e w1 ⟨v0, rfl, ho, hb1⟩
      have hoH := Lib.hid ho; have hbH := Lib.hid hb1
      clear ho hb1
      go_wp2_with fail
      go_loopw [6, 27] (fun v i wr => RelC2 ls j w.heap.size w v i wr) (fun _ i _ => j - (Go.RowKit.intOf i).toNat)
      case atStart => exact ⟨0, rfl, Nat.zero_le _, hoH.out, hbH.out, hbH.out.size⟩
      case round =>
        unfold RelC2 at hrel
        obtain ⟨i, rfl, hij, ho, hb2, hBw⟩ := hrel
        by_cases hi' : i < j
        · have hjl : i < ls.length := by rw [hlH.out]; exact hi'
          obtain ⟨ad, s, rfl, hb, ac_, hs⟩ := (hH.out.below hb2).at hjl
          have hft := flat_take hjl
          have hle := flat_take_le (ls := ls) (i + 1)
          have hln : (ls.take (i + 1)).flatten.length = (ls.take i).flatten.length + ls[i].length := by rw [hft, List.length_append]
          have hbound : (ls.take i).flatten.length + ls[i].length ≤ 2199023255552 := by have := hnH.out; omega
          have hsH := Lib.hid hs; have hoH2 := Lib.hid ho; have hb2H := Lib.hid hb2; have hBH := Lib.hid hBw; have hftH := Lib.hid hft; have hboH := Lib.hid hbound; have hlnH := Lib.hid hln
          clear hs ho hb2 hBw hft hle hln hbound
          go_wp2_with (at_builtin; refine wpList_append_sl rfl _ _ 24 rfl w.heap.size 86 i0 (.int .u32 0) 1 4 Tryz.underlying24 hi hz0 hz1 hz2 rfl (by decide) _ _ _ (by rfl) _ _ _ _ hoH2.out (by rfl) hsH.out (uv_one _) (by have := hboH.out; unfold maxLen; omega) (by have := hboH.out; omega) hBH.out ?_; intro v' w' ho' hg')
          have ho2H := Lib.hid ho'; have hgH := Lib.hid hg'
          clear ho' hg'
          go_wp2_with fail
          go_roundw
          case rel => exact ⟨i + 1, by go_num, by omega, by (unfold OwnW; rw [hlnH.out, hftH.out, List.map_append]; exact ho2H.out), below_grown hb2H.out hoH2.out hBH.out hgH.out, Nat.le_trans hBH.out hgH.out.size⟩
          case measure => simp [Go.RowKit.intOf]; omega
        · obtain rfl : i = j := by omega
          rw [hallH.out] at ho
          have hoH2 := Lib.hid ho; have hb2H := Lib.hid hb2
          clear ho hb2
          go_wp2_with fail
          go_ret
          exact ⟨_, rfl, hoH2.out, hb2H.out⟩
theorem concat1_any (v : Value) (vs : List Value) (l : List Int) (w : World) (h : SlsV w v vs [l]) (hn : l.length ≤ 1099511627776) :
    Calls Tryz.prog 85 #[v] w (OutW l w) := by
  have := concat_any v vs [l] w h (by simp) (by simp; omega)
  simpa using this
theorem concat2_any (v : Value) (vs : List Value) (l m : List Int) (w : World) (h : SlsV w v vs [l, m]) (hn : l.length ≤ 1099511627776) (hm : m.length ≤ 1099511627776) :
    Calls Tryz.prog 85 #[v] w (OutW (l ++ m) w) := by
  have := concat_any v vs [l, m] w h (by simp) (by simp; omega)
  simpa using this
end Go.Proofs.YtdfhchpimpbgfaaGreatDoor
