/-
  What cmp.Compare, slices.Compare and cmp.Or answer, at the types at which layer 4 calls them, at this program: of any numbers, any slices of counters. No condition.
-/
import Derived.Test.YtdfhchpimpbgfaaGreatDoorStOwn
import Derived.LoopTactic
set_option linter.unusedVariables false
set_option linter.unusedSimpArgs false
namespace Go.Proofs.YtdfhchpimpbgfaaGreatDoor
open Go.RowKit Go.Lib

theorem isNaN_i64 (x : Int) (w : World) : Calls Tryz.prog 108 #[.int .i64 x] w fun e w' => e = .returned (.bool false) ∧ w = w' := by
  go_enter Tryz.func108, Tryz.ntmps108
  go_wp2_with fail
  go_ret
  exact ⟨by simp, rfl⟩
set_option maxHeartbeats 2000000 in
set_option maxRecDepth 1000000 in
theorem compare_i64 (x y : Int) (w : World) : Calls Tryz.prog 82 #[.int .i64 x, .int .i64 y] w fun e w' => e = .returned (.int .i64 (c3 x y)) ∧ w = w' := by
  unfold c3
  by_cases h : x < y
  · rw [if_pos h]
    go_enter Tryz.func82, Tryz.ntmps82
    go_wp2_with (go_at_call 108; refine (isNaN_i64 _ _).mono ?_; rintro e w' ⟨rfl, rfl⟩)
    go_ret
    exact ⟨rfl, rfl⟩
  · rw [if_neg h]
    by_cases h2 : y < x
    · rw [if_neg (by omega)]
      go_enter Tryz.func82, Tryz.ntmps82
      go_wp2_with (go_at_call 108; refine (isNaN_i64 _ _).mono ?_; rintro e w' ⟨rfl, rfl⟩)
      go_ret
      exact ⟨rfl, rfl⟩
    · rw [if_pos (by omega)]
      go_enter Tryz.func82, Tryz.ntmps82
      go_wp2_with (go_at_call 108; refine (isNaN_i64 _ _).mono ?_; rintro e w' ⟨rfl, rfl⟩)
      go_ret
      exact ⟨rfl, rfl⟩
theorem isNaN_u64 (x : Int) (w : World) : Calls Tryz.prog 109 #[.int .u64 x] w fun e w' => e = .returned (.bool false) ∧ w = w' := by
  go_enter Tryz.func109, Tryz.ntmps109
  go_wp2_with fail
  go_ret
  exact ⟨by simp, rfl⟩
set_option maxHeartbeats 2000000 in
set_option maxRecDepth 1000000 in
theorem compare_u64 (x y : Int) (w : World) : Calls Tryz.prog 83 #[.int .u64 x, .int .u64 y] w fun e w' => e = .returned (.int .i64 (c3 x y)) ∧ w = w' := by
  unfold c3
  by_cases h : x < y
  · rw [if_pos h]
    go_enter Tryz.func83, Tryz.ntmps83
    go_wp2_with (go_at_call 109; refine (isNaN_u64 _ _).mono ?_; rintro e w' ⟨rfl, rfl⟩)
    go_ret
    exact ⟨rfl, rfl⟩
  · rw [if_neg h]
    by_cases h2 : y < x
    · rw [if_neg (by omega)]
      go_enter Tryz.func83, Tryz.ntmps83
      go_wp2_with (go_at_call 109; refine (isNaN_u64 _ _).mono ?_; rintro e w' ⟨rfl, rfl⟩)
      go_ret
      exact ⟨rfl, rfl⟩
    · rw [if_pos (by omega)]
      go_enter Tryz.func83, Tryz.ntmps83
      go_wp2_with (go_at_call 109; refine (isNaN_u64 _ _).mono ?_; rintro e w' ⟨rfl, rfl⟩)
      go_ret
      exact ⟨rfl, rfl⟩
theorem isNaN_u32 (x : Int) (w : World) : Calls Tryz.prog 129 #[.int .u32 x] w fun e w' => e = .returned (.bool false) ∧ w = w' := by
  go_enter Tryz.func129, Tryz.ntmps129
  go_wp2_with fail
  go_ret
  exact ⟨by simp, rfl⟩
set_option maxHeartbeats 2000000 in
set_option maxRecDepth 1000000 in
theorem compare_u32 (x y : Int) (w : World) : Calls Tryz.prog 110 #[.int .u32 x, .int .u32 y] w fun e w' => e = .returned (.int .i64 (c3 x y)) ∧ w = w' := by
  unfold c3
  by_cases h : x < y
  · rw [if_pos h]
    go_enter Tryz.func110, Tryz.ntmps110
    go_wp2_with (go_at_call 129; refine (isNaN_u32 _ _).mono ?_; rintro e w' ⟨rfl, rfl⟩)
    go_ret
    exact ⟨rfl, rfl⟩
  · rw [if_neg h]
    by_cases h2 : y < x
    · rw [if_neg (by omega)]
      go_enter Tryz.func110, Tryz.ntmps110
      go_wp2_with (go_at_call 129; refine (isNaN_u32 _ _).mono ?_; rintro e w' ⟨rfl, rfl⟩)
      go_ret
      exact ⟨rfl, rfl⟩
    · rw [if_pos (by omega)]
      go_enter Tryz.func110, Tryz.ntmps110
      go_wp2_with (go_at_call 129; refine (isNaN_u32 _ _).mono ?_; rintro e w' ⟨rfl, rfl⟩)
      go_ret
      exact ⟨rfl, rfl⟩
/-- What slices.Compare's rounds hold. -/
def RelSC (l m : List Int) (i : Value) : Prop := ∃ p : Nat, i = .int .i64 (p : Int) ∧ p ≤ l.length ∧ p ≤ m.length ∧ cmpW l m = cmpW (l.drop p) (m.drop p)
theorem cmpW_at {l m : List Int} {p : Nat} (hl : p < l.length) (hm : p < m.length) : cmpW (l.drop p) (m.drop p) = if c3 l[p] m[p] = 0 then cmpW (l.drop (p + 1)) (m.drop (p + 1)) else c3 l[p] m[p] := by
  rw [List.drop_eq_getElem_cons hl, List.drop_eq_getElem_cons hm, cmpW]
theorem cmpW_long {l m : List Int} {p : Nat} (hl : p < l.length) (hm : m.length ≤ p) : cmpW (l.drop p) (m.drop p) = 1 := by
  rw [List.drop_eq_getElem_cons hl, List.drop_eq_nil_of_le hm, cmpW]
theorem cmpW_end {l m : List Int} {p : Nat} (hl : l.length ≤ p) : cmpW (l.drop p) (m.drop p) = if p < m.length then -1 else 0 := by
  rw [List.drop_eq_nil_of_le hl]
  split
  · next h => rw [List.drop_eq_getElem_cons h, cmpW]
  · next h => rw [List.drop_eq_nil_of_le (by omega), cmpW]
set_option maxHeartbeats 2000000 in
set_option maxRecDepth 1000000 in
theorem compareWords_any (va vb : Value) (l m : List Int) (w : World) (ha : WordsV w va l) (hb : WordsV w vb m) :
    Calls Tryz.prog 84 #[va, vb] w fun e w' => e = .returned (.int .i64 (cmpW l m)) ∧ w = w' := by
  obtain ⟨A, n, ca, rfl, hn, hla, hca⟩ := ha.form
  obtain ⟨B, k, cb, rfl, hk, hlb, hcb⟩ := hb.form
  obtain ⟨r, hr⟩ : ∃ r, cmpW l m = r := ⟨_, rfl⟩
  rw [hr]
  have hnH := Lib.hid hn; have hkH := Lib.hid hk; have hrH := Lib.hid hr; have haH := Lib.hid ha; have hbH := Lib.hid hb
  clear hn hk hr ha hb
  go_enter Tryz.func84, Tryz.ntmps84
  go_wp2_with fail
  go_loop [11] (fun i => RelSC l m i) (fun i => n - (Go.RowKit.intOf i).toNat)
  case atStart => exact ⟨0, rfl, Nat.zero_le _, Nat.zero_le _, rfl⟩
  case round =>
    unfold RelSC at hrel
    obtain ⟨p, rfl, hpl, hpm, hcmp⟩ := hrel
    have hcH := Lib.hid hcmp
    clear hcmp
    have hpn : p ≤ n := by have := hnH.out; omega
    have hpk : p ≤ k := by have := hkH.out; omega
    clear hpl hpm
    by_cases hp : p < n
    · by_cases hq : p < k
      · have h1 : p < l.length := by have := hnH.out; omega
        have h2 : p < m.length := by have := hkH.out; omega
        obtain ⟨ad, rfl, hba, ac_⟩ := haH.out.at h1
        obtain ⟨bd, rfl, hbb, bc_⟩ := hbH.out.at h2
        have hstep := cmpW_at h1 h2
        obtain ⟨x, hx⟩ : ∃ x, l[p] = x := ⟨_, rfl⟩
        obtain ⟨y, hy⟩ : ∃ y, m[p] = y := ⟨_, rfl⟩
        rw [hx] at ac_ hstep
        rw [hy] at bc_ hstep
        obtain ⟨z, hz⟩ : ∃ z, c3 x y = z := ⟨_, rfl⟩
        rw [hz] at hstep
        have hstH := Lib.hid hstep; have hzH := Lib.hid hz
        clear hstep hx hy h1 h2 hz
        by_cases hz0 : z = 0
        · subst hz0
          go_wp2_with (go_at_call 110; refine (compare_u32 _ _ _).mono ?_; rw [hzH.out]; rintro e w' ⟨rfl, rfl⟩)
          go_round
          case rel => exact ⟨p + 1, by go_num, by have := hnH.out; omega, by have := hkH.out; omega, by rw [hcH.out, hstH.out]; simp⟩
          case measure => simp [Go.RowKit.intOf]; omega
        · have hz1 : (z != 0) = true := by simpa using hz0
          go_wp2_with (go_at_call 110; refine (compare_u32 _ _ _).mono ?_; rw [hzH.out]; rintro e w' ⟨rfl, rfl⟩)
          go_ret
          exact ⟨ret_int (by rw [← hrH.out, hcH.out, hstH.out, if_neg hz0]), rfl⟩
      · have h1 : p < l.length := by have := hnH.out; omega
        have h2 : m.length ≤ p := by have := hkH.out; omega
        obtain ⟨ad, rfl, hba, ac_⟩ := haH.out.at h1
        have hstH := Lib.hid (cmpW_long h1 h2)
        obtain ⟨x, hx⟩ : ∃ x, l[p] = x := ⟨_, rfl⟩
        rw [hx] at ac_
        clear hx h1 h2
        go_wp2_with fail
        go_ret
        exact ⟨ret_int (by rw [← hrH.out, hcH.out, hstH.out]), rfl⟩
    · have hstH := Lib.hid (cmpW_end (l := l) (m := m) (p := p) (by have := hnH.out; omega))
      obtain rfl : p = n := by omega
      by_cases hq : p < k
      · go_wp2_with fail
        go_ret
        exact ⟨ret_int (by rw [← hrH.out, hcH.out, hstH.out, if_pos (by have := hkH.out; omega)]), rfl⟩
      · go_wp2_with fail
        go_ret
        exact ⟨ret_int (by rw [← hrH.out, hcH.out, hstH.out, if_neg (by have := hkH.out; omega)]), rfl⟩
/-- The first of them that is not 0. -/
def firstNZ : List Int → Int
  | [] => 0
  | a :: l => if a = 0 then firstNZ l else a
def RelOr (l : List Int) (i : Value) : Prop := ∃ p : Nat, i = .int .i64 (p : Int) ∧ p ≤ l.length ∧ firstNZ l = firstNZ (l.drop p)
theorem firstNZ_at {l : List Int} {p : Nat} (hl : p < l.length) : firstNZ (l.drop p) = if l[p] = 0 then firstNZ (l.drop (p + 1)) else l[p] := by
  rw [List.drop_eq_getElem_cons hl, firstNZ]
set_option maxHeartbeats 2000000 in
set_option maxRecDepth 1000000 in
theorem or_any (v : Value) (n : Nat) (l : List Int) (w : World) (h : SlV w 1 v n (l.map fun z => .int .i64 z)) :
    Calls Tryz.prog 81 #[v] w fun e w' => e = .returned (.int .i64 (firstNZ l)) ∧ w = w' := by
  have hl : l.length = n := by have := h.1; simpa using this
  have hcell : ∀ p (hp : p < l.length), ∀ A c, v = .slice A n c → ∃ ad : Addr, A = some ad ∧ (ad.add p).block < w.heap.size ∧ w.cell? (ad.add p) = some (.int .i64 l[p]) := by
    intro p hp A c he
    obtain ⟨_, A', c', e, _, _, _, h4⟩ := h
    rw [he] at e
    obtain ⟨rfl, _, rfl⟩ := Value.slice.inj e
    obtain ⟨ad, rfl, h5, h6⟩ := h4 (by omega)
    exact ⟨ad, rfl, by rw [add_block]; exact h5, h6 p _ (by simp [hp])⟩
  obtain ⟨A, c, rfl, hnc, hc⟩ := h.form
  obtain ⟨r, hr⟩ : ∃ r, firstNZ l = r := ⟨_, rfl⟩
  rw [hr]
  have hlH := Lib.hid hl; have hrH := Lib.hid hr; have hcH := Lib.hid hcell
  clear hl hr hcell h
  go_enter Tryz.func81, Tryz.ntmps81
  go_wp2_with fail
  go_loop [8] (fun i => RelOr l i) (fun i => n - (Go.RowKit.intOf i).toNat)
  case atStart => exact ⟨0, rfl, Nat.zero_le _, rfl⟩
  case round =>
    unfold RelOr at hrel
    obtain ⟨p, rfl, hpl, hf⟩ := hrel
    have hfH := Lib.hid hf
    clear hf
    have hpn : p ≤ n := by have := hlH.out; omega
    clear hpl
    by_cases hp : p < n
    · have h1 : p < l.length := by have := hlH.out; omega
      obtain ⟨ad, rfl, hba, ac_⟩ := hcH.out p h1 _ _ rfl
      have hstep := firstNZ_at h1
      obtain ⟨x, hx⟩ : ∃ x, l[p] = x := ⟨_, rfl⟩
      rw [hx] at ac_ hstep
      have hsH := Lib.hid hstep
      clear hx hstep h1
      by_cases hx0 : x = 0
      · subst hx0
        go_wp2_with fail
        go_round
        case rel => exact ⟨p + 1, by go_num, by have := hlH.out; omega, by rw [hfH.out, hsH.out]; simp⟩
        case measure => simp [Go.RowKit.intOf]; omega
      · have hx1 : (x != 0) = true := by simpa using hx0
        go_wp2_with fail
        go_ret
        exact ⟨ret_int (by rw [← hrH.out, hfH.out, hsH.out, if_neg hx0]), rfl⟩
    · go_wp2_with fail
      go_ret
      exact ⟨ret_int (by rw [← hrH.out, hfH.out, List.drop_eq_nil_of_le (by have := hlH.out; omega), firstNZ]), rfl⟩
end Go.Proofs.YtdfhchpimpbgfaaGreatDoor
