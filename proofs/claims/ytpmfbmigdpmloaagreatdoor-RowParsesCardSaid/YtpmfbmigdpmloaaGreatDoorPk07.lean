/-
  Texts that belong together: RuneW, Unquote, Read, Parse, RwCut. What each one says stands ahead of it.
-/
import Derived.Test.YtpmfbmigdpmloaaGreatDoorPk01
import Derived.Test.YtpmfbmigdpmloaaGreatDoorPk06
import Derived.Shelf.Utf8.AppendRune
import Derived.Test.YtpmfbmigdpmloaaGreatDoorPk02
import Derived.Test.YtpmfbmigdpmloaaGreatDoorUnhexPk
import Derived.Test.YtpmfbmigdpmloaaGreatDoorPk05
import Derived.Lib.ParseIntB
import Derived.Lib.SmallJoins
import Derived.Deep.RegionHeld3
import Derived.Test.YtpmfbmigdpmloaaGreatDoorRwPrPk
import Derived.Deep.QuietTactic
import Derived.BigQuiet
section
/-
  (*strings.Builder).WriteRune, at this program: onto what a builder holds, every rune. Condition: its buffer has at most 2^47 bytes afterwards.
-/
set_option linter.unusedVariables false
set_option linter.unusedSimpArgs false
namespace Go.Proofs.YtpmfbmigdpmloaaGreatDoor
open Go.RowKit Go.Lib

set_option maxHeartbeats 4000000 in
set_option maxRecDepth 100000 in
theorem writeRune_k (B b : Nat) (bs : List Value) (r : Int) (hr0 : -2147483648 ≤ r) (hr1 : r ≤ 2147483647) (w : World) (h : Lib.IsBuilderF 96 5 B b bs w) (hlen : bs.length + 4 ≤ 140737488355328) (hBw : B ≤ w.heap.size) :
    Calls Tryz.prog 130 #[.pointer (some ⟨b, 0, none⟩), .int .i32 r] w fun e w' => ∃ k, e = .returned (.tuple #[.int .i64 k, .nilIface]) ∧ (Lib.BuilderAtF 96 5 B b (.pointer (some ⟨b, 0, none⟩)) (bs ++ Lib.runeCells r) w' ∧ Below B w w' ∧ Lib.OthersKept 5 (some b) w w') := by
  have hk4 := Lib.runeCells_le r
  go_enter Tryz.func130, Tryz.ntmps130
  go_wp2_with (go_at_call 89; refine (copyCheck_k B b bs _ h).mono ?_)
  rintro e w1 ⟨rfl, h1, hb1, hk1⟩
  obtain ⟨hB, v, hbk, hown, hne⟩ := h1
  have c0 : w1.cell? ⟨b, 0, none⟩ = some (.pointer (some ⟨b, 0, none⟩)) := by rw [Lib.cell_of_heap hbk]; rfl
  have c1 : w1.cell? ⟨b, 1, none⟩ = some v := by rw [Lib.cell_of_heap hbk]; rfl
  obtain ⟨ao0, n0, cap0, rfl⟩ := slice_of_own hown
  go_wp2_with fail
  refine (Any.utf8_AppendRune_row Tryz.lays242 own_info_byte B _ _ _ r hr0 hr1 w1 hown hlen (Nat.le_trans hBw hb1.size)).mono ?_
  rintro e w2 ⟨v', rfl, hown', o, hgrow⟩
  have hbkA : (w1.alloc o).heap[b]? = some (.cells #[.pointer (some ⟨b, 0, none⟩), .slice ao0 n0 cap0] 96 (0, 0)) := by
    rw [Lib.alloc_old _ _ _ (lt_of_block hbk)]; exact hbk
  obtain ⟨hb2, hk2⟩ := kept_of_append (hown.alloc o) hne hbkA hgrow
  have d0 : w2.cell? ⟨b, 0, none⟩ = some (.pointer (some ⟨b, 0, none⟩)) := by rw [Lib.cell_of_heap hb2]; rfl
  have d1 : w2.cell? ⟨b, 1, none⟩ = some (.slice ao0 n0 cap0) := by rw [Lib.cell_of_heap hb2]; rfl
  have f1 : w2.frozen? ⟨b, 1, none⟩ = false := Lib.frozen_of_heap hb2 1
  have hown'' : w2.ownsRowF B 5 1 v' (bs.length + (Lib.runeCells r).length) (bs ++ Lib.runeCells r) := hown'
  obtain ⟨ao, n', cap, rfl⟩ := slice_of_own hown''
  go_wp2
  go_returns
  refine ⟨_, rfl, ?_, ?_, ?_⟩
  · exact Lib.BuilderAtF.put (T := 96) (e := 5) hB hb2 (bs' := bs ++ Lib.runeCells r) (by rw [List.length_append]; exact hown'') (by decide)
  · exact ((hb1.alloc (by have := hb1.size; omega) _).grown hgrow (by have := hb1.size; simp; omega) (fun k hk => (hown.lt k hk).1)).setCell (p := ⟨b, 1, none⟩) hB _
  · exact ((hk1.alloc _).trans hk2).setCell ⟨b, 1, none⟩ rfl _
end Go.Proofs.YtpmfbmigdpmloaaGreatDoor
end
section
/-
  Plain mathematics: what is written of a valid text is valid; its high bytes stand for themselves; the first byte or rune of what is written. No condition but those written.
  Plain mathematics: one step of reading back what is written of a valid text. No condition but those written.
  What datum.unquote answers, at this program: of every text of at most 2^40 bytes some text; of what is written of a valid text, that text. Condition: the variable strconv.ErrSyntax holds an error or none.
-/
set_option linter.unusedVariables false
set_option linter.unusedSimpArgs false
namespace Go.Proofs.YtpmfbmigdpmloaaGreatDoor
open Go.Lib

theorem longN_pre (n m b0 b1 b2 b3 c0 c1 c2 c3 k : Nat) (hk : longN n b0 b1 b2 b3 = k) (hk0 : k ≠ 0) (hm : k ≤ m) (h0 : b0 = c0) (h1 : 2 ≤ k → b1 = c1) (h2 : 3 ≤ k → b2 = c2) (h3 : 4 ≤ k → b3 = c3) : longN m c0 c1 c2 c3 = k := by
  subst h0
  unfold longN at *
  by_cases a : b0 < 128
  · simp [a] at hk ⊢; exact hk
  by_cases b : 194 ≤ b0 ∧ b0 < 224
  · simp only [a, b, if_true, if_false] at *
    by_cases e : n < 2
    · simp [e] at hk; omega
    · by_cases g : b1 < 128 ∨ 192 ≤ b1
      · simp [e, g] at hk; omega
      · simp [e, g] at hk
        have := h1 (by omega)
        subst this
        simp [g, show ¬ m < 2 by omega]; exact hk
  by_cases c : 224 ≤ b0 ∧ b0 < 240
  · simp only [a, b, c, if_true, if_false] at *
    by_cases e : n < 3
    · simp [e] at hk; omega
    · have hk3 : k = 3 := by
        revert hk
        repeat' split
        all_goals omega
      have := h1 (by omega)
      have := h2 (by omega)
      subst_vars
      simp only [e, if_false] at hk
      simp only [show ¬ m < 3 by omega, if_false]
      exact hk
  by_cases d : 240 ≤ b0 ∧ b0 < 245
  · simp only [a, b, c, d, if_true, if_false] at *
    by_cases e : n < 4
    · simp [e] at hk; omega
    · have hk3 : k = 4 := by
        revert hk
        repeat' split
        all_goals omega
      have := h1 (by omega)
      have := h2 (by omega)
      have := h3 (by omega)
      subst_vars
      simp only [e, if_false] at hk
      simp only [show ¬ m < 4 by omega, if_false]
      exact hk
  · simp [a, b, c, d] at hk; omega
theorem getD_take (l x : List UInt8) (k i : Nat) (h : i < k) (hl : k ≤ l.length) : (l.take k ++ x).getD i 0 = l.getD i 0 := by
  rw [getD_app _ _ _ (by rw [List.length_take]; omega)]
  simp [List.getD, List.getElem?_take, h]
theorem lonL_pre (l x : List UInt8) (h : l ≠ []) (hk : lonL l ≠ 0) : lonL (l.take (lonL l) ++ x) = lonL l := by
  have hle := lonL_le l h
  obtain ⟨k, hkk⟩ : ∃ k, lonL l = k := ⟨_, rfl⟩
  rw [hkk] at hk hle ⊢
  have hm : k ≤ (l.take k ++ x).length := by rw [List.length_append, List.length_take]; omega
  unfold lonL at hkk
  unfold lonL
  refine longN_pre _ _ _ _ _ _ _ _ _ _ k hkk hk hm (by rw [getD_take _ _ _ _ (by omega) hle]) ?_ ?_ ?_
  all_goals
    intro hh
    rw [getD_take _ _ _ _ (by omega) hle]
theorem longN_high (n b0 b1 b2 b3 : Nat) (h : 2 ≤ longN n b0 b1 b2 b3) : 128 ≤ b0 ∧ 128 ≤ b1 ∧ (3 ≤ longN n b0 b1 b2 b3 → 128 ≤ b2) ∧ (4 ≤ longN n b0 b1 b2 b3 → 128 ≤ b3) := by
  revert h
  unfold longN
  repeat' split
  all_goals omega
theorem rune_high (l : List UInt8) (h : 2 ≤ lonL l) : ∀ c ∈ l.take (lonL l), 128 ≤ c.toNat := by
  have hh := longN_high _ _ _ _ _ (show 2 ≤ longN l.length (l.getD 0 0).toNat (l.getD 1 0).toNat (l.getD 2 0).toNat (l.getD 3 0).toNat from h)
  have h4 : lonL l ≤ 4 := by
    unfold lonL longN
    repeat' split
    all_goals omega
  intro c hc
  obtain ⟨i, hi, e⟩ := List.getElem_of_mem hc
  rw [List.length_take] at hi
  have e2 : l.getD i 0 = c := by
    rw [← e]
    simp [List.getD, show i < l.length by omega]
  change 128 ≤ (l.getD 0 0).toNat ∧ 128 ≤ (l.getD 1 0).toNat ∧ (3 ≤ lonL l → _) ∧ (4 ≤ lonL l → _) at hh
  match i, hi, e2 with
  | 0, _, e2 => rw [← e2]; exact hh.1
  | 1, _, e2 => rw [← e2]; exact hh.2.1
  | 2, hi, e2 => rw [← e2]; exact hh.2.2.1 (by omega)
  | 3, hi, e2 => rw [← e2]; exact hh.2.2.2 (by omega)
  | i + 4, hi, _ => omega
theorem longN_one (n b0 b1 b2 b3 : Nat) (h : longN n b0 b1 b2 b3 = 1) : b0 < 128 := by
  revert h
  unfold longN
  repeat' split
  all_goals omega
theorem esc_ascii {c : UInt8} (h : c.toNat < 128) : ∀ b ∈ escB c, b.toNat < 128 := by
  have e1 : (hexD (c.toNat / 16)).toNat < 128 := (by decide : ∀ i : Fin 16, (hexD i.val).toNat < 128) ⟨c.toNat / 16, by omega⟩
  have e2 : (hexD (c.toNat % 16)).toNat < 128 := (by decide : ∀ i : Fin 16, (hexD i.val).toNat < 128) ⟨c.toNat % 16, by omega⟩
  unfold escB
  repeat' split
  all_goals
    intro b hb
    simp only [List.mem_cons, List.not_mem_nil, or_false] at hb
  · rcases hb with rfl | rfl <;> decide
  · rcases hb with rfl | rfl <;> decide
  · rcases hb with rfl | rfl <;> decide
  · rcases hb with rfl | rfl <;> decide
  · rcases hb with rfl | rfl <;> decide
  · rcases hb with rfl | rfl | rfl | rfl
    · decide
    · decide
    · exact e1
    · exact e2
  · subst hb; exact h
theorem valid_ascii : ∀ (l m : List UInt8), (∀ b ∈ l, b.toNat < 128) → validD (l ++ m) = validD m
  | [], _, _ => rfl
  | b :: l, m, h => by
    rw [List.cons_append, validD_cons b _ (h b (by simp))]
    exact valid_ascii l m (fun x hx => h x (by simp [hx]))
/-- What is written of a valid text is valid. -/
theorem flat_valid : ∀ (f : Nat) (l : List UInt8), l.length ≤ f → validD l = true → validD (l.flatMap escB) = true
  | _, [], _, _ => rfl
  | 0, x :: l, hf, _ => by simp at hf
  | f + 1, x :: l, hf, hv => by
    have hne : (x :: l : List UInt8) ≠ [] := by simp
    obtain ⟨hk, _, hd⟩ := validD_lonL _ hne hv
    have hle := lonL_le _ hne
    have ih := flat_valid f _ (by rw [List.length_drop]; simp only [List.length_cons] at hf ⊢; omega) hd
    have hsplit : (x :: l).flatMap escB = ((x :: l).take (lonL (x :: l))).flatMap escB ++ ((x :: l).drop (lonL (x :: l))).flatMap escB := by
      rw [← List.flatMap_append, List.take_append_drop]
    rw [hsplit]
    by_cases h1 : lonL (x :: l) = 1
    · have ha : x.toNat < 128 := longN_one _ _ _ _ _ h1
      rw [h1] at ih ⊢
      simp only [List.take_succ_cons, List.take_zero, List.flatMap_cons, List.flatMap_nil, List.append_nil]
      rw [valid_ascii _ _ (esc_ascii ha)]
      exact ih
    · have hh := rune_high (x :: l) (by omega)
      rw [flat_high _ hh]
      have hp := lonL_pre (x :: l) (((x :: l).drop (lonL (x :: l))).flatMap escB) hne hk
      refine validD_of_lonL _ (by intro e; have := congrArg List.length e; simp only [List.length_append, List.length_take, List.length_nil] at this; omega) (by rw [hp]; exact hk) ?_
      rw [hp, List.drop_append, List.drop_eq_nil_of_le (by rw [List.length_take]; omega), List.nil_append, List.length_take, Nat.min_eq_left hle, Nat.sub_self, List.drop_zero]
      exact ih
/-- A high byte stands for itself. -/
theorem flat_head_high {l r : List UInt8} {h : UInt8} (e : l.flatMap escB = h :: r) (hh : 128 ≤ h.toNat) : ∃ l', l = h :: l' ∧ r = l'.flatMap escB := by
  cases l with
  | nil => cases e
  | cons c l =>
    rw [List.flatMap_cons] at e
    by_cases hc : c.toNat < 128
    · exfalso
      have hlen := (escB_len c).1
      cases hE : escB c with
      | nil => rw [hE] at hlen; simp at hlen
      | cons b t =>
        rw [hE] at e
        have hb := esc_ascii hc b (by rw [hE]; simp)
        have := (List.cons.inj e).1
        rw [this] at hb
        omega
    · rw [escB_high (by omega)] at e
      have := List.cons.inj e
      exact ⟨l, by rw [this.1], this.2.symm⟩
open Go.Lib

theorem take_high : ∀ (k : Nat) (l : List UInt8) (X : List UInt8), l.flatMap escB = X → k ≤ X.length → (∀ b ∈ X.take k, 128 ≤ b.toNat) → ∃ l', l = X.take k ++ l' ∧ X.drop k = l'.flatMap escB
  | 0, l, X, h, _, _ => ⟨l, by simp, by simpa using h.symm⟩
  | k + 1, l, [], h, hk, _ => by simp at hk
  | k + 1, l, h0 :: X, h, hk, hb => by
    obtain ⟨l1, rfl, e⟩ := flat_head_high h (hb h0 (by simp))
    obtain ⟨l2, e1, e2⟩ := take_high k l1 X e.symm (by simpa using hk) (fun b hm => hb b (by simp [hm]))
    exact ⟨l2, by rw [List.take_succ_cons, List.cons_append, ← e1], by rw [List.drop_succ_cons]; exact e2⟩
theorem decodeL_ascii (b : UInt8) (t : List UInt8) (h : b.toNat < 128) : decodeL (b :: t) = (b.toNat, 1) := by
  rw [decodeL_N]
  simp [decodeN, h]
theorem enc_ascii (c : UInt8) (h : c.toNat < 128) : encodeRune (c.toNat : Int) = [c] := by
  unfold encodeRune
  rw [encodeRuneZ_one (by omega) (by omega)]
  simp
theorem valid_tail {c : UInt8} {l : List UInt8} (h : c.toNat < 128) (hv : validD (c :: l) = true) : validD l = true := by rw [validD_cons c l h] at hv; exact hv
/-- A byte that is written with an escape is an ASCII one, and its escape begins with a quote or a backslash. -/
theorem esc_head (c : UInt8) : (∃ t, escB c = c :: t ∧ t = [] ∧ c ≠ 39 ∧ c ≠ 92) ∨ (c.toNat < 128 ∧ ∃ b t, escB c = b :: t ∧ (b = 39 ∨ b = 92)) := by
  unfold escB
  by_cases h1 : c = 39
  · subst h1; exact .inr ⟨by decide, 39, [39], rfl, .inl rfl⟩
  by_cases h2 : c = 92
  · subst h2; exact .inr ⟨by decide, 92, [92], rfl, .inr rfl⟩
  by_cases h3 : c = 10
  · subst h3; exact .inr ⟨by decide, 92, [110], rfl, .inr rfl⟩
  by_cases h4 : c = 13
  · subst h4; exact .inr ⟨by decide, 92, [114], rfl, .inr rfl⟩
  by_cases h5 : c = 9
  · subst h5; exact .inr ⟨by decide, 92, [116], rfl, .inr rfl⟩
  rw [if_neg h1, if_neg h2, if_neg h3, if_neg h4, if_neg h5]
  by_cases h6 : c < 32 ∨ c = 127
  · rw [if_pos h6]
    refine .inr ⟨?_, 92, _, rfl, .inr rfl⟩
    rcases h6 with h | h
    · have := UInt8.lt_iff_toNat_lt.1 h
      have e : (32 : UInt8).toNat = 32 := rfl
      omega
    · subst h; decide
  · rw [if_neg h6]
    exact .inl ⟨[], rfl, rfl, h1, h2⟩
theorem dv_fin : ∀ i : Fin 16, dvZ (hexD i.val) = (i.val : Int) := by decide
theorem dv_hex {n : Nat} (h : n < 16) : dvZ (hexD n) = (n : Int) := dv_fin ⟨n, h⟩
theorem get_of (l : List UInt8) (i : Nat) (h : i < l.length) : (⟨l.toArray⟩ : ByteArray).get! i = l.getD i 0 := by
  simp only [ByteArray.get!]
  rw [getElem!_pos l.toArray i (by simpa using h)]
  simp [List.getD, h]
theorem unhex_esc (n : Nat) (h : n < 256) (x : List UInt8) : unhexS ⟨(hexD (n / 16) :: hexD (n % 16) :: x).toArray⟩ = ((n : Int), 4) := by
  unfold unhexS
  rw [if_neg (by show ¬ (hexD (n / 16) :: hexD (n % 16) :: x).toArray.size < 2; simp), get_of _ 0 (by simp), get_of _ 1 (by simp)]
  show optP (puS (hexD (n / 16)) (hexD (n % 16))) = _
  have e1 := dv_hex (n := n / 16) (by omega)
  have e2 := dv_hex (n := n % 16) (by omega)
  unfold puS
  rw [if_pos ⟨by omega, by omega⟩, e1, e2]
  show ((16 * ((n / 16 : Nat) : Int) + ((n % 16 : Nat) : Int)), (4 : Int)) = _
  congr 1
  omega
theorem unesc_two (a b : UInt8) (x : List UInt8) : unescS ⟨(a :: b :: x).toArray⟩ = escP a b (unhexS ⟨x.toArray⟩) := by
  unfold unescS
  rw [if_neg (by show ¬ (a :: b :: x).toArray.size < 2; simp), get_of _ 0 (by simp), get_of _ 1 (by simp)]
  have e : (⟨(a :: b :: x).toArray⟩ : ByteArray).extract 2 (⟨(a :: b :: x).toArray⟩ : ByteArray).size = ⟨x.toArray⟩ := by
    refine bytes_ext ?_
    have : (⟨(a :: b :: x).toArray⟩ : ByteArray).size = x.length + 2 := by show (a :: b :: x).toArray.size = _; simp
    rw [this]
    simp [ByteArray.data_extract]
  rw [e]
  rfl
/-- An escape is read back. -/
theorem unesc_esc (c : UInt8) (x : List UInt8) (hc : ¬ ∃ t, escB c = c :: t ∧ t = [] ∧ c ≠ 39 ∧ c ≠ 92) : unescS ⟨(escB c ++ x).toArray⟩ = ((c.toNat : Int), ((escB c).length : Int)) := by
  by_cases h1 : c = 39
  · subst h1; rw [show escB 39 ++ x = 39 :: 39 :: x from rfl, unesc_two]; rfl
  by_cases h2 : c = 92
  · subst h2; rw [show escB 92 ++ x = 92 :: 92 :: x from rfl, unesc_two]; rfl
  by_cases h3 : c = 10
  · subst h3; rw [show escB 10 ++ x = 92 :: 110 :: x from rfl, unesc_two]; rfl
  by_cases h4 : c = 13
  · subst h4; rw [show escB 13 ++ x = 92 :: 114 :: x from rfl, unesc_two]; rfl
  by_cases h5 : c = 9
  · subst h5; rw [show escB 9 ++ x = 92 :: 116 :: x from rfl, unesc_two]; rfl
  by_cases h6 : c < 32 ∨ c = 127
  · have e : escB c = [92, 120, hexD (c.toNat / 16), hexD (c.toNat % 16)] := by unfold escB; rw [if_neg h1, if_neg h2, if_neg h3, if_neg h4, if_neg h5, if_pos h6]
    rw [e]
    show unescS ⟨(92 :: 120 :: hexD (c.toNat / 16) :: hexD (c.toNat % 16) :: x).toArray⟩ = _
    rw [unesc_two, unhex_esc c.toNat c.toNat_lt]
    rfl
  · exfalso
    refine hc ⟨[], ?_, rfl, h1, h2⟩
    unfold escB
    rw [if_neg h1, if_neg h2, if_neg h3, if_neg h4, if_neg h5, if_neg h6]
/-- One step where the next rune is a quote or a backslash. -/
theorem step_esc {l X : List UInt8} (hv : validD l = true) (h : l.flatMap escB = X) (hne : X ≠ []) (hr : (decodeL X).1 = 39 ∨ (decodeL X).1 = 92) :
    ∃ c l3, l = c :: l3 ∧ validD l3 = true ∧ unescS ⟨X.toArray⟩ = ((c.toNat : Int), ((escB c).length : Int)) ∧ encodeRune (c.toNat : Int) = [c] ∧ X.drop (escB c).length = l3.flatMap escB ∧ (∀ j, j < (escB c).length → (X.getD j 0).toNat < 128) := by
  cases l with
  | nil => exact absurd h.symm hne
  | cons c l3 =>
    rw [List.flatMap_cons] at h
    rcases esc_head c with ⟨t, e, et, n1, n2⟩ | ⟨hc, b, t, e, hb⟩
    · exfalso
      rw [e, et] at h
      by_cases ha : c.toNat < 128
      · rw [← h, List.cons_append, List.nil_append, decodeL_ascii c _ ha] at hr
        rcases hr with g | g
        · exact n1 (UInt8.toNat_inj.1 g)
        · exact n2 (UInt8.toNat_inj.1 g)
      · have hX : validD X = true := by
          rw [← h]
          have := flat_valid _ (c :: l3) (Nat.le_refl _) hv
          rw [List.flatMap_cons, e, et] at this
          exact this
        obtain ⟨hk, _, _⟩ := validD_lonL X hne hX
        have hd : ¬ ((decodeL X).1 = 65533 ∧ (decodeL X).2 = 1) := by omega
        have he := encode_decode X hne hd
        rcases hr with g | g
        · rw [g, show ((39 : Nat) : Int) = ((39 : UInt8).toNat : Int) from rfl, enc_ascii 39 (by decide)] at he
          have := congrArg (fun z : List UInt8 => z.headD 0) he
          rw [← h] at this
          have hw := (validD_lonL X hne hX).2.1
          rw [← h] at hw hk
          simp only [List.headD_cons, List.cons_append, List.nil_append] at this
          rw [show (decodeL (c :: l3.flatMap escB)).2 = ((decodeL (c :: l3.flatMap escB)).2 - 1) + 1 by
            have := hw; simp only [List.cons_append, List.nil_append] at this hk; omega, List.take_succ_cons, List.headD_cons] at this
          exact n1 this.symm
        · rw [g, show ((92 : Nat) : Int) = ((92 : UInt8).toNat : Int) from rfl, enc_ascii 92 (by decide)] at he
          have := congrArg (fun z : List UInt8 => z.headD 0) he
          rw [← h] at this
          have hw := (validD_lonL X hne hX).2.1
          rw [← h] at hw hk
          simp only [List.headD_cons, List.cons_append, List.nil_append] at this
          rw [show (decodeL (c :: l3.flatMap escB)).2 = ((decodeL (c :: l3.flatMap escB)).2 - 1) + 1 by
            have := hw; simp only [List.cons_append, List.nil_append] at this hk; omega, List.take_succ_cons, List.headD_cons] at this
          exact n2 this.symm
    · have hn : ¬ ∃ t, escB c = c :: t ∧ t = [] ∧ c ≠ 39 ∧ c ≠ 92 := by
        rintro ⟨t', e', _, n1, n2⟩
        rw [e] at e'
        rcases hb with hb | hb
        · exact n1 ((List.cons.inj e').1.symm.trans hb)
        · exact n2 ((List.cons.inj e').1.symm.trans hb)
      refine ⟨c, l3, rfl, valid_tail hc hv, by rw [← h]; exact unesc_esc c _ hn, enc_ascii c hc, by rw [← h]; simp, ?_⟩
      intro j hj
      rw [← h, getD_app _ _ _ hj]
      refine esc_ascii hc _ ?_
      simp only [List.getD, List.getElem?_eq_getElem hj, Option.getD_some]
      exact List.getElem_mem hj
/-- One step where it is none. -/
theorem step_plain {l X : List UInt8} (hv : validD l = true) (h : l.flatMap escB = X) (hne : X ≠ []) (hr : ¬ ((decodeL X).1 = 39 ∨ (decodeL X).1 = 92)) :
    ∃ l', l = encodeRune ((decodeL X).1 : Int) ++ l' ∧ validD l' = true ∧ X.drop (decodeL X).2 = l'.flatMap escB := by
  have hX : validD X = true := by rw [← h]; exact flat_valid _ _ (Nat.le_refl _) hv
  obtain ⟨hk, hw, _⟩ := validD_lonL X hne hX
  have hd : ¬ ((decodeL X).1 = 65533 ∧ (decodeL X).2 = 1) := by
    intro g
    have := lonL_eq X hne
    rw [if_pos (Prod.ext g.1 g.2)] at this
    exact hk this
  rw [encode_decode X hne hd, hw]
  by_cases h1 : lonL X = 1
  · cases X with
    | nil => exact absurd rfl hne
    | cons b t =>
      have ha : b.toNat < 128 := longN_one _ _ _ _ _ h1
      rw [decodeL_ascii b t ha] at hr
      cases l with
      | nil => cases h
      | cons c l3 =>
        rw [List.flatMap_cons] at h
        rcases esc_head c with ⟨t', e, et, _, _⟩ | ⟨_, b', t', e, hb⟩
        · rw [e, et] at h
          have hcb := (List.cons.inj h).1
          subst hcb
          rw [h1]
          exact ⟨l3, by simp, valid_tail ha hv, by simpa using (List.cons.inj h).2.symm⟩
        · exfalso
          rw [e] at h
          have hbb := (List.cons.inj h).1
          rw [hbb] at hb
          rcases hb with hb | hb
          · exact hr (.inl (by rw [hb]; rfl))
          · exact hr (.inr (by rw [hb]; rfl))
  · have hh := rune_high X (by omega)
    obtain ⟨l', e1, e2⟩ := take_high (lonL X) l X h (lonL_le X hne) hh
    refine ⟨l', e1, ?_, e2⟩
    have hlp := lonL_pre X l' hne hk
    have hle := lonL_le X hne
    have hl : l ≠ [] := by rw [e1]; intro e; have := congrArg List.length e; rw [List.length_append, List.length_take, List.length_nil] at this; omega
    obtain ⟨_, _, hv3⟩ := validD_lonL l hl hv
    rw [e1, hlp, List.drop_append, List.drop_eq_nil_of_le (by rw [List.length_take]; omega), List.nil_append, List.length_take, Nat.min_eq_left hle, Nat.sub_self, List.drop_zero] at hv3
    exact hv3
open Go.RowKit Go.Lib

theorem suffix_quote (l : List UInt8) : Lib.hasSuffix (quoteL l) [39] = true := by
  show List.isSuffixOf [39] (39 :: (l.flatMap escB ++ [39])) = true
  rw [List.isSuffixOf_iff_suffix]
  exact ⟨39 :: l.flatMap escB, rfl⟩
/-- What unquote answers. -/
def OutU (s : ByteArray) (e : Ending) : Prop :=
  ∃ t ok, e = .returned (.tuple #[.string t, .bool ok]) ∧ t.size ≤ 4 * s.size + 16 ∧ ∀ l, validD l = true → s.data.toList = quoteL l → ok = true ∧ t = ⟨l.toArray⟩
theorem outU_bad {s : ByteArray} (h : ∀ l, validD l = true → s.data.toList = quoteL l → False) : OutU s (.returned (.tuple #[.string ⟨#[]⟩, .bool false])) :=
  ⟨⟨#[]⟩, false, rfl, Nat.zero_le _, fun l hv e => (h l hv e).elim⟩
/-- What is known of a place, where the text is what is written of l. -/
def InvU (m : List UInt8) (l : List UInt8) (p n : Nat) (acc : List UInt8) : Prop :=
  ∃ l2, acc ++ l2 = l ∧ validD l2 = true ∧ m.drop (max p n) = l2.flatMap escB ∧ ∀ j, p ≤ j → j < n → (m.getD j 0).toNat < 128
/-- What the rounds hold. -/
def RelU (m : ByteArray) (w : World) (nx : Value) (wr : World) : Prop :=
  ∃ (p n : Nat) (acc : List UInt8), nx = .int .i64 (n : Int) ∧ n ≤ p + 4 ∧ Lib.IsBuilderF 96 5 w.heap.size w.heap.size (Lib.byteCells acc) wr ∧ wr.heap[w.heap.size + 1]? = some (.stringIter m p) ∧ Below w.heap.size w wr ∧ acc.length ≤ 4 * p ∧ p ≤ m.size + 4 ∧
    ∀ l, validD l = true → m.data.toList = l.flatMap escB → InvU m.data.toList l p n acc
theorem unescS_range (s : ByteArray) : 0 ≤ (unescS s).1 ∧ (unescS s).1 ≤ 255 ∧ 0 ≤ (unescS s).2 ∧ (unescS s).2 ≤ 4 := by
  have hu : ∀ t : ByteArray, 0 ≤ (unhexS t).1 ∧ (unhexS t).1 ≤ 255 ∧ 0 ≤ (unhexS t).2 ∧ (unhexS t).2 ≤ 4 := by
    intro t
    unfold unhexS
    split
    · decide
    · cases h : puS (t.get! 0) (t.get! 1) with
      | none => decide
      | some n =>
        have := puS_range h
        exact ⟨this.1, this.2, (by decide : (0 : Int) ≤ 4), (by decide : (4 : Int) ≤ 4)⟩
  unfold unescS escP
  repeat' split
  all_goals first | decide | exact hu _
theorem decN_le (n a b c d : Nat) : (decodeN n a b c d).2 ≤ 4 := by
  unfold decodeN
  repeat' split
  all_goals first | decide | (dsimp only; omega)
theorem drop_list (m : ByteArray) (p : Nat) : (m.extract p m.size).data.toList = m.data.toList.drop p := by
  simp [ByteArray.data_extract]
  exact List.take_of_length_le (by rw [List.length_drop, size_list]; exact Nat.le_refl _)
theorem mid_list {s : ByteArray} {l : List UInt8} (e : s.data.toList = quoteL l) : (s.extract 1 (s.size - 1)).data.toList = l.flatMap escB := by
  have hz : s.size = (l.flatMap escB).length + 2 := by rw [← size_list, e]; unfold quoteL; simp
  have h1 : (s.extract 1 (s.size - 1)).data.toList = (s.data.toList.take (s.size - 1)).drop 1 := by
    simp [ByteArray.data_extract, List.drop_take]
  rw [h1, e, hz]
  unfold quoteL
  simp
theorem isB_below {T e B b : Nat} {bs : List Value} {w w' : World} (hb : Below w.heap.size w w') (hI : Lib.IsBuilderF T e B b bs w) : Lib.IsBuilderF T e B b bs w' := by
  have hk : ∀ p, Lib.BuilderAtF T e B b p bs w → Lib.BuilderAtF T e B b p bs w' := by
    rintro p ⟨h1, v, h2, ⟨h3, h4⟩, h5⟩
    refine ⟨h1, v, (hb.block b (lt_of_block h2)).trans h2, ⟨h3, ?_⟩, h5⟩
    rcases h4 with h4 | ⟨g, cap, cur, fz, hv, hg, hh, hr⟩
    · exact .inl h4
    · exact .inr ⟨g, cap, cur, fz, hv, hg, (hb.block g (lt_of_block hh)).trans hh, hr⟩
  exact hI.elim (fun x => .inl (hk _ x)) (fun x => .inr (hk _ x))
theorem encR_len (r : Int) : (encodeRune r).length ≤ 4 := by
  have := encodeRuneZ_length r
  unfold encodeRune
  simpa using this.2
theorem getD_drop (l : List UInt8) (p j : Nat) : (l.drop p).getD j 0 = l.getD (p + j) 0 := by simp [List.getD]
theorem dec_one (X : List UInt8) (hne : X ≠ []) (h : (X.getD 0 0).toNat < 128) : (decodeL X).2 = 1 := by
  cases X with
  | nil => exact absurd rfl hne
  | cons b t => rw [decodeL_ascii b t h]
theorem of_list {X : ByteArray} {l : List UInt8} (h : X.data.toList = l) : X = ⟨l.toArray⟩ := bytes_ext (by simpa using h)
theorem ret_tb {t : ByteArray} {s : ByteArray} {ok : Bool} (h1 : t.size ≤ 4 * s.size + 16) (h2 : ∀ l, validD l = true → s.data.toList = quoteL l → ok = true ∧ t = ⟨l.toArray⟩) : OutU s (.returned (.tuple #[.string t, .bool ok])) := ⟨t, ok, rfl, h1, h2⟩

set_option maxHeartbeats 8000000 in
set_option maxRecDepth 1000000 in
theorem unquote_any (s : ByteArray) (w : World) (hE : ErrV w) (hs : s.size ≤ 1099511627776) :
    Calls Tryz.prog 100 #[.string s] w fun e w' => OutU s e ∧ Below w.heap.size w w' := by
  have hEH := Lib.hid hE
  clear hE
  by_cases h2 : s.size < 2
  · have hg : (s.size : Int) < 2 := by omega
    have hoH := Lib.hid (outU_bad (s := s) (fun l _ e => by have := congrArg List.length e; rw [size_list] at this; unfold quoteL at this; simp at this; omega))
    go_enter Tryz.func100, Tryz.ntmps100
    go_wp2
    go_ret2
    exact ⟨hoH.out, by go_grown⟩
  have hg : ¬ (s.size : Int) < 2 := by omega
  obtain ⟨u, hu⟩ : ∃ u, Lib.hasSuffix s.data.toList [39] = u := ⟨_, rfl⟩
  have huH := Lib.hid hu
  cases u with
  | false =>
    have hoH := Lib.hid (outU_bad (s := s) (fun l _ e => by rw [e, suffix_quote] at hu; cases hu))
    clear hu
    go_enter Tryz.func100, Tryz.ntmps100
    go_wp2_with (go_at_call 128; go_must (refine (Tryz.strings_HasSuffix s ⟨#[39]⟩ _ (by omega)).mono ?_; rw [show Lib.hasSuffix s.data.toList (⟨#[39]⟩ : ByteArray).data.toList = false from huH.out]; rintro e w' ⟨rfl, hw⟩; replace hw := hw.symm; subst hw))
    go_ret2
    exact ⟨hoH.out, by go_grown⟩
  | true =>
    clear hu
    obtain ⟨m, hm⟩ : ∃ m, s.extract 1 (s.size - 1) = m := ⟨_, rfl⟩
    have hmz : m.size ≤ s.size := by rw [← hm, ByteArray.size_extract]; omega
    have hmH := Lib.hid hm
    have e1 : (1 : Int) ≤ (s.size : Int) - 1 := by omega
    have e2 : ((s.size : Int) - 1).toNat = s.size - 1 := by omega
    have e3 : (s.size : Int) - 1 ≤ s.size := by omega
    go_enter Tryz.func100, Tryz.ntmps100
    go_wp2_with (go_at_call 128; go_must (refine (Tryz.strings_HasSuffix s ⟨#[39]⟩ _ (by omega)).mono ?_; rw [show Lib.hasSuffix s.data.toList (⟨#[39]⟩ : ByteArray).data.toList = true from huH.out]; rintro e w' ⟨rfl, hw⟩; replace hw := hw.symm; subst hw))
    have hB0 : Lib.IsBuilderF 96 5 w.heap.size w.heap.size (Lib.byteCells []) (w.alloc (.cells #[.pointer none, .slice none 0 0] 96)) :=
      .inl ⟨Nat.le_refl _, .slice none 0 0, heap_alloc_new w _, World.ownsRowF_nil _ _ _ _, by simp [Value.ownBlock]⟩
    go_loopw [5] (fun nx wr => RelU m w nx wr) (fun _ wr => m.size - wr.iterPos (w.heap.size + 1))
    case atStart =>
      refine ⟨0, 0, [], rfl, by omega, hB0.alloc _, ?_, ((Below.refl _ w).alloc (Nat.le_refl _) _).alloc (by simp) _, by simp, Nat.zero_le _, fun l hv e => ⟨l, by simp, hv, by simpa using e, fun j _ h => absurd h (by omega)⟩⟩
      have := World.iter_heap (w.alloc (.cells #[.pointer none, .slice none 0 0] 96)) m 0
      simpa using this
    case round =>
      clear hB0
      unfold RelU at hrel
      obtain ⟨p, n, acc, rfl, hnp, hI, hit, hbw, hal, hpm, hinv⟩ := hrel
      have hsz : w.heap.size + 1 < wr.heap.size := (Array.getElem?_eq_some_iff.1 hit).1
      have hinvH := Lib.hid hinv
      clear hinv
      by_cases hp : p < m.size
      · have hnx : ∀ ty, (Instr.next (.pointer (some ⟨w.heap.size + 1, 0, none⟩)) true ty).run Tryz.prog wr = _ := fun ty => Lib.run_next_any_at wr (w.heap.size + 1) m p ty hit hp
        have hwd : 1 ≤ (Utf8.decode m p).2 := decode_width_pos m p hp
        have hI2 := hI.iterAt hit (p + (Utf8.decode m p).2)
        have hit2 := Lib.iterAt_heap wr (w.heap.size + 1) m p (p + (Utf8.decode m p).2) hit
        have hbw2 := Lib.below_iterAt hbw (k := w.heap.size + 1) (by omega) m (p + (Utf8.decode m p).2)
        have hit0 := Lib.hid hit
        have hrle := Lib.rune_le m p
        have hsz2 : w.heap.size ≤ (wr.iterAt (w.heap.size + 1) m (p + (Utf8.decode m p).2)).heap.size := by rw [Lib.iterAt_size]; omega
        obtain ⟨r, hr⟩ : ∃ r, (Utf8.decode m p).1 = r := ⟨_, rfl⟩
        obtain ⟨k, hk⟩ : ∃ k, (Utf8.decode m p).2 = k := ⟨_, rfl⟩
        have hdec : decodeL (m.data.toList.drop p) = (r, k) := by rw [decodeL_drop]; exact Prod.ext hr hk
        have hdecH := Lib.hid hdec
        rw [hr, hk] at hnx
        rw [hr] at hrle
        rw [hk] at hwd hI2 hit2 hbw2 hsz2
        have hk4 : k ≤ 4 := by rw [← hk, ← decodeL_drop, decodeL_N]; exact decN_le _ _ _ _ _
        have hI2H := Lib.hid hI2; have hit2H := Lib.hid hit2; have hbw2H := Lib.hid hbw2
        have hlen : m.data.toList.length = m.size := size_list m
        have hlenH := Lib.hid hlen
        clear hdec hk hI hit hbw hI2 hit2 hbw2 hlen
        by_cases hn : p < n
        · have hni : (p : Int) < (n : Int) := by omega
          go_wp2_with fail
          go_roundw
          case rel =>
            refine ⟨p + k, n, acc, rfl, by omega, hI2H.out, hit2H.out, hbw2H.out, by omega, by omega, fun l hv e => ?_⟩
            obtain ⟨l2, q1, q2, q3, q4⟩ := hinvH.out l hv e
            have hasc := q4 p (Nat.le_refl _) hn
            have hkk : k = 1 := by
              have hx := hdecH.out
              rw [toList_drop m p hp, decodeL_ascii _ _ (by rw [show m.data.toList.getD p 0 = m.get! p by have := toList_drop m p hp; have h3 := congrArg (fun z : List UInt8 => z.getD 0 0) this; simpa [List.getD] using h3] at hasc; exact hasc)] at hx
              exact (Prod.mk.inj hx).2.symm
            exact ⟨l2, q1, q2, by rw [← q3]; congr 1; omega, fun j h1 h2 => q4 j (by omega) h2⟩
          case measure =>
            simp only [World.iterPos, hit2H.out, hit0.out]
            omega
        · have hni : ¬ (p : Int) < (n : Int) := by omega
          have hXne : m.data.toList.drop p ≠ [] := drop_ne m p hp
          have hr0 : (0 : Int) ≤ (r : Int) := by omega
          have hr1 : (r : Int) ≤ 1114111 := by omega
          by_cases hq1 : r = 39 ∨ r = 92
          · obtain ⟨X, hX⟩ : ∃ X, m.extract p m.size = X := ⟨_, rfl⟩
            have hXl : X.data.toList = m.data.toList.drop p := by rw [← hX]; exact drop_list m p
            have hXz : X.size ≤ m.size := by rw [← size_list, hXl, List.length_drop, size_list]; omega
            obtain ⟨q, hq⟩ : ∃ q, unescS X = q := ⟨_, rfl⟩
            have hqr := unescS_range X
            rw [hq] at hqr
            obtain ⟨g0, g1, g2, g3⟩ := hqr
            have hqH := Lib.hid hq
            obtain ⟨q1, q2⟩ := q
            simp only at g0 g1 g2 g3
            have hstep : Hid (∀ l, validD l = true → m.data.toList = l.flatMap escB → ∃ c l3, acc ++ c :: l3 = l ∧ validD l3 = true ∧ q1 = (c.toNat : Int) ∧ q2 = ((escB c).length : Int) ∧ encodeRune q1 = [c] ∧ m.data.toList.drop (p + (escB c).length) = l3.flatMap escB ∧ (∀ j, j < (escB c).length → (m.data.toList.getD (p + j) 0).toNat < 128) ∧ k = 1) := Lib.hid (fun l hv e => by
              obtain ⟨l2, w1, w2, w3, w4⟩ := hinvH.out l hv e
              rw [show max p n = p by omega] at w3
              obtain ⟨c, l3, v1, v2, v3, v4, v5, v6⟩ := step_esc w2 w3.symm hXne (by rw [hdecH.out]; exact hq1)
              have hXX : (⟨(m.data.toList.drop p).toArray⟩ : ByteArray) = X := (of_list hXl).symm
              rw [hXX, hqH.out] at v3
              have v31 := (Prod.mk.inj v3).1
              have v32 := (Prod.mk.inj v3).2
              have hk1 := dec_one _ hXne (v6 0 (by have := (escB_len c).1; omega))
              rw [hdecH.out] at hk1
              refine ⟨c, l3, by rw [← v1]; exact w1, v2, v31, v32, by rw [v31]; exact v4, by rw [← List.drop_drop]; exact v5, fun j hj => by rw [← getD_drop]; exact v6 j hj, hk1⟩)
            have hxi : (p : Int) ≤ (m.size : Int) := by omega
            have hXzH := Lib.hid (show X.size ≤ 9223372036854775807 by omega)
            clear hq hXl
            have hzz : Hid (r = 39 ∨ r = 92) := Lib.hid hq1
            have hcases : (((r : Int) == 39) = true) ∨ ((((r : Int) == 39) = false) ∧ (((r : Int) == 92) = true)) := by
              rcases hq1 with rfl | rfl
              · exact .inl rfl
              · exact .inr ⟨rfl, rfl⟩
            clear hq1
            by_cases hz : q2 = 0
            · have hoH := Lib.hid (outU_bad (s := s) (fun l hv e => by
                have hml : m.data.toList = l.flatMap escB := by rw [← hmH.out]; exact mid_list e
                obtain ⟨c, l3, _, _, _, x4, _⟩ := hstep.out l hv hml
                have := (escB_len c).1
                omega))
              subst hz
              rcases hcases with z1 | ⟨z1, z2⟩
              all_goals
                go_wp2_with (go_at_call 129; go_must (refine (unescape_any X _ (by exact hEH.out.below hbw2H.out) hXzH.out).mono ?_; rw [hqH.out]; rintro e w3 ⟨rfl, hb3⟩))
                go_ret2
                exact ⟨hoH.out, hbw2H.out.trans (hb3.mono hsz2)⟩
            · have hzb : (q2 == 0) = false := by simpa using hz
              rcases hcases with z1 | ⟨z1, z2⟩
              all_goals
                go_wp2_with (first
                  | (go_at_call 129; go_must (refine (unescape_any X _ (by exact hEH.out.below hbw2H.out) hXzH.out).mono ?_; rw [hqH.out]; rintro e w3 ⟨rfl, hb3⟩; have hI3 := isB_below hb3 hI2H.out; have hit3 := (hb3.block _ (lt_of_block hit2H.out)).trans hit2H.out; have hbw3 := hbw2H.out.trans (hb3.mono hsz2); have hsz3 := Nat.le_trans hsz2 hb3.size; have hI3H := Lib.hid hI3; have hit3H := Lib.hid hit3; clear hI3 hit3 hb3))
                  | (go_at_call 130; go_must (refine (writeRune_k w.heap.size w.heap.size (Lib.byteCells acc) q1 (by omega) (by omega) _ hI3H.out (by rw [Lib.byteCells_length]; omega) hsz3).mono ?_; rintro e w4 ⟨kk, rfl, h1, b1, k1⟩; have hit4 := k1.iter hit3H.out (by omega); have hit4H := Lib.hid hit4; have h1H := Lib.hid h1; have hbw4 := Lib.hid (hbw3.trans b1); clear hit4 h1 k1 b1)))
                go_roundw
                case rel =>
                  refine ⟨p + k, p + q2.toNat, acc ++ encodeRune q1, by first | rfl | go_num, by omega, ?_, hit4H.out, hbw4.out, ?_, by omega, ?_⟩
                  · rw [Lib.byteCells_append, Lib.byteCells_encodeRune]; exact .inr h1H.out
                  · have := encR_len q1
                    rw [List.length_append]; omega
                  · intro l hv e
                    obtain ⟨c, l3, x1, x2, x3, x4, x5, x6, x7, x8⟩ := hstep.out l hv e
                    have hl1 := (escB_len c).1
                    refine ⟨l3, by rw [x5, List.append_assoc]; exact x1, x2, ?_, ?_⟩
                    · rw [show max (p + k) (p + q2.toNat) = p + (escB c).length by omega]; exact x6
                    · intro j j1 j2
                      have := x7 (j - p) (by omega)
                      rw [show p + (j - p) = j by omega] at this
                      exact this
                case measure =>
                  simp only [World.iterPos, hit4H.out, hit0.out]
                  omega
          · have z1 : ((r : Int) == 39) = false := by simp; omega
            have z2 : ((r : Int) == 92) = false := by simp; omega
            have hq1H := Lib.hid hq1
            clear hq1
            go_wp2_with (go_at_call 130; go_must (refine (writeRune_k w.heap.size w.heap.size (Lib.byteCells acc) (r : Int) (by omega) (by omega) _ hI2H.out (by rw [Lib.byteCells_length]; omega) hsz2).mono ?_; rintro e w4 ⟨kk, rfl, h1, b1, k1⟩; have hit4 := k1.iter hit2H.out (by omega); have hit4H := Lib.hid hit4; have h1H := Lib.hid h1; have hbw4 := Lib.hid (hbw2H.out.trans b1); clear hit4 h1 k1 b1))
            go_roundw
            case rel =>
              refine ⟨p + k, n, acc ++ encodeRune (r : Int), rfl, by omega, ?_, hit4H.out, hbw4.out, ?_, by omega, ?_⟩
              · rw [Lib.byteCells_append, Lib.byteCells_encodeRune]; exact .inr h1H.out
              · have := encR_len (r : Int)
                rw [List.length_append]; omega
              · intro l hv e
                obtain ⟨l2, w1, w2, w3, w4⟩ := hinvH.out l hv e
                rw [show max p n = p by omega] at w3
                obtain ⟨l', v1, v2, v3⟩ := step_plain w2 w3.symm hXne (by rw [hdecH.out]; exact hq1H.out)
                rw [hdecH.out] at v1 v3
                refine ⟨l', by rw [List.append_assoc, ← v1]; exact w1, v2, ?_, fun j j1 j2 => by omega⟩
                rw [show max (p + k) n = p + k by omega, ← List.drop_drop]; exact v3
            case measure =>
              simp only [World.iterPos, hit4H.out, hit0.out]
              omega
      · have hnx : ∀ ty, (Instr.next (.pointer (some ⟨w.heap.size + 1, 0, none⟩)) true ty).run Tryz.prog wr = _ := fun ty => Lib.run_next_end_at wr (w.heap.size + 1) m p ty hit hp
        have hfin : OutU s (.returned (.tuple #[.string ⟨acc.toArray⟩, .bool true])) := by
          refine ret_tb (by show acc.toArray.size ≤ _; rw [List.size_toArray]; omega) (fun l hv e => ⟨rfl, ?_⟩)
          have hml : m.data.toList = l.flatMap escB := by
            rw [← hmH.out]
            exact mid_list e
          obtain ⟨l2, q1, q2, q3, q4⟩ := hinvH.out l hv hml
          have : l2.flatMap escB = [] := by rw [← q3]; exact List.drop_eq_nil_of_le (by rw [size_list]; omega)
          have : l2 = [] := flat_inj l2 [] this
          rw [← q1, this, List.append_nil]
        have hfinH := Lib.hid hfin
        clear hfin
        go_wp2_with (go_at_call 57; go_must (refine (Tryz.Builder_String_any_k w.heap.size w.heap.size acc wr hI hbw.size).mono ?_; rintro e w5 ⟨rfl, _, b2, _⟩))
        go_ret2
        exact ⟨hfinH.out, hbw.trans b2⟩
end Go.Proofs.YtpmfbmigdpmloaaGreatDoor
end
section
/-
  Plain mathematics: a 64-bit number, written in decimal, is parsed back. No condition but that it is one.
  What datum.read answers, at this program: of every text of at most 2^40 bytes some datum; of what is written of a datum that may be, that datum. Condition: the variables strconv.ErrSyntax and strconv.ErrRange hold errors.
-/
set_option linter.unusedVariables false
set_option linter.unusedSimpArgs false
namespace Go.Proofs.YtpmfbmigdpmloaaGreatDoor
open Go.Lib

theorem fold_le : ∀ (l : List UInt8) (a : Nat), a ≤ l.foldl (fun a b => 10 * a + (b.toNat - 48)) a
  | [], a => Nat.le_refl a
  | b :: l, a => by
    have := fold_le l (10 * a + (b.toNat - 48))
    rw [List.foldl_cons]
    omega
theorem parse_fold : ∀ (l : List UInt8) (a : Nat), (∀ b ∈ l, 48 ≤ b.toNat ∧ b.toNat ≤ 57) → l.foldl (fun a b => 10 * a + (b.toNat - 48)) a ≤ 18446744073709551615 → parseUintM 18446744073709551615 a l = .ok (l.foldl (fun a b => 10 * a + (b.toNat - 48)) a)
  | [], a, _, _ => rfl
  | b :: l, a, hd, hb => by
    obtain ⟨h0, h1⟩ := hd b (by simp)
    rw [List.foldl_cons] at hb
    have hle := fold_le l (10 * a + (b.toNat - 48))
    have ih := parse_fold l (10 * a + (b.toNat - 48)) (fun x hx => hd x (by simp [hx])) hb
    have e : 10 * a + (b.toNat - 48) = a * 10 + (b.toNat - 48) := by omega
    rw [List.foldl_cons, ← ih]
    rw [e] at hb hle ⊢
    show (if 48 ≤ b.toNat ∧ b.toNat ≤ 57 then (if 1844674407370955162 ≤ a then NumEnd.range else if 18446744073709551615 < a * 10 + (b.toNat - 48) then .range else parseUintM 18446744073709551615 (a * 10 + (b.toNat - 48)) l) else .syntax) = _
    rw [if_pos ⟨h0, h1⟩, if_neg (by omega), if_neg (by omega)]
theorem parse_dec (n : Nat) (h : n ≤ 18446744073709551615) : parseUintB 64 (decDigits n) = .ok n := by
  unfold parseUintB
  rw [if_neg (dec_ne n)]
  have hv := dval_dec n
  unfold dval at hv
  have := parse_fold (decDigits n) 0 (dec_range n) (by rw [hv]; exact h)
  rw [hv] at this
  exact this
/-- A 64-bit number is parsed back. -/
theorem parse_itoa (n : Int) (h : I64 n) : parseIntB 64 (itoa n) = .ok n := by
  obtain ⟨h1, h2⟩ := h
  unfold itoa
  by_cases hn : n < 0
  · rw [if_pos hn]
    have hp := parse_dec n.natAbs (by omega)
    show (match parseUintB 64 (if (45 : UInt8).toNat = 43 ∨ (45 : UInt8).toNat = 45 then decDigits n.natAbs else 45 :: decDigits n.natAbs) with
      | .syntax => NumEnd.syntax
      | .range => .range
      | .ok u => if ¬ ((45 : UInt8).toNat = 45) ∧ 2 ^ (64 - 1) ≤ u then .range else if (45 : UInt8).toNat = 45 ∧ 2 ^ (64 - 1) < u then .range else .ok (if (45 : UInt8).toNat = 45 then -(u : Int) else u)) = _
    rw [if_pos (.inr rfl), hp]
    simp only [show ((45 : UInt8).toNat = 45) = True from eq_true rfl, not_true_eq_false, false_and, if_false, true_and, if_true]
    rw [if_neg (by omega)]
    congr 1
    omega
  · rw [if_neg hn]
    have hp := parse_dec n.toNat (by omega)
    have hr := dec_range n.toNat
    cases hd : decDigits n.toNat with
    | nil => exact absurd hd (dec_ne _)
    | cons c r =>
      have hc := hr c (by rw [hd]; simp)
      rw [hd] at hp
      show (match parseUintB 64 (if c.toNat = 43 ∨ c.toNat = 45 then r else c :: r) with
        | .syntax => NumEnd.syntax
        | .range => .range
        | .ok u => if ¬ (c.toNat = 45) ∧ 2 ^ (64 - 1) ≤ u then .range else if c.toNat = 45 ∧ 2 ^ (64 - 1) < u then .range else .ok (if c.toNat = 45 then -(u : Int) else u)) = _
      rw [if_neg (by omega), hp]
      have h45 : (c.toNat = 45) = False := eq_false (by omega)
      simp only [h45, not_false_eq_true, true_and, false_and, if_false]
      rw [if_neg (by omega)]
      congr 1
      omega
open Go.RowKit Go.Lib

theorem syn_global : Tryz.prog.globalNamed "strconv.ErrSyntax" = some 4 := by kernel_rfl
theorem ran_global : Tryz.prog.globalNamed "strconv.ErrRange" = some 5 := by kernel_rfl
/-- The two variables hold errors. -/
def VarsE (w : World) : Prop := (∃ T p, w.var? Tryz.prog "strconv.ErrSyntax" = some #[.iface T p]) ∧ (∃ T p, w.var? Tryz.prog "strconv.ErrRange" = some #[.iface T p])
theorem VarsE.below {w w' : World} (h : VarsE w) (hb : Below w.heap.size w w') : VarsE w' := by
  obtain ⟨⟨T, p, h1⟩, ⟨T2, p2, h2⟩⟩ := h
  exact ⟨⟨T, p, Go.Joins.var_stays syn_global h1 hb (Nat.le_refl _)⟩, ⟨T2, p2, Go.Joins.var_stays ran_global h2 hb (Nat.le_refl _)⟩⟩
theorem VarsE.err {w : World} (h : VarsE w) : ErrV w := by
  obtain ⟨⟨T, p, h1⟩, _⟩ := h
  refine ⟨.iface T p, ?_, .inr ⟨T, p, rfl⟩⟩
  have h0 := World.var?_cell syn_global h1 0
  simpa using h0
/-- What read answers. -/
def OutR (s : ByteArray) (e : Ending) : Prop :=
  ∃ (d : Dat) (ok : Bool), e = .returned (.tuple #[.agg #[.int .u8 d.k, .bool d.b, .int .i64 d.n, .string d.s], .bool ok]) ∧ I64 d.n ∧ d.s.size ≤ 4 * s.size + 16 ∧ ∀ d', okD d' = true → I64 d'.n → s.data.toList = printS d' → ok = true ∧ d = d'

set_option maxHeartbeats 8000000 in
set_option maxRecDepth 1000000 in
theorem read_null (w : World) :
    Calls Tryz.prog 71 #[.string ⟨#[110, 117, 108, 108]⟩] w fun e w' => OutR ⟨#[110, 117, 108, 108]⟩ e ∧ Below w.heap.size w w' := by
  have hout : OutR ⟨#[110, 117, 108, 108]⟩ (.returned (.tuple #[.agg #[.int .u8 1, .bool false, .int .i64 0, .string ⟨#[]⟩], .bool true])) := by
    refine ⟨⟨1, false, 0, ⟨#[]⟩⟩, true, rfl, by unfold I64; decide, Nat.zero_le _, fun d' h1 h2 h3 => ⟨rfl, ?_⟩⟩
    exact print_inj (a := ⟨1, false, 0, ⟨#[]⟩⟩) (by decide) h1 (by rw [← h3]; decide)
  have houtH := Lib.hid hout
  clear hout
  obtain ⟨W0, hW0, hwW, hR, hzz⟩ := box0 w
  have hRH := Lib.hid hR; have hz0 := Lib.hid hzz; have hwWH := Lib.hid hwW
  clear hR hzz hwW
  have hb := Below.refl W0.heap.size W0
  obtain ⟨r0_, r1_, r2_, r3_⟩ := (hRH.out.below hb).cells; obtain ⟨f0_, f1_, f2_, f3_⟩ := (hRH.out.below hb).free; have hz := Nat.lt_of_lt_of_le hz0.out hb.size; have hs_ := hb.size
  go_enter Tryz.func71, Tryz.ntmps71
  go_wp2_with (go_at_call 98; go_must (refine (null_any _).mono ?_; rintro e w' ⟨rfl, hb'⟩; replace hb := chainB (B := W0.heap.size) (a := W0) (by go_grown) hb' (by have := hb.size; first | omega | (simp; done) | (simp; omega)); clear hb' r0_ r1_ r2_ r3_ f0_ f1_ f2_ f3_ hz hs_; obtain ⟨r0_, r1_, r2_, r3_⟩ := (hRH.out.below hb).cells; obtain ⟨f0_, f1_, f2_, f3_⟩ := (hRH.out.below hb).free; have hz := Nat.lt_of_lt_of_le hz0.out hb.size; have hs_ := hb.size))
  refine bodyPost_ret (v := .tuple #[.agg #[.int .u8 1, .bool false, .int .i64 0, .string ⟨#[]⟩], .bool true]) (by simp [results, Tryz.results71, go_sem, r0_, r1_, r2_, r3_, hz]) rfl ⟨?_, ?_⟩
  · exact houtH.out
  · have hbw := hwWH.out.trans (hb.mono hwWH.out.size)
    clear hb
    go_grown
set_option maxHeartbeats 8000000 in
set_option maxRecDepth 1000000 in
theorem read_true (w : World) :
    Calls Tryz.prog 71 #[.string ⟨#[116, 114, 117, 101]⟩] w fun e w' => OutR ⟨#[116, 114, 117, 101]⟩ e ∧ Below w.heap.size w w' := by
  have hout : OutR ⟨#[116, 114, 117, 101]⟩ (.returned (.tuple #[.agg #[.int .u8 2, .bool true, .int .i64 0, .string ⟨#[]⟩], .bool true])) := by
    refine ⟨⟨2, true, 0, ⟨#[]⟩⟩, true, rfl, by unfold I64; decide, Nat.zero_le _, fun d' h1 h2 h3 => ⟨rfl, ?_⟩⟩
    exact print_inj (a := ⟨2, true, 0, ⟨#[]⟩⟩) (by decide) h1 (by rw [← h3]; decide)
  have houtH := Lib.hid hout
  clear hout
  obtain ⟨W0, hW0, hwW, hR, hzz⟩ := box0 w
  have hRH := Lib.hid hR; have hz0 := Lib.hid hzz; have hwWH := Lib.hid hwW
  clear hR hzz hwW
  have hb := Below.refl W0.heap.size W0
  obtain ⟨r0_, r1_, r2_, r3_⟩ := (hRH.out.below hb).cells; obtain ⟨f0_, f1_, f2_, f3_⟩ := (hRH.out.below hb).free; have hz := Nat.lt_of_lt_of_le hz0.out hb.size; have hs_ := hb.size
  go_enter Tryz.func71, Tryz.ntmps71
  go_wp2_with (go_at_call 99; go_must (refine (boolean_any _ _).mono ?_; rintro e w' ⟨rfl, hb'⟩; replace hb := chainB (B := W0.heap.size) (a := W0) (by go_grown) hb' (by have := hb.size; first | omega | (simp; done) | (simp; omega)); clear hb' r0_ r1_ r2_ r3_ f0_ f1_ f2_ f3_ hz hs_; obtain ⟨r0_, r1_, r2_, r3_⟩ := (hRH.out.below hb).cells; obtain ⟨f0_, f1_, f2_, f3_⟩ := (hRH.out.below hb).free; have hz := Nat.lt_of_lt_of_le hz0.out hb.size; have hs_ := hb.size))
  refine bodyPost_ret (v := .tuple #[.agg #[.int .u8 2, .bool true, .int .i64 0, .string ⟨#[]⟩], .bool true]) (by simp [results, Tryz.results71, go_sem, r0_, r1_, r2_, r3_, hz]) rfl ⟨?_, ?_⟩
  · exact houtH.out
  · have hbw := hwWH.out.trans (hb.mono hwWH.out.size)
    clear hb
    go_grown
set_option maxHeartbeats 8000000 in
set_option maxRecDepth 1000000 in
theorem read_false (w : World) :
    Calls Tryz.prog 71 #[.string ⟨#[102, 97, 108, 115, 101]⟩] w fun e w' => OutR ⟨#[102, 97, 108, 115, 101]⟩ e ∧ Below w.heap.size w w' := by
  have hout : OutR ⟨#[102, 97, 108, 115, 101]⟩ (.returned (.tuple #[.agg #[.int .u8 2, .bool false, .int .i64 0, .string ⟨#[]⟩], .bool true])) := by
    refine ⟨⟨2, false, 0, ⟨#[]⟩⟩, true, rfl, by unfold I64; decide, Nat.zero_le _, fun d' h1 h2 h3 => ⟨rfl, ?_⟩⟩
    exact print_inj (a := ⟨2, false, 0, ⟨#[]⟩⟩) (by decide) h1 (by rw [← h3]; decide)
  have houtH := Lib.hid hout
  clear hout
  obtain ⟨W0, hW0, hwW, hR, hzz⟩ := box0 w
  have hRH := Lib.hid hR; have hz0 := Lib.hid hzz; have hwWH := Lib.hid hwW
  clear hR hzz hwW
  have hb := Below.refl W0.heap.size W0
  obtain ⟨r0_, r1_, r2_, r3_⟩ := (hRH.out.below hb).cells; obtain ⟨f0_, f1_, f2_, f3_⟩ := (hRH.out.below hb).free; have hz := Nat.lt_of_lt_of_le hz0.out hb.size; have hs_ := hb.size
  go_enter Tryz.func71, Tryz.ntmps71
  go_wp2_with (go_at_call 99; go_must (refine (boolean_any _ _).mono ?_; rintro e w' ⟨rfl, hb'⟩; replace hb := chainB (B := W0.heap.size) (a := W0) (by go_grown) hb' (by have := hb.size; first | omega | (simp; done) | (simp; omega)); clear hb' r0_ r1_ r2_ r3_ f0_ f1_ f2_ f3_ hz hs_; obtain ⟨r0_, r1_, r2_, r3_⟩ := (hRH.out.below hb).cells; obtain ⟨f0_, f1_, f2_, f3_⟩ := (hRH.out.below hb).free; have hz := Nat.lt_of_lt_of_le hz0.out hb.size; have hs_ := hb.size))
  refine bodyPost_ret (v := .tuple #[.agg #[.int .u8 2, .bool false, .int .i64 0, .string ⟨#[]⟩], .bool true]) (by simp [results, Tryz.results71, go_sem, r0_, r1_, r2_, r3_, hz]) rfl ⟨?_, ?_⟩
  · exact houtH.out
  · have hbw := hwWH.out.trans (hb.mono hwWH.out.size)
    clear hb
    go_grown
open Go.RowKit Go.Lib

theorem ok_range {l : List UInt8} {n : Int} (h : parseIntB 64 l = .ok n) : I64 n := by
  unfold parseIntB at h
  cases l with
  | nil => cases h
  | cons c r =>
    simp only at h
    split at h
    · cases h
    · cases h
    · rename_i u hu
      split at h
      · cases h
      · split at h
        · cases h
        · have := NumEnd.ok.inj h
          unfold I64
          split at this <;> omega
theorem sat_range (l : List UInt8) : I64 (intSat 64 l) := by
  unfold intSat I64
  split <;> decide
set_option maxHeartbeats 1000000 in
theorem parseInt_ok (s : ByteArray) (w : World) (hV : VarsE w) (hs : s.size ≤ 1099511627776) (v : Int) (hp : parseIntB 64 s.data.toList = .ok v) :
    Calls Tryz.prog 102 #[.string s, .int .i64 10, .int .i64 64] w fun e w' => e = .returned (.tuple #[.int .i64 v, .nilIface]) ∧ Below w.heap.size w w' := by
  refine (Tryz.strconv_ParseInt_10_at64_ok s (by omega) v hp w).mono ?_
  rintro e w' ⟨rfl, hw⟩
  refine ⟨rfl, ?_⟩
  rcases hw with rfl | ⟨t, rfl⟩
  · exact Below.refl _ _
  · exact below_bytes w _ t
set_option maxHeartbeats 1000000 in
theorem parseInt_bad (s : ByteArray) (w : World) (hV : VarsE w) (hs : s.size ≤ 1099511627776) (hn : ∀ v, parseIntB 64 s.data.toList ≠ .ok v) :
    Calls Tryz.prog 102 #[.string s, .int .i64 10, .int .i64 64] w fun e w' => (∃ n T p, e = .returned (.tuple #[.int .i64 n, .iface T p]) ∧ I64 n) ∧ Below w.heap.size w w' := by
  obtain ⟨⟨T, p, h1⟩, ⟨T2, p2, h2⟩⟩ := hV
  cases hp : parseIntB 64 s.data.toList with
  | ok v => exact absurd hp (hn v)
  | range =>
    refine (Tryz.strconv_ParseInt_10_at64_range_var s (by omega) hp T2 p2 w h2).mono ?_
    rintro e w' ⟨N, rfl, _, _, hb⟩
    exact ⟨⟨_, _, _, rfl, sat_range _⟩, hb⟩
  | _ =>
    refine (Any.strconv_ParseInt_10_at64_syntax_var Tryz.laysC174 s (by omega) hp T p w h1).mono ?_
    rintro e w' ⟨N, rfl, _, _, hb⟩
    exact ⟨⟨_, _, _, rfl, by unfold I64; decide⟩, hb⟩
theorem list_ne {s : ByteArray} {l : List UInt8} (h : (s.toList == l) = false) : s.data.toList ≠ l := by
  intro e
  rw [beq_eq_false_iff_ne, ByteArray.toList_eq] at h
  exact h e
theorem prefix_quote (l : List UInt8) : Lib.hasPrefix (quoteL l) [39] = true := by
  show List.isPrefixOf [39] (39 :: (l.flatMap escB ++ [39])) = true
  simp
/-- What begins with a quote is written of a text. -/
theorem quoted_text {d : Dat} {l : List UInt8} (h : okD d = true) (he : l = printS d) (hq : Lib.hasPrefix l [39] = true) : ∃ s, d = textD s ∧ validD s.data.toList = true ∧ l = quoteL s.data.toList := by
  have hh : l.head? = some 39 := by
    have : List.isPrefixOf [39] l = true := hq
    cases l with
    | nil => cases this
    | cons c r => simp at this; rw [← this]; rfl
  have hk := print_kind h
  rw [← he] at hk
  have : kindL l = 4 := by unfold kindL; rw [hh]; decide
  rw [this] at hk
  rcases ok_cases h with rfl | ⟨x, rfl⟩ | ⟨x, rfl⟩ | ⟨x, rfl, hv, _⟩
  · exact absurd hk (by decide)
  · exact absurd hk (by simp [boolD])
  · exact absurd hk (by simp [intD])
  · exact ⟨x, rfl, hv, by rw [he, printS_text h]⟩
/-- What doesn't, and is neither null nor a truth value, of a number. -/
theorem plain_int {d : Dat} {l : List UInt8} (h : okD d = true) (he : l = printS d) (hq : Lib.hasPrefix l [39] = false) (n1 : l ≠ [110, 117, 108, 108]) (n2 : l ≠ [116, 114, 117, 101]) (n3 : l ≠ [102, 97, 108, 115, 101]) : ∃ n, d = intD n ∧ l = itoa n := by
  rcases ok_cases h with rfl | ⟨x, rfl⟩ | ⟨x, rfl⟩ | ⟨x, rfl, hv, _⟩
  · rw [printS_null] at he; exact absurd he n1
  · rw [printS_bool] at he
    cases x
    · exact absurd (he.trans (by decide)) n3
    · exact absurd (he.trans (by decide)) n2
  · exact ⟨x, rfl, by rw [he, printS_int]⟩
  · rw [printS_text h] at he
    rw [he, prefix_quote] at hq
    cases hq
set_option maxHeartbeats 8000000 in
set_option maxRecDepth 1000000 in
theorem read_quoted (s : ByteArray) (w : World) (hV : VarsE w) (hs : s.size ≤ 1099511627776) (n1 : (s.toList == [110, 117, 108, 108]) = false) (n2 : (s.toList == [116, 114, 117, 101]) = false) (n3 : (s.toList == [102, 97, 108, 115, 101]) = false) (hq : Lib.hasPrefix s.data.toList [39] = true) :
    Calls Tryz.prog 71 #[.string s] w fun e w' => OutR s e ∧ Below w.heap.size w w' := by
  have hVH := Lib.hid hV
  have hq0 := Lib.hid hq
  clear hV
  obtain ⟨W0, hW0, hwW, hR, hzz⟩ := box0 w
  have hRH := Lib.hid hR; have hz0 := Lib.hid hzz; have hwWH := Lib.hid hwW
  clear hR hzz hwW
  have hb := Below.refl W0.heap.size W0
  obtain ⟨r0_, r1_, r2_, r3_⟩ := (hRH.out.below hb).cells; obtain ⟨f0_, f1_, f2_, f3_⟩ := (hRH.out.below hb).free; have hz := Nat.lt_of_lt_of_le hz0.out hb.size; have hs_ := hb.size
  go_enter Tryz.func71, Tryz.ntmps71
  go_wp2_with (first
    | (go_at_call 70; go_must (refine (Tryz.strings_HasPrefix s ⟨#[39]⟩ _).mono ?_; rintro e w' ⟨rfl, hw'⟩; have hw2 := hw'.symm; subst hw2; clear hw'; rw [hq]))
    | (go_at_call 100; go_must (refine (unquote_any s _ (by exact (hVH.out.below (hwWH.out.trans (hb.mono hwWH.out.size))).err) hs).mono ?_; rintro e w' ⟨ho, hb2⟩; obtain ⟨t, ok, rfl, ht, hall⟩ := ho; have hallH := Lib.hid hall; clear hall; replace hb := chainB (B := W0.heap.size) (a := W0) (by go_grown) hb2 (by have := hb.size; first | omega | (simp; done) | (simp; omega)); clear hb2 r0_ r1_ r2_ r3_ f0_ f1_ f2_ f3_ hz hs_; obtain ⟨r0_, r1_, r2_, r3_⟩ := (hRH.out.below hb).cells; obtain ⟨f0_, f1_, f2_, f3_⟩ := (hRH.out.below hb).free; have hz := Nat.lt_of_lt_of_le hz0.out hb.size; have hs_ := hb.size))
    | (go_at_call 101; go_must (refine (text_any _ _).mono ?_; rintro e w' ⟨rfl, hb'⟩; replace hb := chainB (B := W0.heap.size) (a := W0) (by go_grown) hb' (by have := hb.size; first | omega | (simp; done) | (simp; omega)); clear hb' r0_ r1_ r2_ r3_ f0_ f1_ f2_ f3_ hz hs_; obtain ⟨r0_, r1_, r2_, r3_⟩ := (hRH.out.below hb).cells; obtain ⟨f0_, f1_, f2_, f3_⟩ := (hRH.out.below hb).free; have hz := Nat.lt_of_lt_of_le hz0.out hb.size; have hs_ := hb.size)))
  refine bodyPost_ret (v := .tuple #[.agg #[.int .u8 4, .bool false, .int .i64 0, .string t], .bool ok]) (by simp [results, Tryz.results71, go_sem, r0_, r1_, r2_, r3_, hz]) rfl ⟨?_, ?_⟩
  · refine ⟨⟨4, false, 0, t⟩, ok, rfl, (by show I64 0; unfold I64; decide), ht, fun d' h1 h2 h3 => ?_⟩
    obtain ⟨x, rfl, hv, hx⟩ := quoted_text h1 h3 hq0.out
    obtain ⟨rfl, hy⟩ := hallH.out _ hv hx
    exact ⟨rfl, by rw [hy]; rfl⟩
  · have hbw := hwWH.out.trans (hb.mono hwWH.out.size)
    clear hb
    go_grown
set_option maxHeartbeats 8000000 in
set_option maxRecDepth 1000000 in
theorem read_int (s : ByteArray) (w : World) (hV : VarsE w) (hs : s.size ≤ 1099511627776) (n1 : (s.toList == [110, 117, 108, 108]) = false) (n2 : (s.toList == [116, 114, 117, 101]) = false) (n3 : (s.toList == [102, 97, 108, 115, 101]) = false) (hq : Lib.hasPrefix s.data.toList [39] = false) (n : Int) (hp : parseIntB 64 s.data.toList = .ok n) :
    Calls Tryz.prog 71 #[.string s] w fun e w' => OutR s e ∧ Below w.heap.size w w' := by
  have hVH := Lib.hid hV
  have hq0 := Lib.hid hq
  clear hV
  obtain ⟨W0, hW0, hwW, hR, hzz⟩ := box0 w
  have hRH := Lib.hid hR; have hz0 := Lib.hid hzz; have hwWH := Lib.hid hwW
  clear hR hzz hwW
  have hb := Below.refl W0.heap.size W0
  obtain ⟨r0_, r1_, r2_, r3_⟩ := (hRH.out.below hb).cells; obtain ⟨f0_, f1_, f2_, f3_⟩ := (hRH.out.below hb).free; have hz := Nat.lt_of_lt_of_le hz0.out hb.size; have hs_ := hb.size
  go_enter Tryz.func71, Tryz.ntmps71
  go_wp2_with (first
    | (go_at_call 70; go_must (refine (Tryz.strings_HasPrefix s ⟨#[39]⟩ _).mono ?_; rintro e w' ⟨rfl, hw'⟩; have hw2 := hw'.symm; subst hw2; clear hw'; rw [hq]))
    | (go_at_call 102; go_must (refine (parseInt_ok s _ (by exact hVH.out.below (hwWH.out.trans (hb.mono hwWH.out.size))) hs n hp).mono ?_; rintro e w' ⟨rfl, hb2⟩; replace hb := chainB (B := W0.heap.size) (a := W0) (by go_grown) hb2 (by have := hb.size; first | omega | (simp; done) | (simp; omega)); clear hb2 r0_ r1_ r2_ r3_ f0_ f1_ f2_ f3_ hz hs_; obtain ⟨r0_, r1_, r2_, r3_⟩ := (hRH.out.below hb).cells; obtain ⟨f0_, f1_, f2_, f3_⟩ := (hRH.out.below hb).free; have hz := Nat.lt_of_lt_of_le hz0.out hb.size; have hs_ := hb.size)))
  refine wp_region_noPanic ?_
  refine wp_region_held_drew (S := (fun _ => True)) (by kernel_rfl) trivial (fun hHeld => ?_)
  refine' wpAnyH_take (i := 0) (v := .int .i64 n) ?hi0x1 ?hs0x1 ?hf0x1 ?hr0x1 ?hQ0x1 ?hy0x1 ?hS0x1 ?rest0x1
  case hi0x1 => (simp only [List.getElem?_toArray, List.getElem?_cons_succ, List.getElem?_cons_zero]; try rfl)
  case hs0x1 => kernel_rfl
  case hf0x1 => kernel_rfl
  case hr0x1 => kernel_rfl
  case hQ0x1 => exact fun _ _ _ h => h
  case hy0x1 => exact Or.inl ⟨by rfl, by (intro w hSw; (try dsimp only at hSw); go_simp)⟩
  case hS0x1 => assumption
  (try simp only [Act.put, List.setIfInBounds_toArray, List.set_cons_zero, List.set_cons_succ])
  refine' wpAnyH_take (i := 2) (v := .nilIface) ?hi2x2 ?hs2x2 ?hf2x2 ?hr2x2 ?hQ2x2 ?hy2x2 ?hS2x2 ?rest2x2
  case hi2x2 => (simp only [List.getElem?_toArray, List.getElem?_cons_succ, List.getElem?_cons_zero]; try rfl)
  case hs2x2 => kernel_rfl
  case hf2x2 => kernel_rfl
  case hr2x2 => kernel_rfl
  case hQ2x2 => exact fun _ _ _ h => h
  case hy2x2 => exact Or.inl ⟨by rfl, by (intro w hSw; (try dsimp only at hSw); go_simp)⟩
  case hS2x2 => assumption
  (try simp only [Act.put, List.setIfInBounds_toArray, List.set_cons_zero, List.set_cons_succ])
  refine' wpAnyH_take (i := 3) (v := .bool true) ?hi3x3 ?hs3x3 ?hf3x3 ?hr3x3 ?hQ3x3 ?hy3x3 ?hS3x3 ?rest3x3
  case hi3x3 => (simp only [List.getElem?_toArray, List.getElem?_cons_succ, List.getElem?_cons_zero]; try rfl)
  case hs3x3 => kernel_rfl
  case hf3x3 => kernel_rfl
  case hr3x3 => kernel_rfl
  case hQ3x3 => exact fun _ _ _ h => h
  case hy3x3 => exact Or.inl ⟨by rfl, by (intro w hSw; (try dsimp only at hSw); go_simp)⟩
  case hS3x3 => assumption
  (try simp only [Act.put, List.setIfInBounds_toArray, List.set_cons_zero, List.set_cons_succ])
  refine wpAnyH_ready (rs := [1]) (by kernel_rfl) (by simp) ?_
  refine' AllReadyH.cons (i := 1) ?ho1x4 (fun K hK => ?st1x4) AllReadyH.nil
  case ho1x4 => (simp only [List.getElem?_toArray, List.getElem?_cons_succ, List.getElem?_cons_zero]; try rfl)
  go_simp
  refine (integer_any n _).mono ?_
  rintro e w' ⟨rfl, hb'⟩; replace hb := chainB (B := W0.heap.size) (a := W0) (by go_grown) hb' (by have := hb.size; first | omega | (simp; done) | (simp; omega)); clear hb' r0_ r1_ r2_ r3_ f0_ f1_ f2_ f3_ hz hs_; obtain ⟨r0_, r1_, r2_, r3_⟩ := (hRH.out.below hb).cells; obtain ⟨f0_, f1_, f2_, f3_⟩ := (hRH.out.below hb).free; have hz := Nat.lt_of_lt_of_le hz0.out hb.size; have hs_ := hb.size
  refine hK.out _ _ ?_ (fun hHeld => ?_)
  · trivial
  clear hK K
  (try simp only [Act.put, List.setIfInBounds_toArray, List.set_cons_zero, List.set_cons_succ])
  refine wpAnyH_ready (rs := [4]) (by kernel_rfl) (by simp) ?_
  refine' AllReadyH.cons (i := 4) ?ho4x5 (fun K hK => ?st4x5) AllReadyH.nil
  case ho4x5 => (simp only [List.getElem?_toArray, List.getElem?_cons_succ, List.getElem?_cons_zero]; try rfl)
  go_simp
  refine hK.out _ _ ?_ (fun hHeld => ?_)
  · trivial
  clear hK K
  (try simp only [Act.put, List.setIfInBounds_toArray, List.set_cons_zero, List.set_cons_succ])
  refine' wpAnyH_take (i := 5) (v := .bool true) ?hi5x6 ?hs5x6 ?hf5x6 ?hr5x6 ?hQ5x6 ?hy5x6 ?hS5x6 ?rest5x6
  case hi5x6 => (simp only [List.getElem?_toArray, List.getElem?_cons_succ, List.getElem?_cons_zero]; try rfl)
  case hs5x6 => kernel_rfl
  case hf5x6 => kernel_rfl
  case hr5x6 => kernel_rfl
  case hQ5x6 => exact fun _ _ _ h => h
  case hy5x6 => exact Or.inl ⟨by rfl, by (intro w hSw; (try dsimp only at hSw); go_simp)⟩
  case hS5x6 => assumption
  (try simp only [Act.put, List.setIfInBounds_toArray, List.set_cons_zero, List.set_cons_succ])
  refine wpAnyH_done (by kernel_rfl) ?_ _
  refine NoPanic.normal ?_
  go_wp2
  refine bodyPost_ret (v := .tuple #[.agg #[.int .u8 3, .bool false, .int .i64 n, .string ⟨#[]⟩], .bool true]) (by simp [results, Tryz.results71, go_sem, r0_, r1_, r2_, r3_, hz]) rfl ⟨?_, ?_⟩
  · refine ⟨⟨3, false, n, ⟨#[]⟩⟩, true, rfl, ok_range hp, Nat.zero_le _, fun d' h1 h2 h3 => ⟨rfl, ?_⟩⟩
    obtain ⟨x, rfl, hx⟩ := plain_int h1 h3 hq0.out (list_ne n1) (list_ne n2) (list_ne n3)
    rw [hx, parse_itoa x h2] at hp
    rw [NumEnd.ok.inj hp]
    rfl
  · have hbw := hwWH.out.trans (hb.mono hwWH.out.size)
    clear hb
    go_grown
set_option maxHeartbeats 8000000 in
set_option maxRecDepth 1000000 in
theorem read_noint (s : ByteArray) (w : World) (hV : VarsE w) (hs : s.size ≤ 1099511627776) (n1 : (s.toList == [110, 117, 108, 108]) = false) (n2 : (s.toList == [116, 114, 117, 101]) = false) (n3 : (s.toList == [102, 97, 108, 115, 101]) = false) (hq : Lib.hasPrefix s.data.toList [39] = false) (hp : ∀ v, parseIntB 64 s.data.toList ≠ .ok v) :
    Calls Tryz.prog 71 #[.string s] w fun e w' => OutR s e ∧ Below w.heap.size w w' := by
  have hVH := Lib.hid hV
  have hq0 := Lib.hid hq
  clear hV
  obtain ⟨W0, hW0, hwW, hR, hzz⟩ := box0 w
  have hRH := Lib.hid hR; have hz0 := Lib.hid hzz; have hwWH := Lib.hid hwW
  clear hR hzz hwW
  have hb := Below.refl W0.heap.size W0
  obtain ⟨r0_, r1_, r2_, r3_⟩ := (hRH.out.below hb).cells; obtain ⟨f0_, f1_, f2_, f3_⟩ := (hRH.out.below hb).free; have hz := Nat.lt_of_lt_of_le hz0.out hb.size; have hs_ := hb.size
  go_enter Tryz.func71, Tryz.ntmps71
  go_wp2_with (first
    | (go_at_call 70; go_must (refine (Tryz.strings_HasPrefix s ⟨#[39]⟩ _).mono ?_; rintro e w' ⟨rfl, hw'⟩; have hw2 := hw'.symm; subst hw2; clear hw'; rw [hq]))
    | (go_at_call 102; go_must (refine (parseInt_bad s _ (by exact hVH.out.below (hwWH.out.trans (hb.mono hwWH.out.size))) hs hp).mono ?_; rintro e w' ⟨ho, hb2⟩; obtain ⟨n, T, p, rfl, hn⟩ := ho; replace hb := chainB (B := W0.heap.size) (a := W0) (by go_grown) hb2 (by have := hb.size; first | omega | (simp; done) | (simp; omega)); clear hb2 r0_ r1_ r2_ r3_ f0_ f1_ f2_ f3_ hz hs_; obtain ⟨r0_, r1_, r2_, r3_⟩ := (hRH.out.below hb).cells; obtain ⟨f0_, f1_, f2_, f3_⟩ := (hRH.out.below hb).free; have hz := Nat.lt_of_lt_of_le hz0.out hb.size; have hs_ := hb.size)))
  refine wp_region_noPanic ?_
  refine wp_region_held_drew (S := (fun _ => True)) (by kernel_rfl) trivial (fun hHeld => ?_)
  refine' wpAnyH_take (i := 0) (v := .int .i64 n) ?hi0x7 ?hs0x7 ?hf0x7 ?hr0x7 ?hQ0x7 ?hy0x7 ?hS0x7 ?rest0x7
  case hi0x7 => (simp only [List.getElem?_toArray, List.getElem?_cons_succ, List.getElem?_cons_zero]; try rfl)
  case hs0x7 => kernel_rfl
  case hf0x7 => kernel_rfl
  case hr0x7 => kernel_rfl
  case hQ0x7 => exact fun _ _ _ h => h
  case hy0x7 => exact Or.inl ⟨by rfl, by (intro w hSw; (try dsimp only at hSw); go_simp)⟩
  case hS0x7 => assumption
  (try simp only [Act.put, List.setIfInBounds_toArray, List.set_cons_zero, List.set_cons_succ])
  refine' wpAnyH_take (i := 2) (v := .iface T p) ?hi2x8 ?hs2x8 ?hf2x8 ?hr2x8 ?hQ2x8 ?hy2x8 ?hS2x8 ?rest2x8
  case hi2x8 => (simp only [List.getElem?_toArray, List.getElem?_cons_succ, List.getElem?_cons_zero]; try rfl)
  case hs2x8 => kernel_rfl
  case hf2x8 => kernel_rfl
  case hr2x8 => kernel_rfl
  case hQ2x8 => exact fun _ _ _ h => h
  case hy2x8 => exact Or.inl ⟨by rfl, by (intro w hSw; (try dsimp only at hSw); go_simp)⟩
  case hS2x8 => assumption
  (try simp only [Act.put, List.setIfInBounds_toArray, List.set_cons_zero, List.set_cons_succ])
  refine' wpAnyH_take (i := 3) (v := .bool false) ?hi3x9 ?hs3x9 ?hf3x9 ?hr3x9 ?hQ3x9 ?hy3x9 ?hS3x9 ?rest3x9
  case hi3x9 => (simp only [List.getElem?_toArray, List.getElem?_cons_succ, List.getElem?_cons_zero]; try rfl)
  case hs3x9 => kernel_rfl
  case hf3x9 => kernel_rfl
  case hr3x9 => kernel_rfl
  case hQ3x9 => exact fun _ _ _ h => h
  case hy3x9 => exact Or.inl ⟨by rfl, by (intro w hSw; (try dsimp only at hSw); go_simp)⟩
  case hS3x9 => assumption
  (try simp only [Act.put, List.setIfInBounds_toArray, List.set_cons_zero, List.set_cons_succ])
  refine wpAnyH_ready (rs := [1]) (by kernel_rfl) (by simp) ?_
  refine' AllReadyH.cons (i := 1) ?ho1x10 (fun K hK => ?st1x10) AllReadyH.nil
  case ho1x10 => (simp only [List.getElem?_toArray, List.getElem?_cons_succ, List.getElem?_cons_zero]; try rfl)
  go_simp
  refine (integer_any n _).mono ?_
  rintro e w' ⟨rfl, hb'⟩; replace hb := chainB (B := W0.heap.size) (a := W0) (by go_grown) hb' (by have := hb.size; first | omega | (simp; done) | (simp; omega)); clear hb' r0_ r1_ r2_ r3_ f0_ f1_ f2_ f3_ hz hs_; obtain ⟨r0_, r1_, r2_, r3_⟩ := (hRH.out.below hb).cells; obtain ⟨f0_, f1_, f2_, f3_⟩ := (hRH.out.below hb).free; have hz := Nat.lt_of_lt_of_le hz0.out hb.size; have hs_ := hb.size
  refine hK.out _ _ ?_ (fun hHeld => ?_)
  · trivial
  clear hK K
  (try simp only [Act.put, List.setIfInBounds_toArray, List.set_cons_zero, List.set_cons_succ])
  refine wpAnyH_ready (rs := [4]) (by kernel_rfl) (by simp) ?_
  refine' AllReadyH.cons (i := 4) ?ho4x11 (fun K hK => ?st4x11) AllReadyH.nil
  case ho4x11 => (simp only [List.getElem?_toArray, List.getElem?_cons_succ, List.getElem?_cons_zero]; try rfl)
  go_simp
  refine hK.out _ _ ?_ (fun hHeld => ?_)
  · trivial
  clear hK K
  (try simp only [Act.put, List.setIfInBounds_toArray, List.set_cons_zero, List.set_cons_succ])
  refine' wpAnyH_take (i := 5) (v := .bool false) ?hi5x12 ?hs5x12 ?hf5x12 ?hr5x12 ?hQ5x12 ?hy5x12 ?hS5x12 ?rest5x12
  case hi5x12 => (simp only [List.getElem?_toArray, List.getElem?_cons_succ, List.getElem?_cons_zero]; try rfl)
  case hs5x12 => kernel_rfl
  case hf5x12 => kernel_rfl
  case hr5x12 => kernel_rfl
  case hQ5x12 => exact fun _ _ _ h => h
  case hy5x12 => exact Or.inl ⟨by rfl, by (intro w hSw; (try dsimp only at hSw); go_simp)⟩
  case hS5x12 => assumption
  (try simp only [Act.put, List.setIfInBounds_toArray, List.set_cons_zero, List.set_cons_succ])
  refine wpAnyH_done (by kernel_rfl) ?_ _
  refine NoPanic.normal ?_
  go_wp2
  refine bodyPost_ret (v := .tuple #[.agg #[.int .u8 3, .bool false, .int .i64 n, .string ⟨#[]⟩], .bool false]) (by simp [results, Tryz.results71, go_sem, r0_, r1_, r2_, r3_, hz]) rfl ⟨?_, ?_⟩
  · refine ⟨⟨3, false, n, ⟨#[]⟩⟩, false, rfl, hn, Nat.zero_le _, fun d' h1 h2 h3 => ?_⟩
    obtain ⟨x, rfl, hx⟩ := plain_int h1 h3 hq0.out (list_ne n1) (list_ne n2) (list_ne n3)
    exact absurd (by rw [hx]; exact parse_itoa x h2) (hp x)
  · have hbw := hwWH.out.trans (hb.mono hwWH.out.size)
    clear hb
    go_grown
theorem of_lit {s : ByteArray} {l : List UInt8} (h : (s.toList == l) = true) : s = ⟨l.toArray⟩ := bytes_ext (by rw [beq_iff_eq, ByteArray.toList_eq] at h; exact h)
/-- What read answers. -/
theorem read_any (s : ByteArray) (w : World) (hV : VarsE w) (hs : s.size ≤ 1099511627776) :
    Calls Tryz.prog 71 #[.string s] w fun e w' => OutR s e ∧ Below w.heap.size w w' := by
  cases n1 : (s.toList == [110, 117, 108, 108]) with
  | true => rw [of_lit n1]; exact read_null w
  | false =>
    cases n2 : (s.toList == [116, 114, 117, 101]) with
    | true => rw [of_lit n2]; exact read_true w
    | false =>
      cases n3 : (s.toList == [102, 97, 108, 115, 101]) with
      | true => rw [of_lit n3]; exact read_false w
      | false =>
        cases hq : Lib.hasPrefix s.data.toList [39] with
        | true => exact read_quoted s w hV hs n1 n2 n3 hq
        | false =>
          by_cases hp : ∃ v, parseIntB 64 s.data.toList = .ok v
          · obtain ⟨v, hp⟩ := hp
            exact read_int s w hV hs n1 n2 n3 hq v hp
          · exact read_noint s w hV hs n1 n2 n3 hq (fun v hv => hp ⟨v, hv⟩)
end Go.Proofs.YtpmfbmigdpmloaaGreatDoor
end
section
/-
  What datum.Parse answers, at this program: of every text of at most 2^40 bytes the datum that may be and is written so, if there is one. Condition: the variables strconv.ErrSyntax and strconv.ErrRange hold errors; the tables of Go's library lie as their initialisers lay them.
-/
set_option linter.unusedVariables false
set_option linter.unusedSimpArgs false
namespace Go.Proofs.YtpmfbmigdpmloaaGreatDoor
open Go.RowKit Go.Lib

/-- What is to be parsed: the datum that may be and is written so, if there is one. -/
def ParsedR (s : ByteArray) (d : Dat) (z : Int) : Prop :=
  (okD d = true ∧ I64 d.n ∧ s.data.toList = printS d ∧ z = 0) ∨ (d = zeroD ∧ z = 13 ∧ ∀ d', okD d' = true → I64 d'.n → s.data.toList ≠ printS d')
theorem ParsedR.one {s : ByteArray} {d d' : Dat} {z z' : Int} (h : ParsedR s d z) (h' : ParsedR s d' z') : d = d' ∧ z = z' := by
  rcases h with ⟨a1, a2, a3, a4⟩ | ⟨a1, a2, a3⟩ <;> rcases h' with ⟨b1, b2, b3, b4⟩ | ⟨b1, b2, b3⟩
  · exact ⟨print_inj a1 b1 (a3.symm.trans b3), a4.trans b4.symm⟩
  · exact absurd a3 (b3 d a1 a2)
  · exact absurd b3 (a3 d' b1 b2)
  · exact ⟨a1.trans b1.symm, a2.trans b2.symm⟩
/-- What Parse answers. -/
def OutZ (s : ByteArray) (e : Ending) : Prop := ∃ d z, e = .returned (resV (d, z)) ∧ ParsedR s d z
set_option maxHeartbeats 8000000 in
set_option maxRecDepth 1000000 in
theorem parse_any (s : ByteArray) (w : World) (hT : Tabs w) (hV : VarsE w) (hs : s.size ≤ 1099511627776) :
    Calls Tryz.prog 43 #[.string s] w fun e w' => OutZ s e ∧ Below w.heap.size w w' := by
  have hVH := Lib.hid hV
  have hTH := Lib.hid hT
  clear hV hT
  obtain ⟨W0, hW0, hwW, hR, hzz⟩ := box0 w
  have hRH := Lib.hid hR; have hz0 := Lib.hid hzz; have hwWH := Lib.hid hwW
  have hTW := Lib.hid (hTH.out.below hwW)
  clear hR hzz hwW
  have hb := Below.refl W0.heap.size W0
  obtain ⟨r0_, r1_, r2_, r3_⟩ := (hRH.out.below hb).cells; obtain ⟨f0_, f1_, f2_, f3_⟩ := (hRH.out.below hb).free; have hz := Nat.lt_of_lt_of_le hz0.out hb.size; have hs_ := hb.size
  go_enter Tryz.func43, Tryz.ntmps43
  go_wp2_with fail
  refine (read_any s _ (by exact hVH.out.below (hwWH.out.trans (hb.mono hwWH.out.size))) hs).mono ?_
  rintro e w1 ⟨⟨⟨k, b, n, t⟩, ok, rfl, hn, ht, hall⟩, hb'⟩
  replace hb := chainB (B := W0.heap.size) (a := W0) (by go_grown) hb' (by have := hb.size; first | omega | (simp; done) | (simp; omega))
  clear hb' r0_ r1_ r2_ r3_ f0_ f1_ f2_ f3_ hz hs_
  obtain ⟨r0_, r1_, r2_, r3_⟩ := (hRH.out.below hb).cells; obtain ⟨f0_, f1_, f2_, f3_⟩ := (hRH.out.below hb).free; have hz := Nat.lt_of_lt_of_le hz0.out hb.size; have hs_ := hb.size
  simp only at hn ht hall ⊢
  have hnH := Lib.hid hn; have htB := Lib.hid (show t.size ≤ 9223372036854775807 by omega); have hallH := Lib.hid hall
  clear hn ht hall
  cases ok with
  | false =>
    have houtH := Lib.hid (show OutZ s (.returned (resV (zeroD, 13))) from ⟨_, _, rfl, .inr ⟨rfl, rfl, fun d' h1 h2 h3 => absurd (hallH.out d' h1 h2 h3).1 (by decide)⟩⟩)
    go_wp2
    skip
    refine bodyPost_ret (v := .tuple #[.agg #[.int .u8 0, .bool false, .int .i64 0, .string ⟨#[]⟩], .int .u16 13]) (by simp [results, Tryz.results43, go_sem, r0_, r1_, r2_, r3_, hz]) rfl ⟨?_, ?_⟩
    · exact houtH.out
    · have hbw := hwWH.out.trans (hb.mono hwWH.out.size)
      clear hb
      go_grown

  | true =>
    obtain ⟨c, hc⟩ : ∃ c, chk ⟨k, b, n, t⟩ = c := ⟨_, rfl⟩
    have hcH := Lib.hid hc
    by_cases hc0 : c = 0
    · obtain ⟨p, hp⟩ : ∃ p, (⟨(printS ⟨k, b, n, t⟩).toArray⟩ : ByteArray) = p := ⟨_, rfl⟩
      have hok : okD ⟨k, b, n, t⟩ = true := by unfold okD; rw [hc, hc0]; rfl
      have hpl : printS ⟨k, b, n, t⟩ = p.data.toList := by rw [← hp]
      have hpH := Lib.hid hp
      clear hp hc
      subst hc0
      by_cases he : p = s
      · subst he
        have houtH := Lib.hid (show OutZ p (.returned (resV (⟨k, b, n, t⟩, 0))) from ⟨_, _, rfl, .inl ⟨hok, hnH.out, hpl.symm, rfl⟩⟩)
        clear hok hpl
        go_wp2_with (first
          | (go_at_call 35; go_must (refine (check_any k b n t _ (by exact hTW.out.below (by go_grown)) htB.out).mono ?_; rw [hcH.out]; rintro e w' ⟨rfl, hb'⟩; have hA := Lib.hid ((Has.new w1 (.int .u8 k) (.bool b) (.int .i64 n) (.string t)).below hb'); obtain ⟨a0_, a1_, a2_, a3_⟩ := hA.out.cells; replace hb := chainB (B := W0.heap.size) (a := W0) (by go_grown) hb' (by have := hb.size; first | omega | (simp; done) | (simp; omega)); clear hb' r0_ r1_ r2_ r3_ f0_ f1_ f2_ f3_ hz hs_; obtain ⟨r0_, r1_, r2_, r3_⟩ := (hRH.out.below hb).cells; obtain ⟨f0_, f1_, f2_, f3_⟩ := (hRH.out.below hb).free; have hz := Nat.lt_of_lt_of_le hz0.out hb.size; have hs_ := hb.size))
          | (go_at_call 31; go_must (refine (print_any k b n t _ (by exact hTW.out.below (by go_grown)) htB.out hnH.out).mono ?_; rw [hpH.out]; rintro e w' ⟨rfl, hb'⟩; have hA2 := hA.out.below hb'; obtain ⟨a0_, a1_, a2_, a3_⟩ := hA2.cells; replace hb := chainB (B := W0.heap.size) (a := W0) (by go_grown) hb' (by have := hb.size; first | omega | (simp; done) | (simp; omega)); clear hb' r0_ r1_ r2_ r3_ f0_ f1_ f2_ f3_ hz hs_; obtain ⟨r0_, r1_, r2_, r3_⟩ := (hRH.out.below hb).cells; obtain ⟨f0_, f1_, f2_, f3_⟩ := (hRH.out.below hb).free; have hz := Nat.lt_of_lt_of_le hz0.out hb.size; have hs_ := hb.size)))
        refine bodyPost_ret (v := .tuple #[.agg #[.int .u8 k, .bool b, .int .i64 n, .string t], .int .u16 0]) (by simp [results, Tryz.results43, go_sem, r0_, r1_, r2_, r3_, hz]) rfl ⟨?_, ?_⟩
        · exact houtH.out
        · have hbw := hwWH.out.trans (hb.mono hwWH.out.size)
          clear hb
          go_grown

      · have hne := Lib.hid he
        have heB : (p.toList == s.toList) = false := by
          rw [beq_eq_false_iff_ne, ByteArray.toList_eq, ByteArray.toList_eq]
          exact fun h => he (bytes_ext h)
        have houtH := Lib.hid (show OutZ s (.returned (resV (zeroD, 13))) from ⟨_, _, rfl, .inr ⟨rfl, rfl, fun d' h1 h2 h3 => he (bytes_ext (by rw [← hpl, h3, ← (hallH.out d' h1 h2 h3).2]))⟩⟩)
        clear hok hpl he
        go_wp2_with (first
          | (go_at_call 35; go_must (refine (check_any k b n t _ (by exact hTW.out.below (by go_grown)) htB.out).mono ?_; rw [hcH.out]; rintro e w' ⟨rfl, hb'⟩; have hA := Lib.hid ((Has.new w1 (.int .u8 k) (.bool b) (.int .i64 n) (.string t)).below hb'); obtain ⟨a0_, a1_, a2_, a3_⟩ := hA.out.cells; replace hb := chainB (B := W0.heap.size) (a := W0) (by go_grown) hb' (by have := hb.size; first | omega | (simp; done) | (simp; omega)); clear hb' r0_ r1_ r2_ r3_ f0_ f1_ f2_ f3_ hz hs_; obtain ⟨r0_, r1_, r2_, r3_⟩ := (hRH.out.below hb).cells; obtain ⟨f0_, f1_, f2_, f3_⟩ := (hRH.out.below hb).free; have hz := Nat.lt_of_lt_of_le hz0.out hb.size; have hs_ := hb.size))
          | (go_at_call 31; go_must (refine (print_any k b n t _ (by exact hTW.out.below (by go_grown)) htB.out hnH.out).mono ?_; rw [hpH.out]; rintro e w' ⟨rfl, hb'⟩; have hA2 := hA.out.below hb'; obtain ⟨a0_, a1_, a2_, a3_⟩ := hA2.cells; replace hb := chainB (B := W0.heap.size) (a := W0) (by go_grown) hb' (by have := hb.size; first | omega | (simp; done) | (simp; omega)); clear hb' r0_ r1_ r2_ r3_ f0_ f1_ f2_ f3_ hz hs_; obtain ⟨r0_, r1_, r2_, r3_⟩ := (hRH.out.below hb).cells; obtain ⟨f0_, f1_, f2_, f3_⟩ := (hRH.out.below hb).free; have hz := Nat.lt_of_lt_of_le hz0.out hb.size; have hs_ := hb.size)))

        refine bodyPost_ret (v := .tuple #[.agg #[.int .u8 0, .bool false, .int .i64 0, .string ⟨#[]⟩], .int .u16 13]) (by simp [results, Tryz.results43, go_sem, r0_, r1_, r2_, r3_, hz]) rfl ⟨?_, ?_⟩
        · exact houtH.out
        · have hbw := hwWH.out.trans (hb.mono hwWH.out.size)
          clear hb
          go_grown

    · have houtH := Lib.hid (show OutZ s (.returned (resV (zeroD, 13))) from ⟨_, _, rfl, .inr ⟨rfl, rfl, fun d' h1 h2 h3 => by
        have hd := (hallH.out d' h1 h2 h3).2
        rw [← hd] at h1
        unfold okD at h1
        rw [hc] at h1
        exact hc0 (of_decide_eq_true h1)⟩⟩)
      have hc2 : (c != 0) = true := by simpa using hc0
      clear hc hc0
      go_wp2_with (first
        | (go_at_call 35; go_must (refine (check_any k b n t _ (by exact hTW.out.below (by go_grown)) htB.out).mono ?_; rw [hcH.out]; rintro e w' ⟨rfl, hb'⟩; have hA := Lib.hid ((Has.new w1 (.int .u8 k) (.bool b) (.int .i64 n) (.string t)).below hb'); obtain ⟨a0_, a1_, a2_, a3_⟩ := hA.out.cells; replace hb := chainB (B := W0.heap.size) (a := W0) (by go_grown) hb' (by have := hb.size; first | omega | (simp; done) | (simp; omega)); clear hb' r0_ r1_ r2_ r3_ f0_ f1_ f2_ f3_ hz hs_; obtain ⟨r0_, r1_, r2_, r3_⟩ := (hRH.out.below hb).cells; obtain ⟨f0_, f1_, f2_, f3_⟩ := (hRH.out.below hb).free; have hz := Nat.lt_of_lt_of_le hz0.out hb.size; have hs_ := hb.size))
        | (go_at_call 31; go_must (refine (print_any k b n t _ (by exact hTW.out.below (by go_grown)) htB.out hnH.out).mono ?_; rw [hpH.out]; rintro e w' ⟨rfl, hb'⟩; have hA2 := hA.out.below hb'; obtain ⟨a0_, a1_, a2_, a3_⟩ := hA2.cells; replace hb := chainB (B := W0.heap.size) (a := W0) (by go_grown) hb' (by have := hb.size; first | omega | (simp; done) | (simp; omega)); clear hb' r0_ r1_ r2_ r3_ f0_ f1_ f2_ f3_ hz hs_; obtain ⟨r0_, r1_, r2_, r3_⟩ := (hRH.out.below hb).cells; obtain ⟨f0_, f1_, f2_, f3_⟩ := (hRH.out.below hb).free; have hz := Nat.lt_of_lt_of_le hz0.out hb.size; have hs_ := hb.size)))
      refine bodyPost_ret (v := .tuple #[.agg #[.int .u8 0, .bool false, .int .i64 0, .string ⟨#[]⟩], .int .u16 13]) (by simp [results, Tryz.results43, go_sem, r0_, r1_, r2_, r3_, hz]) rfl ⟨?_, ?_⟩
      · exact houtH.out
      · have hbw := hwWH.out.trans (hb.mono hwWH.out.size)
        clear hb
        go_grown

end Go.Proofs.YtpmfbmigdpmloaaGreatDoor
end
section
/-
  How the program cuts the first text form off a row's, at this program: row.cut. Condition: the text has at most 2^40 bytes.
-/
set_option linter.unusedVariables false
set_option linter.unusedSimpArgs false
namespace Go.Proofs.YtpmfbmigdpmloaaGreatDoor
open Go.RowKit Go.Lib

/-- What the rounds hold: whether a text is open, and how far the form goes. -/
def RelCut (L : List UInt8) (w : World) (s5 s9 : Value) (wr : World) : Prop :=
  ∃ (p : Nat) (q : Bool), p ≤ L.length ∧ s5 = .bool q ∧ s9 = .int .i64 (p : Int) ∧ cutF false L = (cutF q (L.drop p)).map (fun y => (L.take p ++ y.1, y.2)) ∧ wr = w
theorem cut_on {L : List UInt8} {p : Nat} {q q' : Bool} {b : UInt8} {M : List UInt8} (h : cutF false L = (cutF q (L.drop p)).map (fun y => (L.take p ++ y.1, y.2))) (hd : L.drop p = b :: M) (hM : L.drop (p + 1) = M) (hp : p < L.length)
    (hq : (if b = 39 then !q else q) = q') (hn : ¬ (q' = false ∧ b = 44 ∧ M.head? = some 32)) : cutF false L = (cutF q' (L.drop (p + 1))).map (fun y => (L.take (p + 1) ++ y.1, y.2)) := by
  subst hq
  rw [h, hd, cutF, if_neg hn, hM]
  have e : L.take (p + 1) = L.take p ++ [b] := by
    rw [List.take_succ_eq_append_getElem hp]
    have := List.drop_eq_getElem_cons hp
    rw [hd] at this
    rw [(List.cons.inj this).1]
  rw [e]
  cases cutF (if b = 39 then !q else q) M <;> simp
theorem cut_found {L : List UInt8} {p : Nat} {q : Bool} {b : UInt8} {M : List UInt8} (h : cutF false L = (cutF q (L.drop p)).map (fun y => (L.take p ++ y.1, y.2))) (hd : L.drop p = b :: M)
    (hn : (if b = 39 then !q else q) = false ∧ b = 44 ∧ M.head? = some 32) : cutF false L = some (L.take p, M.tail) := by
  rw [h, hd, cutF, if_pos hn]
  simp
theorem bt_at (s : ByteArray) (p : Nat) (h : p < s.size) : bt s p = (s.data.toList[p]'(by rw [← size_eq]; exact h)).toNat := by
  unfold bt
  congr 1
  have := toList_drop s p h
  rw [List.drop_eq_getElem_cons (by rw [← size_eq]; exact h)] at this
  exact (List.cons.inj this).1.symm
theorem sep_prefix {s : ByteArray} {L : List UInt8} {p : Nat} {b : UInt8} (h : s.data.toList = L) (hd : L.drop p = b :: L.drop (p + 1)) :
    Lib.hasPrefix (s.extract p s.size).data.toList (⟨#[44, 32]⟩ : ByteArray).data.toList = true ↔ b = 44 ∧ (L.drop (p + 1)).head? = some 32 := by
  rw [drop_list, h, hd]
  unfold Lib.hasPrefix
  show (List.isPrefixOf [44, 32] (b :: L.drop (p + 1))) = true ↔ _
  cases L.drop (p + 1) with
  | nil => simp [List.isPrefixOf]
  | cons c M =>
    simp only [List.isPrefixOf, Bool.and_eq_true, beq_iff_eq, and_true, List.head?_cons, Option.some.injEq]
    exact ⟨fun h => ⟨h.1.symm, h.2.symm⟩, fun h => ⟨h.1.symm, h.2.symm⟩⟩
set_option maxHeartbeats 8000000 in
set_option maxRecDepth 100000 in
theorem cut_any (s : ByteArray) (w : World) (hs : s.size ≤ 1099511627776) :
    Calls Tryz.prog 42 #[.string s] w fun e w' => e = .returned (.tuple #[.string ⟨(formF s.data.toList).toArray⟩, .string ⟨(restF s.data.toList).toArray⟩, .bool (moreF s.data.toList)]) ∧ Below w.heap.size w w' := by
  obtain ⟨L, hL⟩ : ∃ L, s.data.toList = L := ⟨_, rfl⟩
  have hLs : s.size = L.length := by rw [← hL]; exact size_eq s
  rw [hL]
  have hLH := Lib.hid hL
  obtain ⟨v, hv⟩ : ∃ v, Value.tuple #[.string ⟨(formF L).toArray⟩, .string ⟨(restF L).toArray⟩, .bool (moreF L)] = v := ⟨_, rfl⟩
  rw [hv]
  have hvH := Lib.hid hv; have hLsH := Lib.hid hLs
  clear hL hv hLs
  go_enter Tryz.func42, Tryz.ntmps42
  go_wp2_with fail
  go_loopw [5, 9] (fun s5 s9 wr => RelCut L w s5 s9 wr) (fun _ s9 _ => L.length - (Go.RowKit.intOf s9).toNat)
  case atStart => exact ⟨0, false, by omega, rfl, rfl, by rw [List.drop_zero, List.take_zero]; cases cutF false L <;> rfl, rfl⟩
  case round =>
    unfold RelCut at hrel
    obtain ⟨p, q, hp, rfl, rfl, hcut, rfl⟩ := hrel
    have hcutH := Lib.hid hcut
    clear hcut
    have hps : p ≤ s.size := by rw [hLsH.out]; exact hp
    by_cases hlts : p < s.size
    · have hlt : p < L.length := by rw [← hLsH.out]; exact hlts
      have hx0 := fun w' => idx_run s p (p : Int) rfl hlts w'
      obtain ⟨b, hb⟩ : ∃ b, L[p] = b := ⟨_, rfl⟩
      have hdr := Lib.hid (show L.drop p = b :: L.drop (p + 1) by rw [← hb]; exact List.drop_eq_getElem_cons hlt)
      obtain ⟨c, hc⟩ : ∃ c, bt s p = c := ⟨_, rfl⟩
      have hcb : c = b.toNat := by rw [← hc, ← hb, bt_at s p hlts]; simp only [hLH.out]
      rw [hc] at hx0
      have hltH := Lib.hid hlt
      clear hc hb hlt hp
      obtain ⟨X, hX⟩ : ∃ X, s.extract p s.size = X := ⟨_, rfl⟩
      obtain ⟨H, hH⟩ : ∃ H, Lib.hasPrefix X.data.toList (⟨#[44, 32]⟩ : ByteArray).data.toList = H := ⟨_, rfl⟩
      have hHb := Lib.hid (show H = true ↔ b = 44 ∧ (L.drop (p + 1)).head? = some 32 by rw [← hH, ← hX]; exact sep_prefix hLH.out hdr.out)
      have hHH := Lib.hid hH
      clear hH
      by_cases h39 : b = 39
      · subst h39
        have hc39 : (c : Int) = 39 := by rw [hcb]; rfl
        clear hcb
        cases q with
        | true =>
          have hHf : H = false := by cases H with
            | false => rfl
            | true => exact absurd (hHb.out.1 rfl).1 (by decide)
          subst hHf
          have hnx := Lib.hid (cut_on (q' := false) hcutH.out hdr.out rfl hltH.out rfl (fun h => absurd h.2.1 (by decide)))
          go_wp2_with (go_at_call 70; go_must (refine (Tryz.strings_HasPrefix X _ _).mono ?_; rw [hHH.out]; rintro e w' ⟨rfl, rfl⟩))
          go_roundw
          case rel => exact ⟨p + 1, false, by have := hltH.out; omega, rfl, by go_num, hnx.out, rfl⟩
          case measure => have := hltH.out; simp [Go.RowKit.intOf]; omega
        | false =>
          have hnx := Lib.hid (cut_on (q' := true) hcutH.out hdr.out rfl hltH.out rfl (fun h => absurd h.1 (by decide)))
          go_wp2_with fail
          go_roundw
          case rel => exact ⟨p + 1, true, by have := hltH.out; omega, rfl, by go_num, hnx.out, rfl⟩
          case measure => have := hltH.out; simp [Go.RowKit.intOf]; omega
      · have hne : ((c : Int) == 39) = false := by rw [hcb]; exact u8_ne (b := 39) h39
        clear hcb
        cases q with
        | true =>
          have hnx := Lib.hid (cut_on (q' := true) hcutH.out hdr.out rfl hltH.out (if_neg h39) (fun h => absurd h.1 (by decide)))
          clear h39
          go_wp2_with fail
          go_roundw
          case rel => exact ⟨p + 1, true, by have := hltH.out; omega, rfl, by go_num, hnx.out, rfl⟩
          case measure => have := hltH.out; simp [Go.RowKit.intOf]; omega
        | false =>
          cases H with
          | false =>
            have hnx := Lib.hid (cut_on (q' := false) hcutH.out hdr.out rfl hltH.out (if_neg h39) (by intro h; have := hHb.out.2 h.2; cases this))
            clear h39
            go_wp2_with (go_at_call 70; go_must (refine (Tryz.strings_HasPrefix X _ _).mono ?_; rw [hHH.out]; rintro e w' ⟨rfl, rfl⟩))
            go_roundw
            case rel => exact ⟨p + 1, false, by have := hltH.out; omega, rfl, by go_num, hnx.out, rfl⟩
            case measure => have := hltH.out; simp [Go.RowKit.intOf]; omega
          | true =>
            obtain ⟨h44, h32⟩ := hHb.out.1 rfl
            have hfd := Lib.hid (cut_found hcutH.out hdr.out ⟨by rw [if_neg h39], h44, h32⟩)
            have h2 : p + 2 ≤ s.size := by
              have := congrArg List.length (show L.drop (p + 1) = 32 :: (L.drop (p + 1)).tail by cases hh : L.drop (p + 1) with
                | nil => rw [hh] at h32; cases h32
                | cons x y => rw [hh] at h32; cases h32; rfl)
              rw [List.length_drop, List.length_cons] at this
              have := hLsH.out
              omega
            obtain ⟨Y, hY⟩ : ∃ Y, s.extract 0 p = Y := ⟨_, rfl⟩
            obtain ⟨Z, hZ⟩ : ∃ Z, s.extract (p + 2) s.size = Z := ⟨_, rfl⟩
            have hfin := Lib.hid (show v = .tuple #[.string Y, .string Z, .bool true] by
              rw [← hvH.out, ← hY, ← hZ]
              unfold formF restF moreF
              rw [hfd.out, extract_eq, extract_eq, hLH.out]
              simp only [List.drop_zero, Nat.sub_zero, Option.isSome_some, List.tail_drop]
              rw [List.take_of_length_le (show (L.drop (p + 2)).length ≤ s.size - (p + 2) by rw [List.length_drop, hLsH.out]; omega)])
            clear h39 h44 h32
            go_wp2_with (go_at_call 70; go_must (refine (Tryz.strings_HasPrefix X _ _).mono ?_; rw [hHH.out]; rintro e w' ⟨rfl, rfl⟩))
            go_quiet (fail)
            go_wp2_with fail
            refine bodyPost_ret (v := v) (by rw [hfin.out]; simp [results, Tryz.results42, go_sem, hY, hZ]) rfl ⟨rfl, (Below.refl _ _).trans ⟨rfl, rfl, rfl, Nat.le_refl _, fun _ _ => rfl⟩⟩
    · obtain rfl : p = L.length := by have := hLsH.out; omega
      have hLs := hLsH.out
      have hno := Lib.hid (show cutF false L = none by rw [hcutH.out, List.drop_length]; cases q <;> rfl)
      have hfin := Lib.hid (show v = .tuple #[.string s, .string ⟨#[]⟩, .bool false] by
        rw [← hvH.out]
        unfold formF restF moreF
        rw [hno.out]
        have : s = ⟨L.toArray⟩ := bytes_eq (by rw [hLH.out])
        rw [this]
        rfl)
      go_wp2_with fail
      refine bodyPost_ret (v := v) (by rw [hfin.out]; simp [results, Tryz.results42, go_sem]) rfl ⟨rfl, by go_grown⟩
end Go.Proofs.YtpmfbmigdpmloaaGreatDoor
end
