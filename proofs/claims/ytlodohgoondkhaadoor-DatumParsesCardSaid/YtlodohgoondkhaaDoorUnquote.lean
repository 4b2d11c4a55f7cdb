/-
  Plain mathematics: what is written of a valid text is valid; its high bytes stand for themselves; the first byte or rune of what is written. No condition but those written.
  Plain mathematics: one step of reading back what is written of a valid text. No condition but those written.
  What datum.unquote answers, at this program: of every text of at most 2^40 bytes some text; of what is written of a valid text, that text. Condition: the variable strconv.ErrSyntax holds an error or none.
-/
import Derived.Test.YtlodohgoondkhaaDoorCat
import Derived.Test.YtlodohgoondkhaaDoorWrit
import Derived.Test.YtlodohgoondkhaaDoorUnhex
import Derived.Test.YtlodohgoondkhaaDoorRuneW
import Derived.Test.YtlodohgoondkhaaDoorQw
import Derived.Test.YtlodohgoondkhaaDoorRefQuoted
set_option linter.unusedVariables false
set_option linter.unusedSimpArgs false
namespace Go.Proofs.YtlodohgoondkhaaDoor
open Go.Lib

theorem longN_pre (n m b0 b1 b2 b3 c0 c1 c2 c3 k : Nat) (hk : longN n b0 b1 b2 b3 = k) (hk0 : k ≠ 0) (hm : k ≤ m) (h0 : b0 = c0) (h1 : 2 ≤ k → b1 = c1) (h2 : 3 ≤ k → b2 = c2) (h3 : 4 ≤ k → b3 = c3) : longN m c0 c1 c2 c3 = k := by
  subst h0
  unfold longN at *
  by_cases a : b0 < 128
  · simp [a] at hk ⊢; exact hk
  by_cases b : 194 ≤ b0 ∧ b0 < 224
  · simp only [a, b, if_true, if_false] at *
    by_cases e : n < 2
    · simp [e] at hk; omega
    · by_cases g : b1 < 128 ∨ 192 ≤ b1
      · simp [e, g] at hk; omega
      · simp [e, g] at hk
        have := h1 (by omega)
        subst this
        simp [g, show ¬ m < 2 by omega]; exact hk
  by_cases c : 224 ≤ b0 ∧ b0 < 240
  · simp only [a, b, c, if_true, if_false] at *
    by_cases e : n < 3
    · simp [e] at hk; omega
    · have hk3 : k = 3 := by
        revert hk
        repeat' split
        all_goals omega
      have := h1 (by omega)
      have := h2 (by omega)
      subst_vars
      simp only [e, if_false] at hk
      simp only [show ¬ m < 3 by omega, if_false]
      exact hk
  by_cases d : 240 ≤ b0 ∧ b0 < 245
  · simp only [a, b, c, d, if_true, if_false] at *
    by_cases e : n < 4
    · simp [e] at hk; omega
    · have hk3 : k = 4 := by
        revert hk
        repeat' split
        all_goals omega
      have := h1 (by omega)
      have := h2 (by omega)
      have := h3 (by omega)
      subst_vars
      simp only [e, if_false] at hk
      simp only [show ¬ m < 4 by omega, if_false]
      exact hk
  · simp [a, b, c, d] at hk; omega
theorem getD_take (l x : List UInt8) (k i : Nat) (h : i < k) (hl : k ≤ l.length) : (l.take k ++ x).getD i 0 = l.getD i 0 := by
  rw [getD_app _ _ _ (by rw [List.length_take]; omega)]
  simp [List.getD, List.getElem?_take, h]
theorem lonL_pre (l x : List UInt8) (h : l ≠ []) (hk : lonL l ≠ 0) : lonL (l.take (lonL l) ++ x) = lonL l := by
  have hle := lonL_le l h
  obtain ⟨k, hkk⟩ : ∃ k, lonL l = k := ⟨_, rfl⟩
  rw [hkk] at hk hle ⊢
  have hm : k ≤ (l.take k ++ x).length := by rw [List.length_append, List.length_take]; omega
  unfold lonL at hkk
  unfold lonL
  refine longN_pre _ _ _ _ _ _ _ _ _ _ k hkk hk hm (by rw [getD_take _ _ _ _ (by omega) hle]) ?_ ?_ ?_
  all_goals
    intro hh
    rw [getD_take _ _ _ _ (by omega) hle]
theorem longN_high (n b0 b1 b2 b3 : Nat) (h : 2 ≤ longN n b0 b1 b2 b3) : 128 ≤ b0 ∧ 128 ≤ b1 ∧ (3 ≤ longN n b0 b1 b2 b3 → 128 ≤ b2) ∧ (4 ≤ longN n b0 b1 b2 b3 → 128 ≤ b3) := by
  revert h
  unfold longN
  repeat' split
  all_goals omega
theorem rune_high (l : List UInt8) (h : 2 ≤ lonL l) : ∀ c ∈ l.take (lonL l), 128 ≤ c.toNat := by
  have hh := longN_high _ _ _ _ _ (show 2 ≤ longN l.length (l.getD 0 0).toNat (l.getD 1 0).toNat (l.getD 2 0).toNat (l.getD 3 0).toNat from h)
  have h4 : lonL l ≤ 4 := by
    unfold lonL longN
    repeat' split
    all_goals omega
  intro c hc
  obtain ⟨i, hi, e⟩ := List.getElem_of_mem hc
  rw [List.length_take] at hi
  have e2 : l.getD i 0 = c := by
    rw [← e]
    simp [List.getD, show i < l.length by omega]
  change 128 ≤ (l.getD 0 0).toNat ∧ 128 ≤ (l.getD 1 0).toNat ∧ (3 ≤ lonL l → _) ∧ (4 ≤ lonL l → _) at hh
  match i, hi, e2 with
  | 0, _, e2 => rw [← e2]; exact hh.1
  | 1, _, e2 => rw [← e2]; exact hh.2.1
  | 2, hi, e2 => rw [← e2]; exact hh.2.2.1 (by omega)
  | 3, hi, e2 => rw [← e2]; exact hh.2.2.2 (by omega)
  | i + 4, hi, _ => omega
theorem longN_one (n b0 b1 b2 b3 : Nat) (h : longN n b0 b1 b2 b3 = 1) : b0 < 128 := by
  revert h
  unfold longN
  repeat' split
  all_goals omega
theorem esc_ascii {c : UInt8} (h : c.toNat < 128) : ∀ b ∈ escB c, b.toNat < 128 := by
  have e1 : (hexD (c.toNat / 16)).toNat < 128 := (by decide : ∀ i : Fin 16, (hexD i.val).toNat < 128) ⟨c.toNat / 16, by omega⟩
  have e2 : (hexD (c.toNat % 16)).toNat < 128 := (by decide : ∀ i : Fin 16, (hexD i.val).toNat < 128) ⟨c.toNat % 16, by omega⟩
  unfold escB
  repeat' split
  all_goals
    intro b hb
    simp only [List.mem_cons, List.not_mem_nil, or_false] at hb
  · rcases hb with rfl | rfl <;> decide
  · rcases hb with rfl | rfl <;> decide
  · rcases hb with rfl | rfl <;> decide
  · rcases hb with rfl | rfl <;> decide
  · rcases hb with rfl | rfl <;> decide
  · rcases hb with rfl | rfl | rfl | rfl
    · decide
    · decide
    · exact e1
    · exact e2
  · subst hb; exact h
theorem valid_ascii : ∀ (l m : List UInt8), (∀ b ∈ l, b.toNat < 128) → validD (l ++ m) = validD m
  | [], _, _ => rfl
  | b :: l, m, h => by
    rw [List.cons_append, validD_cons b _ (h b (by simp))]
    exact valid_ascii l m (fun x hx => h x (by simp [hx]))
/-- What is written of a valid text is valid. -/
theorem flat_valid : ∀ (f : Nat) (l : List UInt8), l.length ≤ f → validD l = true → validD (l.flatMap escB) = true
  | _, [], _, _ => rfl
  | 0, x :: l, hf, _ => by simp at hf
  | f + 1, x :: l, hf, hv => by
    have hne : (x :: l : List UInt8) ≠ [] := by simp
    obtain ⟨hk, _, hd⟩ := validD_lonL _ hne hv
    have hle := lonL_le _ hne
    have ih := flat_valid f _ (by rw [List.length_drop]; simp only [List.length_cons] at hf ⊢; omega) hd
    have hsplit : (x :: l).flatMap escB = ((x :: l).take (lonL (x :: l))).flatMap escB ++ ((x :: l).drop (lonL (x :: l))).flatMap escB := by
      rw [← List.flatMap_append, List.take_append_drop]
    rw [hsplit]
    by_cases h1 : lonL (x :: l) = 1
    · have ha : x.toNat < 128 := longN_one _ _ _ _ _ h1
      rw [h1] at ih ⊢
      simp only [List.take_succ_cons, List.take_zero, List.flatMap_cons, List.flatMap_nil, List.append_nil]
      rw [valid_ascii _ _ (esc_ascii ha)]
      exact ih
    · have hh := rune_high (x :: l) (by omega)
      rw [flat_high _ hh]
      have hp := lonL_pre (x :: l) (((x :: l).drop (lonL (x :: l))).flatMap escB) hne hk
      refine validD_of_lonL _ (by intro e; have := congrArg List.length e; simp only [List.length_append, List.length_take, List.length_nil] at this; omega) (by rw [hp]; exact hk) ?_
      rw [hp, List.drop_append, List.drop_eq_nil_of_le (by rw [List.length_take]; omega), List.nil_append, List.length_take, Nat.min_eq_left hle, Nat.sub_self, List.drop_zero]
      exact ih
/-- A high byte stands for itself. -/
theorem flat_head_high {l r : List UInt8} {h : UInt8} (e : l.flatMap escB = h :: r) (hh : 128 ≤ h.toNat) : ∃ l', l = h :: l' ∧ r = l'.flatMap escB := by
  cases l with
  | nil => cases e
  | cons c l =>
    rw [List.flatMap_cons] at e
    by_cases hc : c.toNat < 128
    · exfalso
      have hlen := (escB_len c).1
      cases hE : escB c with
      | nil => rw [hE] at hlen; simp at hlen
      | cons b t =>
        rw [hE] at e
        have hb := esc_ascii hc b (by rw [hE]; simp)
        have := (List.cons.inj e).1
        rw [this] at hb
        omega
    · rw [escB_high (by omega)] at e
      have := List.cons.inj e
      exact ⟨l, by rw [this.1], this.2.symm⟩
open Go.Lib

theorem take_high : ∀ (k : Nat) (l : List UInt8) (X : List UInt8), l.flatMap escB = X → k ≤ X.length → (∀ b ∈ X.take k, 128 ≤ b.toNat) → ∃ l', l = X.take k ++ l' ∧ X.drop k = l'.flatMap escB
  | 0, l, X, h, _, _ => ⟨l, by simp, by simpa using h.symm⟩
  | k + 1, l, [], h, hk, _ => by simp at hk
  | k + 1, l, h0 :: X, h, hk, hb => by
    obtain ⟨l1, rfl, e⟩ := flat_head_high h (hb h0 (by simp))
    obtain ⟨l2, e1, e2⟩ := take_high k l1 X e.symm (by simpa using hk) (fun b hm => hb b (by simp [hm]))
    exact ⟨l2, by rw [List.take_succ_cons, List.cons_append, ← e1], by rw [List.drop_succ_cons]; exact e2⟩
theorem decodeL_ascii (b : UInt8) (t : List UInt8) (h : b.toNat < 128) : decodeL (b :: t) = (b.toNat, 1) := by
  rw [decodeL_N]
  simp [decodeN, h]
theorem enc_ascii (c : UInt8) (h : c.toNat < 128) : encodeRune (c.toNat : Int) = [c] := by
  unfold encodeRune
  rw [encodeRuneZ_one (by omega) (by omega)]
  simp
theorem valid_tail {c : UInt8} {l : List UInt8} (h : c.toNat < 128) (hv : validD (c :: l) = true) : validD l = true := by rw [validD_cons c l h] at hv; exact hv
/-- A byte that is written with an escape is an ASCII one, and its escape begins with a quote or a backslash. -/
theorem esc_head (c : UInt8) : (∃ t, escB c = c :: t ∧ t = [] ∧ c ≠ 39 ∧ c ≠ 92) ∨ (c.toNat < 128 ∧ ∃ b t, escB c = b :: t ∧ (b = 39 ∨ b = 92)) := by
  unfold escB
  by_cases h1 : c = 39
  · subst h1; exact .inr ⟨by decide, 39, [39], rfl, .inl rfl⟩
  by_cases h2 : c = 92
  · subst h2; exact .inr ⟨by decide, 92, [92], rfl, .inr rfl⟩
  by_cases h3 : c = 10
  · subst h3; exact .inr ⟨by decide, 92, [110], rfl, .inr rfl⟩
  by_cases h4 : c = 13
  · subst h4; exact .inr ⟨by decide, 92, [114], rfl, .inr rfl⟩
  by_cases h5 : c = 9
  · subst h5; exact .inr ⟨by decide, 92, [116], rfl, .inr rfl⟩
  rw [if_neg h1, if_neg h2, if_neg h3, if_neg h4, if_neg h5]
  by_cases h6 : c < 32 ∨ c = 127
  · rw [if_pos h6]
    refine .inr ⟨?_, 92, _, rfl, .inr rfl⟩
    rcases h6 with h | h
    · have := UInt8.lt_iff_toNat_lt.1 h
      have e : (32 : UInt8).toNat = 32 := rfl
      omega
    · subst h; decide
  · rw [if_neg h6]
    exact .inl ⟨[], rfl, rfl, h1, h2⟩
theorem dv_fin : ∀ i : Fin 16, dvZ (hexD i.val) = (i.val : Int) := by decide
theorem dv_hex {n : Nat} (h : n < 16) : dvZ (hexD n) = (n : Int) := dv_fin ⟨n, h⟩
theorem get_of (l : List UInt8) (i : Nat) (h : i < l.length) : (⟨l.toArray⟩ : ByteArray).get! i = l.getD i 0 := by
  simp only [ByteArray.get!]
  rw [getElem!_pos l.toArray i (by simpa using h)]
  simp [List.getD, h]
theorem unhex_esc (n : Nat) (h : n < 256) (x : List UInt8) : unhexS ⟨(hexD (n / 16) :: hexD (n % 16) :: x).toArray⟩ = ((n : Int), 4) := by
  unfold unhexS
  rw [if_neg (by show ¬ (hexD (n / 16) :: hexD (n % 16) :: x).toArray.size < 2; simp), get_of _ 0 (by simp), get_of _ 1 (by simp)]
  show optP (puS (hexD (n / 16)) (hexD (n % 16))) = _
  have e1 := dv_hex (n := n / 16) (by omega)
  have e2 := dv_hex (n := n % 16) (by omega)
  unfold puS
  rw [if_pos ⟨by omega, by omega⟩, e1, e2]
  show ((16 * ((n / 16 : Nat) : Int) + ((n % 16 : Nat) : Int)), (4 : Int)) = _
  congr 1
  omega
theorem unesc_two (a b : UInt8) (x : List UInt8) : unescS ⟨(a :: b :: x).toArray⟩ = escP a b (unhexS ⟨x.toArray⟩) := by
  unfold unescS
  rw [if_neg (by show ¬ (a :: b :: x).toArray.size < 2; simp), get_of _ 0 (by simp), get_of _ 1 (by simp)]
  have e : (⟨(a :: b :: x).toArray⟩ : ByteArray).extract 2 (⟨(a :: b :: x).toArray⟩ : ByteArray).size = ⟨x.toArray⟩ := by
    refine bytes_ext ?_
    have : (⟨(a :: b :: x).toArray⟩ : ByteArray).size = x.length + 2 := by show (a :: b :: x).toArray.size = _; simp
    rw [this]
    simp [ByteArray.data_extract]
  rw [e]
  rfl
/-- An escape is read back. -/
theorem unesc_esc (c : UInt8) (x : List UInt8) (hc : ¬ ∃ t, escB c = c :: t ∧ t = [] ∧ c ≠ 39 ∧ c ≠ 92) : unescS ⟨(escB c ++ x).toArray⟩ = ((c.toNat : Int), ((escB c).length : Int)) := by
  by_cases h1 : c = 39
  · subst h1; rw [show escB 39 ++ x = 39 :: 39 :: x from rfl, unesc_two]; rfl
  by_cases h2 : c = 92
  · subst h2; rw [show escB 92 ++ x = 92 :: 92 :: x from rfl, unesc_two]; rfl
  by_cases h3 : c = 10
  · subst h3; rw [show escB 10 ++ x = 92 :: 110 :: x from rfl, unesc_two]; rfl
  by_cases h4 : c = 13
  · subst h4; rw [show escB 13 ++ x = 92 :: 114 :: x from rfl, unesc_two]; rfl
  by_cases h5 : c = 9
  · subst h5; rw [show escB 9 ++ x = 92 :: 116 :: x from rfl, unesc_two]; rfl
  by_cases h6 : c < 32 ∨ c = 127
  · have e : escB c = [92, 120, hexD (c.toNat / 16), hexD (c.toNat % 16)] := by unfold escB; rw [if_neg h1, if_neg h2, if_neg h3, if_neg h4, if_neg h5, if_pos h6]
    rw [e]
    show unescS ⟨(92 :: 120 :: hexD (c.toNat / 16) :: hexD (c.toNat % 16) :: x).toArray⟩ = _
    rw [unesc_two, unhex_esc c.toNat c.toNat_lt]
    rfl
  · exfalso
    refine hc ⟨[], ?_, rfl, h1, h2⟩
    unfold escB
    rw [if_neg h1, if_neg h2, if_neg h3, if_neg h4, if_neg h5, if_neg h6]
/-- One step where the next rune is a quote or a backslash. -/
theorem step_esc {l X : List UInt8} (hv : validD l = true) (h : l.flatMap escB = X) (hne : X ≠ []) (hr : (decodeL X).1 = 39 ∨ (decodeL X).1 = 92) :
    ∃ c l3, l = c :: l3 ∧ validD l3 = true ∧ unescS ⟨X.toArray⟩ = ((c.toNat : Int), ((escB c).length : Int)) ∧ encodeRune (c.toNat : Int) = [c] ∧ X.drop (escB c).length = l3.flatMap escB ∧ (∀ j, j < (escB c).length → (X.getD j 0).toNat < 128) := by
  cases l with
  | nil => exact absurd h.symm hne
  | cons c l3 =>
    rw [List.flatMap_cons] at h
    rcases esc_head c with ⟨t, e, et, n1, n2⟩ | ⟨hc, b, t, e, hb⟩
    · exfalso
      rw [e, et] at h
      by_cases ha : c.toNat < 128
      · rw [← h, List.cons_append, List.nil_append, decodeL_ascii c _ ha] at hr
        rcases hr with g | g
        · exact n1 (UInt8.toNat_inj.1 g)
        · exact n2 (UInt8.toNat_inj.1 g)
      · have hX : validD X = true := by
          rw [← h]
          have := flat_valid _ (c :: l3) (Nat.le_refl _) hv
          rw [List.flatMap_cons, e, et] at this
          exact this
        obtain ⟨hk, _, _⟩ := validD_lonL X hne hX
        have hd : ¬ ((decodeL X).1 = 65533 ∧ (decodeL X).2 = 1) := by omega
        have he := encode_decode X hne hd
        rcases hr with g | g
        · rw [g, show ((39 : Nat) : Int) = ((39 : UInt8).toNat : Int) from rfl, enc_ascii 39 (by decide)] at he
          have := congrArg (fun z : List UInt8 => z.headD 0) he
          rw [← h] at this
          have hw := (validD_lonL X hne hX).2.1
          rw [← h] at hw hk
          simp only [List.headD_cons, List.cons_append, List.nil_append] at this
          rw [show (decodeL (c :: l3.flatMap escB)).2 = ((decodeL (c :: l3.flatMap escB)).2 - 1) + 1 by
            have := hw; simp only [List.cons_append, List.nil_append] at this hk; omega, List.take_succ_cons, List.headD_cons] at this
          exact n1 this.symm
        · rw [g, show ((92 : Nat) : Int) = ((92 : UInt8).toNat : Int) from rfl, enc_ascii 92 (by decide)] at he
          have := congrArg (fun z : List UInt8 => z.headD 0) he
          rw [← h] at this
          have hw := (validD_lonL X hne hX).2.1
          rw [← h] at hw hk
          simp only [List.headD_cons, List.cons_append, List.nil_append] at this
          rw [show (decodeL (c :: l3.flatMap escB)).2 = ((decodeL (c :: l3.flatMap escB)).2 - 1) + 1 by
            have := hw; simp only [List.cons_append, List.nil_append] at this hk; omega, List.take_succ_cons, List.headD_cons] at this
          exact n2 this.symm
    · have hn : ¬ ∃ t, escB c = c :: t ∧ t = [] ∧ c ≠ 39 ∧ c ≠ 92 := by
        rintro ⟨t', e', _, n1, n2⟩
        rw [e] at e'
        rcases hb with hb | hb
        · exact n1 ((List.cons.inj e').1.symm.trans hb)
        · exact n2 ((List.cons.inj e').1.symm.trans hb)
      refine ⟨c, l3, rfl, valid_tail hc hv, by rw [← h]; exact unesc_esc c _ hn, enc_ascii c hc, by rw [← h]; simp, ?_⟩
      intro j hj
      rw [← h, getD_app _ _ _ hj]
      refine esc_ascii hc _ ?_
      simp only [List.getD, List.getElem?_eq_getElem hj, Option.getD_some]
      exact List.getElem_mem hj
/-- One step where it is none. -/
theorem step_plain {l X : List UInt8} (hv : validD l = true) (h : l.flatMap escB = X) (hne : X ≠ []) (hr : ¬ ((decodeL X).1 = 39 ∨ (decodeL X).1 = 92)) :
    ∃ l', l = encodeRune ((decodeL X).1 : Int) ++ l' ∧ validD l' = true ∧ X.drop (decodeL X).2 = l'.flatMap escB := by
  have hX : validD X = true := by rw [← h]; exact flat_valid _ _ (Nat.le_refl _) hv
  obtain ⟨hk, hw, _⟩ := validD_lonL X hne hX
  have hd : ¬ ((decodeL X).1 = 65533 ∧ (decodeL X).2 = 1) := by
    intro g
    have := lonL_eq X hne
    rw [if_pos (Prod.ext g.1 g.2)] at this
    exact hk this
  rw [encode_decode X hne hd, hw]
  by_cases h1 : lonL X = 1
  · cases X with
    | nil => exact absurd rfl hne
    | cons b t =>
      have ha : b.toNat < 128 := longN_one _ _ _ _ _ h1
      rw [decodeL_ascii b t ha] at hr
      cases l with
      | nil => cases h
      | cons c l3 =>
        rw [List.flatMap_cons] at h
        rcases esc_head c with ⟨t', e, et, _, _⟩ | ⟨_, b', t', e, hb⟩
        · rw [e, et] at h
          have hcb := (List.cons.inj h).1
          subst hcb
          rw [h1]
          exact ⟨l3, by simp, valid_tail ha hv, by simpa using (List.cons.inj h).2.symm⟩
        · exfalso
          rw [e] at h
          have hbb := (List.cons.inj h).1
          rw [hbb] at hb
          rcases hb with hb | hb
          · exact hr (.inl (by rw [hb]; rfl))
          · exact hr (.inr (by rw [hb]; rfl))
  · have hh := rune_high X (by omega)
    obtain ⟨l', e1, e2⟩ := take_high (lonL X) l X h (lonL_le X hne) hh
    refine ⟨l', e1, ?_, e2⟩
    have hlp := lonL_pre X l' hne hk
    have hle := lonL_le X hne
    have hl : l ≠ [] := by rw [e1]; intro e; have := congrArg List.length e; rw [List.length_append, List.length_take, List.length_nil] at this; omega
    obtain ⟨_, _, hv3⟩ := validD_lonL l hl hv
    rw [e1, hlp, List.drop_append, List.drop_eq_nil_of_le (by rw [List.length_take]; omega), List.nil_append, List.length_take, Nat.min_eq_left hle, Nat.sub_self, List.drop_zero] at hv3
    exact hv3
open Go.RowKit Go.Lib

theorem suffix_quote (l : List UInt8) : Lib.hasSuffix (quoteL l) [39] = true := by
  show List.isSuffixOf [39] (39 :: (l.flatMap escB ++ [39])) = true
  rw [List.isSuffixOf_iff_suffix]
  exact ⟨39 :: l.flatMap escB, rfl⟩
/-- What unquote answers. -/
def OutU (s : ByteArray) (e : Ending) : Prop :=
  ∃ t ok, e = .returned (.tuple #[.string t, .bool ok]) ∧ t.size ≤ 4 * s.size + 16 ∧ ∀ l, validD l = true → s.data.toList = quoteL l → ok = true ∧ t = ⟨l.toArray⟩
theorem outU_bad {s : ByteArray} (h : ∀ l, validD l = true → s.data.toList = quoteL l → False) : OutU s (.returned (.tuple #[.string ⟨#[]⟩, .bool false])) :=
  ⟨⟨#[]⟩, false, rfl, Nat.zero_le _, fun l hv e => (h l hv e).elim⟩
/-- What is known of a place, where the text is what is written of l. -/
def InvU (m : List UInt8) (l : List UInt8) (p n : Nat) (acc : List UInt8) : Prop :=
  ∃ l2, acc ++ l2 = l ∧ validD l2 = true ∧ m.drop (max p n) = l2.flatMap escB ∧ ∀ j, p ≤ j → j < n → (m.getD j 0).toNat < 128
/-- What the rounds hold. -/
def RelU (m : ByteArray) (w : World) (nx : Value) (wr : World) : Prop :=
  ∃ (p n : Nat) (acc : List UInt8), nx = .int .i64 (n : Int) ∧ n ≤ p + 4 ∧ Lib.IsBuilderF 88 5 w.heap.size w.heap.size (Lib.byteCells acc) wr ∧ wr.heap[w.heap.size + 1]? = some (.stringIter m p) ∧ Below w.heap.size w wr ∧ acc.length ≤ 4 * p ∧ p ≤ m.size + 4 ∧
    ∀ l, validD l = true → m.data.toList = l.flatMap escB → InvU m.data.toList l p n acc
theorem unescS_range (s : ByteArray) : 0 ≤ (unescS s).1 ∧ (unescS s).1 ≤ 255 ∧ 0 ≤ (unescS s).2 ∧ (unescS s).2 ≤ 4 := by
  have hu : ∀ t : ByteArray, 0 ≤ (unhexS t).1 ∧ (unhexS t).1 ≤ 255 ∧ 0 ≤ (unhexS t).2 ∧ (unhexS t).2 ≤ 4 := by
    intro t
    unfold unhexS
    split
    · decide
    · cases h : puS (t.get! 0) (t.get! 1) with
      | none => decide
      | some n =>
        have := puS_range h
        exact ⟨this.1, this.2, (by decide : (0 : Int) ≤ 4), (by decide : (4 : Int) ≤ 4)⟩
  unfold unescS escP
  repeat' split
  all_goals first | decide | exact hu _
theorem decN_le (n a b c d : Nat) : (decodeN n a b c d).2 ≤ 4 := by
  unfold decodeN
  repeat' split
  all_goals first | decide | (dsimp only; omega)
theorem drop_list (m : ByteArray) (p : Nat) : (m.extract p m.size).data.toList = m.data.toList.drop p := by
  simp [ByteArray.data_extract]
  exact List.take_of_length_le (by rw [List.length_drop, size_list]; exact Nat.le_refl _)
theorem mid_list {s : ByteArray} {l : List UInt8} (e : s.data.toList = quoteL l) : (s.extract 1 (s.size - 1)).data.toList = l.flatMap escB := by
  have hz : s.size = (l.flatMap escB).length + 2 := by rw [← size_list, e]; unfold quoteL; simp
  have h1 : (s.extract 1 (s.size - 1)).data.toList = (s.data.toList.take (s.size - 1)).drop 1 := by
    simp [ByteArray.data_extract, List.drop_take]
  rw [h1, e, hz]
  unfold quoteL
  simp
theorem isB_below {T e B b : Nat} {bs : List Value} {w w' : World} (hb : Below w.heap.size w w') (hI : Lib.IsBuilderF T e B b bs w) : Lib.IsBuilderF T e B b bs w' := by
  have hk : ∀ p, Lib.BuilderAtF T e B b p bs w → Lib.BuilderAtF T e B b p bs w' := by
    rintro p ⟨h1, v, h2, ⟨h3, h4⟩, h5⟩
    refine ⟨h1, v, (hb.block b (lt_of_block h2)).trans h2, ⟨h3, ?_⟩, h5⟩
    rcases h4 with h4 | ⟨g, cap, cur, fz, hv, hg, hh, hr⟩
    · exact .inl h4
    · exact .inr ⟨g, cap, cur, fz, hv, hg, (hb.block g (lt_of_block hh)).trans hh, hr⟩
  exact hI.elim (fun x => .inl (hk _ x)) (fun x => .inr (hk _ x))
theorem encR_len (r : Int) : (encodeRune r).length ≤ 4 := by
  have := encodeRuneZ_length r
  unfold encodeRune
  simpa using this.2
theorem getD_drop (l : List UInt8) (p j : Nat) : (l.drop p).getD j 0 = l.getD (p + j) 0 := by simp [List.getD]
theorem dec_one (X : List UInt8) (hne : X ≠ []) (h : (X.getD 0 0).toNat < 128) : (decodeL X).2 = 1 := by
  cases X with
  | nil => exact absurd rfl hne
  | cons b t => rw [decodeL_ascii b t h]
theorem of_list {X : ByteArray} {l : List UInt8} (h : X.data.toList = l) : X = ⟨l.toArray⟩ := bytes_ext (by simpa using h)
theorem ret_tb {t : ByteArray} {s : ByteArray} {ok : Bool} (h1 : t.size ≤ 4 * s.size + 16) (h2 : ∀ l, validD l = true → s.data.toList = quoteL l → ok = true ∧ t = ⟨l.toArray⟩) : OutU s (.returned (.tuple #[.string t, .bool ok])) := ⟨t, ok, rfl, h1, h2⟩

set_option maxHeartbeats 8000000 in
set_option maxRecDepth 1000000 in
theorem unquote_any (s : ByteArray) (w : World) (hE : ErrV w) (hs : s.size ≤ 1099511627776) :
    Calls Tryd.prog 104 #[.string s] w fun e w' => OutU s e ∧ Below w.heap.size w w' := by
  have hEH := Lib.hid hE
  clear hE
  by_cases h2 : s.size < 2
  · have hg : (s.size : Int) < 2 := by omega
    have hoH := Lib.hid (outU_bad (s := s) (fun l _ e => by have := congrArg List.length e; rw [size_list] at this; unfold quoteL at this; simp at this; omega))
    go_enter Tryd.func104, Tryd.ntmps104
    go_wp2
    go_ret2
    exact ⟨hoH.out, by go_grown⟩
  have hg : ¬ (s.size : Int) < 2 := by omega
  obtain ⟨u, hu⟩ : ∃ u, Lib.hasSuffix s.data.toList [39] = u := ⟨_, rfl⟩
  have huH := Lib.hid hu
  cases u with
  | false =>
    have hoH := Lib.hid (outU_bad (s := s) (fun l _ e => by rw [e, suffix_quote] at hu; cases hu))
    clear hu
    go_enter Tryd.func104, Tryd.ntmps104
    go_wp2_with (go_at_call 118; go_must (refine (Tryd.strings_HasSuffix s ⟨#[39]⟩ _ (by omega)).mono ?_; rw [show Lib.hasSuffix s.data.toList (⟨#[39]⟩ : ByteArray).data.toList = false from huH.out]; rintro e w' ⟨rfl, hw⟩; replace hw := hw.symm; subst hw))
    go_ret2
    exact ⟨hoH.out, by go_grown⟩
  | true =>
    clear hu
    obtain ⟨m, hm⟩ : ∃ m, s.extract 1 (s.size - 1) = m := ⟨_, rfl⟩
    have hmz : m.size ≤ s.size := by rw [← hm, ByteArray.size_extract]; omega
    have hmH := Lib.hid hm
    have e1 : (1 : Int) ≤ (s.size : Int) - 1 := by omega
    have e2 : ((s.size : Int) - 1).toNat = s.size - 1 := by omega
    have e3 : (s.size : Int) - 1 ≤ s.size := by omega
    go_enter Tryd.func104, Tryd.ntmps104
    go_wp2_with (go_at_call 118; go_must (refine (Tryd.strings_HasSuffix s ⟨#[39]⟩ _ (by omega)).mono ?_; rw [show Lib.hasSuffix s.data.toList (⟨#[39]⟩ : ByteArray).data.toList = true from huH.out]; rintro e w' ⟨rfl, hw⟩; replace hw := hw.symm; subst hw))
    have hB0 : Lib.IsBuilderF 88 5 w.heap.size w.heap.size (Lib.byteCells []) (w.alloc (.cells #[.pointer none, .slice none 0 0] 88)) :=
      .inl ⟨Nat.le_refl _, .slice none 0 0, heap_alloc_new w _, World.ownsRowF_nil _ _ _ _, by simp [Value.ownBlock]⟩
    go_loopw [5] (fun nx wr => RelU m w nx wr) (fun _ wr => m.size - wr.iterPos (w.heap.size + 1))
    case atStart =>
      refine ⟨0, 0, [], rfl, by omega, hB0.alloc _, ?_, ((Below.refl _ w).alloc (Nat.le_refl _) _).alloc (by simp) _, by simp, Nat.zero_le _, fun l hv e => ⟨l, by simp, hv, by simpa using e, fun j _ h => absurd h (by omega)⟩⟩
      have := World.iter_heap (w.alloc (.cells #[.pointer none, .slice none 0 0] 88)) m 0
      simpa using this
    case round =>
      clear hB0
      unfold RelU at hrel
      obtain ⟨p, n, acc, rfl, hnp, hI, hit, hbw, hal, hpm, hinv⟩ := hrel
      have hsz : w.heap.size + 1 < wr.heap.size := (Array.getElem?_eq_some_iff.1 hit).1
      have hinvH := Lib.hid hinv
      clear hinv
      by_cases hp : p < m.size
      · have hnx : ∀ ty, (Instr.next (.pointer (some ⟨w.heap.size + 1, 0, none⟩)) true ty).run Tryd.prog wr = _ := fun ty => Lib.run_next_any_at wr (w.heap.size + 1) m p ty hit hp
        have hwd : 1 ≤ (Utf8.decode m p).2 := decode_width_pos m p hp
        have hI2 := hI.iterAt hit (p + (Utf8.decode m p).2)
        have hit2 := Lib.iterAt_heap wr (w.heap.size + 1) m p (p + (Utf8.decode m p).2) hit
        have hbw2 := Lib.below_iterAt hbw (k := w.heap.size + 1) (by omega) m (p + (Utf8.decode m p).2)
        have hit0 := Lib.hid hit
        have hrle := Lib.rune_le m p
        have hsz2 : w.heap.size ≤ (wr.iterAt (w.heap.size + 1) m (p + (Utf8.decode m p).2)).heap.size := by rw [Lib.iterAt_size]; omega
        obtain ⟨r, hr⟩ : ∃ r, (Utf8.decode m p).1 = r := ⟨_, rfl⟩
        obtain ⟨k, hk⟩ : ∃ k, (Utf8.decode m p).2 = k := ⟨_, rfl⟩
        have hdec : decodeL (m.data.toList.drop p) = (r, k) := by rw [decodeL_drop]; exact Prod.ext hr hk
        have hdecH := Lib.hid hdec
        rw [hr, hk] at hnx
        rw [hr] at hrle
        rw [hk] at hwd hI2 hit2 hbw2 hsz2
        have hk4 : k ≤ 4 := by rw [← hk, ← decodeL_drop, decodeL_N]; exact decN_le _ _ _ _ _
        have hI2H := Lib.hid hI2; have hit2H := Lib.hid hit2; have hbw2H := Lib.hid hbw2
        have hlen : m.data.toList.length = m.size := size_list m
        have hlenH := Lib.hid hlen
        clear hdec hk hI hit hbw hI2 hit2 hbw2 hlen
        by_cases hn : p < n
        · have hni : (p : Int) < (n : Int) := by omega
          go_wp2_with fail
          go_roundw
          case rel =>
            refine ⟨p + k, n, acc, rfl, by omega, hI2H.out, hit2H.out, hbw2H.out, by omega, by omega, fun l hv e => ?_⟩
            obtain ⟨l2, q1, q2, q3, q4⟩ := hinvH.out l hv e
            have hasc := q4 p (Nat.le_refl _) hn
            have hkk : k = 1 := by
              have hx := hdecH.out
              rw [toList_drop m p hp, decodeL_ascii _ _ (by rw [show m.data.toList.getD p 0 = m.get! p by have := toList_drop m p hp; have h3 := congrArg (fun z : List UInt8 => z.getD 0 0) this; simpa [List.getD] using h3] at hasc; exact hasc)] at hx
              exact (Prod.mk.inj hx).2.symm
            exact ⟨l2, q1, q2, by rw [← q3]; congr 1; omega, fun j h1 h2 => q4 j (by omega) h2⟩
          case measure =>
            simp only [World.iterPos, hit2H.out, hit0.out]
            omega
        · have hni : ¬ (p : Int) < (n : Int) := by omega
          have hXne : m.data.toList.drop p ≠ [] := drop_ne m p hp
          have hr0 : (0 : Int) ≤ (r : Int) := by omega
          have hr1 : (r : Int) ≤ 1114111 := by omega
          by_cases hq1 : r = 39 ∨ r = 92
          · obtain ⟨X, hX⟩ : ∃ X, m.extract p m.size = X := ⟨_, rfl⟩
            have hXl : X.data.toList = m.data.toList.drop p := by rw [← hX]; exact drop_list m p
            have hXz : X.size ≤ m.size := by rw [← size_list, hXl, List.length_drop, size_list]; omega
            obtain ⟨q, hq⟩ : ∃ q, unescS X = q := ⟨_, rfl⟩
            have hqr := unescS_range X
            rw [hq] at hqr
            obtain ⟨g0, g1, g2, g3⟩ := hqr
            have hqH := Lib.hid hq
            obtain ⟨q1, q2⟩ := q
            simp only at g0 g1 g2 g3
            have hstep : Hid (∀ l, validD l = true → m.data.toList = l.flatMap escB → ∃ c l3, acc ++ c :: l3 = l ∧ validD l3 = true ∧ q1 = (c.toNat : Int) ∧ q2 = ((escB c).length : Int) ∧ encodeRune q1 = [c] ∧ m.data.toList.drop (p + (escB c).length) = l3.flatMap escB ∧ (∀ j, j < (escB c).length → (m.data.toList.getD (p + j) 0).toNat < 128) ∧ k = 1) := Lib.hid (fun l hv e => by
              obtain ⟨l2, w1, w2, w3, w4⟩ := hinvH.out l hv e
              rw [show max p n = p by omega] at w3
              obtain ⟨c, l3, v1, v2, v3, v4, v5, v6⟩ := step_esc w2 w3.symm hXne (by rw [hdecH.out]; exact hq1)
              have hXX : (⟨(m.data.toList.drop p).toArray⟩ : ByteArray) = X := (of_list hXl).symm
              rw [hXX, hqH.out] at v3
              have v31 := (Prod.mk.inj v3).1
              have v32 := (Prod.mk.inj v3).2
              have hk1 := dec_one _ hXne (v6 0 (by have := (escB_len c).1; omega))
              rw [hdecH.out] at hk1
              refine ⟨c, l3, by rw [← v1]; exact w1, v2, v31, v32, by rw [v31]; exact v4, by rw [← List.drop_drop]; exact v5, fun j hj => by rw [← getD_drop]; exact v6 j hj, hk1⟩)
            have hxi : (p : Int) ≤ (m.size : Int) := by omega
            have hXzH := Lib.hid (show X.size ≤ 9223372036854775807 by omega)
            clear hq hXl
            have hzz : Hid (r = 39 ∨ r = 92) := Lib.hid hq1
            have hcases : (((r : Int) == 39) = true) ∨ ((((r : Int) == 39) = false) ∧ (((r : Int) == 92) = true)) := by
              rcases hq1 with rfl | rfl
              · exact .inl rfl
              · exact .inr ⟨rfl, rfl⟩
            clear hq1
            by_cases hz : q2 = 0
            · have hoH := Lib.hid (outU_bad (s := s) (fun l hv e => by
                have hml : m.data.toList = l.flatMap escB := by rw [← hmH.out]; exact mid_list e
                obtain ⟨c, l3, _, _, _, x4, _⟩ := hstep.out l hv hml
                have := (escB_len c).1
                omega))
              subst hz
              rcases hcases with z1 | ⟨z1, z2⟩
              all_goals
                go_wp2_with (go_at_call 119; go_must (refine (unescape_any X _ (by exact hEH.out.below hbw2H.out) hXzH.out).mono ?_; rw [hqH.out]; rintro e w3 ⟨rfl, hb3⟩))
                go_ret2
                exact ⟨hoH.out, hbw2H.out.trans (hb3.mono hsz2)⟩
            · have hzb : (q2 == 0) = false := by simpa using hz
              rcases hcases with z1 | ⟨z1, z2⟩
              all_goals
                go_wp2_with (first
                  | (go_at_call 119; go_must (refine (unescape_any X _ (by exact hEH.out.below hbw2H.out) hXzH.out).mono ?_; rw [hqH.out]; rintro e w3 ⟨rfl, hb3⟩; have hI3 := isB_below hb3 hI2H.out; have hit3 := (hb3.block _ (lt_of_block hit2H.out)).trans hit2H.out; have hbw3 := hbw2H.out.trans (hb3.mono hsz2); have hsz3 := Nat.le_trans hsz2 hb3.size; have hI3H := Lib.hid hI3; have hit3H := Lib.hid hit3; clear hI3 hit3 hb3))
                  | (go_at_call 120; go_must (refine (writeRune_k w.heap.size w.heap.size (Lib.byteCells acc) q1 (by omega) (by omega) _ hI3H.out (by rw [Lib.byteCells_length]; omega) hsz3).mono ?_; rintro e w4 ⟨kk, rfl, h1, b1, k1⟩; have hit4 := k1.iter hit3H.out (by omega); have hit4H := Lib.hid hit4; have h1H := Lib.hid h1; have hbw4 := Lib.hid (hbw3.trans b1); clear hit4 h1 k1 b1)))
                go_roundw
                case rel =>
                  refine ⟨p + k, p + q2.toNat, acc ++ encodeRune q1, by first | rfl | go_num, by omega, ?_, hit4H.out, hbw4.out, ?_, by omega, ?_⟩
                  · rw [Lib.byteCells_append, Lib.byteCells_encodeRune]; exact .inr h1H.out
                  · have := encR_len q1
                    rw [List.length_append]; omega
                  · intro l hv e
                    obtain ⟨c, l3, x1, x2, x3, x4, x5, x6, x7, x8⟩ := hstep.out l hv e
                    have hl1 := (escB_len c).1
                    refine ⟨l3, by rw [x5, List.append_assoc]; exact x1, x2, ?_, ?_⟩
                    · rw [show max (p + k) (p + q2.toNat) = p + (escB c).length by omega]; exact x6
                    · intro j j1 j2
                      have := x7 (j - p) (by omega)
                      rw [show p + (j - p) = j by omega] at this
                      exact this
                case measure =>
                  simp only [World.iterPos, hit4H.out, hit0.out]
                  omega
          · have z1 : ((r : Int) == 39) = false := by simp; omega
            have z2 : ((r : Int) == 92) = false := by simp; omega
            have hq1H := Lib.hid hq1
            clear hq1
            go_wp2_with (go_at_call 120; go_must (refine (writeRune_k w.heap.size w.heap.size (Lib.byteCells acc) (r : Int) (by omega) (by omega) _ hI2H.out (by rw [Lib.byteCells_length]; omega) hsz2).mono ?_; rintro e w4 ⟨kk, rfl, h1, b1, k1⟩; have hit4 := k1.iter hit2H.out (by omega); have hit4H := Lib.hid hit4; have h1H := Lib.hid h1; have hbw4 := Lib.hid (hbw2H.out.trans b1); clear hit4 h1 k1 b1))
            go_roundw
            case rel =>
              refine ⟨p + k, n, acc ++ encodeRune (r : Int), rfl, by omega, ?_, hit4H.out, hbw4.out, ?_, by omega, ?_⟩
              · rw [Lib.byteCells_append, Lib.byteCells_encodeRune]; exact .inr h1H.out
              · have := encR_len (r : Int)
                rw [List.length_append]; omega
              · intro l hv e
                obtain ⟨l2, w1, w2, w3, w4⟩ := hinvH.out l hv e
                rw [show max p n = p by omega] at w3
                obtain ⟨l', v1, v2, v3⟩ := step_plain w2 w3.symm hXne (by rw [hdecH.out]; exact hq1H.out)
                rw [hdecH.out] at v1 v3
                refine ⟨l', by rw [List.append_assoc, ← v1]; exact w1, v2, ?_, fun j j1 j2 => by omega⟩
                rw [show max (p + k) n = p + k by omega, ← List.drop_drop]; exact v3
            case measure =>
              simp only [World.iterPos, hit4H.out, hit0.out]
              omega
      · have hnx : ∀ ty, (Instr.next (.pointer (some ⟨w.heap.size + 1, 0, none⟩)) true ty).run Tryd.prog wr = _ := fun ty => Lib.run_next_end_at wr (w.heap.size + 1) m p ty hit hp
        have hfin : OutU s (.returned (.tuple #[.string ⟨acc.toArray⟩, .bool true])) := by
          refine ret_tb (by show acc.toArray.size ≤ _; rw [List.size_toArray]; omega) (fun l hv e => ⟨rfl, ?_⟩)
          have hml : m.data.toList = l.flatMap escB := by
            rw [← hmH.out]
            exact mid_list e
          obtain ⟨l2, q1, q2, q3, q4⟩ := hinvH.out l hv hml
          have : l2.flatMap escB = [] := by rw [← q3]; exact List.drop_eq_nil_of_le (by rw [size_list]; omega)
          have : l2 = [] := flat_inj l2 [] this
          rw [← q1, this, List.append_nil]
        have hfinH := Lib.hid hfin
        clear hfin
        go_wp2_with (go_at_call 101; go_must (refine (Tryd.Builder_String_any_k w.heap.size w.heap.size acc wr hI hbw.size).mono ?_; rintro e w5 ⟨rfl, _, b2, _⟩))
        go_ret2
        exact ⟨hfinH.out, hbw.trans b2⟩
end Go.Proofs.YtlodohgoondkhaaDoor
