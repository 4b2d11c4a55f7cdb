/-
  Plain mathematics: what is written of data that may be: two are written alike just if they are the same; the bytes; the quotes. No condition but those written.
-/
import Derived.Test.YtlodohgoondkhaaDoorPrint
set_option linter.unusedVariables false
set_option linter.unusedSimpArgs false
namespace Go.Proofs.YtlodohgoondkhaaDoor
open Go.Lib

/-! ### numbers -/
theorem dec_big {n : Nat} (h : ¬ n < 10) : decDigits n = decDigits (n / 10) ++ [UInt8.ofNat (48 + n % 10)] := by rw [decDigits, dif_neg h]
def dval (l : List UInt8) : Nat := l.foldl (fun a b => 10 * a + (b.toNat - 48)) 0
theorem digit_nat {i : Nat} (h : i < 10) : (UInt8.ofNat (48 + i)).toNat = 48 + i := by rw [UInt8.toNat_ofNat']; omega
theorem dval_dec (n : Nat) : dval (decDigits n) = n := by
  induction n using Nat.strongRecOn with
  | ind n ih =>
    by_cases h : n < 10
    · rw [decDigits_one h]
      simp only [dval, List.foldl_cons, List.foldl_nil, digit_nat h]
      omega
    · have hi := ih (n / 10) (by omega)
      unfold dval at hi
      rw [dec_big h]
      simp only [dval, List.foldl_append, List.foldl_cons, List.foldl_nil, hi, digit_nat (show n % 10 < 10 by omega)]
      omega
theorem dec_range (n : Nat) : ∀ b ∈ decDigits n, 48 ≤ b.toNat ∧ b.toNat ≤ 57 := by
  induction n using Nat.strongRecOn with
  | ind n ih =>
    by_cases h : n < 10
    · rw [decDigits_one h]
      intro b hb
      rw [List.mem_singleton] at hb
      rw [hb, digit_nat h]
      omega
    · rw [dec_big h]
      intro b hb
      rw [List.mem_append, List.mem_singleton] at hb
      rcases hb with hb | hb
      · exact ih (n / 10) (by omega) b hb
      · rw [hb, digit_nat (show n % 10 < 10 by omega)]
        omega
theorem dec_ne (n : Nat) : decDigits n ≠ [] := by
  by_cases h : n < 10
  · rw [decDigits_one h]; simp
  · rw [dec_big h]; simp
theorem dec_no45 (n : Nat) (l : List UInt8) : decDigits n ≠ 45 :: l := by
  intro e
  have h := dec_range n 45 (by rw [e]; simp)
  have : (45 : UInt8).toNat = 45 := rfl
  omega
theorem itoa_inj {a b : Int} (h : itoa a = itoa b) : a = b := by
  unfold itoa at h
  by_cases ha : a < 0 <;> by_cases hb : b < 0
  · rw [if_pos ha, if_pos hb] at h
    have h2 := congrArg dval (List.cons.inj h).2
    rw [dval_dec, dval_dec] at h2
    omega
  · rw [if_pos ha, if_neg hb] at h
    exact absurd h.symm (dec_no45 _ _)
  · rw [if_neg ha, if_pos hb] at h
    exact absurd h (dec_no45 _ _)
  · rw [if_neg ha, if_neg hb] at h
    have h2 := congrArg dval h
    rw [dval_dec, dval_dec] at h2
    omega
/-! ### texts -/
def unhexN (c : UInt8) : Nat := if c.toNat < 58 then c.toNat - 48 else c.toNat - 87
theorem unhex_fin : ∀ i : Fin 16, unhexN (hexD i.val) = i.val := by decide
theorem unhex_hex {n : Nat} (h : n < 16) : unhexN (hexD n) = n := unhex_fin ⟨n, h⟩
/-- The byte that is written at the beginning. -/
def decB : List UInt8 → Option (UInt8 × List UInt8)
  | [] => none
  | c :: l =>
    if c = 39 then some (39, l.drop 1)
    else if c = 92 then
      (if l.head? = some 92 then some (92, l.drop 1) else if l.head? = some 110 then some (10, l.drop 1) else if l.head? = some 114 then some (13, l.drop 1) else if l.head? = some 116 then some (9, l.drop 1)
       else some (UInt8.ofNat (16 * unhexN ((l.drop 1).headD 0) + unhexN ((l.drop 2).headD 0)), l.drop 3))
    else some (c, l)
theorem decB_esc (c : UInt8) (x : List UInt8) : decB (escB c ++ x) = some (c, x) := by
  unfold escB
  by_cases h1 : c = 39
  · subst h1; simp [decB]
  by_cases h2 : c = 92
  · subst h2; simp [decB]
  by_cases h3 : c = 10
  · subst h3; simp [decB]
  by_cases h4 : c = 13
  · subst h4; simp [decB]
  by_cases h5 : c = 9
  · subst h5; simp [decB]
  by_cases h6 : c < 32 ∨ c = 127
  · rw [if_neg h1, if_neg h2, if_neg h3, if_neg h4, if_neg h5, if_pos h6]
    have hc := c.toNat_lt
    have e1 := unhex_hex (n := c.toNat / 16) (by omega)
    have e2 := unhex_hex (n := c.toNat % 16) (by omega)
    simp only [decB, List.cons_append, List.nil_append, List.drop_succ_cons, List.drop_zero, List.headD_cons, List.head?_cons, e1, e2]
    have e3 : 16 * (c.toNat / 16) + c.toNat % 16 = c.toNat := by omega
    rw [e3]
    simp
  · rw [if_neg h1, if_neg h2, if_neg h3, if_neg h4, if_neg h5, if_neg h6]
    simp [decB, h1, h2]
theorem flat_inj : ∀ l m : List UInt8, l.flatMap escB = m.flatMap escB → l = m
  | [], [], _ => rfl
  | [], d :: m, h => by
    have h2 := congrArg List.length h
    have := (escB_len d).1
    simp only [List.flatMap_nil, List.length_nil, List.flatMap_cons, List.length_append] at h2
    omega
  | c :: l, [], h => by
    have h2 := congrArg List.length h
    have := (escB_len c).1
    simp only [List.flatMap_nil, List.length_nil, List.flatMap_cons, List.length_append] at h2
    omega
  | c :: l, d :: m, h => by
    have h2 := congrArg decB h
    rw [List.flatMap_cons, List.flatMap_cons, decB_esc, decB_esc] at h2
    have h3 := Option.some.inj h2
    have h4 := flat_inj l m (Prod.mk.inj h3).2
    rw [(Prod.mk.inj h3).1, h4]
theorem quoteL_inj {l m : List UInt8} (h : quoteL l = quoteL m) : l = m := by
  unfold quoteL at h
  exact flat_inj l m (List.append_cancel_right (List.cons.inj h).2)
theorem hex_fin : ∀ i : Fin 16, 32 ≤ (hexD i.val).toNat ∧ (hexD i.val).toNat ≠ 127 ∧ hexD i.val ≠ 39 := by decide
theorem hex_clean {n : Nat} (h : n < 16) : 32 ≤ (hexD n).toNat ∧ (hexD n).toNat ≠ 127 ∧ hexD n ≠ 39 := hex_fin ⟨n, h⟩
theorem esc_clean (c : UInt8) : ∀ b ∈ escB c, 32 ≤ b.toNat ∧ b.toNat ≠ 127 := by
  have hc := c.toNat_lt
  have e1 := hex_clean (n := c.toNat / 16) (by omega)
  have e2 := hex_clean (n := c.toNat % 16) (by omega)
  unfold escB
  repeat' split
  all_goals
    intro b hb
    simp only [List.mem_cons, List.not_mem_nil, or_false] at hb
  · rcases hb with rfl | rfl <;> decide
  · rcases hb with rfl | rfl <;> decide
  · rcases hb with rfl | rfl <;> decide
  · rcases hb with rfl | rfl <;> decide
  · rcases hb with rfl | rfl <;> decide
  · rcases hb with rfl | rfl | rfl | rfl
    · decide
    · decide
    · exact ⟨e1.1, e1.2.1⟩
    · exact ⟨e2.1, e2.2.1⟩
  · rename_i h
    subst hb
    refine ⟨?_, ?_⟩
    · rcases Nat.lt_or_ge b.toNat 32 with g | g
      · exact absurd (.inl (UInt8.lt_iff_toNat_lt.2 g)) h
      · exact g
    · intro e
      exact h (.inr (UInt8.toNat_inj.1 e))
theorem esc_count (c : UInt8) : (escB c).count 39 = if c = 39 then 2 else 0 := by
  have hc := c.toNat_lt
  have e1 := (hex_clean (n := c.toNat / 16) (by omega)).2.2
  have e2 := (hex_clean (n := c.toNat % 16) (by omega)).2.2
  unfold escB
  repeat' split
  all_goals simp_all
theorem flat_clean (l : List UInt8) : ∀ b ∈ l.flatMap escB, 32 ≤ b.toNat ∧ b.toNat ≠ 127 := by
  intro b hb
  obtain ⟨c, _, h⟩ := List.mem_flatMap.1 hb
  exact esc_clean c b h
theorem flat_count : ∀ l : List UInt8, (l.flatMap escB).count 39 % 2 = 0
  | [] => rfl
  | c :: l => by
    have := flat_count l
    rw [List.flatMap_cons, List.count_append, esc_count]
    split <;> omega
/-! ### data -/
theorem print_clean {d : Dat} (h : okD d = true) : ∀ b ∈ printS d, 32 ≤ b.toNat ∧ b.toNat ≠ 127 := by
  rcases ok_cases h with rfl | ⟨b, rfl⟩ | ⟨n, rfl⟩ | ⟨s, rfl, _⟩
  · rw [printS_null]; decide
  · rw [printS_bool]; cases b <;> decide
  · rw [printS_int]
    unfold itoa
    intro b hb
    split at hb
    · rcases List.mem_cons.1 hb with rfl | hb
      · decide
      · have := dec_range _ b hb; omega
    · have := dec_range _ b hb; omega
  · rw [printS_text h]
    unfold quoteL
    intro b hb
    rcases List.mem_cons.1 hb with rfl | hb
    · decide
    · rcases List.mem_append.1 hb with hb | hb
      · exact flat_clean _ b hb
      · rw [List.mem_singleton] at hb; subst hb; decide
theorem dec_count (n : Nat) : (decDigits n).count 39 = 0 := by
  rw [List.count_eq_zero]
  intro hm
  have h := dec_range n 39 hm
  have : (39 : UInt8).toNat = 39 := rfl
  omega
theorem print_quotes {d : Dat} (h : okD d = true) : (printS d).count 39 % 2 = 0 ∧ (0 < (printS d).count 39 ↔ d.k = 4) := by
  rcases ok_cases h with rfl | ⟨b, rfl⟩ | ⟨n, rfl⟩ | ⟨s, rfl, _⟩
  · rw [printS_null]; decide
  · rw [printS_bool]; cases b <;> decide
  · have e : (printS (intD n)).count 39 = 0 := by
      rw [printS_int]
      unfold itoa
      split
      · rw [List.count_cons_of_ne (by decide), dec_count]
      · rw [dec_count]
    rw [e]
    exact ⟨rfl, ⟨fun h => absurd h (by omega), fun h => absurd h (by simp [intD])⟩⟩
  · rw [printS_text h]
    have hf := flat_count s.data.toList
    have e : (quoteL s.data.toList).count 39 = (s.data.toList.flatMap escB).count 39 + 2 := by
      unfold quoteL
      rw [List.count_cons_self, List.count_append, List.count_singleton_self]
    rw [e]
    exact ⟨by omega, ⟨fun _ => rfl, fun _ => by omega⟩⟩
theorem print_ne {d : Dat} (h : okD d = true) : printS d ≠ [] := by
  rcases ok_cases h with rfl | ⟨b, rfl⟩ | ⟨n, rfl⟩ | ⟨s, rfl, _⟩
  · rw [printS_null]; decide
  · rw [printS_bool]; cases b <;> decide
  · rw [printS_int]
    unfold itoa
    split
    · simp
    · exact dec_ne _
  · rw [printS_text h]
    unfold quoteL
    simp
/-- The kind, by the first byte. -/
def kindL (l : List UInt8) : Int := if l.head? = some 110 then 1 else if l.head? = some 116 ∨ l.head? = some 102 then 2 else if l.head? = some 39 then 4 else 3
theorem dec_head (n : Nat) : ∃ b l, decDigits n = b :: l ∧ 48 ≤ b.toNat ∧ b.toNat ≤ 57 := by
  have hr := dec_range n
  cases h : decDigits n with
  | nil => exact absurd h (dec_ne n)
  | cons b l => exact ⟨b, l, rfl, hr b (by rw [h]; simp)⟩
theorem print_kind {d : Dat} (h : okD d = true) : kindL (printS d) = d.k := by
  rcases ok_cases h with rfl | ⟨b, rfl⟩ | ⟨n, rfl⟩ | ⟨s, rfl, _⟩
  · rw [printS_null]; rfl
  · rw [printS_bool]; cases b <;> rfl
  · rw [printS_int]
    unfold itoa
    split
    · rfl
    · obtain ⟨b, l, e, h1, h2⟩ := dec_head n.toNat
      rw [e]
      have k : ∀ x : UInt8, (x.toNat < 48 ∨ 57 < x.toNat) → ¬ b = x := fun x hx e => by rw [e] at h1 h2; omega
      unfold kindL
      simp only [List.head?_cons, Option.some.injEq]
      rw [if_neg (k 110 (by decide)), if_neg (fun h => h.elim (k 116 (by decide)) (k 102 (by decide))), if_neg (k 39 (by decide))]
      rfl
  · rw [printS_text h]; rfl
theorem print_inj {a b : Dat} (ha : okD a = true) (hb : okD b = true) (h : printS a = printS b) : a = b := by
  have hk : a.k = b.k := by rw [← print_kind ha, ← print_kind hb, h]
  rcases ok_cases ha with rfl | ⟨x, rfl⟩ | ⟨x, rfl⟩ | ⟨x, rfl, _⟩ <;> rcases ok_cases hb with rfl | ⟨y, rfl⟩ | ⟨y, rfl⟩ | ⟨y, rfl, _⟩ <;> first | rfl | (exfalso; revert hk; simp [nullD, boolD, intD, textD]; done) | skip
  · rw [printS_bool, printS_bool] at h
    cases x <;> cases y <;> first | rfl | exact absurd h (by decide)
  · rw [printS_int, printS_int] at h
    rw [itoa_inj h]
  · rw [printS_text ha, printS_text hb] at h
    rw [bytes_ext (quoteL_inj h)]
theorem print_len {d : Dat} (h : okD d = true) (hn : -9223372036854775808 ≤ d.n ∧ d.n ≤ 9223372036854775807) : (printS d).length ≤ 5000 := by
  rcases ok_cases h with rfl | ⟨b, rfl⟩ | ⟨n, rfl⟩ | ⟨s, rfl, _, hs⟩
  · rw [printS_null]; decide
  · rw [printS_bool]; cases b <;> decide
  · rw [printS_int]
    have := itoa_length_le n hn.1 hn.2
    omega
  · rw [printS_text h]
    have := flat_len s.data.toList
    unfold quoteL
    rw [List.length_cons, List.length_append, List.length_singleton]
    have hl : s.data.toList.length = s.size := by simp
    omega
end Go.Proofs.YtlodohgoondkhaaDoor
