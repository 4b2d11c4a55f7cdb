/-
  Texts that belong together: Arith, Print, Writ, Cmp, Ord, RowM, RowV, RowQ, RowT. What each one says stands ahead of it.
-/
import Derived.Laws.BitsAllLaws
import Derived.IntWalk
import Derived.WalkArith
import Derived.Test.YtpmfbmigdpmloaaGreatDoorPk01
import Derived.Lib.AppendIntMem
import Derived.Shelf.Small.Wraps
import Derived.Lib.Bytealg
import Derived.Shelf.Small.Strs
import Derived.Lib.Join
section
/-
  Plain mathematics: checked sums, differences, products, quotients and rests of 64-bit numbers; signs of bit operations. Condition: the numbers are 64-bit numbers.
-/
set_option linter.unusedVariables false
set_option linter.unusedSimpArgs false
namespace Go.Proofs.YtpmfbmigdpmloaaGreatDoor
open Go Go.RowKit

/-- A 64-bit number. -/
def I64 (z : Int) : Prop := -9223372036854775808 ≤ z ∧ z ≤ 9223372036854775807
instance (z : Int) : Decidable (I64 z) := by unfold I64; infer_instance
/-- A result, if it is a 64-bit number; else the error for too great ones. -/
def capS (z : Int) : Int × Int := if I64 z then (z, 0) else (0, 10)
def sumS (x y : Int) : Int × Int := capS (x + y)
def difS (x y : Int) : Int × Int := capS (x - y)
def mulS (x y : Int) : Int × Int := capS (x * y)
def quoS (x y : Int) : Int × Int := if y = 0 then (0, 11) else capS (x.tdiv y)
def remS (x y : Int) : Int × Int := if y = 0 then (0, 11) else (x.tmod y, 0)

theorem capS_in {z : Int} (h : I64 z) : capS z = (z, 0) := if_pos h
theorem capS_out {z : Int} (h : ¬ I64 z) : capS z = (0, 10) := if_neg h
theorem wrap64_I64 (z : Int) : I64 (wrap64 z) := by unfold I64 wrap64; omega
theorem wrap64_of {z : Int} (h : I64 z) : wrap64 z = z := by unfold I64 at h; unfold wrap64; omega

/-! ### signs of bit operations -/
theorem wrap_toInt (v : BitVec 64) : IntKind.i64.wrap (v.toNat : Int) = v.toInt := by
  rw [BitVec.toInt_eq_toNat_cond]
  have := v.isLt
  simp [IntKind.wrap, IntKind.bits, IntKind.signed]
  split <;> split <;> omega
theorem bits_xor64 (x y : Int) : bits .xor .i64 x y = (BitVec.ofInt 64 x ^^^ BitVec.ofInt 64 y).toInt := wrap_toInt _
theorem bits_and64 (x y : Int) : bits .and .i64 x y = (BitVec.ofInt 64 x &&& BitVec.ofInt 64 y).toInt := wrap_toInt _
theorem toInt_neg (v : BitVec 64) : (v.toInt < 0) = (v.msb = true) := by
  rw [BitVec.msb_eq_toInt]; simp
theorem msb_of {x : Int} (h : I64 x) : (BitVec.ofInt 64 x).msb = decide (x < 0) := by
  rw [BitVec.msb_eq_toInt, BitVec.toInt_ofInt]
  unfold I64 at h
  congr 1
  rw [Int.bmod_def]
  apply propext
  constructor <;> intro hh <;> (split at * <;> omega)
/-- (x ^ n) & (y ^ n) is below 0 just if n's sign is neither x's nor y's. -/
theorem sign_and_xor {x y n : Int} (hx : I64 x) (hy : I64 y) (hn : I64 n) :
    (bits .and .i64 (bits .xor .i64 x n) (bits .xor .i64 y n) < 0) = (((x < 0) ≠ (n < 0)) ∧ ((y < 0) ≠ (n < 0))) := by
  rw [bits_and64, toInt_neg, bits_xor64, bits_xor64, BitVec.ofInt_toInt, BitVec.ofInt_toInt, BitVec.msb_and, BitVec.msb_xor, BitVec.msb_xor, msb_of hx, msb_of hy, msb_of hn]
  by_cases a : x < 0 <;> by_cases b : y < 0 <;> by_cases c : n < 0 <;> simp [a, b, c]

theorem sum_test {x y : Int} (hx : I64 x) (hy : I64 y) : (bits .and .i64 (bits .xor .i64 x (wrap64 (x + y))) (bits .xor .i64 y (wrap64 (x + y))) < 0) = ¬ I64 (x + y) := by
  rw [sign_and_xor hx hy (wrap64_I64 _)]
  unfold I64 at *
  unfold wrap64
  apply propext
  by_cases a : x < 0 <;> by_cases b : y < 0 <;> by_cases c : (x + y + 9223372036854775808) % 18446744073709551616 - 9223372036854775808 < 0 <;> simp only [a, b, c] <;> simp <;> omega
/-- Of a difference: (x ^ y) & (x ^ n). -/
theorem dif_test {x y : Int} (hx : I64 x) (hy : I64 y) : (bits .and .i64 (bits .xor .i64 x y) (bits .xor .i64 x (wrap64 (x - y))) < 0) = ¬ I64 (x - y) := by
  have hn := wrap64_I64 (x - y)
  rw [bits_and64, toInt_neg, bits_xor64, bits_xor64, BitVec.ofInt_toInt, BitVec.ofInt_toInt, BitVec.msb_and, BitVec.msb_xor, BitVec.msb_xor, msb_of hx, msb_of hy, msb_of hn]
  clear hn
  unfold I64 at *
  unfold wrap64
  apply propext
  by_cases a : x < 0 <;> by_cases b : y < 0 <;> by_cases c : (x - y + 9223372036854775808) % 18446744073709551616 - 9223372036854775808 < 0 <;> simp only [a, b, c] <;> simp <;> omega

/-! ### products -/
/-- If the quotient of the wrapped product by one factor is the other one, nothing was wrapped. -/
theorem prod_back {x y : Int} (hx : I64 x) (hy : I64 y) (hy0 : y ≠ 0) (h : (wrap64 (x * y)).tdiv y = x) : I64 (x * y) := by
  have hd := Int.mul_tdiv_add_tmod (wrap64 (x * y)) y
  rw [h] at hd
  have hm : ((wrap64 (x * y)).tmod y).natAbs < y.natAbs := by
    rw [Int.natAbs_tmod]
    exact Nat.mod_lt _ (by omega)
  have hw := wrap64_I64 (x * y)
  rw [Int.mul_comm y x] at hd
  generalize hP : x * y = P at *
  have hc : (wrap64 P - P) % 18446744073709551616 = 0 := by unfold wrap64; omega
  unfold I64 at *
  omega
theorem tdiv_range {n y : Int} (hn : I64 n) (hy0 : y ≠ 0) : -9223372036854775808 ≤ n.tdiv y ∧ n.tdiv y ≤ 9223372036854775808 := by
  have h : (n.tdiv y).natAbs = n.natAbs / y.natAbs := Int.natAbs_tdiv n y
  have h2 : n.natAbs / y.natAbs ≤ n.natAbs := Nat.div_le_self _ _
  unfold I64 at hn
  omega
theorem tdiv_big {n y : Int} (hn : I64 n) (hy0 : y ≠ 0) (h : n.tdiv y = 9223372036854775808) : n = -9223372036854775808 ∧ y = -1 := by
  have h1 : (n.tdiv y).natAbs = n.natAbs / y.natAbs := Int.natAbs_tdiv n y
  rw [h] at h1
  have h2 : n.natAbs / y.natAbs * y.natAbs ≤ n.natAbs := Nat.div_mul_le_self _ _
  rw [← h1] at h2
  unfold I64 at hn
  have hn2 : n.natAbs ≤ 9223372036854775808 := by omega
  have hy1 : y.natAbs = 1 := by
    rcases Nat.lt_or_ge y.natAbs 2 with g | g
    · omega
    · have : 9223372036854775808 * 2 ≤ (9223372036854775808 : Int).natAbs * y.natAbs := Nat.mul_le_mul_left _ g
      omega
  have hcase : y = 1 ∨ y = -1 := by omega
  rcases hcase with rfl | rfl
  · rw [Int.tdiv_one] at h
    omega
  · refine ⟨?_, rfl⟩
    rw [Int.tdiv_neg, Int.tdiv_one] at h
    omega
theorem quot_fits {n y : Int} (hn : I64 n) (hy0 : y ≠ 0) (h : ¬ (n = -9223372036854775808 ∧ y = -1)) : I64 (n.tdiv y) := by
  have h1 := tdiv_range hn hy0
  have h2 : n.tdiv y ≠ 9223372036854775808 := fun e => h (tdiv_big hn hy0 e)
  unfold I64
  omega
/-- The test of a product: y not 0. -/
theorem mul_test {x y : Int} (hx : I64 x) (hy : I64 y) (hy0 : y ≠ 0) :
    (wrap64 ((wrap64 (x * y)).tdiv y) ≠ x ∨ (y = -1 ∧ x = -9223372036854775808)) = ¬ I64 (x * y) := by
  apply propext
  constructor
  · intro h hin
    rw [wrap64_of hin, Int.mul_tdiv_cancel _ hy0, wrap64_of hx] at h
    rcases h with h | ⟨h1, h2⟩
    · exact h rfl
    · subst h1 h2
      unfold I64 at hin
      omega
  · intro hno
    by_cases hb : y = -1 ∧ x = -9223372036854775808
    · exact .inr hb
    · refine .inl fun he => ?_
      have hw := wrap64_I64 (x * y)
      by_cases hq : wrap64 (x * y) = -9223372036854775808 ∧ y = -1
      · obtain ⟨h1, h2⟩ := hq
        subst h2
        rw [h1] at he
        have : x = -9223372036854775808 := by
          rw [← he, Int.tdiv_neg, Int.tdiv_one]
          unfold wrap64
          omega
        exact hb ⟨rfl, this⟩
      · rw [wrap64_of (quot_fits hw hy0 hq)] at he
        exact hno (prod_back hx hy hy0 he)
end Go.Proofs.YtpmfbmigdpmloaaGreatDoor
end
section
/-
  What datum.Print answers, at this program: for all data. Condition: the tables of Go's library lie as their initialisers lay them; the number is a 64-bit number.
-/
set_option linter.unusedVariables false
set_option linter.unusedSimpArgs false
namespace Go.Proofs.YtpmfbmigdpmloaaGreatDoor
open Go.RowKit Go.Lib

/-- The text form of a datum; empty: it may not be. -/
def printS (d : Dat) : List UInt8 :=
  if okD d = false then [] else if d.k = 1 then [110, 117, 108, 108] else if d.k = 2 then Lib.formatBool d.b
  else if d.k = 3 then Lib.itoa d.n else quoteL d.s.data.toList
theorem printS_bad {d : Dat} (h : okD d = false) : printS d = [] := by unfold printS; rw [if_pos h]
theorem printS_null : printS nullD = [110, 117, 108, 108] := by decide
theorem printS_bool (b : Bool) : printS (boolD b) = Lib.formatBool b := by cases b <;> decide
theorem printS_int (n : Int) : printS (intD n) = Lib.itoa n := by
  unfold printS
  rw [if_neg (by rw [ok_int]; decide), if_neg (show ¬ (intD n).k = 1 from (by decide : ¬ (3 : Int) = 1)), if_neg (show ¬ (intD n).k = 2 from (by decide : ¬ (3 : Int) = 2)), if_pos (show (intD n).k = 3 from rfl)]
  rfl
theorem printS_text {s : ByteArray} (h : okD (textD s) = true) : printS (textD s) = quoteL s.data.toList := by
  unfold printS
  rw [if_neg (by rw [h]; decide), if_neg (show ¬ (textD s).k = 1 from (by decide : ¬ (4 : Int) = 1)), if_neg (show ¬ (textD s).k = 2 from (by decide : ¬ (4 : Int) = 2)), if_neg (show ¬ (textD s).k = 3 from (by decide : ¬ (4 : Int) = 3))]
  rfl
theorem dat_eta {k : Int} {b : Bool} {n : Int} {s : ByteArray} {d : Dat} (h : (⟨k, b, n, s⟩ : Dat) = d) : k = d.k ∧ b = d.b ∧ n = d.n ∧ s = d.s := by subst h; exact ⟨rfl, rfl, rfl, rfl⟩

set_option maxHeartbeats 2000000 in
theorem print_any (k : Int) (b : Bool) (n : Int) (s : ByteArray) (w : World) (hT : Tabs w) (hs : s.size ≤ 9223372036854775807) (hn : I64 n) :
    Calls Tryz.prog 31 #[.agg #[.int .u8 k, .bool b, .int .i64 n, .string s]] w fun e w' => e = .returned (.string ⟨(printS ⟨k, b, n, s⟩).toArray⟩) ∧ Below w.heap.size w w' := by
  have hTH := Lib.hid hT
  have hnH := Lib.hid hn
  clear hT hn
  cases ho : okD ⟨k, b, n, s⟩ with
  | false =>
    rw [printS_bad ho]
    have hc := okD_chk_ne ho
    generalize hx : chk ⟨k, b, n, s⟩ = c at hc
    have hc2 : (c != 0) = true := by simpa using hc
    have hxH := Lib.hid hx
    clear hx ho hc
    go_enter Tryz.func31, Tryz.ntmps31
    go_wp2_with fail
    refine (check_any k b n s _ (hTH.out.alloc _) hs).mono ?_
    rintro e w1 ⟨rfl, hb1⟩
    rw [hxH.out]
    go_wp2
    go_ret
    exact ⟨rfl, chainB (by go_grown) hb1 (by simp)⟩
  | true =>
    have hc := Lib.hid (okD_chk ho)
    rcases ok_cases ho with h | ⟨b', h⟩ | ⟨n', h⟩ | ⟨s', h, hv, hl⟩
    · obtain ⟨rfl, rfl, rfl, rfl⟩ := dat_eta h
      rw [h, printS_null]
      clear h ho
      show Calls Tryz.prog 31 #[.agg #[.int .u8 1, .bool false, .int .i64 0, .string ⟨#[]⟩]] w _
      go_enter Tryz.func31, Tryz.ntmps31
      go_wp2_with fail
      refine (check_any 1 false 0 ⟨#[]⟩ _ (hTH.out.alloc _) (by decide)).mono ?_
      rintro e w1 ⟨rfl, hb1⟩
      rw [show chk ⟨1, false, 0, ⟨#[]⟩⟩ = 0 from hc.out]
      obtain ⟨a0, a1, a2, a3⟩ := ((Has.new w (.int .u8 1) (.bool false) (.int .i64 0) (.string ⟨#[]⟩)).below hb1).cells
      go_wp2
      go_ret
      exact ⟨rfl, chainB (by go_grown) hb1 (by simp)⟩
    · obtain ⟨rfl, rfl, rfl, rfl⟩ := dat_eta h
      rw [h, printS_bool]
      clear h ho
      show Calls Tryz.prog 31 #[.agg #[.int .u8 2, .bool b, .int .i64 0, .string ⟨#[]⟩]] w _
      go_enter Tryz.func31, Tryz.ntmps31
      go_wp2_with fail
      refine (check_any 2 b 0 ⟨#[]⟩ _ (hTH.out.alloc _) (by decide)).mono ?_
      rintro e w1 ⟨rfl, hb1⟩
      rw [show chk ⟨2, b, 0, ⟨#[]⟩⟩ = 0 from hc.out]
      obtain ⟨a0, a1, a2, a3⟩ := ((Has.new w (.int .u8 2) (.bool b) (.int .i64 0) (.string ⟨#[]⟩)).below hb1).cells
      go_wp2_with fail
      refine (Tryz.strconv_FormatBool b _).mono ?_
      rintro e w2 ⟨rfl, rfl⟩
      go_wp2
      go_ret
      exact ⟨rfl, chainB (by go_grown) hb1 (by simp)⟩
    · obtain ⟨rfl, rfl, rfl, rfl⟩ := dat_eta h
      rw [h, printS_int]
      clear h ho
      show Calls Tryz.prog 31 #[.agg #[.int .u8 3, .bool false, .int .i64 n, .string ⟨#[]⟩]] w _
      go_enter Tryz.func31, Tryz.ntmps31
      go_wp2_with fail
      refine (check_any 3 false n ⟨#[]⟩ _ (hTH.out.alloc _) (by decide)).mono ?_
      rintro e w1 ⟨rfl, hb1⟩
      rw [show chk ⟨3, false, n, ⟨#[]⟩⟩ = 0 from hc.out]
      obtain ⟨a0, a1, a2, a3⟩ := ((Has.new w (.int .u8 3) (.bool false) (.int .i64 n) (.string ⟨#[]⟩)).below hb1).cells
      go_wp2_with fail
      refine (Tryz.strconv_FormatInt_10 n hnH.out.1 hnH.out.2 _ ((hTH.out.alloc _).below hb1).pow).mono ?_
      rintro e w2 ⟨rfl, kk, os, rfl⟩
      have hb2 : Below w1.heap.size w1 (Sort.grow (w1.drewN kk) os) := Lib.below_grow _ w1 (Nat.le_refl _) kk os
      generalize Sort.grow (w1.drewN kk) os = w2 at hb2
      go_wp2
      go_ret
      exact ⟨rfl, chainB (chainB (by go_grown) hb1 (by simp)) hb2 (by have := hb1.size; simp at this; omega)⟩
    · obtain ⟨rfl, rfl, rfl, rfl⟩ := dat_eta h
      have ho' : okD (textD s) = true := ho
      rw [h, printS_text ho']
      clear h ho ho'
      have hvH := Lib.hid hv
      clear hv
      show Calls Tryz.prog 31 #[.agg #[.int .u8 4, .bool false, .int .i64 0, .string s]] w _
      go_enter Tryz.func31, Tryz.ntmps31
      go_wp2_with fail
      refine (check_any 4 false 0 s _ (hTH.out.alloc _) hs).mono ?_
      rintro e w1 ⟨rfl, hb1⟩
      rw [show chk ⟨4, false, 0, s⟩ = 0 from hc.out]
      obtain ⟨a0, a1, a2, a3⟩ := ((Has.new w (.int .u8 4) (.bool false) (.int .i64 0) (.string s)).below hb1).cells
      go_wp2_with fail
      refine (quote_any s _ hvH.out hl).mono ?_
      rintro e w2 ⟨rfl, hb2⟩
      go_wp2
      go_ret
      exact ⟨rfl, chainB (chainB (by go_grown) hb1 (by simp)) hb2 (by have := hb1.size; simp at this; omega)⟩
end Go.Proofs.YtpmfbmigdpmloaaGreatDoor
end
section
/-
  Plain mathematics: what is written of data that may be: two are written alike just if they are the same; the bytes; the quotes. No condition but those written.
-/
set_option linter.unusedVariables false
set_option linter.unusedSimpArgs false
namespace Go.Proofs.YtpmfbmigdpmloaaGreatDoor
open Go.Lib

/-! ### numbers -/
theorem dec_big {n : Nat} (h : ¬ n < 10) : decDigits n = decDigits (n / 10) ++ [UInt8.ofNat (48 + n % 10)] := by rw [decDigits, dif_neg h]
def dval (l : List UInt8) : Nat := l.foldl (fun a b => 10 * a + (b.toNat - 48)) 0
theorem digit_nat {i : Nat} (h : i < 10) : (UInt8.ofNat (48 + i)).toNat = 48 + i := by rw [UInt8.toNat_ofNat']; omega
theorem dval_dec (n : Nat) : dval (decDigits n) = n := by
  induction n using Nat.strongRecOn with
  | ind n ih =>
    by_cases h : n < 10
    · rw [decDigits_one h]
      simp only [dval, List.foldl_cons, List.foldl_nil, digit_nat h]
      omega
    · have hi := ih (n / 10) (by omega)
      unfold dval at hi
      rw [dec_big h]
      simp only [dval, List.foldl_append, List.foldl_cons, List.foldl_nil, hi, digit_nat (show n % 10 < 10 by omega)]
      omega
theorem dec_range (n : Nat) : ∀ b ∈ decDigits n, 48 ≤ b.toNat ∧ b.toNat ≤ 57 := by
  induction n using Nat.strongRecOn with
  | ind n ih =>
    by_cases h : n < 10
    · rw [decDigits_one h]
      intro b hb
      rw [List.mem_singleton] at hb
      rw [hb, digit_nat h]
      omega
    · rw [dec_big h]
      intro b hb
      rw [List.mem_append, List.mem_singleton] at hb
      rcases hb with hb | hb
      · exact ih (n / 10) (by omega) b hb
      · rw [hb, digit_nat (show n % 10 < 10 by omega)]
        omega
theorem dec_ne (n : Nat) : decDigits n ≠ [] := by
  by_cases h : n < 10
  · rw [decDigits_one h]; simp
  · rw [dec_big h]; simp
theorem dec_no45 (n : Nat) (l : List UInt8) : decDigits n ≠ 45 :: l := by
  intro e
  have h := dec_range n 45 (by rw [e]; simp)
  have : (45 : UInt8).toNat = 45 := rfl
  omega
theorem itoa_inj {a b : Int} (h : itoa a = itoa b) : a = b := by
  unfold itoa at h
  by_cases ha : a < 0 <;> by_cases hb : b < 0
  · rw [if_pos ha, if_pos hb] at h
    have h2 := congrArg dval (List.cons.inj h).2
    rw [dval_dec, dval_dec] at h2
    omega
  · rw [if_pos ha, if_neg hb] at h
    exact absurd h.symm (dec_no45 _ _)
  · rw [if_neg ha, if_pos hb] at h
    exact absurd h (dec_no45 _ _)
  · rw [if_neg ha, if_neg hb] at h
    have h2 := congrArg dval h
    rw [dval_dec, dval_dec] at h2
    omega
/-! ### texts -/
def unhexN (c : UInt8) : Nat := if c.toNat < 58 then c.toNat - 48 else c.toNat - 87
theorem unhex_fin : ∀ i : Fin 16, unhexN (hexD i.val) = i.val := by decide
theorem unhex_hex {n : Nat} (h : n < 16) : unhexN (hexD n) = n := unhex_fin ⟨n, h⟩
/-- The byte that is written at the beginning. -/
def decB : List UInt8 → Option (UInt8 × List UInt8)
  | [] => none
  | c :: l =>
    if c = 39 then some (39, l.drop 1)
    else if c = 92 then
      (if l.head? = some 92 then some (92, l.drop 1) else if l.head? = some 110 then some (10, l.drop 1) else if l.head? = some 114 then some (13, l.drop 1) else if l.head? = some 116 then some (9, l.drop 1)
       else some (UInt8.ofNat (16 * unhexN ((l.drop 1).headD 0) + unhexN ((l.drop 2).headD 0)), l.drop 3))
    else some (c, l)
theorem decB_esc (c : UInt8) (x : List UInt8) : decB (escB c ++ x) = some (c, x) := by
  unfold escB
  by_cases h1 : c = 39
  · subst h1; simp [decB]
  by_cases h2 : c = 92
  · subst h2; simp [decB]
  by_cases h3 : c = 10
  · subst h3; simp [decB]
  by_cases h4 : c = 13
  · subst h4; simp [decB]
  by_cases h5 : c = 9
  · subst h5; simp [decB]
  by_cases h6 : c < 32 ∨ c = 127
  · rw [if_neg h1, if_neg h2, if_neg h3, if_neg h4, if_neg h5, if_pos h6]
    have hc := c.toNat_lt
    have e1 := unhex_hex (n := c.toNat / 16) (by omega)
    have e2 := unhex_hex (n := c.toNat % 16) (by omega)
    simp only [decB, List.cons_append, List.nil_append, List.drop_succ_cons, List.drop_zero, List.headD_cons, List.head?_cons, e1, e2]
    have e3 : 16 * (c.toNat / 16) + c.toNat % 16 = c.toNat := by omega
    rw [e3]
    simp
  · rw [if_neg h1, if_neg h2, if_neg h3, if_neg h4, if_neg h5, if_neg h6]
    simp [decB, h1, h2]
theorem flat_inj : ∀ l m : List UInt8, l.flatMap escB = m.flatMap escB → l = m
  | [], [], _ => rfl
  | [], d :: m, h => by
    have h2 := congrArg List.length h
    have := (escB_len d).1
    simp only [List.flatMap_nil, List.length_nil, List.flatMap_cons, List.length_append] at h2
    omega
  | c :: l, [], h => by
    have h2 := congrArg List.length h
    have := (escB_len c).1
    simp only [List.flatMap_nil, List.length_nil, List.flatMap_cons, List.length_append] at h2
    omega
  | c :: l, d :: m, h => by
    have h2 := congrArg decB h
    rw [List.flatMap_cons, List.flatMap_cons, decB_esc, decB_esc] at h2
    have h3 := Option.some.inj h2
    have h4 := flat_inj l m (Prod.mk.inj h3).2
    rw [(Prod.mk.inj h3).1, h4]
theorem quoteL_inj {l m : List UInt8} (h : quoteL l = quoteL m) : l = m := by
  unfold quoteL at h
  exact flat_inj l m (List.append_cancel_right (List.cons.inj h).2)
theorem hex_fin : ∀ i : Fin 16, 32 ≤ (hexD i.val).toNat ∧ (hexD i.val).toNat ≠ 127 ∧ hexD i.val ≠ 39 := by decide
theorem hex_clean {n : Nat} (h : n < 16) : 32 ≤ (hexD n).toNat ∧ (hexD n).toNat ≠ 127 ∧ hexD n ≠ 39 := hex_fin ⟨n, h⟩
theorem esc_clean (c : UInt8) : ∀ b ∈ escB c, 32 ≤ b.toNat ∧ b.toNat ≠ 127 := by
  have hc := c.toNat_lt
  have e1 := hex_clean (n := c.toNat / 16) (by omega)
  have e2 := hex_clean (n := c.toNat % 16) (by omega)
  unfold escB
  repeat' split
  all_goals
    intro b hb
    simp only [List.mem_cons, List.not_mem_nil, or_false] at hb
  · rcases hb with rfl | rfl <;> decide
  · rcases hb with rfl | rfl <;> decide
  · rcases hb with rfl | rfl <;> decide
  · rcases hb with rfl | rfl <;> decide
  · rcases hb with rfl | rfl <;> decide
  · rcases hb with rfl | rfl | rfl | rfl
    · decide
    · decide
    · exact ⟨e1.1, e1.2.1⟩
    · exact ⟨e2.1, e2.2.1⟩
  · rename_i h
    subst hb
    refine ⟨?_, ?_⟩
    · rcases Nat.lt_or_ge b.toNat 32 with g | g
      · exact absurd (.inl (UInt8.lt_iff_toNat_lt.2 g)) h
      · exact g
    · intro e
      exact h (.inr (UInt8.toNat_inj.1 e))
theorem esc_count (c : UInt8) : (escB c).count 39 = if c = 39 then 2 else 0 := by
  have hc := c.toNat_lt
  have e1 := (hex_clean (n := c.toNat / 16) (by omega)).2.2
  have e2 := (hex_clean (n := c.toNat % 16) (by omega)).2.2
  unfold escB
  repeat' split
  all_goals simp_all
theorem flat_clean (l : List UInt8) : ∀ b ∈ l.flatMap escB, 32 ≤ b.toNat ∧ b.toNat ≠ 127 := by
  intro b hb
  obtain ⟨c, _, h⟩ := List.mem_flatMap.1 hb
  exact esc_clean c b h
theorem flat_count : ∀ l : List UInt8, (l.flatMap escB).count 39 % 2 = 0
  | [] => rfl
  | c :: l => by
    have := flat_count l
    rw [List.flatMap_cons, List.count_append, esc_count]
    split <;> omega
/-! ### data -/
theorem print_clean {d : Dat} (h : okD d = true) : ∀ b ∈ printS d, 32 ≤ b.toNat ∧ b.toNat ≠ 127 := by
  rcases ok_cases h with rfl | ⟨b, rfl⟩ | ⟨n, rfl⟩ | ⟨s, rfl, _⟩
  · rw [printS_null]; decide
  · rw [printS_bool]; cases b <;> decide
  · rw [printS_int]
    unfold itoa
    intro b hb
    split at hb
    · rcases List.mem_cons.1 hb with rfl | hb
      · decide
      · have := dec_range _ b hb; omega
    · have := dec_range _ b hb; omega
  · rw [printS_text h]
    unfold quoteL
    intro b hb
    rcases List.mem_cons.1 hb with rfl | hb
    · decide
    · rcases List.mem_append.1 hb with hb | hb
      · exact flat_clean _ b hb
      · rw [List.mem_singleton] at hb; subst hb; decide
theorem dec_count (n : Nat) : (decDigits n).count 39 = 0 := by
  rw [List.count_eq_zero]
  intro hm
  have h := dec_range n 39 hm
  have : (39 : UInt8).toNat = 39 := rfl
  omega
theorem print_quotes {d : Dat} (h : okD d = true) : (printS d).count 39 % 2 = 0 ∧ (0 < (printS d).count 39 ↔ d.k = 4) := by
  rcases ok_cases h with rfl | ⟨b, rfl⟩ | ⟨n, rfl⟩ | ⟨s, rfl, _⟩
  · rw [printS_null]; decide
  · rw [printS_bool]; cases b <;> decide
  · have e : (printS (intD n)).count 39 = 0 := by
      rw [printS_int]
      unfold itoa
      split
      · rw [List.count_cons_of_ne (by decide), dec_count]
      · rw [dec_count]
    rw [e]
    exact ⟨rfl, ⟨fun h => absurd h (by omega), fun h => absurd h (by simp [intD])⟩⟩
  · rw [printS_text h]
    have hf := flat_count s.data.toList
    have e : (quoteL s.data.toList).count 39 = (s.data.toList.flatMap escB).count 39 + 2 := by
      unfold quoteL
      rw [List.count_cons_self, List.count_append, List.count_singleton_self]
    rw [e]
    exact ⟨by omega, ⟨fun _ => rfl, fun _ => by omega⟩⟩
theorem print_ne {d : Dat} (h : okD d = true) : printS d ≠ [] := by
  rcases ok_cases h with rfl | ⟨b, rfl⟩ | ⟨n, rfl⟩ | ⟨s, rfl, _⟩
  · rw [printS_null]; decide
  · rw [printS_bool]; cases b <;> decide
  · rw [printS_int]
    unfold itoa
    split
    · simp
    · exact dec_ne _
  · rw [printS_text h]
    unfold quoteL
    simp
/-- The kind, by the first byte. -/
def kindL (l : List UInt8) : Int := if l.head? = some 110 then 1 else if l.head? = some 116 ∨ l.head? = some 102 then 2 else if l.head? = some 39 then 4 else 3
theorem dec_head (n : Nat) : ∃ b l, decDigits n = b :: l ∧ 48 ≤ b.toNat ∧ b.toNat ≤ 57 := by
  have hr := dec_range n
  cases h : decDigits n with
  | nil => exact absurd h (dec_ne n)
  | cons b l => exact ⟨b, l, rfl, hr b (by rw [h]; simp)⟩
theorem print_kind {d : Dat} (h : okD d = true) : kindL (printS d) = d.k := by
  rcases ok_cases h with rfl | ⟨b, rfl⟩ | ⟨n, rfl⟩ | ⟨s, rfl, _⟩
  · rw [printS_null]; rfl
  · rw [printS_bool]; cases b <;> rfl
  · rw [printS_int]
    unfold itoa
    split
    · rfl
    · obtain ⟨b, l, e, h1, h2⟩ := dec_head n.toNat
      rw [e]
      have k : ∀ x : UInt8, (x.toNat < 48 ∨ 57 < x.toNat) → ¬ b = x := fun x hx e => by rw [e] at h1 h2; omega
      unfold kindL
      simp only [List.head?_cons, Option.some.injEq]
      rw [if_neg (k 110 (by decide)), if_neg (fun h => h.elim (k 116 (by decide)) (k 102 (by decide))), if_neg (k 39 (by decide))]
      rfl
  · rw [printS_text h]; rfl
theorem print_inj {a b : Dat} (ha : okD a = true) (hb : okD b = true) (h : printS a = printS b) : a = b := by
  have hk : a.k = b.k := by rw [← print_kind ha, ← print_kind hb, h]
  rcases ok_cases ha with rfl | ⟨x, rfl⟩ | ⟨x, rfl⟩ | ⟨x, rfl, _⟩ <;> rcases ok_cases hb with rfl | ⟨y, rfl⟩ | ⟨y, rfl⟩ | ⟨y, rfl, _⟩ <;> first | rfl | (exfalso; revert hk; simp [nullD, boolD, intD, textD]; done) | skip
  · rw [printS_bool, printS_bool] at h
    cases x <;> cases y <;> first | rfl | exact absurd h (by decide)
  · rw [printS_int, printS_int] at h
    rw [itoa_inj h]
  · rw [printS_text ha, printS_text hb] at h
    rw [bytes_ext (quoteL_inj h)]
theorem print_len {d : Dat} (h : okD d = true) (hn : -9223372036854775808 ≤ d.n ∧ d.n ≤ 9223372036854775807) : (printS d).length ≤ 5000 := by
  rcases ok_cases h with rfl | ⟨b, rfl⟩ | ⟨n, rfl⟩ | ⟨s, rfl, _, hs⟩
  · rw [printS_null]; decide
  · rw [printS_bool]; cases b <;> decide
  · rw [printS_int]
    have := itoa_length_le n hn.1 hn.2
    omega
  · rw [printS_text h]
    have := flat_len s.data.toList
    unfold quoteL
    rw [List.length_cons, List.length_append, List.length_singleton]
    have hl : s.data.toList.length = s.size := by simp
    omega
end Go.Proofs.YtpmfbmigdpmloaaGreatDoor
end
section
/-
  What datum.Cmp answers, at this program: of any two data. No condition.
-/
set_option linter.unusedVariables false
set_option linter.unusedSimpArgs false
namespace Go.Proofs.YtpmfbmigdpmloaaGreatDoor
open Go.RowKit Go.Lib

def cmp3 (x y : Int) : Int := if x < y then -1 else if x = y then 0 else 1
def cmpB (x y : Bool) : Int := if x = y then 0 else if y = true then -1 else 1
/-- The order of data. -/
def cmpS (a b : Dat) : Int :=
  if a.k = b.k then (if a.k = 2 then cmpB a.b b.b else if a.k = 3 then cmp3 a.n b.n else if a.k = 4 then compareBytes a.s.data.toList b.s.data.toList else 0) else cmp3 a.k b.k

set_option maxHeartbeats 2000000 in
theorem cmpKind_any (x y : Int) (w : World) :
    Calls Tryz.prog 79 #[.int .u8 x, .int .u8 y] w fun e w' => e = .returned (.int .i64 (cmp3 x y)) ∧ w = w' := by
  by_cases h : x < y
  · have hr := Lib.hid (show cmp3 x y = -1 from if_pos h)
    have h2 : ¬ y < x := by omega
    have h3 : (x == y) = false := by simp; omega
    go_enter Tryz.func79, Tryz.ntmps79
    go_wp2
    go_ret
    exact ⟨ret_int hr.out.symm, rfl⟩
  · by_cases h2 : x = y
    · subst h2
      have hr := Lib.hid (show cmp3 x x = 0 by simp [cmp3])
      go_enter Tryz.func79, Tryz.ntmps79
      go_wp2
      go_ret
      exact ⟨ret_int hr.out.symm, rfl⟩
    · have hr := Lib.hid (show cmp3 x y = 1 by simp [cmp3, h, h2])
      have h3 : y < x := by omega
      have h4 : (x == y) = false := by simpa using h2
      clear h2
      go_enter Tryz.func79, Tryz.ntmps79
      go_wp2
      go_ret
      exact ⟨ret_int hr.out.symm, rfl⟩

set_option maxHeartbeats 2000000 in
theorem cmpInt_any (x y : Int) (w : World) :
    Calls Tryz.prog 81 #[.int .i64 x, .int .i64 y] w fun e w' => e = .returned (.int .i64 (cmp3 x y)) ∧ w = w' := by
  by_cases h : x < y
  · have hr := Lib.hid (show cmp3 x y = -1 from if_pos h)
    have h2 : ¬ y < x := by omega
    have h3 : (x == y) = false := by simp; omega
    go_enter Tryz.func81, Tryz.ntmps81
    go_wp2
    go_ret
    exact ⟨ret_int hr.out.symm, rfl⟩
  · by_cases h2 : x = y
    · subst h2
      have hr := Lib.hid (show cmp3 x x = 0 by simp [cmp3])
      go_enter Tryz.func81, Tryz.ntmps81
      go_wp2
      go_ret
      exact ⟨ret_int hr.out.symm, rfl⟩
    · have hr := Lib.hid (show cmp3 x y = 1 by simp [cmp3, h, h2])
      have h3 : y < x := by omega
      have h4 : (x == y) = false := by simpa using h2
      clear h2
      go_enter Tryz.func81, Tryz.ntmps81
      go_wp2
      go_ret
      exact ⟨ret_int hr.out.symm, rfl⟩

set_option maxHeartbeats 2000000 in
theorem cmpBool_any (x y : Bool) (w : World) :
    Calls Tryz.prog 80 #[.bool x, .bool y] w fun e w' => e = .returned (.int .i64 (cmpB x y)) ∧ w = w' := by
  cases x <;> cases y <;>
  · go_enter Tryz.func80, Tryz.ntmps80
    go_wp2
    go_ret
    exact ⟨rfl, rfl⟩

set_option maxHeartbeats 2000000 in
theorem cmp_any (ka : Int) (ba : Bool) (na : Int) (sa : ByteArray) (kb : Int) (bb : Bool) (nb : Int) (sb : ByteArray) (w : World) :
    Calls Tryz.prog 47 #[.agg #[.int .u8 ka, .bool ba, .int .i64 na, .string sa], .agg #[.int .u8 kb, .bool bb, .int .i64 nb, .string sb]] w
      fun e w' => e = .returned (.int .i64 (cmpS ⟨ka, ba, na, sa⟩ ⟨kb, bb, nb, sb⟩)) ∧ Below w.heap.size w w' := by
  by_cases h : ka = kb
  · subst h
    by_cases h2 : ka = 2
    · subst h2
      have hr := Lib.hid (show cmpS ⟨2, ba, na, sa⟩ ⟨2, bb, nb, sb⟩ = cmpB ba bb from rfl)
      go_enter Tryz.func47, Tryz.ntmps47
      go_wp2_with fail
      refine (cmpBool_any ba bb _).mono ?_
      rintro e w1 ⟨rfl, rfl⟩
      go_wp2
      go_ret
      exact ⟨ret_int hr.out.symm, by go_grown⟩
    · by_cases h3 : ka = 3
      · subst h3
        have hr := Lib.hid (show cmpS ⟨3, ba, na, sa⟩ ⟨3, bb, nb, sb⟩ = cmp3 na nb from rfl)
        go_enter Tryz.func47, Tryz.ntmps47
        go_wp2_with fail
        refine (cmpInt_any na nb _).mono ?_
        rintro e w1 ⟨rfl, rfl⟩
        go_wp2
        go_ret
        exact ⟨ret_int hr.out.symm, by go_grown⟩
      · by_cases h4 : ka = 4
        · subst h4
          have hr := Lib.hid (show cmpS ⟨4, ba, na, sa⟩ ⟨4, bb, nb, sb⟩ = compareBytes sa.data.toList sb.data.toList from rfl)
          go_enter Tryz.func47, Tryz.ntmps47
          go_wp2_with fail
          refine (Tryz.strings_Compare sa sb _).mono ?_
          rintro e w1 ⟨rfl, rfl⟩
          go_wp2
          go_ret
          exact ⟨ret_int hr.out.symm, by go_grown⟩
        · have hr := Lib.hid (show cmpS ⟨ka, ba, na, sa⟩ ⟨ka, bb, nb, sb⟩ = 0 by simp [cmpS, h2, h3, h4])
          have g2 : (ka == 2) = false := by simpa using h2
          have g3 : (ka == 3) = false := by simpa using h3
          have g4 : (ka == 4) = false := by simpa using h4
          clear h2 h3 h4
          go_enter Tryz.func47, Tryz.ntmps47
          go_wp2
          go_ret
          exact ⟨ret_int hr.out.symm, by go_grown⟩
  · have hr := Lib.hid (show cmpS ⟨ka, ba, na, sa⟩ ⟨kb, bb, nb, sb⟩ = cmp3 ka kb by simp [cmpS, h])
    have g : (ka != kb) = true := by simpa using h
    clear h
    go_enter Tryz.func47, Tryz.ntmps47
    go_wp2_with fail
    refine (cmpKind_any ka kb _).mono ?_
    rintro e w1 ⟨rfl, rfl⟩
    go_wp2
    go_ret
    exact ⟨ret_int hr.out.symm, by go_grown⟩
end Go.Proofs.YtpmfbmigdpmloaaGreatDoor
end
section
/-
  Plain mathematics: the order of data. No condition; the last: both data may be.
-/
set_option linter.unusedVariables false
set_option linter.unusedSimpArgs false
namespace Go.Proofs.YtpmfbmigdpmloaaGreatDoor
open Go.Lib

theorem cmp3_turn (x y : Int) : cmp3 x y = -cmp3 y x := by unfold cmp3; repeat' split
                                                           all_goals omega
theorem cmpB_turn (x y : Bool) : cmpB x y = -cmpB y x := by cases x <;> cases y <;> rfl
theorem u8_trichotomy (a b : UInt8) : a < b ∨ a = b ∨ b < a := by
  rcases Nat.lt_trichotomy a.toNat b.toNat with h | h | h
  · exact .inl (UInt8.lt_iff_toNat_lt.2 h)
  · exact .inr (.inl (UInt8.toNat_inj.1 h))
  · exact .inr (.inr (UInt8.lt_iff_toNat_lt.2 h))
theorem u8_asymm {a b : UInt8} (h : a < b) : ¬ b < a := fun h2 => by
  have := UInt8.lt_iff_toNat_lt.1 h
  have := UInt8.lt_iff_toNat_lt.1 h2
  omega
theorem compare_range : ∀ a b : List UInt8, -1 ≤ compareBytes a b ∧ compareBytes a b ≤ 1
  | [], [] => by simp [compareBytes]
  | [], _ :: _ => by simp [compareBytes]
  | _ :: _, [] => by simp [compareBytes]
  | a :: l, b :: m => by
    have := compare_range l m
    unfold compareBytes
    repeat' split
    all_goals omega
theorem compare_turn : ∀ a b : List UInt8, compareBytes a b = -compareBytes b a
  | [], [] => rfl
  | [], _ :: _ => rfl
  | _ :: _, [] => rfl
  | a :: l, b :: m => by
    have ih := compare_turn l m
    unfold compareBytes
    rcases u8_trichotomy a b with h | h | h
    · rw [if_pos h, if_neg (u8_asymm h), if_pos h]
    · subst h
      rw [if_neg (UInt8.lt_irrefl a), if_neg (UInt8.lt_irrefl a), if_neg (UInt8.lt_irrefl a), if_neg (UInt8.lt_irrefl a), ih]
    · rw [if_neg (u8_asymm h), if_pos h, if_pos h]
      rfl
theorem compare_zero : ∀ a b : List UInt8, compareBytes a b = 0 ↔ a = b
  | [], [] => by simp [compareBytes]
  | [], _ :: _ => by simp [compareBytes]
  | _ :: _, [] => by simp [compareBytes]
  | a :: l, b :: m => by
    have ih := compare_zero l m
    unfold compareBytes
    rcases u8_trichotomy a b with h | h | h
    · rw [if_pos h]
      refine ⟨fun e => by omega, fun e => ?_⟩
      simp at e
      rw [e.1] at h
      exact absurd h (UInt8.lt_irrefl b)
    · subst h
      rw [if_neg (UInt8.lt_irrefl a), if_neg (UInt8.lt_irrefl a), ih]
      simp
    · rw [if_neg (u8_asymm h), if_pos h]
      refine ⟨fun e => by omega, fun e => ?_⟩
      simp at e
      rw [e.1] at h
      exact absurd h (UInt8.lt_irrefl b)
theorem compare_trans : ∀ a b c : List UInt8, compareBytes a b ≤ 0 → compareBytes b c ≤ 0 → compareBytes a c ≤ 0
  | [], _, [] => by simp [compareBytes]
  | [], _, _ :: _ => by simp [compareBytes]
  | _ :: _, [], _ => by simp [compareBytes]
  | _ :: _, _ :: _, [] => by simp [compareBytes]
  | a :: l, b :: m, c :: r => by
    have ih := compare_trans l m r
    have tr : ∀ {x y z : UInt8}, x < y → y < z → x < z := fun h h2 => by
      have := UInt8.lt_iff_toNat_lt.1 h
      have := UInt8.lt_iff_toNat_lt.1 h2
      exact UInt8.lt_iff_toNat_lt.2 (by omega)
    unfold compareBytes
    rcases u8_trichotomy a b with h | h | h
    · rcases u8_trichotomy b c with g | g | g
      · rw [if_pos h, if_pos g, if_pos (tr h g)]; intro _ _; omega
      · subst g; rw [if_pos h, if_pos h]; intro _ _; omega
      · rw [if_pos h, if_neg (u8_asymm g), if_pos g]; intro _ _; omega
    · subst h
      rcases u8_trichotomy a c with g | g | g
      · rw [if_pos g, if_pos g]; intro _ _; omega
      · subst g
        rw [if_neg (UInt8.lt_irrefl a), if_neg (UInt8.lt_irrefl a), if_neg (UInt8.lt_irrefl a), if_neg (UInt8.lt_irrefl a), if_neg (UInt8.lt_irrefl a), if_neg (UInt8.lt_irrefl a)]
        exact ih
      · rw [if_neg (u8_asymm g), if_pos g]; intro _ _; omega
    · rw [if_neg (u8_asymm h), if_pos h]; intro _ _; omega

theorem cmpS_turn (a b : Dat) : cmpS a b = -cmpS b a := by
  unfold cmpS
  by_cases h : a.k = b.k
  · rw [if_pos h, if_pos h.symm, h]
    repeat' split
    · exact cmpB_turn _ _
    · exact cmp3_turn _ _
    · exact compare_turn _ _
    · rfl
  · rw [if_neg h, if_neg (fun e => h e.symm)]
    exact cmp3_turn _ _
theorem cmp3_range (x y : Int) : -1 ≤ cmp3 x y ∧ cmp3 x y ≤ 1 := by
  unfold cmp3
  repeat' split
  all_goals omega
theorem cmpS_range (a b : Dat) : -1 ≤ cmpS a b ∧ cmpS a b ≤ 1 := by
  unfold cmpS
  repeat' split
  · cases a.b <;> cases b.b <;> decide
  · exact cmp3_range _ _
  · exact compare_range _ _
  · omega
  · exact cmp3_range _ _
theorem cmpS_self (a : Dat) : cmpS a a = 0 := by
  have := cmpS_turn a a
  omega
theorem cmp3_trans {x y z : Int} (h : cmp3 x y ≤ 0) (h2 : cmp3 y z ≤ 0) : cmp3 x z ≤ 0 := by
  unfold cmp3 at *
  repeat' split at *
  all_goals omega
theorem cmpB_trans {x y z : Bool} (h : cmpB x y ≤ 0) (h2 : cmpB y z ≤ 0) : cmpB x z ≤ 0 := by
  revert h h2
  cases x <;> cases y <;> cases z <;> decide
theorem cmp3_le {x y : Int} : cmp3 x y ≤ 0 ↔ x ≤ y := by
  unfold cmp3
  repeat' split
  all_goals omega
theorem cmpS_trans {a b c : Dat} (h : cmpS a b ≤ 0) (h2 : cmpS b c ≤ 0) : cmpS a c ≤ 0 := by
  unfold cmpS at *
  by_cases e1 : a.k = b.k
  · by_cases e2 : b.k = c.k
    · rw [if_pos e1] at h
      rw [if_pos e2] at h2
      rw [if_pos (e1.trans e2)]
      rw [e1] at h ⊢
      by_cases k2 : b.k = 2
      · simp only [k2, if_true] at *
        exact cmpB_trans h h2
      · by_cases k3 : b.k = 3
        · rw [if_neg k2, if_pos k3] at *
          exact cmp3_trans h h2
        · by_cases k4 : b.k = 4
          · rw [if_neg k2, if_neg k3, if_pos k4] at *
            exact compare_trans _ _ _ h h2
          · rw [if_neg k2, if_neg k3, if_neg k4]
            omega
    · rw [if_neg e2] at h2
      rw [if_neg (by rw [e1]; exact e2), e1]
      exact h2
  · rw [if_neg e1] at h
    by_cases e2 : b.k = c.k
    · rw [if_neg (by rw [← e2]; exact e1), ← e2]
      exact h
    · rw [if_neg e2] at h2
      have h3 := cmp3_le.1 h
      have h4 := cmp3_le.1 h2
      have hne : a.k ≠ c.k := by omega
      rw [if_neg hne]
      exact cmp3_le.2 (by omega)
theorem cmp3_zero {x y : Int} : cmp3 x y = 0 ↔ x = y := by
  unfold cmp3
  repeat' split
  all_goals omega
theorem cmpB_zero {x y : Bool} : cmpB x y = 0 ↔ x = y := by cases x <;> cases y <;> decide
theorem cmpS_zero {a b : Dat} (ha : okD a = true) (hb : okD b = true) : cmpS a b = 0 ↔ a = b := by
  refine ⟨fun h => ?_, fun h => by rw [h]; exact cmpS_self b⟩
  have hk : a.k = b.k := by
    by_cases e : a.k = b.k
    · exact e
    · unfold cmpS at h
      rw [if_neg e] at h
      exact cmp3_zero.1 h
  rcases ok_cases ha with rfl | ⟨x, rfl⟩ | ⟨x, rfl⟩ | ⟨x, rfl, hx1, hx2⟩ <;> rcases ok_cases hb with rfl | ⟨y, rfl⟩ | ⟨y, rfl⟩ | ⟨y, rfl, hy1, hy2⟩
  all_goals first
    | rfl
    | (exfalso; revert hk; simp [nullD, boolD, intD, textD]; done)
    | (rw [cmpB_zero.1 (show cmpB x y = 0 from h)])
    | (rw [cmp3_zero.1 (show cmp3 x y = 0 from h)])
    | (rw [bytes_ext ((compare_zero x.data.toList y.data.toList).1 h)])
end Go.Proofs.YtpmfbmigdpmloaaGreatDoor
end
section
/-
  Plain mathematics of rows: how rows compare, their bytes, their keys; rows compare as their bytes do; keys are the same just if rows compare as the same. No condition but those written.
-/
set_option linter.unusedVariables false
set_option linter.unusedSimpArgs false
namespace Go.Proofs.YtpmfbmigdpmloaaGreatDoor
open Go.Lib

/-- The bytes of a text. -/
def escT (l : List UInt8) : List UInt8 := l.flatMap fun b => if b = 0 then [0, 255] else [b]
/-- The last k bytes of a number, the greatest first. -/
def be : Nat → Nat → List UInt8
  | 0, _ => []
  | k + 1, m => UInt8.ofNat (m / 256 ^ k) :: be k m
/-- The bytes of a datum; of no kind: none. -/
def encD (d : Dat) : List UInt8 :=
  if d.k = 1 then [16] else if d.k = 2 then [if d.b = true then 33 else 32] else if d.k = 3 then 48 :: be 8 (d.n + 9223372036854775808).toNat else if d.k = 4 then 64 :: (escT d.s.data.toList ++ [0, 1]) else []
/-- The key of a datum. -/
def keyD (d : Dat) : List UInt8 := if encD d = [] then [80, UInt8.ofNat d.k.toNat] else encD d
def encR (l : List Dat) : List UInt8 := l.flatMap encD
def keyR (l : List Dat) : List UInt8 := l.flatMap keyD
/-- The order of rows. -/
def cmpR : List Dat → List Dat → Int
  | [], [] => 0
  | [], _ :: _ => -1
  | _ :: _, [] => 1
  | d :: l, e :: m => if cmpS d e = 0 then cmpR l m else cmpS d e
/-- Less at the first place at which they differ. -/
def LtD (x y : List UInt8) : Prop := ∃ p a b x' y', x = p ++ a :: x' ∧ y = p ++ b :: y' ∧ a < b
theorem LtD.app {x y : List UInt8} (h : LtD x y) (u v : List UInt8) : LtD (x ++ u) (y ++ v) := by
  obtain ⟨p, a, b, x', y', rfl, rfl, hab⟩ := h
  exact ⟨p, a, b, x' ++ u, y' ++ v, by simp, by simp, hab⟩
theorem LtD.pre {x y : List UInt8} (h : LtD x y) (q : List UInt8) : LtD (q ++ x) (q ++ y) := by
  obtain ⟨p, a, b, x', y', rfl, rfl, hab⟩ := h
  exact ⟨q ++ p, a, b, x', y', by simp, by simp, hab⟩
theorem LtD.head {a b : UInt8} (h : a < b) (x y : List UInt8) : LtD (a :: x) (b :: y) := ⟨[], a, b, x, y, rfl, rfl, h⟩
theorem LtD.cons {x y : List UInt8} (h : LtD x y) (c : UInt8) : LtD (c :: x) (c :: y) := h.pre [c]
theorem u8_irrefl (a : UInt8) : ¬ a < a := fun h => u8_asymm h h
theorem compare_pre : ∀ p x y : List UInt8, compareBytes (p ++ x) (p ++ y) = compareBytes x y
  | [], x, y => rfl
  | c :: p, x, y => by
    rw [List.cons_append, List.cons_append]
    show (if c < c then (-1 : Int) else if c < c then 1 else compareBytes (p ++ x) (p ++ y)) = _
    rw [if_neg (u8_irrefl c), if_neg (u8_irrefl c)]
    exact compare_pre p x y
theorem LtD.compare {x y : List UInt8} (h : LtD x y) : compareBytes x y = -1 := by
  obtain ⟨p, a, b, x', y', rfl, rfl, hab⟩ := h
  rw [compare_pre]
  show (if a < b then (-1 : Int) else _) = -1
  rw [if_pos hab]
theorem LtD.ne {x y : List UInt8} (h : LtD x y) : x ≠ y := fun e => by
  have := h.compare
  rw [e, (compare_zero y y).2 rfl] at this
  omega
theorem compare_cases : ∀ x y : List UInt8, compareBytes x y = -1 → LtD x y ∨ ∃ c r, y = x ++ c :: r
  | [], [], h => by cases h
  | [], c :: r, _ => .inr ⟨c, r, rfl⟩
  | _ :: _, [], h => by cases h
  | a :: x, b :: y, h => by
    have h' : (if a < b then (-1 : Int) else if b < a then 1 else compareBytes x y) = -1 := h
    by_cases h1 : a < b
    · exact .inl (.head h1 x y)
    · rw [if_neg h1] at h'
      by_cases h2 : b < a
      · rw [if_pos h2] at h'; cases h'
      · rw [if_neg h2] at h'
        rcases u8_trichotomy a b with h3 | rfl | h3
        · exact absurd h3 h1
        · rcases compare_cases x y h' with h4 | ⟨c, r, rfl⟩
          · exact .inl (h4.cons a)
          · exact .inr ⟨c, r, rfl⟩
        · exact absurd h3 h2
theorem be_len : ∀ k m, (be k m).length = k
  | 0, _ => rfl
  | k + 1, m => by rw [be, List.length_cons, be_len k m]
theorem ofNat_lt {a b : Nat} (h : a % 256 < b % 256) : UInt8.ofNat a < UInt8.ofNat b := by
  rw [UInt8.lt_iff_toNat_lt, UInt8.toNat_ofNat', UInt8.toNat_ofNat']
  exact h
theorem ofNat_eq {a b : Nat} (h : a % 256 = b % 256) : UInt8.ofNat a = UInt8.ofNat b := by
  rw [← UInt8.toNat_inj, UInt8.toNat_ofNat', UInt8.toNat_ofNat']
  exact h
theorem be_lt : ∀ k m m', m % 256 ^ k < m' % 256 ^ k → LtD (be k m) (be k m')
  | 0, m, m', h => by rw [Nat.pow_zero, Nat.mod_one, Nat.mod_one] at h; omega
  | k + 1, m, m', h => by
    rw [Nat.pow_succ, Nat.mod_mul, Nat.mod_mul] at h
    have hp : 0 < 256 ^ k := Nat.pow_pos (by omega)
    have r1 := Nat.mod_lt m hp
    have r2 := Nat.mod_lt m' hp
    rcases Nat.lt_trichotomy (m / 256 ^ k % 256) (m' / 256 ^ k % 256) with h1 | h1 | h1
    · exact .head (ofNat_lt h1) _ _
    · rw [h1] at h
      rw [be, be, ofNat_eq h1]
      exact (be_lt k m m' (by omega)).cons _
    · exfalso
      have := Nat.mul_le_mul_left (256 ^ k) (show m' / 256 ^ k % 256 + 1 ≤ m / 256 ^ k % 256 from h1)
      rw [Nat.mul_add, Nat.mul_one] at this
      omega
theorem zero_lt {b : UInt8} (h : b ≠ 0) : (0 : UInt8) < b := by
  rw [UInt8.lt_iff_toNat_lt]
  have : b.toNat ≠ 0 := fun e => h (UInt8.toNat_inj.1 e)
  show 0 < b.toNat
  omega
theorem not_lt_zero (a : UInt8) : ¬ a < 0 := by
  rw [UInt8.lt_iff_toNat_lt]
  exact Nat.not_lt_zero _
theorem escT_lt {x y : List UInt8} (h : LtD x y) : LtD (escT x) (escT y) := by
  obtain ⟨p, a, b, x', y', rfl, rfl, hab⟩ := h
  unfold escT
  rw [List.flatMap_append, List.flatMap_append, List.flatMap_cons, List.flatMap_cons]
  refine LtD.pre ?_ _
  have hb : b ≠ 0 := fun e => not_lt_zero a (by rw [e] at hab; exact hab)
  rw [if_neg hb]
  by_cases ha : a = 0
  · rw [if_pos ha]
    exact .head (zero_lt hb) _ _
  · rw [if_neg ha]
    exact .head hab _ _
theorem text_lt {x y : List UInt8} (h : compareBytes x y = -1) : LtD (escT x ++ [0, 1]) (escT y ++ [0, 1]) := by
  rcases compare_cases x y h with h | ⟨c, r, rfl⟩
  · exact (escT_lt h).app _ _
  · have : escT (x ++ c :: r) ++ [0, 1] = escT x ++ ((if c = 0 then [0, 255] else [c]) ++ escT r ++ [0, 1]) := by
      unfold escT
      simp
    rw [this]
    refine LtD.pre ?_ _
    by_cases hc : c = 0
    · rw [if_pos hc]
      exact LtD.cons (LtD.head (by decide) _ _) 0
    · rw [if_neg hc]
      exact .head (zero_lt hc) _ _
/-- A datum of a kind. -/
def Kinded (d : Dat) : Prop := 1 ≤ d.k ∧ d.k ≤ 4
theorem encD_ne {d : Dat} (h : Kinded d) : encD d ≠ [] := by
  obtain ⟨h1, h2⟩ := h
  unfold encD
  repeat' split
  all_goals first | exact List.cons_ne_nil _ _ | omega
theorem encD_nil {d : Dat} (h : ¬ Kinded d) : encD d = [] := by
  unfold Kinded at h
  unfold encD
  rw [if_neg (by omega), if_neg (by omega), if_neg (by omega), if_neg (by omega)]
theorem encD_same {d e : Dat} (h : cmpS d e = 0) : encD d = encD e := by
  unfold cmpS at h
  by_cases hk : d.k = e.k
  · rw [if_pos hk] at h
    unfold encD
    rw [hk] at h ⊢
    by_cases h2 : e.k = 2
    · rw [if_pos h2] at h
      simp [h2, cmpB_zero.1 h]
    · rw [if_neg h2] at h
      by_cases h3 : e.k = 3
      · rw [if_pos h3] at h
        simp [h3, cmp3_zero.1 h]
      · rw [if_neg h3] at h
        by_cases h4 : e.k = 4
        · rw [if_pos h4] at h
          simp [h4, (compare_zero _ _).1 h]
        · simp [h2, h3, h4]
  · rw [if_neg hk] at h
    exact absurd (cmp3_zero.1 h) hk
theorem kind_head {d : Dat} (h : Kinded d) : ∃ c r, encD d = c :: r ∧ (16 * d.k ≤ c.toNat ∧ (c.toNat : Int) ≤ 16 * d.k + 1) := by
  obtain ⟨h1, h2⟩ := h
  unfold encD
  by_cases e1 : d.k = 1
  · rw [if_pos e1]; exact ⟨_, _, rfl, by rw [e1]; decide⟩
  rw [if_neg e1]
  by_cases e2 : d.k = 2
  · rw [if_pos e2]
    cases d.b
    · exact ⟨_, _, rfl, by rw [e2]; decide⟩
    · exact ⟨_, _, rfl, by rw [e2]; decide⟩
  rw [if_neg e2]
  by_cases e3 : d.k = 3
  · rw [if_pos e3]; exact ⟨_, _, rfl, by rw [e3]; decide⟩
  rw [if_neg e3, if_pos (by omega)]
  exact ⟨_, _, rfl, by rw [show d.k = 4 by omega]; decide⟩
theorem cmp3_neg {x y : Int} (h : cmp3 x y = -1) : x < y := by
  unfold cmp3 at h
  by_cases h1 : x < y
  · exact h1
  · rw [if_neg h1] at h
    by_cases h2 : x = y
    · rw [if_pos h2] at h; omega
    · rw [if_neg h2] at h; omega
theorem encD_lt {d e : Dat} (hd : Kinded d) (he : Kinded e) (nd : -9223372036854775808 ≤ d.n ∧ d.n ≤ 9223372036854775807) (ne : -9223372036854775808 ≤ e.n ∧ e.n ≤ 9223372036854775807) (h : cmpS d e = -1) : LtD (encD d) (encD e) := by
  by_cases hk : d.k = e.k
  · unfold cmpS at h
    rw [if_pos hk] at h
    obtain ⟨h1, h2⟩ := he
    unfold encD
    rw [hk] at h ⊢
    by_cases e2 : e.k = 2
    · rw [if_pos e2] at h
      simp only [if_neg (show ¬ e.k = 1 by omega), if_pos e2]
      cases hb : d.b <;> cases hb' : e.b <;> rw [hb, hb'] at h
      · cases h
      · exact LtD.head (a := 32) (b := 33) (by decide) [] []
      · cases h
      · cases h
    · rw [if_neg e2] at h
      by_cases e3 : e.k = 3
      · rw [if_pos e3] at h
        simp only [if_neg (show ¬ e.k = 1 by omega), if_neg e2, if_pos e3]
        have hlt : d.n < e.n := by
          exact cmp3_neg h
        exact (be_lt 8 _ _ (by rw [show (256 : Nat) ^ 8 = 18446744073709551616 from rfl]; omega)).cons 48
      · rw [if_neg e3] at h
        by_cases e4 : e.k = 4
        · rw [if_pos e4] at h
          simp only [if_neg (show ¬ e.k = 1 by omega), if_neg e2, if_neg e3, if_pos e4]
          exact (text_lt h).cons 64
        · rw [if_neg e4] at h; cases h
  · have hlt : d.k < e.k := by
      unfold cmpS at h
      rw [if_neg hk] at h
      exact cmp3_neg h
    obtain ⟨c, r, h1, h2, h3⟩ := kind_head hd
    obtain ⟨c', r', h4, h5, h6⟩ := kind_head he
    rw [h1, h4]
    exact .head (by rw [UInt8.lt_iff_toNat_lt]; omega) _ _
/-- Two bytes strings that differ at a place of both. -/
def Dif (x y : List UInt8) : Prop := LtD x y ∨ LtD y x
theorem Dif.app {x y : List UInt8} (h : Dif x y) (u v : List UInt8) : Dif (x ++ u) (y ++ v) := h.elim (fun h => .inl (h.app u v)) (fun h => .inr (h.app v u))
theorem Dif.ne {x y : List UInt8} (h : Dif x y) : x ≠ y := h.elim LtD.ne (fun h => h.ne.symm)
theorem cmpS_cases (a b : Dat) : cmpS a b = 0 ∨ cmpS a b = -1 ∨ cmpS b a = -1 := by
  have h1 := cmpS_range a b
  have h2 := cmpS_turn a b
  omega
/-- What a row may hold at all: a kind of a byte, a number of 64 bits. -/
def Wide (d : Dat) : Prop := (0 ≤ d.k ∧ d.k ≤ 255) ∧ (-9223372036854775808 ≤ d.n ∧ d.n ≤ 9223372036854775807)
theorem keyD_same {d e : Dat} (h : cmpS d e = 0) : keyD d = keyD e := by
  unfold keyD
  rw [encD_same h]
  unfold cmpS at h
  by_cases hk : d.k = e.k
  · rw [hk]
  · rw [if_neg hk] at h
    exact absurd (cmp3_zero.1 h) hk
theorem u8_dif {a b : UInt8} (h : a ≠ b) (x y : List UInt8) : Dif (a :: x) (b :: y) := by
  rcases u8_trichotomy a b with h1 | h1 | h1
  · exact .inl (.head h1 _ _)
  · exact absurd h1 h
  · exact .inr (.head h1 _ _)
theorem keyD_ne (d : Dat) : keyD d ≠ [] := by
  unfold keyD
  split
  · exact List.cons_ne_nil _ _
  · assumption
theorem keyD_dif {d e : Dat} (hd : Wide d) (he : Wide e) (h : cmpS d e ≠ 0) : Dif (keyD d) (keyD e) := by
  by_cases kd : Kinded d
  · by_cases ke : Kinded e
    · unfold keyD
      rw [if_neg (encD_ne kd), if_neg (encD_ne ke)]
      rcases cmpS_cases d e with h1 | h1 | h1
      · exact absurd h1 h
      · exact .inl (encD_lt kd ke hd.2 he.2 h1)
      · exact .inr (encD_lt ke kd he.2 hd.2 h1)
    · unfold keyD
      rw [if_neg (encD_ne kd), if_pos (encD_nil ke)]
      obtain ⟨c, r, h1, h2, h3⟩ := kind_head kd
      rw [h1]
      exact u8_dif (fun q => by have := kd.2; rw [q] at h3 h2; have : (80 : UInt8).toNat = 80 := rfl; omega) _ _
  · by_cases ke : Kinded e
    · unfold keyD
      rw [if_neg (encD_ne ke), if_pos (encD_nil kd)]
      obtain ⟨c, r, h1, h2, h3⟩ := kind_head ke
      rw [h1]
      exact u8_dif (fun q => by have := ke.2; rw [← q] at h3 h2; have : (80 : UInt8).toNat = 80 := rfl; omega) _ _
    · unfold keyD
      rw [if_pos (encD_nil kd), if_pos (encD_nil ke)]
      have hk : d.k ≠ e.k := fun hk => by
        unfold Kinded at ke
        apply h
        unfold cmpS
        rw [if_pos hk, if_neg (by omega), if_neg (by omega), if_neg (by omega)]
      have : UInt8.ofNat d.k.toNat ≠ UInt8.ofNat e.k.toNat := fun q => by
        have := congrArg UInt8.toNat q
        rw [UInt8.toNat_ofNat', UInt8.toNat_ofNat'] at this
        obtain ⟨⟨a1, a2⟩, _⟩ := hd
        obtain ⟨⟨b1, b2⟩, _⟩ := he
        omega
      rcases u8_dif this [] [] with h1 | h1
      · exact .inl (h1.cons 80)
      · exact .inr (h1.cons 80)
theorem cmpR_self : ∀ l, cmpR l l = 0
  | [] => rfl
  | d :: l => by rw [cmpR, if_pos (cmpS_self d)]; exact cmpR_self l
theorem cmpR_range : ∀ l m, -1 ≤ cmpR l m ∧ cmpR l m ≤ 1
  | [], [] => by decide
  | [], _ :: _ => by rw [cmpR]; decide
  | _ :: _, [] => by rw [cmpR]; decide
  | d :: l, e :: m => by
    rw [cmpR]
    split
    · exact cmpR_range l m
    · exact cmpS_range d e
theorem cmpR_turn : ∀ l m, cmpR l m = -cmpR m l
  | [], [] => rfl
  | [], _ :: _ => rfl
  | _ :: _, [] => rfl
  | d :: l, e :: m => by
    have h := cmpS_turn d e
    rw [cmpR, cmpR]
    by_cases h0 : cmpS d e = 0
    · rw [if_pos h0, if_pos (by omega)]
      exact cmpR_turn l m
    · rw [if_neg h0, if_neg (by omega)]
      exact h
theorem cmpS_zero_left {a b c : Dat} (h : cmpS a b = 0) : cmpS a c = cmpS b c := by
  have h1 := cmpS_trans (a := a) (b := b) (c := c) (by omega)
  have h2 := cmpS_trans (a := b) (b := a) (c := c) (by have := cmpS_turn a b; omega)
  have h3 := cmpS_trans (a := c) (b := a) (c := b)
  have h4 := cmpS_trans (a := c) (b := b) (c := a)
  have t1 := cmpS_turn a c
  have t2 := cmpS_turn b c
  have t3 := cmpS_turn a b
  have r1 := cmpS_range a c
  have r2 := cmpS_range b c
  omega
theorem cmpR_trans : ∀ {l m n : List Dat}, cmpR l m ≤ 0 → cmpR m n ≤ 0 → cmpR l n ≤ 0
  | [], _, [], _, _ => by rw [cmpR]; decide
  | [], _, _ :: _, _, _ => by rw [cmpR]; decide
  | _ :: _, [], _, h, _ => by rw [cmpR] at h; omega
  | _ :: _, _ :: _, [], _, h => by rw [cmpR] at h; omega
  | d :: l, e :: m, f :: n, h, h2 => by
    rw [cmpR] at h h2 ⊢
    by_cases e1 : cmpS d e = 0
    · rw [if_pos e1] at h
      rw [cmpS_zero_left e1]
      by_cases e2 : cmpS e f = 0
      · rw [if_pos e2] at h2 ⊢
        exact cmpR_trans h h2
      · rw [if_neg e2] at h2 ⊢
        exact h2
    · rw [if_neg e1] at h
      by_cases e2 : cmpS e f = 0
      · have t1 := cmpS_turn e f
        have t2 := cmpS_turn d e
        have t3 := cmpS_turn d f
        have := cmpS_zero_left (a := f) (b := e) (c := d) (by omega)
        have t4 := cmpS_turn f d
        have t5 := cmpS_turn e d
        rw [if_neg (by omega)]
        omega
      · rw [if_neg e2] at h2
        have := cmpS_trans h h2
        split
        · rename_i e3
          exfalso
          have t3 := cmpS_turn d f
          have := cmpS_zero_left (a := f) (b := d) (c := e) (by omega)
          have t1 := cmpS_turn e f
          have t2 := cmpS_turn d e
          omega
        · exact this
/-- Rows compare as their bytes do. -/
theorem encR_cmp : ∀ l m : List Dat, (∀ d ∈ l, Kinded d ∧ Wide d) → (∀ d ∈ m, Kinded d ∧ Wide d) → compareBytes (encR l) (encR m) = cmpR l m
  | [], [], _, _ => rfl
  | [], e :: m, _, hm => by
    have := encD_ne (hm e (by simp)).1
    unfold encR
    rw [List.flatMap_cons]
    cases h : encD e with
    | nil => exact absurd h this
    | cons c r => rfl
  | d :: l, [], hl, _ => by
    have := encD_ne (hl d (by simp)).1
    unfold encR
    rw [List.flatMap_cons]
    cases h : encD d with
    | nil => exact absurd h this
    | cons c r => rfl
  | d :: l, e :: m, hl, hm => by
    obtain ⟨kd, wd⟩ := hl d (by simp)
    obtain ⟨ke, we⟩ := hm e (by simp)
    rw [cmpR]
    unfold encR
    rw [List.flatMap_cons, List.flatMap_cons]
    by_cases h0 : cmpS d e = 0
    · rw [if_pos h0, encD_same h0, compare_pre]
      exact encR_cmp l m (fun x hx => hl x (by simp [hx])) (fun x hx => hm x (by simp [hx]))
    · rw [if_neg h0]
      rcases cmpS_cases d e with h1 | h1 | h1
      · exact absurd h1 h0
      · rw [((encD_lt kd ke wd.2 we.2 h1).app _ _).compare, h1]
      · rw [compare_turn, ((encD_lt ke kd we.2 wd.2 h1).app _ _).compare, cmpS_turn d e, h1]
/-- Keys are the same just if rows compare as the same. -/
theorem keyR_same : ∀ l m : List Dat, (∀ d ∈ l, Wide d) → (∀ d ∈ m, Wide d) → (keyR l = keyR m ↔ cmpR l m = 0)
  | [], [], _, _ => by simp [keyR, cmpR]
  | [], e :: m, _, _ => by
    have := keyD_ne e
    simp [keyR, cmpR, this]
  | d :: l, [], _, _ => by
    have := keyD_ne d
    simp [keyR, cmpR, this]
  | d :: l, e :: m, hl, hm => by
    rw [cmpR]
    unfold keyR
    rw [List.flatMap_cons, List.flatMap_cons]
    by_cases h0 : cmpS d e = 0
    · rw [if_pos h0, keyD_same h0, List.append_cancel_left_eq]
      exact keyR_same l m (fun x hx => hl x (by simp [hx])) (fun x hx => hm x (by simp [hx]))
    · rw [if_neg h0]
      have := ((keyD_dif (hl d (by simp)) (hm e (by simp)) h0).app (l.flatMap keyD) (m.flatMap keyD)).ne
      exact ⟨fun q => absurd q this, fun q => absurd q h0⟩
end Go.Proofs.YtpmfbmigdpmloaaGreatDoor
end
section
/-
  A slice value of the program's memory read as a list: elements of k cells each; a row of data. Nothing is walked here. No condition but those written.
-/
set_option linter.unusedVariables false
set_option linter.unusedSimpArgs false
namespace Go.Proofs.YtpmfbmigdpmloaaGreatDoor
open Go.RowKit Go.Lib

/-- The slice value v has n elements of k cells each, and these cells hold xs. -/
def SlV (w : World) (k : Nat) (v : Value) (n : Nat) (xs : List Value) : Prop :=
  xs.length = n * k ∧ ∃ A c, v = .slice A n c ∧ n ≤ c ∧ c ≤ 9223372036854775807 ∧ (A = none → c = 0) ∧ (0 < n → ∃ ad : Addr, A = some ad ∧ ad.block < w.heap.size ∧ ∀ j u, xs[j]? = some u → w.cell? (ad.add j) = some u)
theorem add_block (a : Addr) (i : Nat) : (a.add i).block = a.block := by unfold Addr.add; split <;> rfl
theorem add_twice (a : Addr) (i j : Nat) : (a.add i).add j = a.add (i + j) := by
  rcases Nat.eq_zero_or_pos i with rfl | hi
  · rw [Nat.zero_add]; rfl
  · rcases Nat.eq_zero_or_pos j with rfl | hj
    · rfl
    · unfold Addr.add
      simp [Nat.add_assoc, show i ≠ 0 by omega, show j ≠ 0 by omega, show i + j ≠ 0 by omega]
theorem SlV.below {w w' : World} {k n : Nat} {v : Value} {xs : List Value} (h : SlV w k v n xs) (hb : Below w.heap.size w w') : SlV w' k v n xs := by
  obtain ⟨h1, A, c, rfl, h2, h3, h0, h4⟩ := h
  refine ⟨h1, A, c, rfl, h2, h3, h0, fun hn => ?_⟩
  obtain ⟨ad, rfl, h5, h6⟩ := h4 hn
  exact ⟨ad, rfl, Nat.lt_of_lt_of_le h5 hb.size, fun j u hj => (hb.cell (p := ad.add j) (by rw [add_block]; exact h5)).trans (h6 j u hj)⟩
theorem SlV.alloc {w : World} {k n : Nat} {v : Value} {xs : List Value} (h : SlV w k v n xs) (o : Obj) : SlV (w.alloc o) k v n xs := h.below ((Below.refl _ _).alloc (Nat.le_refl _) _)
theorem SlV.drew {w : World} {k n : Nat} {v : Value} {xs : List Value} (h : SlV w k v n xs) : SlV w.drew k v n xs := h.below (Below.refl _ _).drew
/-- A datum's four cells. -/
def cellsD (d : Dat) : List Value := [.int .u8 d.k, .bool d.b, .int .i64 d.n, .string d.s]
theorem cells_get : ∀ (l : List Dat) (i : Nat) (h : i < l.length) (j : Nat), j < 4 → (l.flatMap cellsD)[i * 4 + j]? = (cellsD l[i])[j]?
  | [], i, h, _, _ => absurd h (by simp)
  | d :: l, 0, _, j, hj => by
    rw [List.flatMap_cons, List.getElem?_append_left (by show _ < 4; omega)]
    simp
  | d :: l, i + 1, h, j, hj => by
    rw [List.flatMap_cons, List.getElem?_append_right (by show 4 ≤ _; omega)]
    rw [show (i + 1) * 4 + j - (cellsD d).length = i * 4 + j by show _ - 4 = _; omega]
    rw [cells_get l i (by simpa using h) j hj]
    simp
theorem cells_len : ∀ l : List Dat, (l.flatMap cellsD).length = l.length * 4
  | [] => rfl
  | d :: l => by
    rw [List.flatMap_cons, List.length_append, cells_len l, List.length_cons, show (cellsD d).length = 4 from rfl]
    omega
/-- The slice value v is a row: it holds the data l. -/
def RowV (w : World) (v : Value) (l : List Dat) : Prop := SlV w 4 v l.length (l.flatMap cellsD)
theorem RowV.below {w w' : World} {v : Value} {l : List Dat} (h : RowV w v l) (hb : Below w.heap.size w w') : RowV w' v l := SlV.below h hb
theorem RowV.form {w : World} {v : Value} {l : List Dat} (h : RowV w v l) : ∃ A c, v = .slice A l.length c ∧ l.length ≤ 9223372036854775807 := by
  obtain ⟨_, A, c, rfl, h2, h3, _⟩ := h
  exact ⟨A, c, rfl, by omega⟩
theorem add_more (a : Addr) (i j : Nat) (hj : 0 < j) : a.add (i + j) = ⟨(a.add i).block, (a.add i).off + j, none⟩ := by
  rw [← add_twice]
  obtain ⟨j, rfl⟩ : ∃ k, j = k + 1 := ⟨j - 1, by omega⟩
  rfl
/-- The four cells of an element, as a load reads them. -/
theorem RowV.at {w : World} {A : Option Addr} {c : Nat} {l : List Dat} (h : RowV w (.slice A l.length c) l) {i : Nat} (hi : i < l.length) :
    ∃ ad : Addr, A = some ad ∧ (ad.add (i * 4)).block < w.heap.size ∧ w.cell? (ad.add (i * 4)) = some (.int .u8 l[i].k) ∧ w.cell? ⟨(ad.add (i * 4)).block, (ad.add (i * 4)).off + 1, none⟩ = some (.bool l[i].b) ∧
      w.cell? ⟨(ad.add (i * 4)).block, (ad.add (i * 4)).off + 2, none⟩ = some (.int .i64 l[i].n) ∧ w.cell? ⟨(ad.add (i * 4)).block, (ad.add (i * 4)).off + 3, none⟩ = some (.string l[i].s) := by
  obtain ⟨_, A', c', e, _, _, _, h4⟩ := h
  obtain ⟨rfl, _, rfl⟩ := Value.slice.inj e
  obtain ⟨ad, rfl, h5, h6⟩ := h4 (by omega)
  refine ⟨ad, rfl, by rw [add_block]; exact h5, ?_, ?_, ?_, ?_⟩
  · exact h6 (i * 4) _ ((cells_get l i hi 0 (by omega)).trans rfl)
  · rw [← add_more ad (i * 4) 1 (by omega)]; exact h6 (i * 4 + 1) _ ((cells_get l i hi 1 (by omega)).trans rfl)
  · rw [← add_more ad (i * 4) 2 (by omega)]; exact h6 (i * 4 + 2) _ ((cells_get l i hi 2 (by omega)).trans rfl)
  · rw [← add_more ad (i * 4) 3 (by omega)]; exact h6 (i * 4 + 3) _ ((cells_get l i hi 3 (by omega)).trans rfl)
theorem RowV.at_ {w : World} {A : Option Addr} {c : Nat} {l : List Dat} (h : RowV w (.slice A l.length c) l) {i : Nat} {x : Dat} (hx : l[i]? = some x) :
    ∃ ad : Addr, A = some ad ∧ (ad.add (i * 4)).block < w.heap.size ∧ w.cell? (ad.add (i * 4)) = some (.int .u8 x.k) ∧ w.cell? ⟨(ad.add (i * 4)).block, (ad.add (i * 4)).off + 1, none⟩ = some (.bool x.b) ∧
      w.cell? ⟨(ad.add (i * 4)).block, (ad.add (i * 4)).off + 2, none⟩ = some (.int .i64 x.n) ∧ w.cell? ⟨(ad.add (i * 4)).block, (ad.add (i * 4)).off + 3, none⟩ = some (.string x.s) := by
  obtain ⟨hi, rfl⟩ := List.getElem?_eq_some_iff.1 hx
  exact h.at hi
/-- Each datum has a kind of a byte, a number of 64 bits, a text of at most 2^47 bytes. -/
def WideR (l : List Dat) : Prop := ∀ d ∈ l, Wide d ∧ d.s.size ≤ 140737488355328
/-- May a row be? 0: yes. -/
def chkL : List Dat → Int
  | [] => 0
  | d :: l => if chk d = 0 then chkL l else chk d
def chkR (l : List Dat) : Int := if l.length > 32 then 20 else chkL l
end Go.Proofs.YtpmfbmigdpmloaaGreatDoor
end
section
/-
  Plain mathematics of rows as they are written: where the text form of a datum ends within that of a row; rows that may be are written alike just if they are the same. No condition but those written.
-/
set_option linter.unusedVariables false
set_option linter.unusedSimpArgs false
namespace Go.Proofs.YtpmfbmigdpmloaaGreatDoor
open Go.Lib

/-- The data, with what stands between them. -/
def joinR (l : List Dat) : List UInt8 := Lib.join (l.map printS) [44, 32]
def tailR (l : List Dat) : List UInt8 := Lib.joinTail [44, 32] (l.map printS)
/-- A row as it is written. -/
def printR (l : List Dat) : List UInt8 := 40 :: (joinR l ++ [41])
theorem joinR_cons (d : Dat) (l : List Dat) : joinR (d :: l) = printS d ++ tailR l := by
  unfold joinR tailR
  rw [List.map_cons, Lib.join_cons]
theorem tailR_nil : tailR [] = [] := rfl
theorem tailR_cons (d : Dat) (l : List Dat) : tailR (d :: l) = 44 :: 32 :: joinR (d :: l) := by
  rw [joinR_cons]
  unfold tailR Lib.joinTail
  simp
/-- The first text form, and what stands behind what separates it; none: there is one alone. -/
def cutF : Bool → List UInt8 → Option (List UInt8 × List UInt8)
  | _, [] => none
  | q, b :: l => if (if b = 39 then !q else q) = false ∧ b = 44 ∧ l.head? = some 32 then some ([], l.tail) else (cutF (if b = 39 then !q else q) l).map (fun x => (b :: x.1, x.2))
theorem map_app (x : List UInt8) (b : UInt8) (o : Option (List UInt8 × List UInt8)) : (o.map (fun y => (x ++ y.1, y.2))).map (fun y => (b :: y.1, y.2)) = o.map (fun y => ((b :: x) ++ y.1, y.2)) := by cases o <;> rfl
theorem map_id (o : Option (List UInt8 × List UInt8)) : o.map (fun y => (([] : List UInt8) ++ y.1, y.2)) = o := by cases o <;> rfl
/-- Within a text: what has no quote is passed over. -/
theorem cutF_in : ∀ (x z : List UInt8), 39 ∉ x → cutF true (x ++ z) = (cutF true z).map (fun y => (x ++ y.1, y.2))
  | [], z, _ => (map_id _).symm
  | b :: x, z, h => by
    have hb : b ≠ 39 := fun e => h (by rw [e]; simp)
    rw [List.cons_append, cutF, if_neg hb, if_neg (by simp), cutF_in x z (fun q => h (by simp [q])), map_app]
/-- Outside: what has neither quote nor comma. -/
theorem cutF_out : ∀ (x z : List UInt8), 39 ∉ x → 44 ∉ x → cutF false (x ++ z) = (cutF false z).map (fun y => (x ++ y.1, y.2))
  | [], z, _, _ => (map_id _).symm
  | b :: x, z, h, h' => by
    have hb : b ≠ 39 := fun e => h (by rw [e]; simp)
    have hc : b ≠ 44 := fun e => h' (by rw [e]; simp)
    rw [List.cons_append, cutF, if_neg hb, if_neg (fun q => hc q.2.1), cutF_out x z (fun q => h (by simp [q])) (fun q => h' (by simp [q])), map_app]
theorem esc_no39 {c : UInt8} (h : c ≠ 39) : 39 ∉ escB c := by
  have := esc_count c
  rw [if_neg h] at this
  exact List.count_eq_zero.1 this
theorem cutF_text : ∀ (s z : List UInt8), cutF true (s.flatMap escB ++ z) = (cutF true z).map (fun y => (s.flatMap escB ++ y.1, y.2))
  | [], z => (map_id _).symm
  | c :: s, z => by
    rw [List.flatMap_cons, List.append_assoc]
    by_cases hc : c = 39
    · subst hc
      have e : escB 39 = [39, 39] := rfl
      have h1 : ∀ y, cutF true (39 :: 39 :: y) = (cutF true y).map (fun x => (39 :: 39 :: x.1, x.2)) := by
        intro y
        rw [cutF]
        simp only [if_true]
        rw [if_neg (by simp), cutF]
        simp only [if_true]
        rw [if_neg (by simp)]
        show (((cutF true y).map _).map _) = _
        cases cutF true y <;> rfl
      rw [e]
      show cutF true (39 :: 39 :: (s.flatMap escB ++ z)) = _
      rw [h1, cutF_text s z]
      cases cutF true z <;> rfl
    · rw [cutF_in _ _ (esc_no39 hc), cutF_text s z]
      cases cutF true z <;> simp
theorem dec_no (n : Nat) {x : UInt8} (h : x.toNat < 48 ∨ 57 < x.toNat) : x ∉ decDigits n := by
  intro hm
  have := dec_range n x hm
  omega
theorem itoa_no (n : Int) {x : UInt8} (h : x.toNat < 48 ∨ 57 < x.toNat) (h' : x ≠ 45) : x ∉ itoa n := by
  unfold itoa
  split
  · intro hm
    rcases List.mem_cons.1 hm with e | hm
    · exact h' e
    · exact dec_no _ h hm
  · exact dec_no _ h
/-- Of no text: no quote, comma, bracket, no backslash. -/
theorem print_bare {d : Dat} (h : okD d = true) (hk : d.k ≠ 4) : 39 ∉ printS d ∧ 44 ∉ printS d ∧ 41 ∉ printS d := by
  rcases ok_cases h with rfl | ⟨b, rfl⟩ | ⟨n, rfl⟩ | ⟨s, rfl, _⟩
  · rw [printS_null]; decide
  · rw [printS_bool]; cases b <;> decide
  · rw [printS_int]
    exact ⟨itoa_no n (by decide) (by decide), itoa_no n (by decide) (by decide), itoa_no n (by decide) (by decide)⟩
  · exact absurd rfl hk
/-- What stands behind a datum: nothing, or what separates it from the next one. -/
theorem cutF_print {d : Dat} (h : okD d = true) (z : List UInt8) : cutF false (printS d ++ z) = (cutF false z).map (fun y => (printS d ++ y.1, y.2)) := by
  by_cases hk : d.k = 4
  · rcases ok_cases h with rfl | ⟨b, rfl⟩ | ⟨n, rfl⟩ | ⟨s, rfl, _⟩
    · exact absurd hk (by simp [nullD])
    · exact absurd hk (by simp [boolD])
    · exact absurd hk (by simp [intD])
    · rw [printS_text h]
      unfold quoteL
      rw [List.cons_append, cutF]
      simp only [if_true]
      rw [if_neg (by simp), List.append_assoc]
      show ((cutF true _).map _) = _
      rw [cutF_text]
      have h1 : cutF true ([39] ++ z) = (cutF false z).map (fun x => (39 :: x.1, x.2)) := by
        show cutF true (39 :: z) = _
        rw [cutF]
        simp only [if_true]
        rw [if_neg (by simp)]
        rfl
      rw [h1]
      cases cutF false z <;> simp
  · obtain ⟨h1, h2, _⟩ := print_bare h hk
    exact cutF_out _ _ h1 h2
theorem cutF_sep (r : List UInt8) : cutF false (44 :: 32 :: r) = some ([], r) := by
  rw [cutF, if_pos (by simp)]
  rfl
theorem cutF_last {d : Dat} (h : okD d = true) : cutF false (printS d) = none := by
  have := cutF_print h []
  rw [List.append_nil] at this
  rw [this]
  rfl
theorem cutF_more {d : Dat} (h : okD d = true) (r : List UInt8) : cutF false (printS d ++ 44 :: 32 :: r) = some (printS d, r) := by
  rw [cutF_print h, cutF_sep]
  simp
theorem cutF_join {d : Dat} (h : okD d = true) (l : List Dat) : cutF false (joinR (d :: l)) = match l with
    | [] => none
    | e :: m => some (printS d, joinR (e :: m)) := by
  rw [joinR_cons]
  cases l with
  | nil => rw [tailR_nil, List.append_nil]; exact cutF_last h
  | cons e m => rw [tailR_cons]; exact cutF_more h _
theorem okL {l : List Dat} (h : chkR l = 0) : l.length ≤ 32 ∧ ∀ d ∈ l, okD d = true := by
  have h1 : ∀ l : List Dat, chkL l = 0 → ∀ d ∈ l, okD d = true := by
    intro l
    induction l with
    | nil => intro _ d hd; cases hd
    | cons e l ih =>
      intro h d hd
      unfold chkL at h
      by_cases h0 : chk e = 0
      · rw [if_pos h0] at h
        rcases List.mem_cons.1 hd with rfl | hd
        · simp [okD, h0]
        · exact ih h d hd
      · rw [if_neg h0] at h
        exact absurd h h0
  unfold chkR at h
  split at h
  · omega
  · exact ⟨by omega, h1 l h⟩
theorem chkR_of {l : List Dat} (h : l.length ≤ 32) (ho : ∀ d ∈ l, okD d = true) : chkR l = 0 := by
  have h1 : ∀ l : List Dat, (∀ d ∈ l, okD d = true) → chkL l = 0 := by
    intro l
    induction l with
    | nil => intro _; rfl
    | cons e l ih =>
      intro ho
      have he : chk e = 0 := by simpa [okD] using ho e (by simp)
      rw [chkL, if_pos he]
      exact ih (fun d hd => ho d (by simp [hd]))
  unfold chkR
  rw [if_neg (by omega)]
  exact h1 l ho
theorem joinR_ne {d : Dat} (h : okD d = true) (l : List Dat) : joinR (d :: l) ≠ [] := by
  rw [joinR_cons]
  intro e
  exact print_ne h (List.append_eq_nil_iff.1 e).1
theorem joinR_inj : ∀ {l m : List Dat}, (∀ d ∈ l, okD d = true) → (∀ d ∈ m, okD d = true) → joinR l = joinR m → l = m
  | [], [], _, _, _ => rfl
  | [], e :: m, _, hm, h => absurd h.symm (joinR_ne (hm e (by simp)) m)
  | d :: l, [], hl, _, h => absurd h (joinR_ne (hl d (by simp)) l)
  | d :: l, e :: m, hl, hm, h => by
    have hd := hl d (by simp)
    have he := hm e (by simp)
    have h1 := cutF_join hd l
    have h2 := cutF_join he m
    rw [h] at h1
    rw [h1] at h2
    cases l with
    | nil =>
      cases m with
      | nil =>
        rw [joinR_cons, joinR_cons, tailR_nil, List.append_nil, List.append_nil] at h
        rw [print_inj hd he h]
      | cons f m => simp at h2
    | cons g l =>
      cases m with
      | nil => simp at h2
      | cons f m =>
        simp only [Option.some.injEq, Prod.mk.injEq] at h2
        rw [print_inj hd he h2.1, joinR_inj (fun x hx => hl x (by simp [hx])) (fun x hx => hm x (by simp [hx])) h2.2]
theorem printR_inj {l m : List Dat} (hl : chkR l = 0) (hm : chkR m = 0) (h : printR l = printR m) : l = m := by
  unfold printR at h
  simp only [List.cons.injEq, true_and, List.append_cancel_right_eq] at h
  exact joinR_inj (okL hl).2 (okL hm).2 h
/-- Where a datum ends, as the document tells it: at a comma, or a bracket, outside of a text; within, what stands behind a backslash is passed over. -/
def endF : Bool → Bool → List UInt8 → Option Nat
  | _, _, [] => none
  | q, true, _ :: l => (endF q false l).map (· + 1)
  | q, false, b :: l => if b = 92 ∧ q = true then (endF q true l).map (· + 1)
    else if (if b = 39 then !q else q) = false ∧ (b = 44 ∨ b = 41) then some 0 else (endF (if b = 39 then !q else q) false l).map (· + 1)
theorem map_plus (o : Option Nat) (k : Nat) : (o.map (· + k)).map (· + 1) = o.map (· + (k + 1)) := by cases o <;> simp [Nat.add_assoc]
theorem map_zero (o : Option Nat) : o.map (· + 0) = o := by cases o <;> rfl
theorem endF_in : ∀ (x z : List UInt8), 39 ∉ x → 92 ∉ x → endF true false (x ++ z) = (endF true false z).map (· + x.length)
  | [], z, _, _ => (map_zero _).symm
  | b :: x, z, h, h' => by
    have hb : b ≠ 39 := fun e => h (by rw [e]; simp)
    have hc : b ≠ 92 := fun e => h' (by rw [e]; simp)
    rw [List.cons_append, endF, if_neg (fun q => hc q.1), if_neg hb, if_neg (by simp), endF_in x z (fun q => h (by simp [q])) (fun q => h' (by simp [q])), map_plus, List.length_cons]
theorem endF_out : ∀ (x z : List UInt8), 39 ∉ x → 44 ∉ x → 41 ∉ x → endF false false (x ++ z) = (endF false false z).map (· + x.length)
  | [], z, _, _, _ => (map_zero _).symm
  | b :: x, z, h, h', h'' => by
    have hb : b ≠ 39 := fun e => h (by rw [e]; simp)
    have hc : b ≠ 44 := fun e => h' (by rw [e]; simp)
    have hd : b ≠ 41 := fun e => h'' (by rw [e]; simp)
    rw [List.cons_append, endF, if_neg (fun q => by cases q.2), if_neg hb, if_neg (fun q => q.2.elim hc hd), endF_out x z (fun q => h (by simp [q])) (fun q => h' (by simp [q])) (fun q => h'' (by simp [q])), map_plus, List.length_cons]
theorem hex_no {n : Nat} (h : n < 16) : hexD n ≠ 39 ∧ hexD n ≠ 92 := by
  have : ∀ i : Fin 16, hexD i.val ≠ 39 ∧ hexD i.val ≠ 92 := by decide
  exact this ⟨n, h⟩
theorem endF_two (b : UInt8) (z : List UInt8) : endF true false (92 :: b :: z) = (endF true false z).map (· + 2) := by
  rw [endF, if_pos (by simp), endF, map_plus]
theorem endF_quotes (z : List UInt8) : endF true false (39 :: 39 :: z) = (endF true false z).map (· + 2) := by
  rw [endF, if_neg (by simp)]
  simp only [if_true]
  rw [if_neg (by simp), endF, if_neg (by simp)]
  simp only [if_true]
  rw [if_neg (by simp), map_plus]
  rfl
theorem endF_esc (c : UInt8) (z : List UInt8) : endF true false (escB c ++ z) = (endF true false z).map (· + (escB c).length) := by
  by_cases h1 : c = 39
  · subst h1; exact endF_quotes z
  by_cases h2 : c = 92
  · subst h2; exact endF_two 92 z
  by_cases h3 : c = 10
  · subst h3; exact endF_two 110 z
  by_cases h4 : c = 13
  · subst h4; exact endF_two 114 z
  by_cases h5 : c = 9
  · subst h5; exact endF_two 116 z
  by_cases h6 : c < 32 ∨ c = 127
  · have e : escB c = [92, 120, hexD (c.toNat / 16), hexD (c.toNat % 16)] := by simp [escB, h1, h2, h3, h4, h5, h6]
    rw [e]
    obtain ⟨k1, k2⟩ := hex_no (n := c.toNat / 16) (by have := c.toNat_lt; omega)
    obtain ⟨k3, k4⟩ := hex_no (n := c.toNat % 16) (by omega)
    show endF true false (92 :: 120 :: ([hexD (c.toNat / 16), hexD (c.toNat % 16)] ++ z)) = _
    rw [endF_two, endF_in _ _ (by simp; exact ⟨k1.symm, k3.symm⟩) (by simp; exact ⟨k2.symm, k4.symm⟩)]
    cases endF true false z <;> simp
  · have e : escB c = [c] := by simp [escB, h1, h2, h3, h4, h5, h6]
    rw [e]
    exact endF_in [c] z (by simp; exact fun q => h1 q.symm) (by simp; exact fun q => h2 q.symm)
theorem endF_text : ∀ (s z : List UInt8), endF true false (s.flatMap escB ++ z) = (endF true false z).map (· + (s.flatMap escB).length)
  | [], z => (map_zero _).symm
  | c :: s, z => by
    rw [List.flatMap_cons, List.append_assoc, endF_esc, endF_text s z, List.length_append]
    cases endF true false z <;> simp [Nat.add_comm, Nat.add_left_comm]
theorem endF_print {d : Dat} (h : okD d = true) (z : List UInt8) : endF false false (printS d ++ z) = (endF false false z).map (· + (printS d).length) := by
  by_cases hk : d.k = 4
  · rcases ok_cases h with rfl | ⟨b, rfl⟩ | ⟨n, rfl⟩ | ⟨s, rfl, _⟩
    · exact absurd hk (by simp [nullD])
    · exact absurd hk (by simp [boolD])
    · exact absurd hk (by simp [intD])
    · rw [printS_text h]
      unfold quoteL
      rw [List.cons_append, endF, if_neg (by simp)]
      simp only [if_true]
      rw [if_neg (by simp), List.append_assoc]
      show ((endF true false _).map _) = _
      rw [endF_text]
      have h1 : endF true false ([39] ++ z) = (endF false false z).map (· + 1) := by
        show endF true false (39 :: z) = _
        rw [endF, if_neg (by simp)]
        simp only [if_true]
        rw [if_neg (by simp)]
        rfl
      rw [h1]
      cases endF false false z <;> simp [Nat.add_comm, Nat.add_left_comm] <;> omega
  · obtain ⟨h1, h2, h3⟩ := print_bare h hk
    exact endF_out _ _ h1 h2 h3
theorem endF_at {d : Dat} (h : okD d = true) {b : UInt8} (hb : b = 44 ∨ b = 41) (z : List UInt8) : endF false false (printS d ++ b :: z) = some (printS d).length := by
  rw [endF_print h]
  have : endF false false (b :: z) = some 0 := by
    rw [endF, if_neg (by simp), if_pos]
    refine ⟨?_, hb⟩
    rw [if_neg]
    rintro rfl
    rcases hb with hb | hb <;> exact absurd hb (by decide)
  rw [this]
  simp
end Go.Proofs.YtpmfbmigdpmloaaGreatDoor
end
section
/-
  Plain mathematics of rows as they are written: what a text writes that is read from front to back. No condition but those written.
-/
set_option linter.unusedVariables false
set_option linter.unusedSimpArgs false
namespace Go.Proofs.YtpmfbmigdpmloaaGreatDoor
open Go.Lib

/-- What stands ahead of the datum that is read next. -/
def sepR (l : List Dat) : List UInt8 := l.flatMap (fun d => printS d ++ [44, 32])
theorem sepR_nil : sepR [] = [] := rfl
theorem sepR_cons (d : Dat) (l : List Dat) : sepR (d :: l) = printS d ++ (44 :: 32 :: sepR l) := by
  unfold sepR
  rw [List.flatMap_cons, List.append_assoc]
  rfl
theorem sepR_snoc (l : List Dat) (d : Dat) (r : List UInt8) : sepR (l ++ [d]) ++ r = sepR l ++ (printS d ++ 44 :: 32 :: r) := by
  unfold sepR
  rw [List.flatMap_append]
  simp
theorem sepR_last : ∀ (l : List Dat) (d : Dat), sepR l ++ printS d = joinR (l ++ [d])
  | [], d => by rw [sepR_nil, List.nil_append, List.nil_append, joinR_cons, tailR_nil, List.append_nil]
  | e :: l, d => by
    rw [sepR_cons, List.cons_append, joinR_cons, List.append_assoc]
    congr 1
    have := sepR_last l d
    cases l with
    | nil =>
      show 44 :: 32 :: printS d = tailR [d]
      rw [tailR_cons, joinR_cons, tailR_nil, List.append_nil]
    | cons f m =>
      show 44 :: 32 :: (sepR (f :: m) ++ printS d) = tailR (f :: (m ++ [d]))
      rw [tailR_cons, this]
      rfl
/-- What is a row as it is written, with something behind it that has no further one: it goes on where the data that were read end. -/
theorem sep_join {suf : List UInt8} (hs : cutF false suf = none) : ∀ (acc l : List Dat) (r : List UInt8), (∀ d ∈ acc, okD d = true) → (∀ d ∈ l, okD d = true) → sepR acc ++ r = joinR l ++ suf → ∃ m, l = acc ++ m ∧ r = joinR m ++ suf ∧ (acc = [] ∨ m ≠ [])
  | [], l, r, _, _, h => ⟨l, rfl, h, .inl rfl⟩
  | d :: acc, l, r, ha, hl, h => by
    have hd := ha d (by simp)
    rw [sepR_cons, List.append_assoc, List.cons_append, List.cons_append] at h
    have h1 := cutF_more hd (sepR acc ++ r)
    rw [h] at h1
    cases l with
    | nil =>
      rw [show joinR [] = [] from rfl, List.nil_append, hs] at h1
      cases h1
    | cons e l =>
      have he := hl e (by simp)
      rw [joinR_cons, List.append_assoc] at h1
      cases l with
      | nil =>
        rw [tailR_nil, List.nil_append, cutF_print he, hs] at h1
        cases h1
      | cons f l =>
        rw [tailR_cons, List.cons_append, List.cons_append, cutF_more he] at h1
        simp only [Option.some.injEq, Prod.mk.injEq] at h1
        have hde := print_inj he hd h1.1
        subst hde
        obtain ⟨m, hm1, hm2, hm3⟩ := sep_join hs acc (f :: l) r (fun x hx => ha x (by simp [hx])) (fun x hx => hl x (by simp [hx])) h1.2.symm
        refine ⟨m, by rw [hm1]; rfl, hm2, .inr ?_⟩
        rcases hm3 with rfl | hm3
        · rw [List.nil_append] at hm1
          rw [← hm1]
          simp
        · exact hm3
def I64d (l : List Dat) : Prop := ∀ d ∈ l, -9223372036854775808 ≤ d.n ∧ d.n ≤ 9223372036854775807
/-- What a text is as a row: the one that may be and is written so, or none. -/
def RowZ (L : List UInt8) (l : List Dat) (z : Int) : Prop :=
  (chkR l = 0 ∧ I64d l ∧ printR l = L ∧ z = 0) ∨ (l = [] ∧ z = 20 ∧ ∀ m, chkR m = 0 → I64d m → printR m ≠ L)
theorem RowZ.one {L : List UInt8} {l l' : List Dat} {z z' : Int} (h : RowZ L l z) (h' : RowZ L l' z') : l = l' ∧ z = z' := by
  rcases h with ⟨a1, a2, a3, a4⟩ | ⟨a1, a2, a3⟩ <;> rcases h' with ⟨b1, b2, b3, b4⟩ | ⟨b1, b2, b3⟩
  · exact ⟨printR_inj a1 b1 (a3.trans b3.symm), a4.trans b4.symm⟩
  · exact absurd a3 (b3 l a1 a2)
  · exact absurd b3 (a3 l' b1 b2)
  · exact ⟨a1.trans b1.symm, a2.trans b2.symm⟩
theorem RowZ.bad {L : List UInt8} (h : ∀ m, chkR m = 0 → I64d m → printR m ≠ L) : RowZ L [] 20 := .inr ⟨rfl, rfl, h⟩
/-- A text without its brackets is no row. -/
theorem RowZ.bare {L : List UInt8} (h : ∀ B, L ≠ 40 :: (B ++ [41])) : RowZ L [] 20 := .bad (fun m _ _ e => h _ e.symm)
theorem okD_all {l : List Dat} (h : chkR l = 0) : ∀ d ∈ l, okD d = true := (okL h).2
/-- What the program holds behind some data: what is left of the text. -/
structure Left (B : List UInt8) (acc : List Dat) (r : List UInt8) : Prop where
  ok : ∀ d ∈ acc, okD d = true
  wide : I64d acc
  most : acc.length ≤ 32
  text : B = sepR acc ++ r
theorem Left.start (B : List UInt8) : Left B [] B := ⟨by simp, by unfold I64d; simp, by simp, rfl⟩
/-- The form of the next datum, if the text is a row with more data. -/
theorem Left.next {B r : List UInt8} {acc m : List Dat} (h : Left B acc r) (hm : chkR m = 0) (hB : joinR m = B) (hne : acc = [] → B ≠ []) :
    ∃ d p, m = acc ++ d :: p ∧ r = joinR (d :: p) ∧ okD d = true := by
  obtain ⟨p, hp1, hp2, hp3⟩ := sep_join (suf := []) rfl acc m r h.ok (okD_all hm) (by rw [List.append_nil, hB]; exact h.text.symm)
  rw [List.append_nil] at hp2
  cases p with
  | nil =>
    rcases hp3 with rfl | hp3
    · refine absurd ?_ (hne rfl)
      rw [h.text, hp2]; rfl
    · exact absurd rfl hp3
  | cons d p => exact ⟨d, p, hp1, hp2, okD_all hm d (by rw [hp1]; simp)⟩
/-- The form that the program cuts off, and what is left behind it. -/
def formF (r : List UInt8) : List UInt8 := match cutF false r with
  | none => r
  | some (f, _) => f
def restF (r : List UInt8) : List UInt8 := match cutF false r with
  | none => []
  | some (_, z) => z
def moreF (r : List UInt8) : Bool := (cutF false r).isSome
theorem cutF_back : ∀ (q : Bool) (r f z : List UInt8), cutF q r = some (f, z) → r = f ++ 44 :: 32 :: z
  | q, [], f, z, h => by cases h
  | q, b :: l, f, z, h => by
    rw [cutF] at h
    by_cases hc : (if b = 39 then !q else q) = false ∧ b = 44 ∧ l.head? = some 32
    · rw [if_pos hc] at h
      simp only [Option.some.injEq, Prod.mk.injEq] at h
      obtain ⟨rfl, rfl⟩ := h
      obtain ⟨_, rfl, h3⟩ := hc
      cases l with
      | nil => cases h3
      | cons c l => simp only [List.head?_cons, Option.some.injEq] at h3; subst h3; rfl
    · rw [if_neg hc] at h
      cases hr : cutF (if b = 39 then !q else q) l with
      | none => rw [hr] at h; cases h
      | some x =>
        obtain ⟨x1, x2⟩ := x
        rw [hr] at h
        simp only [Option.map_some, Option.some.injEq, Prod.mk.injEq] at h
        obtain ⟨rfl, rfl⟩ := h
        have := cutF_back _ l x1 x2 hr
        rw [this]
        rfl
theorem form_join {d : Dat} (h : okD d = true) (p : List Dat) : formF (joinR (d :: p)) = printS d := by
  have := cutF_join h p
  unfold formF
  cases p with
  | nil => rw [this]; rw [joinR_cons, tailR_nil, List.append_nil]
  | cons e p => rw [this]
/-- Where the form is no datum's, or there are too many, the text is no row. -/
theorem Left.bad {L B r : List UInt8} {acc : List Dat} (h : Left B acc r) (hL : L = 40 :: (B ++ [41])) (hne : acc = [] → B ≠ []) (hd : acc.length = 32 ∨ ∀ d, okD d = true → -9223372036854775808 ≤ d.n ∧ d.n ≤ 9223372036854775807 → formF r ≠ printS d) : RowZ L [] 20 := by
  refine .bad (fun m hm hw e => ?_)
  have e2 : joinR m = B := by
    rw [hL] at e
    unfold printR at e
    simp only [List.cons.injEq, true_and, List.append_cancel_right_eq] at e
    exact e
  obtain ⟨d, p, hp1, hp2, hp3⟩ := h.next hm e2 hne
  rcases hd with hd | hd
  · have := (okL hm).1
    rw [hp1, List.length_append, hd] at this
    simp at this
    omega
  · exact hd d hp3 (hw d (by rw [hp1]; simp)) (by rw [hp2]; exact form_join hp3 p)
/-- One datum more. -/
theorem Left.more {B r : List UInt8} {acc : List Dat} {d : Dat} (h : Left B acc r) (hl : acc.length < 32) (hd : okD d = true) (hn : -9223372036854775808 ≤ d.n ∧ d.n ≤ 9223372036854775807) (hf : formF r = printS d) (hm : moreF r = true) : Left B (acc ++ [d]) (restF r) := by
  refine ⟨fun x hx => ?_, fun x hx => ?_, by simp; omega, ?_⟩
  · rcases List.mem_append.1 hx with hx | hx
    · exact h.ok x hx
    · rw [List.mem_singleton.1 hx]; exact hd
  · rcases List.mem_append.1 hx with hx | hx
    · exact h.wide x hx
    · rw [List.mem_singleton.1 hx]; exact hn
  · unfold moreF at hm
    unfold formF at hf
    unfold restF
    cases hc : cutF false r with
    | none => rw [hc] at hm; cases hm
    | some x =>
      obtain ⟨x1, x2⟩ := x
      rw [hc] at hf
      simp only at hf ⊢
      rw [sepR_snoc, ← hf, ← cutF_back _ _ _ _ hc]
      exact h.text
/-- The last one. -/
theorem Left.last {L B r : List UInt8} {acc : List Dat} {d : Dat} (h : Left B acc r) (hL : L = 40 :: (B ++ [41])) (hl : acc.length < 32) (hd : okD d = true) (hn : -9223372036854775808 ≤ d.n ∧ d.n ≤ 9223372036854775807) (hf : formF r = printS d) (hm : moreF r = false) : RowZ L (acc ++ [d]) 0 := by
  refine .inl ⟨chkR_of (by simp; omega) (fun x hx => ?_), fun x hx => ?_, ?_, rfl⟩
  · rcases List.mem_append.1 hx with hx | hx
    · exact h.ok x hx
    · rw [List.mem_singleton.1 hx]; exact hd
  · rcases List.mem_append.1 hx with hx | hx
    · exact h.wide x hx
    · rw [List.mem_singleton.1 hx]; exact hn
  · have hr : r = printS d := by
      unfold moreF at hm
      unfold formF at hf
      cases hc : cutF false r with
      | none => rw [hc] at hf; exact hf
      | some x => rw [hc] at hm; cases hm
    rw [hL, h.text, hr, sepR_last]
    rfl
theorem RowZ.empty : RowZ [40, 41] [] 0 := .inl ⟨rfl, by unfold I64d; simp, rfl, rfl⟩
theorem rest_len (r : List UInt8) (h : moreF r = true) : (restF r).length < r.length := by
  unfold moreF at h
  unfold restF
  cases hc : cutF false r with
  | none => rw [hc] at h; cases h
  | some x =>
    obtain ⟨x1, x2⟩ := x
    have := cutF_back _ _ _ _ hc
    simp only
    rw [this]
    simp
    omega
theorem form_len (r : List UInt8) : (formF r).length ≤ r.length := by
  unfold formF
  cases hc : cutF false r with
  | none => exact Nat.le_refl _
  | some x =>
    obtain ⟨x1, x2⟩ := x
    have := cutF_back _ _ _ _ hc
    simp only
    rw [this]
    simp
/-- What the document holds behind some data: T stands from the next one on, the bracket with it. -/
theorem ends_next {L T : List UInt8} {acc m : List Dat} (ha : ∀ d ∈ acc, okD d = true) (hL : L = 40 :: (sepR acc ++ T)) (hm : chkR m = 0) (hp : printR m = L) (hne : acc = [] → L ≠ [40, 41]) :
    ∃ d p, m = acc ++ d :: p ∧ T = joinR (d :: p) ++ [41] ∧ okD d = true := by
  have e2 : sepR acc ++ T = joinR m ++ [41] := by
    rw [hL] at hp
    unfold printR at hp
    simp only [List.cons.injEq, true_and] at hp
    exact hp.symm
  obtain ⟨p, hp1, hp2, hp3⟩ := sep_join (suf := [41]) rfl acc m T ha (okD_all hm) e2
  cases p with
  | nil =>
    rcases hp3 with rfl | hp3
    · refine absurd ?_ (hne rfl)
      rw [hL, hp2]; rfl
    · exact absurd rfl hp3
  | cons d p => exact ⟨d, p, hp1, hp2, okD_all hm d (by rw [hp1]; simp)⟩
theorem ends_at {d : Dat} (h : okD d = true) (p : List Dat) : endF false false (joinR (d :: p) ++ [41]) = some (printS d).length := by
  rw [joinR_cons, List.append_assoc]
  cases p with
  | nil => rw [tailR_nil]; exact endF_at h (.inr rfl) []
  | cons e p => rw [tailR_cons]; exact endF_at h (.inl rfl) _
end Go.Proofs.YtpmfbmigdpmloaaGreatDoor
end
