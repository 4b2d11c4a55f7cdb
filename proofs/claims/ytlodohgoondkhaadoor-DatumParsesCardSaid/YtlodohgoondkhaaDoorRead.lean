/-
  Plain mathematics: a 64-bit number, written in decimal, is parsed back. No condition but that it is one.
  What datum.read answers, at this program: of every text of at most 2^40 bytes some datum; of what is written of a datum that may be, that datum. Condition: the variables strconv.ErrSyntax and strconv.ErrRange hold errors.
-/
import Derived.Test.YtlodohgoondkhaaDoorWrit
import Derived.Test.YtlodohgoondkhaaDoorArith
import Derived.Lib.ParseIntB
import Derived.Test.YtlodohgoondkhaaDoorUnquote
import Derived.Test.YtlodohgoondkhaaDoorRefNum
import Derived.Test.YtlodohgoondkhaaDoorConcat
import Derived.Test.YtlodohgoondkhaaDoorOps
import Derived.Test.YtlodohgoondkhaaDoorLogic
import Derived.Lib.SmallJoins
import Derived.Deep.RegionHeld3
import Derived.Test.YtlodohgoondkhaaDoorShelfP
set_option linter.unusedVariables false
set_option linter.unusedSimpArgs false
namespace Go.Proofs.YtlodohgoondkhaaDoor
open Go.Lib

theorem fold_le : ∀ (l : List UInt8) (a : Nat), a ≤ l.foldl (fun a b => 10 * a + (b.toNat - 48)) a
  | [], a => Nat.le_refl a
  | b :: l, a => by
    have := fold_le l (10 * a + (b.toNat - 48))
    rw [List.foldl_cons]
    omega
theorem parse_fold : ∀ (l : List UInt8) (a : Nat), (∀ b ∈ l, 48 ≤ b.toNat ∧ b.toNat ≤ 57) → l.foldl (fun a b => 10 * a + (b.toNat - 48)) a ≤ 18446744073709551615 → parseUintM 18446744073709551615 a l = .ok (l.foldl (fun a b => 10 * a + (b.toNat - 48)) a)
  | [], a, _, _ => rfl
  | b :: l, a, hd, hb => by
    obtain ⟨h0, h1⟩ := hd b (by simp)
    rw [List.foldl_cons] at hb
    have hle := fold_le l (10 * a + (b.toNat - 48))
    have ih := parse_fold l (10 * a + (b.toNat - 48)) (fun x hx => hd x (by simp [hx])) hb
    have e : 10 * a + (b.toNat - 48) = a * 10 + (b.toNat - 48) := by omega
    rw [List.foldl_cons, ← ih]
    rw [e] at hb hle ⊢
    show (if 48 ≤ b.toNat ∧ b.toNat ≤ 57 then (if 1844674407370955162 ≤ a then NumEnd.range else if 18446744073709551615 < a * 10 + (b.toNat - 48) then .range else parseUintM 18446744073709551615 (a * 10 + (b.toNat - 48)) l) else .syntax) = _
    rw [if_pos ⟨h0, h1⟩, if_neg (by omega), if_neg (by omega)]
theorem parse_dec (n : Nat) (h : n ≤ 18446744073709551615) : parseUintB 64 (decDigits n) = .ok n := by
  unfold parseUintB
  rw [if_neg (dec_ne n)]
  have hv := dval_dec n
  unfold dval at hv
  have := parse_fold (decDigits n) 0 (dec_range n) (by rw [hv]; exact h)
  rw [hv] at this
  exact this
/-- A 64-bit number is parsed back. -/
theorem parse_itoa (n : Int) (h : I64 n) : parseIntB 64 (itoa n) = .ok n := by
  obtain ⟨h1, h2⟩ := h
  unfold itoa
  by_cases hn : n < 0
  · rw [if_pos hn]
    have hp := parse_dec n.natAbs (by omega)
    show (match parseUintB 64 (if (45 : UInt8).toNat = 43 ∨ (45 : UInt8).toNat = 45 then decDigits n.natAbs else 45 :: decDigits n.natAbs) with
      | .syntax => NumEnd.syntax
      | .range => .range
      | .ok u => if ¬ ((45 : UInt8).toNat = 45) ∧ 2 ^ (64 - 1) ≤ u then .range else if (45 : UInt8).toNat = 45 ∧ 2 ^ (64 - 1) < u then .range else .ok (if (45 : UInt8).toNat = 45 then -(u : Int) else u)) = _
    rw [if_pos (.inr rfl), hp]
    simp only [show ((45 : UInt8).toNat = 45) = True from eq_true rfl, not_true_eq_false, false_and, if_false, true_and, if_true]
    rw [if_neg (by omega)]
    congr 1
    omega
  · rw [if_neg hn]
    have hp := parse_dec n.toNat (by omega)
    have hr := dec_range n.toNat
    cases hd : decDigits n.toNat with
    | nil => exact absurd hd (dec_ne _)
    | cons c r =>
      have hc := hr c (by rw [hd]; simp)
      rw [hd] at hp
      show (match parseUintB 64 (if c.toNat = 43 ∨ c.toNat = 45 then r else c :: r) with
        | .syntax => NumEnd.syntax
        | .range => .range
        | .ok u => if ¬ (c.toNat = 45) ∧ 2 ^ (64 - 1) ≤ u then .range else if c.toNat = 45 ∧ 2 ^ (64 - 1) < u then .range else .ok (if c.toNat = 45 then -(u : Int) else u)) = _
      rw [if_neg (by omega), hp]
      have h45 : (c.toNat = 45) = False := eq_false (by omega)
      simp only [h45, not_false_eq_true, true_and, false_and, if_false]
      rw [if_neg (by omega)]
      congr 1
      omega
open Go.RowKit Go.Lib

theorem syn_global : Tryd.prog.globalNamed "strconv.ErrSyntax" = some 4 := by kernel_rfl
theorem ran_global : Tryd.prog.globalNamed "strconv.ErrRange" = some 5 := by kernel_rfl
/-- The two variables hold errors. -/
def VarsE (w : World) : Prop := (∃ T p, w.var? Tryd.prog "strconv.ErrSyntax" = some #[.iface T p]) ∧ (∃ T p, w.var? Tryd.prog "strconv.ErrRange" = some #[.iface T p])
theorem VarsE.below {w w' : World} (h : VarsE w) (hb : Below w.heap.size w w') : VarsE w' := by
  obtain ⟨⟨T, p, h1⟩, ⟨T2, p2, h2⟩⟩ := h
  exact ⟨⟨T, p, Go.Joins.var_stays syn_global h1 hb (Nat.le_refl _)⟩, ⟨T2, p2, Go.Joins.var_stays ran_global h2 hb (Nat.le_refl _)⟩⟩
theorem VarsE.err {w : World} (h : VarsE w) : ErrV w := by
  obtain ⟨⟨T, p, h1⟩, _⟩ := h
  refine ⟨.iface T p, ?_, .inr ⟨T, p, rfl⟩⟩
  have h0 := World.var?_cell syn_global h1 0
  simpa using h0
/-- What read answers. -/
def OutR (s : ByteArray) (e : Ending) : Prop :=
  ∃ (d : Dat) (ok : Bool), e = .returned (.tuple #[.agg #[.int .u8 d.k, .bool d.b, .int .i64 d.n, .string d.s], .bool ok]) ∧ I64 d.n ∧ d.s.size ≤ 4 * s.size + 16 ∧ ∀ d', okD d' = true → I64 d'.n → s.data.toList = printS d' → ok = true ∧ d = d'

set_option maxHeartbeats 8000000 in
set_option maxRecDepth 1000000 in
theorem read_null (w : World) :
    Calls Tryd.prog 65 #[.string ⟨#[110, 117, 108, 108]⟩] w fun e w' => OutR ⟨#[110, 117, 108, 108]⟩ e ∧ Below w.heap.size w w' := by
  have hout : OutR ⟨#[110, 117, 108, 108]⟩ (.returned (.tuple #[.agg #[.int .u8 1, .bool false, .int .i64 0, .string ⟨#[]⟩], .bool true])) := by
    refine ⟨⟨1, false, 0, ⟨#[]⟩⟩, true, rfl, by unfold I64; decide, Nat.zero_le _, fun d' h1 h2 h3 => ⟨rfl, ?_⟩⟩
    exact print_inj (a := ⟨1, false, 0, ⟨#[]⟩⟩) (by decide) h1 (by rw [← h3]; decide)
  have houtH := Lib.hid hout
  clear hout
  obtain ⟨W0, hW0, hwW, hR, hzz⟩ := box0 w
  have hRH := Lib.hid hR; have hz0 := Lib.hid hzz; have hwWH := Lib.hid hwW
  clear hR hzz hwW
  have hb := Below.refl W0.heap.size W0
  obtain ⟨r0_, r1_, r2_, r3_⟩ := (hRH.out.below hb).cells; obtain ⟨f0_, f1_, f2_, f3_⟩ := (hRH.out.below hb).free; have hz := Nat.lt_of_lt_of_le hz0.out hb.size; have hs_ := hb.size
  go_enter Tryd.func65, Tryd.ntmps65
  go_wp2_with (go_at_call 102; go_must (refine (null_any _).mono ?_; rintro e w' ⟨rfl, hb'⟩; replace hb := chainB (B := W0.heap.size) (a := W0) (by go_grown) hb' (by have := hb.size; first | omega | (simp; done) | (simp; omega)); clear hb' r0_ r1_ r2_ r3_ f0_ f1_ f2_ f3_ hz hs_; obtain ⟨r0_, r1_, r2_, r3_⟩ := (hRH.out.below hb).cells; obtain ⟨f0_, f1_, f2_, f3_⟩ := (hRH.out.below hb).free; have hz := Nat.lt_of_lt_of_le hz0.out hb.size; have hs_ := hb.size))
  refine bodyPost_ret (v := .tuple #[.agg #[.int .u8 1, .bool false, .int .i64 0, .string ⟨#[]⟩], .bool true]) (by simp [results, Tryd.results65, go_sem, r0_, r1_, r2_, r3_, hz]) rfl ⟨?_, ?_⟩
  · exact houtH.out
  · have hbw := hwWH.out.trans (hb.mono hwWH.out.size)
    clear hb
    go_grown
set_option maxHeartbeats 8000000 in
set_option maxRecDepth 1000000 in
theorem read_true (w : World) :
    Calls Tryd.prog 65 #[.string ⟨#[116, 114, 117, 101]⟩] w fun e w' => OutR ⟨#[116, 114, 117, 101]⟩ e ∧ Below w.heap.size w w' := by
  have hout : OutR ⟨#[116, 114, 117, 101]⟩ (.returned (.tuple #[.agg #[.int .u8 2, .bool true, .int .i64 0, .string ⟨#[]⟩], .bool true])) := by
    refine ⟨⟨2, true, 0, ⟨#[]⟩⟩, true, rfl, by unfold I64; decide, Nat.zero_le _, fun d' h1 h2 h3 => ⟨rfl, ?_⟩⟩
    exact print_inj (a := ⟨2, true, 0, ⟨#[]⟩⟩) (by decide) h1 (by rw [← h3]; decide)
  have houtH := Lib.hid hout
  clear hout
  obtain ⟨W0, hW0, hwW, hR, hzz⟩ := box0 w
  have hRH := Lib.hid hR; have hz0 := Lib.hid hzz; have hwWH := Lib.hid hwW
  clear hR hzz hwW
  have hb := Below.refl W0.heap.size W0
  obtain ⟨r0_, r1_, r2_, r3_⟩ := (hRH.out.below hb).cells; obtain ⟨f0_, f1_, f2_, f3_⟩ := (hRH.out.below hb).free; have hz := Nat.lt_of_lt_of_le hz0.out hb.size; have hs_ := hb.size
  go_enter Tryd.func65, Tryd.ntmps65
  go_wp2_with (go_at_call 86; go_must (refine (boolean_any _ _).mono ?_; rintro e w' ⟨rfl, hb'⟩; replace hb := chainB (B := W0.heap.size) (a := W0) (by go_grown) hb' (by have := hb.size; first | omega | (simp; done) | (simp; omega)); clear hb' r0_ r1_ r2_ r3_ f0_ f1_ f2_ f3_ hz hs_; obtain ⟨r0_, r1_, r2_, r3_⟩ := (hRH.out.below hb).cells; obtain ⟨f0_, f1_, f2_, f3_⟩ := (hRH.out.below hb).free; have hz := Nat.lt_of_lt_of_le hz0.out hb.size; have hs_ := hb.size))
  refine bodyPost_ret (v := .tuple #[.agg #[.int .u8 2, .bool true, .int .i64 0, .string ⟨#[]⟩], .bool true]) (by simp [results, Tryd.results65, go_sem, r0_, r1_, r2_, r3_, hz]) rfl ⟨?_, ?_⟩
  · exact houtH.out
  · have hbw := hwWH.out.trans (hb.mono hwWH.out.size)
    clear hb
    go_grown
set_option maxHeartbeats 8000000 in
set_option maxRecDepth 1000000 in
theorem read_false (w : World) :
    Calls Tryd.prog 65 #[.string ⟨#[102, 97, 108, 115, 101]⟩] w fun e w' => OutR ⟨#[102, 97, 108, 115, 101]⟩ e ∧ Below w.heap.size w w' := by
  have hout : OutR ⟨#[102, 97, 108, 115, 101]⟩ (.returned (.tuple #[.agg #[.int .u8 2, .bool false, .int .i64 0, .string ⟨#[]⟩], .bool true])) := by
    refine ⟨⟨2, false, 0, ⟨#[]⟩⟩, true, rfl, by unfold I64; decide, Nat.zero_le _, fun d' h1 h2 h3 => ⟨rfl, ?_⟩⟩
    exact print_inj (a := ⟨2, false, 0, ⟨#[]⟩⟩) (by decide) h1 (by rw [← h3]; decide)
  have houtH := Lib.hid hout
  clear hout
  obtain ⟨W0, hW0, hwW, hR, hzz⟩ := box0 w
  have hRH := Lib.hid hR; have hz0 := Lib.hid hzz; have hwWH := Lib.hid hwW
  clear hR hzz hwW
  have hb := Below.refl W0.heap.size W0
  obtain ⟨r0_, r1_, r2_, r3_⟩ := (hRH.out.below hb).cells; obtain ⟨f0_, f1_, f2_, f3_⟩ := (hRH.out.below hb).free; have hz := Nat.lt_of_lt_of_le hz0.out hb.size; have hs_ := hb.size
  go_enter Tryd.func65, Tryd.ntmps65
  go_wp2_with (go_at_call 86; go_must (refine (boolean_any _ _).mono ?_; rintro e w' ⟨rfl, hb'⟩; replace hb := chainB (B := W0.heap.size) (a := W0) (by go_grown) hb' (by have := hb.size; first | omega | (simp; done) | (simp; omega)); clear hb' r0_ r1_ r2_ r3_ f0_ f1_ f2_ f3_ hz hs_; obtain ⟨r0_, r1_, r2_, r3_⟩ := (hRH.out.below hb).cells; obtain ⟨f0_, f1_, f2_, f3_⟩ := (hRH.out.below hb).free; have hz := Nat.lt_of_lt_of_le hz0.out hb.size; have hs_ := hb.size))
  refine bodyPost_ret (v := .tuple #[.agg #[.int .u8 2, .bool false, .int .i64 0, .string ⟨#[]⟩], .bool true]) (by simp [results, Tryd.results65, go_sem, r0_, r1_, r2_, r3_, hz]) rfl ⟨?_, ?_⟩
  · exact houtH.out
  · have hbw := hwWH.out.trans (hb.mono hwWH.out.size)
    clear hb
    go_grown
open Go.RowKit Go.Lib

theorem ok_range {l : List UInt8} {n : Int} (h : parseIntB 64 l = .ok n) : I64 n := by
  unfold parseIntB at h
  cases l with
  | nil => cases h
  | cons c r =>
    simp only at h
    split at h
    · cases h
    · cases h
    · rename_i u hu
      split at h
      · cases h
      · split at h
        · cases h
        · have := NumEnd.ok.inj h
          unfold I64
          split at this <;> omega
theorem sat_range (l : List UInt8) : I64 (intSat 64 l) := by
  unfold intSat I64
  split <;> decide
set_option maxHeartbeats 1000000 in
theorem parseInt_ok (s : ByteArray) (w : World) (hV : VarsE w) (hs : s.size ≤ 1099511627776) (v : Int) (hp : parseIntB 64 s.data.toList = .ok v) :
    Calls Tryd.prog 105 #[.string s, .int .i64 10, .int .i64 64] w fun e w' => e = .returned (.tuple #[.int .i64 v, .nilIface]) ∧ Below w.heap.size w w' := by
  refine (Tryd.strconv_ParseInt_10_at64_ok s (by omega) v hp w).mono ?_
  rintro e w' ⟨rfl, hw⟩
  refine ⟨rfl, ?_⟩
  rcases hw with rfl | ⟨t, rfl⟩
  · exact Below.refl _ _
  · exact below_bytes w _ t
set_option maxHeartbeats 1000000 in
theorem parseInt_bad (s : ByteArray) (w : World) (hV : VarsE w) (hs : s.size ≤ 1099511627776) (hn : ∀ v, parseIntB 64 s.data.toList ≠ .ok v) :
    Calls Tryd.prog 105 #[.string s, .int .i64 10, .int .i64 64] w fun e w' => (∃ n T p, e = .returned (.tuple #[.int .i64 n, .iface T p]) ∧ I64 n) ∧ Below w.heap.size w w' := by
  obtain ⟨⟨T, p, h1⟩, ⟨T2, p2, h2⟩⟩ := hV
  cases hp : parseIntB 64 s.data.toList with
  | ok v => exact absurd hp (hn v)
  | range =>
    refine (Tryd.strconv_ParseInt_10_at64_range_var s (by omega) hp T2 p2 w h2).mono ?_
    rintro e w' ⟨N, rfl, _, _, hb⟩
    exact ⟨⟨_, _, _, rfl, sat_range _⟩, hb⟩
  | _ =>
    refine (Any.strconv_ParseInt_10_at64_syntax_var Tryd.laysC174 s (by omega) hp T p w h1).mono ?_
    rintro e w' ⟨N, rfl, _, _, hb⟩
    exact ⟨⟨_, _, _, rfl, by unfold I64; decide⟩, hb⟩
theorem list_ne {s : ByteArray} {l : List UInt8} (h : (s.toList == l) = false) : s.data.toList ≠ l := by
  intro e
  rw [beq_eq_false_iff_ne, ByteArray.toList_eq] at h
  exact h e
theorem prefix_quote (l : List UInt8) : Lib.hasPrefix (quoteL l) [39] = true := by
  show List.isPrefixOf [39] (39 :: (l.flatMap escB ++ [39])) = true
  simp
/-- What begins with a quote is written of a text. -/
theorem quoted_text {d : Dat} {l : List UInt8} (h : okD d = true) (he : l = printS d) (hq : Lib.hasPrefix l [39] = true) : ∃ s, d = textD s ∧ validD s.data.toList = true ∧ l = quoteL s.data.toList := by
  have hh : l.head? = some 39 := by
    have : List.isPrefixOf [39] l = true := hq
    cases l with
    | nil => cases this
    | cons c r => simp at this; rw [← this]; rfl
  have hk := print_kind h
  rw [← he] at hk
  have : kindL l = 4 := by unfold kindL; rw [hh]; decide
  rw [this] at hk
  rcases ok_cases h with rfl | ⟨x, rfl⟩ | ⟨x, rfl⟩ | ⟨x, rfl, hv, _⟩
  · exact absurd hk (by decide)
  · exact absurd hk (by simp [boolD])
  · exact absurd hk (by simp [intD])
  · exact ⟨x, rfl, hv, by rw [he, printS_text h]⟩
/-- What doesn't, and is neither null nor a truth value, of a number. -/
theorem plain_int {d : Dat} {l : List UInt8} (h : okD d = true) (he : l = printS d) (hq : Lib.hasPrefix l [39] = false) (n1 : l ≠ [110, 117, 108, 108]) (n2 : l ≠ [116, 114, 117, 101]) (n3 : l ≠ [102, 97, 108, 115, 101]) : ∃ n, d = intD n ∧ l = itoa n := by
  rcases ok_cases h with rfl | ⟨x, rfl⟩ | ⟨x, rfl⟩ | ⟨x, rfl, hv, _⟩
  · rw [printS_null] at he; exact absurd he n1
  · rw [printS_bool] at he
    cases x
    · exact absurd (he.trans (by decide)) n3
    · exact absurd (he.trans (by decide)) n2
  · exact ⟨x, rfl, by rw [he, printS_int]⟩
  · rw [printS_text h] at he
    rw [he, prefix_quote] at hq
    cases hq
set_option maxHeartbeats 8000000 in
set_option maxRecDepth 1000000 in
theorem read_quoted (s : ByteArray) (w : World) (hV : VarsE w) (hs : s.size ≤ 1099511627776) (n1 : (s.toList == [110, 117, 108, 108]) = false) (n2 : (s.toList == [116, 114, 117, 101]) = false) (n3 : (s.toList == [102, 97, 108, 115, 101]) = false) (hq : Lib.hasPrefix s.data.toList [39] = true) :
    Calls Tryd.prog 65 #[.string s] w fun e w' => OutR s e ∧ Below w.heap.size w w' := by
  have hVH := Lib.hid hV
  have hq0 := Lib.hid hq
  clear hV
  obtain ⟨W0, hW0, hwW, hR, hzz⟩ := box0 w
  have hRH := Lib.hid hR; have hz0 := Lib.hid hzz; have hwWH := Lib.hid hwW
  clear hR hzz hwW
  have hb := Below.refl W0.heap.size W0
  obtain ⟨r0_, r1_, r2_, r3_⟩ := (hRH.out.below hb).cells; obtain ⟨f0_, f1_, f2_, f3_⟩ := (hRH.out.below hb).free; have hz := Nat.lt_of_lt_of_le hz0.out hb.size; have hs_ := hb.size
  go_enter Tryd.func65, Tryd.ntmps65
  go_wp2_with (first
    | (go_at_call 103; go_must (refine (Tryd.strings_HasPrefix s ⟨#[39]⟩ _).mono ?_; rintro e w' ⟨rfl, hw'⟩; have hw2 := hw'.symm; subst hw2; clear hw'; rw [hq]))
    | (go_at_call 104; go_must (refine (unquote_any s _ (by exact (hVH.out.below (hwWH.out.trans (hb.mono hwWH.out.size))).err) hs).mono ?_; rintro e w' ⟨ho, hb2⟩; obtain ⟨t, ok, rfl, ht, hall⟩ := ho; have hallH := Lib.hid hall; clear hall; replace hb := chainB (B := W0.heap.size) (a := W0) (by go_grown) hb2 (by have := hb.size; first | omega | (simp; done) | (simp; omega)); clear hb2 r0_ r1_ r2_ r3_ f0_ f1_ f2_ f3_ hz hs_; obtain ⟨r0_, r1_, r2_, r3_⟩ := (hRH.out.below hb).cells; obtain ⟨f0_, f1_, f2_, f3_⟩ := (hRH.out.below hb).free; have hz := Nat.lt_of_lt_of_le hz0.out hb.size; have hs_ := hb.size))
    | (go_at_call 80; go_must (refine (text_any _ _).mono ?_; rintro e w' ⟨rfl, hb'⟩; replace hb := chainB (B := W0.heap.size) (a := W0) (by go_grown) hb' (by have := hb.size; first | omega | (simp; done) | (simp; omega)); clear hb' r0_ r1_ r2_ r3_ f0_ f1_ f2_ f3_ hz hs_; obtain ⟨r0_, r1_, r2_, r3_⟩ := (hRH.out.below hb).cells; obtain ⟨f0_, f1_, f2_, f3_⟩ := (hRH.out.below hb).free; have hz := Nat.lt_of_lt_of_le hz0.out hb.size; have hs_ := hb.size)))
  refine bodyPost_ret (v := .tuple #[.agg #[.int .u8 4, .bool false, .int .i64 0, .string t], .bool ok]) (by simp [results, Tryd.results65, go_sem, r0_, r1_, r2_, r3_, hz]) rfl ⟨?_, ?_⟩
  · refine ⟨⟨4, false, 0, t⟩, ok, rfl, (by show I64 0; unfold I64; decide), ht, fun d' h1 h2 h3 => ?_⟩
    obtain ⟨x, rfl, hv, hx⟩ := quoted_text h1 h3 hq0.out
    obtain ⟨rfl, hy⟩ := hallH.out _ hv hx
    exact ⟨rfl, by rw [hy]; rfl⟩
  · have hbw := hwWH.out.trans (hb.mono hwWH.out.size)
    clear hb
    go_grown
set_option maxHeartbeats 8000000 in
set_option maxRecDepth 1000000 in
theorem read_int (s : ByteArray) (w : World) (hV : VarsE w) (hs : s.size ≤ 1099511627776) (n1 : (s.toList == [110, 117, 108, 108]) = false) (n2 : (s.toList == [116, 114, 117, 101]) = false) (n3 : (s.toList == [102, 97, 108, 115, 101]) = false) (hq : Lib.hasPrefix s.data.toList [39] = false) (n : Int) (hp : parseIntB 64 s.data.toList = .ok n) :
    Calls Tryd.prog 65 #[.string s] w fun e w' => OutR s e ∧ Below w.heap.size w w' := by
  have hVH := Lib.hid hV
  have hq0 := Lib.hid hq
  clear hV
  obtain ⟨W0, hW0, hwW, hR, hzz⟩ := box0 w
  have hRH := Lib.hid hR; have hz0 := Lib.hid hzz; have hwWH := Lib.hid hwW
  clear hR hzz hwW
  have hb := Below.refl W0.heap.size W0
  obtain ⟨r0_, r1_, r2_, r3_⟩ := (hRH.out.below hb).cells; obtain ⟨f0_, f1_, f2_, f3_⟩ := (hRH.out.below hb).free; have hz := Nat.lt_of_lt_of_le hz0.out hb.size; have hs_ := hb.size
  go_enter Tryd.func65, Tryd.ntmps65
  go_wp2_with (first
    | (go_at_call 103; go_must (refine (Tryd.strings_HasPrefix s ⟨#[39]⟩ _).mono ?_; rintro e w' ⟨rfl, hw'⟩; have hw2 := hw'.symm; subst hw2; clear hw'; rw [hq]))
    | (go_at_call 105; go_must (refine (parseInt_ok s _ (by exact hVH.out.below (hwWH.out.trans (hb.mono hwWH.out.size))) hs n hp).mono ?_; rintro e w' ⟨rfl, hb2⟩; replace hb := chainB (B := W0.heap.size) (a := W0) (by go_grown) hb2 (by have := hb.size; first | omega | (simp; done) | (simp; omega)); clear hb2 r0_ r1_ r2_ r3_ f0_ f1_ f2_ f3_ hz hs_; obtain ⟨r0_, r1_, r2_, r3_⟩ := (hRH.out.below hb).cells; obtain ⟨f0_, f1_, f2_, f3_⟩ := (hRH.out.below hb).free; have hz := Nat.lt_of_lt_of_le hz0.out hb.size; have hs_ := hb.size)))
  refine wp_region_noPanic ?_
  refine wp_region_held_drew (S := (fun _ => True)) (by kernel_rfl) trivial (fun hHeld => ?_)
  refine' wpAnyH_take (i := 0) (v := .int .i64 n) ?hi0x1 ?hs0x1 ?hf0x1 ?hr0x1 ?hQ0x1 ?hy0x1 ?hS0x1 ?rest0x1
  case hi0x1 => (simp only [List.getElem?_toArray, List.getElem?_cons_succ, List.getElem?_cons_zero]; try rfl)
  case hs0x1 => kernel_rfl
  case hf0x1 => kernel_rfl
  case hr0x1 => kernel_rfl
  case hQ0x1 => exact fun _ _ _ h => h
  case hy0x1 => exact Or.inl ⟨by rfl, by (intro w hSw; (try dsimp only at hSw); go_simp)⟩
  case hS0x1 => assumption
  (try simp only [Act.put, List.setIfInBounds_toArray, List.set_cons_zero, List.set_cons_succ])
  refine' wpAnyH_take (i := 2) (v := .nilIface) ?hi2x2 ?hs2x2 ?hf2x2 ?hr2x2 ?hQ2x2 ?hy2x2 ?hS2x2 ?rest2x2
  case hi2x2 => (simp only [List.getElem?_toArray, List.getElem?_cons_succ, List.getElem?_cons_zero]; try rfl)
  case hs2x2 => kernel_rfl
  case hf2x2 => kernel_rfl
  case hr2x2 => kernel_rfl
  case hQ2x2 => exact fun _ _ _ h => h
  case hy2x2 => exact Or.inl ⟨by rfl, by (intro w hSw; (try dsimp only at hSw); go_simp)⟩
  case hS2x2 => assumption
  (try simp only [Act.put, List.setIfInBounds_toArray, List.set_cons_zero, List.set_cons_succ])
  refine' wpAnyH_take (i := 3) (v := .bool true) ?hi3x3 ?hs3x3 ?hf3x3 ?hr3x3 ?hQ3x3 ?hy3x3 ?hS3x3 ?rest3x3
  case hi3x3 => (simp only [List.getElem?_toArray, List.getElem?_cons_succ, List.getElem?_cons_zero]; try rfl)
  case hs3x3 => kernel_rfl
  case hf3x3 => kernel_rfl
  case hr3x3 => kernel_rfl
  case hQ3x3 => exact fun _ _ _ h => h
  case hy3x3 => exact Or.inl ⟨by rfl, by (intro w hSw; (try dsimp only at hSw); go_simp)⟩
  case hS3x3 => assumption
  (try simp only [Act.put, List.setIfInBounds_toArray, List.set_cons_zero, List.set_cons_succ])
  refine wpAnyH_ready (rs := [1]) (by kernel_rfl) (by simp) ?_
  refine' AllReadyH.cons (i := 1) ?ho1x4 (fun K hK => ?st1x4) AllReadyH.nil
  case ho1x4 => (simp only [List.getElem?_toArray, List.getElem?_cons_succ, List.getElem?_cons_zero]; try rfl)
  go_simp
  refine (integer_any n _).mono ?_
  rintro e w' ⟨rfl, hb'⟩; replace hb := chainB (B := W0.heap.size) (a := W0) (by go_grown) hb' (by have := hb.size; first | omega | (simp; done) | (simp; omega)); clear hb' r0_ r1_ r2_ r3_ f0_ f1_ f2_ f3_ hz hs_; obtain ⟨r0_, r1_, r2_, r3_⟩ := (hRH.out.below hb).cells; obtain ⟨f0_, f1_, f2_, f3_⟩ := (hRH.out.below hb).free; have hz := Nat.lt_of_lt_of_le hz0.out hb.size; have hs_ := hb.size
  refine hK.out _ _ ?_ (fun hHeld => ?_)
  · trivial
  clear hK K
  (try simp only [Act.put, List.setIfInBounds_toArray, List.set_cons_zero, List.set_cons_succ])
  refine wpAnyH_ready (rs := [4]) (by kernel_rfl) (by simp) ?_
  refine' AllReadyH.cons (i := 4) ?ho4x5 (fun K hK => ?st4x5) AllReadyH.nil
  case ho4x5 => (simp only [List.getElem?_toArray, List.getElem?_cons_succ, List.getElem?_cons_zero]; try rfl)
  go_simp
  refine hK.out _ _ ?_ (fun hHeld => ?_)
  · trivial
  clear hK K
  (try simp only [Act.put, List.setIfInBounds_toArray, List.set_cons_zero, List.set_cons_succ])
  refine' wpAnyH_take (i := 5) (v := .bool true) ?hi5x6 ?hs5x6 ?hf5x6 ?hr5x6 ?hQ5x6 ?hy5x6 ?hS5x6 ?rest5x6
  case hi5x6 => (simp only [List.getElem?_toArray, List.getElem?_cons_succ, List.getElem?_cons_zero]; try rfl)
  case hs5x6 => kernel_rfl
  case hf5x6 => kernel_rfl
  case hr5x6 => kernel_rfl
  case hQ5x6 => exact fun _ _ _ h => h
  case hy5x6 => exact Or.inl ⟨by rfl, by (intro w hSw; (try dsimp only at hSw); go_simp)⟩
  case hS5x6 => assumption
  (try simp only [Act.put, List.setIfInBounds_toArray, List.set_cons_zero, List.set_cons_succ])
  refine wpAnyH_done (by kernel_rfl) ?_ _
  refine NoPanic.normal ?_
  go_wp2
  refine bodyPost_ret (v := .tuple #[.agg #[.int .u8 3, .bool false, .int .i64 n, .string ⟨#[]⟩], .bool true]) (by simp [results, Tryd.results65, go_sem, r0_, r1_, r2_, r3_, hz]) rfl ⟨?_, ?_⟩
  · refine ⟨⟨3, false, n, ⟨#[]⟩⟩, true, rfl, ok_range hp, Nat.zero_le _, fun d' h1 h2 h3 => ⟨rfl, ?_⟩⟩
    obtain ⟨x, rfl, hx⟩ := plain_int h1 h3 hq0.out (list_ne n1) (list_ne n2) (list_ne n3)
    rw [hx, parse_itoa x h2] at hp
    rw [NumEnd.ok.inj hp]
    rfl
  · have hbw := hwWH.out.trans (hb.mono hwWH.out.size)
    clear hb
    go_grown
set_option maxHeartbeats 8000000 in
set_option maxRecDepth 1000000 in
theorem read_noint (s : ByteArray) (w : World) (hV : VarsE w) (hs : s.size ≤ 1099511627776) (n1 : (s.toList == [110, 117, 108, 108]) = false) (n2 : (s.toList == [116, 114, 117, 101]) = false) (n3 : (s.toList == [102, 97, 108, 115, 101]) = false) (hq : Lib.hasPrefix s.data.toList [39] = false) (hp : ∀ v, parseIntB 64 s.data.toList ≠ .ok v) :
    Calls Tryd.prog 65 #[.string s] w fun e w' => OutR s e ∧ Below w.heap.size w w' := by
  have hVH := Lib.hid hV
  have hq0 := Lib.hid hq
  clear hV
  obtain ⟨W0, hW0, hwW, hR, hzz⟩ := box0 w
  have hRH := Lib.hid hR; have hz0 := Lib.hid hzz; have hwWH := Lib.hid hwW
  clear hR hzz hwW
  have hb := Below.refl W0.heap.size W0
  obtain ⟨r0_, r1_, r2_, r3_⟩ := (hRH.out.below hb).cells; obtain ⟨f0_, f1_, f2_, f3_⟩ := (hRH.out.below hb).free; have hz := Nat.lt_of_lt_of_le hz0.out hb.size; have hs_ := hb.size
  go_enter Tryd.func65, Tryd.ntmps65
  go_wp2_with (first
    | (go_at_call 103; go_must (refine (Tryd.strings_HasPrefix s ⟨#[39]⟩ _).mono ?_; rintro e w' ⟨rfl, hw'⟩; have hw2 := hw'.symm; subst hw2; clear hw'; rw [hq]))
    | (go_at_call 105; go_must (refine (parseInt_bad s _ (by exact hVH.out.below (hwWH.out.trans (hb.mono hwWH.out.size))) hs hp).mono ?_; rintro e w' ⟨ho, hb2⟩; obtain ⟨n, T, p, rfl, hn⟩ := ho; replace hb := chainB (B := W0.heap.size) (a := W0) (by go_grown) hb2 (by have := hb.size; first | omega | (simp; done) | (simp; omega)); clear hb2 r0_ r1_ r2_ r3_ f0_ f1_ f2_ f3_ hz hs_; obtain ⟨r0_, r1_, r2_, r3_⟩ := (hRH.out.below hb).cells; obtain ⟨f0_, f1_, f2_, f3_⟩ := (hRH.out.below hb).free; have hz := Nat.lt_of_lt_of_le hz0.out hb.size; have hs_ := hb.size)))
  refine wp_region_noPanic ?_
  refine wp_region_held_drew (S := (fun _ => True)) (by kernel_rfl) trivial (fun hHeld => ?_)
  refine' wpAnyH_take (i := 0) (v := .int .i64 n) ?hi0x7 ?hs0x7 ?hf0x7 ?hr0x7 ?hQ0x7 ?hy0x7 ?hS0x7 ?rest0x7
  case hi0x7 => (simp only [List.getElem?_toArray, List.getElem?_cons_succ, List.getElem?_cons_zero]; try rfl)
  case hs0x7 => kernel_rfl
  case hf0x7 => kernel_rfl
  case hr0x7 => kernel_rfl
  case hQ0x7 => exact fun _ _ _ h => h
  case hy0x7 => exact Or.inl ⟨by rfl, by (intro w hSw; (try dsimp only at hSw); go_simp)⟩
  case hS0x7 => assumption
  (try simp only [Act.put, List.setIfInBounds_toArray, List.set_cons_zero, List.set_cons_succ])
  refine' wpAnyH_take (i := 2) (v := .iface T p) ?hi2x8 ?hs2x8 ?hf2x8 ?hr2x8 ?hQ2x8 ?hy2x8 ?hS2x8 ?rest2x8
  case hi2x8 => (simp only [List.getElem?_toArray, List.getElem?_cons_succ, List.getElem?_cons_zero]; try rfl)
  case hs2x8 => kernel_rfl
  case hf2x8 => kernel_rfl
  case hr2x8 => kernel_rfl
  case hQ2x8 => exact fun _ _ _ h => h
  case hy2x8 => exact Or.inl ⟨by rfl, by (intro w hSw; (try dsimp only at hSw); go_simp)⟩
  case hS2x8 => assumption
  (try simp only [Act.put, List.setIfInBounds_toArray, List.set_cons_zero, List.set_cons_succ])
  refine' wpAnyH_take (i := 3) (v := .bool false) ?hi3x9 ?hs3x9 ?hf3x9 ?hr3x9 ?hQ3x9 ?hy3x9 ?hS3x9 ?rest3x9
  case hi3x9 => (simp only [List.getElem?_toArray, List.getElem?_cons_succ, List.getElem?_cons_zero]; try rfl)
  case hs3x9 => kernel_rfl
  case hf3x9 => kernel_rfl
  case hr3x9 => kernel_rfl
  case hQ3x9 => exact fun _ _ _ h => h
  case hy3x9 => exact Or.inl ⟨by rfl, by (intro w hSw; (try dsimp only at hSw); go_simp)⟩
  case hS3x9 => assumption
  (try simp only [Act.put, List.setIfInBounds_toArray, List.set_cons_zero, List.set_cons_succ])
  refine wpAnyH_ready (rs := [1]) (by kernel_rfl) (by simp) ?_
  refine' AllReadyH.cons (i := 1) ?ho1x10 (fun K hK => ?st1x10) AllReadyH.nil
  case ho1x10 => (simp only [List.getElem?_toArray, List.getElem?_cons_succ, List.getElem?_cons_zero]; try rfl)
  go_simp
  refine (integer_any n _).mono ?_
  rintro e w' ⟨rfl, hb'⟩; replace hb := chainB (B := W0.heap.size) (a := W0) (by go_grown) hb' (by have := hb.size; first | omega | (simp; done) | (simp; omega)); clear hb' r0_ r1_ r2_ r3_ f0_ f1_ f2_ f3_ hz hs_; obtain ⟨r0_, r1_, r2_, r3_⟩ := (hRH.out.below hb).cells; obtain ⟨f0_, f1_, f2_, f3_⟩ := (hRH.out.below hb).free; have hz := Nat.lt_of_lt_of_le hz0.out hb.size; have hs_ := hb.size
  refine hK.out _ _ ?_ (fun hHeld => ?_)
  · trivial
  clear hK K
  (try simp only [Act.put, List.setIfInBounds_toArray, List.set_cons_zero, List.set_cons_succ])
  refine wpAnyH_ready (rs := [4]) (by kernel_rfl) (by simp) ?_
  refine' AllReadyH.cons (i := 4) ?ho4x11 (fun K hK => ?st4x11) AllReadyH.nil
  case ho4x11 => (simp only [List.getElem?_toArray, List.getElem?_cons_succ, List.getElem?_cons_zero]; try rfl)
  go_simp
  refine hK.out _ _ ?_ (fun hHeld => ?_)
  · trivial
  clear hK K
  (try simp only [Act.put, List.setIfInBounds_toArray, List.set_cons_zero, List.set_cons_succ])
  refine' wpAnyH_take (i := 5) (v := .bool false) ?hi5x12 ?hs5x12 ?hf5x12 ?hr5x12 ?hQ5x12 ?hy5x12 ?hS5x12 ?rest5x12
  case hi5x12 => (simp only [List.getElem?_toArray, List.getElem?_cons_succ, List.getElem?_cons_zero]; try rfl)
  case hs5x12 => kernel_rfl
  case hf5x12 => kernel_rfl
  case hr5x12 => kernel_rfl
  case hQ5x12 => exact fun _ _ _ h => h
  case hy5x12 => exact Or.inl ⟨by rfl, by (intro w hSw; (try dsimp only at hSw); go_simp)⟩
  case hS5x12 => assumption
  (try simp only [Act.put, List.setIfInBounds_toArray, List.set_cons_zero, List.set_cons_succ])
  refine wpAnyH_done (by kernel_rfl) ?_ _
  refine NoPanic.normal ?_
  go_wp2
  refine bodyPost_ret (v := .tuple #[.agg #[.int .u8 3, .bool false, .int .i64 n, .string ⟨#[]⟩], .bool false]) (by simp [results, Tryd.results65, go_sem, r0_, r1_, r2_, r3_, hz]) rfl ⟨?_, ?_⟩
  · refine ⟨⟨3, false, n, ⟨#[]⟩⟩, false, rfl, hn, Nat.zero_le _, fun d' h1 h2 h3 => ?_⟩
    obtain ⟨x, rfl, hx⟩ := plain_int h1 h3 hq0.out (list_ne n1) (list_ne n2) (list_ne n3)
    exact absurd (by rw [hx]; exact parse_itoa x h2) (hp x)
  · have hbw := hwWH.out.trans (hb.mono hwWH.out.size)
    clear hb
    go_grown
theorem of_lit {s : ByteArray} {l : List UInt8} (h : (s.toList == l) = true) : s = ⟨l.toArray⟩ := bytes_ext (by rw [beq_iff_eq, ByteArray.toList_eq] at h; exact h)
/-- What read answers. -/
theorem read_any (s : ByteArray) (w : World) (hV : VarsE w) (hs : s.size ≤ 1099511627776) :
    Calls Tryd.prog 65 #[.string s] w fun e w' => OutR s e ∧ Below w.heap.size w w' := by
  cases n1 : (s.toList == [110, 117, 108, 108]) with
  | true => rw [of_lit n1]; exact read_null w
  | false =>
    cases n2 : (s.toList == [116, 114, 117, 101]) with
    | true => rw [of_lit n2]; exact read_true w
    | false =>
      cases n3 : (s.toList == [102, 97, 108, 115, 101]) with
      | true => rw [of_lit n3]; exact read_false w
      | false =>
        cases hq : Lib.hasPrefix s.data.toList [39] with
        | true => exact read_quoted s w hV hs n1 n2 n3 hq
        | false =>
          by_cases hp : ∃ v, parseIntB 64 s.data.toList = .ok v
          · obtain ⟨v, hp⟩ := hp
            exact read_int s w hV hs n1 n2 n3 hq v hp
          · exact read_noint s w hV hs n1 n2 n3 hq (fun v hv => hp ⟨v, hv⟩)
end Go.Proofs.YtlodohgoondkhaaDoor
