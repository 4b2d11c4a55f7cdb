/-
  What datum.Print answers, at this program: for all data. Condition: the tables of Go's library lie as their initialisers lay them; the number is a 64-bit number.
-/
import Derived.Test.YtlodohgoondkhaaDoorQw
import Derived.Test.YtlodohgoondkhaaDoorArith
import Derived.Lib.AppendIntMem
import Derived.Shelf.Small.Wraps
set_option linter.unusedVariables false
set_option linter.unusedSimpArgs false
namespace Go.Proofs.YtlodohgoondkhaaDoor
open Go.RowKit Go.Lib

/-- The text form of a datum; empty: it may not be. -/
def printS (d : Dat) : List UInt8 :=
  if okD d = false then [] else if d.k = 1 then [110, 117, 108, 108] else if d.k = 2 then Lib.formatBool d.b
  else if d.k = 3 then Lib.itoa d.n else quoteL d.s.data.toList
theorem printS_bad {d : Dat} (h : okD d = false) : printS d = [] := by unfold printS; rw [if_pos h]
theorem printS_null : printS nullD = [110, 117, 108, 108] := by decide
theorem printS_bool (b : Bool) : printS (boolD b) = Lib.formatBool b := by cases b <;> decide
theorem printS_int (n : Int) : printS (intD n) = Lib.itoa n := by
  unfold printS
  rw [if_neg (by rw [ok_int]; decide), if_neg (show ¬ (intD n).k = 1 from (by decide : ¬ (3 : Int) = 1)), if_neg (show ¬ (intD n).k = 2 from (by decide : ¬ (3 : Int) = 2)), if_pos (show (intD n).k = 3 from rfl)]
  rfl
theorem printS_text {s : ByteArray} (h : okD (textD s) = true) : printS (textD s) = quoteL s.data.toList := by
  unfold printS
  rw [if_neg (by rw [h]; decide), if_neg (show ¬ (textD s).k = 1 from (by decide : ¬ (4 : Int) = 1)), if_neg (show ¬ (textD s).k = 2 from (by decide : ¬ (4 : Int) = 2)), if_neg (show ¬ (textD s).k = 3 from (by decide : ¬ (4 : Int) = 3))]
  rfl
theorem dat_eta {k : Int} {b : Bool} {n : Int} {s : ByteArray} {d : Dat} (h : (⟨k, b, n, s⟩ : Dat) = d) : k = d.k ∧ b = d.b ∧ n = d.n ∧ s = d.s := by subst h; exact ⟨rfl, rfl, rfl, rfl⟩

set_option maxHeartbeats 2000000 in
theorem print_any (k : Int) (b : Bool) (n : Int) (s : ByteArray) (w : World) (hT : Tabs w) (hs : s.size ≤ 9223372036854775807) (hn : I64 n) :
    Calls Tryd.prog 20 #[.agg #[.int .u8 k, .bool b, .int .i64 n, .string s]] w fun e w' => e = .returned (.string ⟨(printS ⟨k, b, n, s⟩).toArray⟩) ∧ Below w.heap.size w w' := by
  have hTH := Lib.hid hT
  have hnH := Lib.hid hn
  clear hT hn
  cases ho : okD ⟨k, b, n, s⟩ with
  | false =>
    rw [printS_bad ho]
    have hc := okD_chk_ne ho
    generalize hx : chk ⟨k, b, n, s⟩ = c at hc
    have hc2 : (c != 0) = true := by simpa using hc
    have hxH := Lib.hid hx
    clear hx ho hc
    go_enter Tryd.func20, Tryd.ntmps20
    go_wp2_with fail
    refine (check_any k b n s _ (hTH.out.alloc _) hs).mono ?_
    rintro e w1 ⟨rfl, hb1⟩
    rw [hxH.out]
    go_wp2
    go_ret
    exact ⟨rfl, chainB (by go_grown) hb1 (by simp)⟩
  | true =>
    have hc := Lib.hid (okD_chk ho)
    rcases ok_cases ho with h | ⟨b', h⟩ | ⟨n', h⟩ | ⟨s', h, hv, hl⟩
    · obtain ⟨rfl, rfl, rfl, rfl⟩ := dat_eta h
      rw [h, printS_null]
      clear h ho
      show Calls Tryd.prog 20 #[.agg #[.int .u8 1, .bool false, .int .i64 0, .string ⟨#[]⟩]] w _
      go_enter Tryd.func20, Tryd.ntmps20
      go_wp2_with fail
      refine (check_any 1 false 0 ⟨#[]⟩ _ (hTH.out.alloc _) (by decide)).mono ?_
      rintro e w1 ⟨rfl, hb1⟩
      rw [show chk ⟨1, false, 0, ⟨#[]⟩⟩ = 0 from hc.out]
      obtain ⟨a0, a1, a2, a3⟩ := ((Has.new w (.int .u8 1) (.bool false) (.int .i64 0) (.string ⟨#[]⟩)).below hb1).cells
      go_wp2
      go_ret
      exact ⟨rfl, chainB (by go_grown) hb1 (by simp)⟩
    · obtain ⟨rfl, rfl, rfl, rfl⟩ := dat_eta h
      rw [h, printS_bool]
      clear h ho
      show Calls Tryd.prog 20 #[.agg #[.int .u8 2, .bool b, .int .i64 0, .string ⟨#[]⟩]] w _
      go_enter Tryd.func20, Tryd.ntmps20
      go_wp2_with fail
      refine (check_any 2 b 0 ⟨#[]⟩ _ (hTH.out.alloc _) (by decide)).mono ?_
      rintro e w1 ⟨rfl, hb1⟩
      rw [show chk ⟨2, b, 0, ⟨#[]⟩⟩ = 0 from hc.out]
      obtain ⟨a0, a1, a2, a3⟩ := ((Has.new w (.int .u8 2) (.bool b) (.int .i64 0) (.string ⟨#[]⟩)).below hb1).cells
      go_wp2_with fail
      refine (Tryd.strconv_FormatBool b _).mono ?_
      rintro e w2 ⟨rfl, rfl⟩
      go_wp2
      go_ret
      exact ⟨rfl, chainB (by go_grown) hb1 (by simp)⟩
    · obtain ⟨rfl, rfl, rfl, rfl⟩ := dat_eta h
      rw [h, printS_int]
      clear h ho
      show Calls Tryd.prog 20 #[.agg #[.int .u8 3, .bool false, .int .i64 n, .string ⟨#[]⟩]] w _
      go_enter Tryd.func20, Tryd.ntmps20
      go_wp2_with fail
      refine (check_any 3 false n ⟨#[]⟩ _ (hTH.out.alloc _) (by decide)).mono ?_
      rintro e w1 ⟨rfl, hb1⟩
      rw [show chk ⟨3, false, n, ⟨#[]⟩⟩ = 0 from hc.out]
      obtain ⟨a0, a1, a2, a3⟩ := ((Has.new w (.int .u8 3) (.bool false) (.int .i64 n) (.string ⟨#[]⟩)).below hb1).cells
      go_wp2_with fail
      refine (Tryd.strconv_FormatInt_10 n hnH.out.1 hnH.out.2 _ ((hTH.out.alloc _).below hb1).pow).mono ?_
      rintro e w2 ⟨rfl, kk, os, rfl⟩
      have hb2 : Below w1.heap.size w1 (Sort.grow (w1.drewN kk) os) := Lib.below_grow _ w1 (Nat.le_refl _) kk os
      generalize Sort.grow (w1.drewN kk) os = w2 at hb2
      go_wp2
      go_ret
      exact ⟨rfl, chainB (chainB (by go_grown) hb1 (by simp)) hb2 (by have := hb1.size; simp at this; omega)⟩
    · obtain ⟨rfl, rfl, rfl, rfl⟩ := dat_eta h
      have ho' : okD (textD s) = true := ho
      rw [h, printS_text ho']
      clear h ho ho'
      have hvH := Lib.hid hv
      clear hv
      show Calls Tryd.prog 20 #[.agg #[.int .u8 4, .bool false, .int .i64 0, .string s]] w _
      go_enter Tryd.func20, Tryd.ntmps20
      go_wp2_with fail
      refine (check_any 4 false 0 s _ (hTH.out.alloc _) hs).mono ?_
      rintro e w1 ⟨rfl, hb1⟩
      rw [show chk ⟨4, false, 0, s⟩ = 0 from hc.out]
      obtain ⟨a0, a1, a2, a3⟩ := ((Has.new w (.int .u8 4) (.bool false) (.int .i64 0) (.string s)).below hb1).cells
      go_wp2_with fail
      refine (quote_any s _ hvH.out hl).mono ?_
      rintro e w2 ⟨rfl, hb2⟩
      go_wp2
      go_ret
      exact ⟨rfl, chainB (chainB (by go_grown) hb1 (by simp)) hb2 (by have := hb1.size; simp at this; omega)⟩
end Go.Proofs.YtlodohgoondkhaaDoor
