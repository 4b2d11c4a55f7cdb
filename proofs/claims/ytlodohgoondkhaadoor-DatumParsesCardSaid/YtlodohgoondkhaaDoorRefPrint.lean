/-
  What the document's own Print answers, at this program: of every datum. Condition: its text has at most 2^47 bytes, its number is a 64-bit number.
-/
import Derived.Test.YtlodohgoondkhaaDoorRefQuoted
import Derived.Test.YtlodohgoondkhaaDoorRefCheck
import Derived.Test.YtlodohgoondkhaaDoorPrint
set_option linter.unusedVariables false
set_option linter.unusedSimpArgs false
namespace Go.Proofs.YtlodohgoondkhaaDoor
open Go.RowKit Go.Lib

theorem refDigits_int (z : Int) (m : Nat) (hz : z = (m : Int)) (hm : m < 18446744073709551616) (w : World) : Calls Tryd.prog 64 #[.int .u64 z] w fun e w' => e = .returned (.string ⟨(decDigits m).toArray⟩) ∧ Below w.heap.size w w' := by
  subst hz
  exact refDigits_any m hm w
theorem ret_strA {x y : ByteArray} (h : x = y) : Ending.returned (.string x) = Ending.returned (.string y) := by rw [h]
set_option maxRecDepth 100000 in
set_option maxHeartbeats 8000000 in
theorem refPrint_bad (k : Int) (b : Bool) (n : Int) (s : ByteArray) (w : World) (hs : s.size ≤ 140737488355328) (hc : ¬ chk ⟨k, b, n, s⟩ = 0) :
    Calls Tryd.prog 21 #[.agg #[.int .u8 k, .bool b, .int .i64 n, .string s]] w fun e w' => e = .returned (.string ⟨#[]⟩) ∧ Below w.heap.size w w' := by
  obtain ⟨u, hu⟩ : ∃ u, chk ⟨k, b, n, s⟩ = u := ⟨_, rfl⟩
  rw [hu] at hc
  have hg : (u != 0) = true := by simpa using hc
  have hcH := Lib.hid hu
  have hsH := Lib.hid hs
  clear hu hc hs
  go_enter Tryd.func21, Tryd.ntmps21
  go_wp2_with fail
  refine (refCheck_any k b n s _ hsH.out).mono ?_
  rintro e w1 ⟨rfl, hb1⟩
  rw [hcH.out]
  go_wp2
  go_ret
  exact ⟨rfl, chainB (by go_grown) hb1 (by simp)⟩

set_option maxRecDepth 100000 in
set_option maxHeartbeats 8000000 in
theorem refPrint_null (w : World)  :
    Calls Tryd.prog 21 #[.agg #[.int .u8 1, .bool false, .int .i64 0, .string ⟨#[]⟩]] w fun e w' => e = .returned (.string ⟨#[110, 117, 108, 108]⟩) ∧ Below w.heap.size w w' := by
  have hcH := Lib.hid (show chk ⟨1, false, 0, ⟨#[]⟩⟩ = 0 by decide)
  have hsH := Lib.hid (show (⟨#[]⟩ : ByteArray).size ≤ 140737488355328 by decide)
  go_enter Tryd.func21, Tryd.ntmps21
  go_wp2_with fail
  refine (refCheck_any 1 false 0 ⟨#[]⟩ _ hsH.out).mono ?_
  rintro e w1 ⟨rfl, hb1⟩
  rw [hcH.out]
  obtain ⟨a0, a1, a2, a3⟩ := ((Has.new w (.int .u8 1) (.bool false) (.int .i64 0) (.string ⟨#[]⟩)).below hb1).cells
  go_wp2
  go_ret
  exact ⟨rfl, chainB (by go_grown) hb1 (by simp)⟩

set_option maxRecDepth 100000 in
set_option maxHeartbeats 8000000 in
theorem refPrint_true (w : World)  :
    Calls Tryd.prog 21 #[.agg #[.int .u8 2, .bool true, .int .i64 0, .string ⟨#[]⟩]] w fun e w' => e = .returned (.string ⟨#[116, 114, 117, 101]⟩) ∧ Below w.heap.size w w' := by
  have hcH := Lib.hid (show chk ⟨2, true, 0, ⟨#[]⟩⟩ = 0 by decide)
  have hsH := Lib.hid (show (⟨#[]⟩ : ByteArray).size ≤ 140737488355328 by decide)
  go_enter Tryd.func21, Tryd.ntmps21
  go_wp2_with fail
  refine (refCheck_any 2 true 0 ⟨#[]⟩ _ hsH.out).mono ?_
  rintro e w1 ⟨rfl, hb1⟩
  rw [hcH.out]
  obtain ⟨a0, a1, a2, a3⟩ := ((Has.new w (.int .u8 2) (.bool true) (.int .i64 0) (.string ⟨#[]⟩)).below hb1).cells
  go_wp2
  go_ret
  exact ⟨rfl, chainB (by go_grown) hb1 (by simp)⟩

set_option maxRecDepth 100000 in
set_option maxHeartbeats 8000000 in
theorem refPrint_false (w : World)  :
    Calls Tryd.prog 21 #[.agg #[.int .u8 2, .bool false, .int .i64 0, .string ⟨#[]⟩]] w fun e w' => e = .returned (.string ⟨#[102, 97, 108, 115, 101]⟩) ∧ Below w.heap.size w w' := by
  have hcH := Lib.hid (show chk ⟨2, false, 0, ⟨#[]⟩⟩ = 0 by decide)
  have hsH := Lib.hid (show (⟨#[]⟩ : ByteArray).size ≤ 140737488355328 by decide)
  go_enter Tryd.func21, Tryd.ntmps21
  go_wp2_with fail
  refine (refCheck_any 2 false 0 ⟨#[]⟩ _ hsH.out).mono ?_
  rintro e w1 ⟨rfl, hb1⟩
  rw [hcH.out]
  obtain ⟨a0, a1, a2, a3⟩ := ((Has.new w (.int .u8 2) (.bool false) (.int .i64 0) (.string ⟨#[]⟩)).below hb1).cells
  go_wp2
  go_ret
  exact ⟨rfl, chainB (by go_grown) hb1 (by simp)⟩

set_option maxRecDepth 100000 in
set_option maxHeartbeats 8000000 in
theorem refPrint_text (s : ByteArray) (w : World) (hc : chk ⟨4, false, 0, s⟩ = 0) (hl : s.size ≤ 1000) :
    Calls Tryd.prog 21 #[.agg #[.int .u8 4, .bool false, .int .i64 0, .string s]] w fun e w' => e = .returned (.string ⟨(quoteL s.data.toList).toArray⟩) ∧ Below w.heap.size w w' := by
  have hcH := Lib.hid hc
  have hsH := Lib.hid (show s.size ≤ 140737488355328 by omega)
  have hqH := Lib.hid (show s.size ≤ 1099511627776 by omega)
  clear hc hl
  go_enter Tryd.func21, Tryd.ntmps21
  go_wp2_with fail
  refine (refCheck_any 4 false 0 s _ hsH.out).mono ?_
  rintro e w1 ⟨rfl, hb1⟩
  rw [hcH.out]
  obtain ⟨a0, a1, a2, a3⟩ := ((Has.new w (.int .u8 4) (.bool false) (.int .i64 0) (.string s)).below hb1).cells
  go_wp2_with (go_at_call 63; go_must (refine (refQuoted_any s _ hqH.out).mono ?_; rintro e w2 ⟨rfl, hb2⟩; have hb := chainB (B := w.heap.size) (a := w) (chainB (by go_grown) hb1 (by simp)) hb2 (by have := hb1.size; simp at this; omega)))
  go_ret
  exact ⟨rfl, hb⟩

set_option maxRecDepth 100000 in
set_option maxHeartbeats 8000000 in
theorem refPrint_neg (n : Int) (m : Nat) (w : World) (hn : I64 n) (hneg : n < 0) (hmn : (m : Int) = -n) :
    Calls Tryd.prog 21 #[.agg #[.int .u8 3, .bool false, .int .i64 n, .string ⟨#[]⟩]] w fun e w' => e = .returned (.string ⟨(45 :: decDigits m).toArray⟩) ∧ Below w.heap.size w w' := by
  have hcH := Lib.hid (show chk ⟨3, false, n, ⟨#[]⟩⟩ = 0 from okD_chk (ok_int n))
  have hsH := Lib.hid (show (⟨#[]⟩ : ByteArray).size ≤ 140737488355328 by decide)
  obtain ⟨h1, h2⟩ := hn
  have hm : m < 18446744073709551616 := by omega
  have hlen := decDigits_len 19 m (by omega)
  obtain ⟨ds, hds⟩ : ∃ ds, decDigits m = ds := ⟨_, rfl⟩
  rw [hds] at hlen ⊢
  have hdsH := Lib.hid hds
  have hlen2 : ds.length ≤ 9223372036854775806 := by omega
  clear hds hlen
  go_enter Tryd.func21, Tryd.ntmps21
  go_wp2_with fail
  refine (refCheck_any 3 false n ⟨#[]⟩ _ hsH.out).mono ?_
  rintro e w1 ⟨rfl, hb1⟩
  rw [hcH.out]
  obtain ⟨a0, a1, a2, a3⟩ := ((Has.new w (.int .u8 3) (.bool false) (.int .i64 n) (.string ⟨#[]⟩)).below hb1).cells
  go_wp2_with (go_at_call 64; go_must (refine (refDigits_int _ m (by omega) hm _).mono ?_; rw [hdsH.out]; rintro e w2 ⟨rfl, hb2⟩; have hb := chainB (B := w.heap.size) (a := w) (chainB (by go_grown) hb1 (by simp)) hb2 (by have := hb1.size; simp at this; omega)))
  go_ret
  exact ⟨ret_strA (bytes_ext (by simp)), hb⟩

set_option maxRecDepth 100000 in
set_option maxHeartbeats 8000000 in
theorem refPrint_pos (n : Int) (m : Nat) (w : World) (hn : I64 n) (hpos : ¬ n < 0) (hmn : (m : Int) = n) :
    Calls Tryd.prog 21 #[.agg #[.int .u8 3, .bool false, .int .i64 n, .string ⟨#[]⟩]] w fun e w' => e = .returned (.string ⟨(decDigits m).toArray⟩) ∧ Below w.heap.size w w' := by
  have hcH := Lib.hid (show chk ⟨3, false, n, ⟨#[]⟩⟩ = 0 from okD_chk (ok_int n))
  have hsH := Lib.hid (show (⟨#[]⟩ : ByteArray).size ≤ 140737488355328 by decide)
  obtain ⟨h1, h2⟩ := hn
  have hm : m < 18446744073709551616 := by omega
  have hlen := decDigits_len 19 m (by omega)
  obtain ⟨ds, hds⟩ : ∃ ds, decDigits m = ds := ⟨_, rfl⟩
  rw [hds] at hlen ⊢
  have hdsH := Lib.hid hds
  have hlen2 : ds.length ≤ 9223372036854775806 := by omega
  clear hds hlen
  go_enter Tryd.func21, Tryd.ntmps21
  go_wp2_with fail
  refine (refCheck_any 3 false n ⟨#[]⟩ _ hsH.out).mono ?_
  rintro e w1 ⟨rfl, hb1⟩
  rw [hcH.out]
  obtain ⟨a0, a1, a2, a3⟩ := ((Has.new w (.int .u8 3) (.bool false) (.int .i64 n) (.string ⟨#[]⟩)).below hb1).cells
  go_wp2_with (go_at_call 64; go_must (refine (refDigits_int _ m (by omega) hm _).mono ?_; rw [hdsH.out]; rintro e w2 ⟨rfl, hb2⟩; have hb := chainB (B := w.heap.size) (a := w) (chainB (by go_grown) hb1 (by simp)) hb2 (by have := hb1.size; simp at this; omega)))
  go_ret
  exact ⟨rfl, hb⟩

/-- Print, of every datum. -/
theorem refPrint_any (k : Int) (b : Bool) (n : Int) (s : ByteArray) (w : World) (hs : s.size ≤ 140737488355328) (hn : I64 n) :
    Calls Tryd.prog 21 #[.agg #[.int .u8 k, .bool b, .int .i64 n, .string s]] w fun e w' => e = .returned (.string ⟨(printS ⟨k, b, n, s⟩).toArray⟩) ∧ Below w.heap.size w w' := by
  cases ho : okD ⟨k, b, n, s⟩ with
  | false =>
    rw [printS_bad ho]
    exact refPrint_bad k b n s w hs (fun h => by have := okD_chk_ne ho; rw [h] at this; cases this)
  | true =>
    have hc := okD_chk ho
    rcases ok_cases ho with h | ⟨b', h⟩ | ⟨n', h⟩ | ⟨s', h, hv, hl⟩
    · rw [h, printS_null]
      obtain ⟨rfl, rfl, rfl, rfl⟩ := dat_eta h
      exact refPrint_null w
    · rw [h, printS_bool]
      obtain ⟨rfl, rfl, rfl, rfl⟩ := dat_eta h
      cases b
      · exact refPrint_false w
      · exact refPrint_true w
    · rw [h, printS_int]
      obtain ⟨rfl, rfl, rfl, rfl⟩ := dat_eta h
      unfold itoa
      by_cases hz : n < 0
      · rw [if_pos hz]
        exact refPrint_neg n n.natAbs w hn hz (by omega)
      · rw [if_neg hz]
        exact refPrint_pos n n.toNat w hn hz (by omega)
    · have ho' := ho
      rw [h] at ho'
      rw [h, printS_text ho']
      obtain ⟨rfl, rfl, rfl, rfl⟩ := dat_eta h
      exact refPrint_text s w hc hl
end Go.Proofs.YtlodohgoondkhaaDoor
