/-
  The law DatumBack answers true, at this program, at every datum and every text. Condition: the tables of Go's library lie as their initialisers lay them; the variables strconv.ErrSyntax and strconv.ErrRange hold errors; the text to read has at most 2^40 bytes.
-/
import Derived.Test.YtlodohgoondkhaaDoorIs
import Derived.Test.YtlodohgoondkhaaDoorKnown
import Derived.Test.YtlodohgoondkhaaDoorMem
import Derived.Test.YtlodohgoondkhaaDoorParse
set_option linter.unusedVariables false
set_option linter.unusedSimpArgs false
namespace Go.Proofs.YtlodohgoondkhaaDoor
open Go.RowKit Go.Lib

theorem print_nil {d : Dat} (h : okD d = true) : printS d ≠ [] := by
  rcases ok_cases h with rfl | ⟨b, rfl⟩ | ⟨n, rfl⟩ | ⟨s, rfl, _, _⟩
  · rw [printS_null]; decide
  · rw [printS_bool]; cases b <;> decide
  · rw [printS_int]
    unfold itoa
    split
    · exact List.cons_ne_nil _ _
    · exact dec_ne _
  · rw [printS_text h]; unfold quoteL; simp
theorem ok_text4 {k : Int} {b : Bool} {n : Int} {t : ByteArray} (h : okD ⟨k, b, n, t⟩ = true) : t = ⟨#[]⟩ ∨ t.size ≤ 1000 := by
  rcases ok_cases h with h | ⟨b', h⟩ | ⟨n', h⟩ | ⟨s', h, hv, hl⟩ <;> obtain ⟨_, _, _, rfl⟩ := dat_eta h
  · exact .inl rfl
  · exact .inl rfl
  · exact .inl rfl
  · exact .inr hl
theorem print_size {d : Dat} (hI : I64 d.n) : (⟨(printS d).toArray⟩ : ByteArray).size ≤ 1099511627776 := by
  have hz : (⟨(printS d).toArray⟩ : ByteArray).size = (printS d).length := by simp [ByteArray.size]
  rw [hz]
  cases h : okD d with
  | false => rw [printS_bad h]; simp
  | true =>
    rcases ok_cases h with rfl | ⟨b, rfl⟩ | ⟨n, rfl⟩ | ⟨s, rfl, _, hl⟩
    · rw [printS_null]; decide
    · rw [printS_bool]; cases b <;> decide
    · rw [printS_int]
      have := itoa_length_le n hI.1 hI.2
      omega
    · rw [printS_text h]
      have := flat_len s.data.toList
      rw [size_list] at this
      unfold quoteL
      simp only [List.length_cons, List.length_append, List.length_nil]
      omega
set_option maxHeartbeats 16000000 in
set_option maxRecDepth 100000 in
theorem back_any (k0 : Int) (b0 : Bool) (n0 : Int) (s0 : ByteArray) (s : ByteArray) (w : World) (hT : Tabs w) (hV : VarsE w) (hs0 : s0.size ≤ 140737488355328) (hn0 : I64 n0) (hk0 : 0 ≤ k0 ∧ k0 ≤ 255) (hs1 : s.size ≤ 1099511627776) :
    Calls Tryd.prog 8 #[.agg #[.int .u8 k0, .bool b0, .int .i64 n0, .string s0], .string s] w fun e w' => e = .returned (.bool true) ∧ Below w.heap.size w w' := by
  obtain ⟨p, hp⟩ : ∃ p, (⟨(printS ⟨k0, b0, n0, s0⟩).toArray⟩ : ByteArray) = p := ⟨_, rfl⟩
  obtain ⟨c, hc⟩ : ∃ c, chk ⟨k0, b0, n0, s0⟩ = c := ⟨_, rfl⟩
  have hpz : p.size ≤ 1099511627776 := by rw [← hp]; exact print_size hn0
  have hpl : p.data.toList = printS ⟨k0, b0, n0, s0⟩ := by rw [← hp]
  have hP := Lib.hid hp; have hC := Lib.hid hc; have hS := Lib.hid hs1; have hZ := Lib.hid hpz; have hI0 := Lib.hid hn0; have hL := Lib.hid hpl
  have hBig := Lib.hid (show s0.size ≤ 9223372036854775807 by omega)
  have hTH := Lib.hid hT
  have hVH := Lib.hid hV
  clear hT hV hs0 hn0 hk0 hs1 hpz hp hpl
  have hb := Below.refl w.heap.size w
  have hs := hb.size
  have hM : Hid (Mem w []) := Lib.hid trivial
  go_enter Tryd.func8, Tryd.ntmps8
  go_wp2_with (go_at_call 20; go_must (refine (print_any k0 b0 n0 s0 _ (by exact hTH.out.below (by go_grown)) hBig.out hI0.out).mono ?_; rw [hP.out]; rintro e w' ⟨rfl, hb'⟩; replace hb := chainB (B := w.heap.size) (a := w) (by go_grown) hb' (by have := hb.size; go_size); replace hs := hb.size; (try clear f0_0 f0_1 f0_2 f0_3 f0_4); (try clear f1_0 f1_1 f1_2 f1_3 f1_4); (try clear f2_0 f2_1 f2_2 f2_3 f2_4); (try clear f3_0 f3_1 f3_2 f3_3 f3_4); (try clear f4_0 f4_1 f4_2 f4_3 f4_4); (try clear f5_0 f5_1 f5_2 f5_3 f5_4); (try clear f6_0 f6_1 f6_2 f6_3 f6_4); (try clear f7_0 f7_1 f7_2 f7_3 f7_4); (first | replace hM := mem2 hM hb' | replace hM := mem1 hM hb' | replace hM := mem0 hM hb' | replace hM := mem2 (l := []) (Lib.hid trivial) hb'); have hF := hM.out.facts; (try simp only [MemF, World.size_alloc] at hF); (try rcases hF with ⟨f0_0, f0_1, f0_2, f0_3, f0_4, hF⟩); (try rcases hF with ⟨f1_0, f1_1, f1_2, f1_3, f1_4, hF⟩); (try rcases hF with ⟨f2_0, f2_1, f2_2, f2_3, f2_4, hF⟩); (try rcases hF with ⟨f3_0, f3_1, f3_2, f3_3, f3_4, hF⟩); (try rcases hF with ⟨f4_0, f4_1, f4_2, f4_3, f4_4, hF⟩); (try rcases hF with ⟨f5_0, f5_1, f5_2, f5_3, f5_4, hF⟩); (try rcases hF with ⟨f6_0, f6_1, f6_2, f6_3, f6_4, hF⟩); (try rcases hF with ⟨f7_0, f7_1, f7_2, f7_3, f7_4, hF⟩); (try clear hF); clear hb'))
  refine (parse_any p _ (by exact hTH.out.below (by go_grown)) (by exact hVH.out.below (by go_grown)) hZ.out).mono ?_
  rintro e w' ⟨⟨⟨k, b, n, t⟩, z, rfl, hd⟩, hb'⟩
  rw [resV_eq]
  replace hb := chainB (B := w.heap.size) (a := w) (by go_grown) hb' (by have := hb.size; go_size); replace hs := hb.size; (try clear f0_0 f0_1 f0_2 f0_3 f0_4); (try clear f1_0 f1_1 f1_2 f1_3 f1_4); (try clear f2_0 f2_1 f2_2 f2_3 f2_4); (try clear f3_0 f3_1 f3_2 f3_3 f3_4); (try clear f4_0 f4_1 f4_2 f4_3 f4_4); (try clear f5_0 f5_1 f5_2 f5_3 f5_4); (try clear f6_0 f6_1 f6_2 f6_3 f6_4); (try clear f7_0 f7_1 f7_2 f7_3 f7_4); (first | replace hM := mem2 hM hb' | replace hM := mem1 hM hb' | replace hM := mem0 hM hb' | replace hM := mem2 (l := []) (Lib.hid trivial) hb'); have hF := hM.out.facts; (try simp only [MemF, World.size_alloc] at hF); (try rcases hF with ⟨f0_0, f0_1, f0_2, f0_3, f0_4, hF⟩); (try rcases hF with ⟨f1_0, f1_1, f1_2, f1_3, f1_4, hF⟩); (try rcases hF with ⟨f2_0, f2_1, f2_2, f2_3, f2_4, hF⟩); (try rcases hF with ⟨f3_0, f3_1, f3_2, f3_3, f3_4, hF⟩); (try rcases hF with ⟨f4_0, f4_1, f4_2, f4_3, f4_4, hF⟩); (try rcases hF with ⟨f5_0, f5_1, f5_2, f5_3, f5_4, hF⟩); (try rcases hF with ⟨f6_0, f6_1, f6_2, f6_3, f6_4, hF⟩); (try rcases hF with ⟨f7_0, f7_1, f7_2, f7_3, f7_4, hF⟩); (try clear hF); clear hb'
  by_cases hc0 : c = 0
  · have hok : okD ⟨k0, b0, n0, s0⟩ = true := by unfold okD; rw [hc, hc0]; rfl
    obtain ⟨q1, q2⟩ := hd.one (.inl ⟨hok, hI0.out, hL.out, rfl⟩)
    obtain ⟨rfl, rfl, rfl, rfl⟩ := dat_eta q1.symm
    subst q2
    have hpe : p.toList.isEmpty = false := by
      rw [ByteArray.toList_eq, hL.out]
      cases h : printS ⟨k0, b0, n0, s0⟩ with
      | nil => exact absurd h (print_nil hok)
      | cons x l => rfl
    have hpe2 : (p.toList == ([] : List UInt8)) = false := by
      rw [beq_eq_false_iff_ne, ByteArray.toList_eq, hL.out]; exact print_nil hok
    subst hc0
    clear hd hok hc
    go_wp2_with (go_at_call 16; go_must (refine (check_any k0 b0 n0 s0 _ (by exact hTH.out.below (by go_grown)) hBig.out).mono ?_; rw [hC.out]; rintro e w' ⟨rfl, hb'⟩; replace hb := chainB (B := w.heap.size) (a := w) (by go_grown) hb' (by have := hb.size; go_size); replace hs := hb.size; (try clear f0_0 f0_1 f0_2 f0_3 f0_4); (try clear f1_0 f1_1 f1_2 f1_3 f1_4); (try clear f2_0 f2_1 f2_2 f2_3 f2_4); (try clear f3_0 f3_1 f3_2 f3_3 f3_4); (try clear f4_0 f4_1 f4_2 f4_3 f4_4); (try clear f5_0 f5_1 f5_2 f5_3 f5_4); (try clear f6_0 f6_1 f6_2 f6_3 f6_4); (try clear f7_0 f7_1 f7_2 f7_3 f7_4); (first | replace hM := mem2 hM hb' | replace hM := mem1 hM hb' | replace hM := mem0 hM hb' | replace hM := mem2 (l := []) (Lib.hid trivial) hb'); have hF := hM.out.facts; (try simp only [MemF, World.size_alloc] at hF); (try rcases hF with ⟨f0_0, f0_1, f0_2, f0_3, f0_4, hF⟩); (try rcases hF with ⟨f1_0, f1_1, f1_2, f1_3, f1_4, hF⟩); (try rcases hF with ⟨f2_0, f2_1, f2_2, f2_3, f2_4, hF⟩); (try rcases hF with ⟨f3_0, f3_1, f3_2, f3_3, f3_4, hF⟩); (try rcases hF with ⟨f4_0, f4_1, f4_2, f4_3, f4_4, hF⟩); (try rcases hF with ⟨f5_0, f5_1, f5_2, f5_3, f5_4, hF⟩); (try rcases hF with ⟨f6_0, f6_1, f6_2, f6_3, f6_4, hF⟩); (try rcases hF with ⟨f7_0, f7_1, f7_2, f7_3, f7_4, hF⟩); (try clear hF); clear hb'))
    refine (parse_any s _ (by exact hTH.out.below (by go_grown)) (by exact hVH.out.below (by go_grown)) hS.out).mono ?_
    rintro e w' ⟨⟨⟨k, b, n, t⟩, z, rfl, hd⟩, hb'⟩
    rw [resV_eq]
    replace hb := chainB (B := w.heap.size) (a := w) (by go_grown) hb' (by have := hb.size; go_size); replace hs := hb.size; (try clear f0_0 f0_1 f0_2 f0_3 f0_4); (try clear f1_0 f1_1 f1_2 f1_3 f1_4); (try clear f2_0 f2_1 f2_2 f2_3 f2_4); (try clear f3_0 f3_1 f3_2 f3_3 f3_4); (try clear f4_0 f4_1 f4_2 f4_3 f4_4); (try clear f5_0 f5_1 f5_2 f5_3 f5_4); (try clear f6_0 f6_1 f6_2 f6_3 f6_4); (try clear f7_0 f7_1 f7_2 f7_3 f7_4); (first | replace hM := mem2 hM hb' | replace hM := mem1 hM hb' | replace hM := mem0 hM hb' | replace hM := mem2 (l := []) (Lib.hid trivial) hb'); have hF := hM.out.facts; (try simp only [MemF, World.size_alloc] at hF); (try rcases hF with ⟨f0_0, f0_1, f0_2, f0_3, f0_4, hF⟩); (try rcases hF with ⟨f1_0, f1_1, f1_2, f1_3, f1_4, hF⟩); (try rcases hF with ⟨f2_0, f2_1, f2_2, f2_3, f2_4, hF⟩); (try rcases hF with ⟨f3_0, f3_1, f3_2, f3_3, f3_4, hF⟩); (try rcases hF with ⟨f4_0, f4_1, f4_2, f4_3, f4_4, hF⟩); (try rcases hF with ⟨f5_0, f5_1, f5_2, f5_3, f5_4, hF⟩); (try rcases hF with ⟨f6_0, f6_1, f6_2, f6_3, f6_4, hF⟩); (try rcases hF with ⟨f7_0, f7_1, f7_2, f7_3, f7_4, hF⟩); (try clear hF); clear hb'
    rcases hd with ⟨ok, hI, hp, rfl⟩ | ⟨hz, rfl, _⟩
    · have hCx := Lib.hid (okD_chk ok)
      obtain ⟨q, hq⟩ : ∃ q, (⟨(printS ⟨k, b, n, t⟩).toArray⟩ : ByteArray) = q := ⟨_, rfl⟩
      have hqs : q = s := bytes_ext (by rw [← hq, hp])
      have hPx := Lib.hid (hq.trans hqs)
      have htI := Lib.hid (show I64 n from hI)
      have htB := Lib.hid (show t.size ≤ 9223372036854775807 by
        rcases ok_text4 ok with h | h
        · rw [h]; decide
        · exact Nat.le_trans h (by decide))
      clear hq hqs hI hp ok q
      go_wp2_with (first | (go_at_call 16; go_must (refine (check_any k b n t _ (by exact hTH.out.below (by go_grown)) htB.out).mono ?_; rw [hCx.out]; rintro e w' ⟨rfl, hb'⟩; replace hb := chainB (B := w.heap.size) (a := w) (by go_grown) hb' (by have := hb.size; go_size); replace hs := hb.size; (try clear f0_0 f0_1 f0_2 f0_3 f0_4); (try clear f1_0 f1_1 f1_2 f1_3 f1_4); (try clear f2_0 f2_1 f2_2 f2_3 f2_4); (try clear f3_0 f3_1 f3_2 f3_3 f3_4); (try clear f4_0 f4_1 f4_2 f4_3 f4_4); (try clear f5_0 f5_1 f5_2 f5_3 f5_4); (try clear f6_0 f6_1 f6_2 f6_3 f6_4); (try clear f7_0 f7_1 f7_2 f7_3 f7_4); (first | replace hM := mem2 hM hb' | replace hM := mem1 hM hb' | replace hM := mem0 hM hb' | replace hM := mem2 (l := []) (Lib.hid trivial) hb'); have hF := hM.out.facts; (try simp only [MemF, World.size_alloc] at hF); (try rcases hF with ⟨f0_0, f0_1, f0_2, f0_3, f0_4, hF⟩); (try rcases hF with ⟨f1_0, f1_1, f1_2, f1_3, f1_4, hF⟩); (try rcases hF with ⟨f2_0, f2_1, f2_2, f2_3, f2_4, hF⟩); (try rcases hF with ⟨f3_0, f3_1, f3_2, f3_3, f3_4, hF⟩); (try rcases hF with ⟨f4_0, f4_1, f4_2, f4_3, f4_4, hF⟩); (try rcases hF with ⟨f5_0, f5_1, f5_2, f5_3, f5_4, hF⟩); (try rcases hF with ⟨f6_0, f6_1, f6_2, f6_3, f6_4, hF⟩); (try rcases hF with ⟨f7_0, f7_1, f7_2, f7_3, f7_4, hF⟩); (try clear hF); clear hb')) | (go_at_call 20; go_must (refine (print_any k b n t _ (by exact hTH.out.below (by go_grown)) htB.out htI.out).mono ?_; rw [hPx.out]; rintro e w' ⟨rfl, hb'⟩; replace hb := chainB (B := w.heap.size) (a := w) (by go_grown) hb' (by have := hb.size; go_size); replace hs := hb.size; (try clear f0_0 f0_1 f0_2 f0_3 f0_4); (try clear f1_0 f1_1 f1_2 f1_3 f1_4); (try clear f2_0 f2_1 f2_2 f2_3 f2_4); (try clear f3_0 f3_1 f3_2 f3_3 f3_4); (try clear f4_0 f4_1 f4_2 f4_3 f4_4); (try clear f5_0 f5_1 f5_2 f5_3 f5_4); (try clear f6_0 f6_1 f6_2 f6_3 f6_4); (try clear f7_0 f7_1 f7_2 f7_3 f7_4); (first | replace hM := mem2 hM hb' | replace hM := mem1 hM hb' | replace hM := mem0 hM hb' | replace hM := mem2 (l := []) (Lib.hid trivial) hb'); have hF := hM.out.facts; (try simp only [MemF, World.size_alloc] at hF); (try rcases hF with ⟨f0_0, f0_1, f0_2, f0_3, f0_4, hF⟩); (try rcases hF with ⟨f1_0, f1_1, f1_2, f1_3, f1_4, hF⟩); (try rcases hF with ⟨f2_0, f2_1, f2_2, f2_3, f2_4, hF⟩); (try rcases hF with ⟨f3_0, f3_1, f3_2, f3_3, f3_4, hF⟩); (try rcases hF with ⟨f4_0, f4_1, f4_2, f4_3, f4_4, hF⟩); (try rcases hF with ⟨f5_0, f5_1, f5_2, f5_3, f5_4, hF⟩); (try rcases hF with ⟨f6_0, f6_1, f6_2, f6_3, f6_4, hF⟩); (try rcases hF with ⟨f7_0, f7_1, f7_2, f7_3, f7_4, hF⟩); (try clear hF); clear hb')) | (go_at_call 15; go_must (refine (known_any _ (by exact hTH.out.below (by go_grown))).mono ?_; rintro e w' ⟨rfl, hb'⟩; replace hb := chainB (B := w.heap.size) (a := w) (by go_grown) hb' (by have := hb.size; go_size); replace hs := hb.size; (try clear f0_0 f0_1 f0_2 f0_3 f0_4); (try clear f1_0 f1_1 f1_2 f1_3 f1_4); (try clear f2_0 f2_1 f2_2 f2_3 f2_4); (try clear f3_0 f3_1 f3_2 f3_3 f3_4); (try clear f4_0 f4_1 f4_2 f4_3 f4_4); (try clear f5_0 f5_1 f5_2 f5_3 f5_4); (try clear f6_0 f6_1 f6_2 f6_3 f6_4); (try clear f7_0 f7_1 f7_2 f7_3 f7_4); (first | replace hM := mem2 hM hb' | replace hM := mem1 hM hb' | replace hM := mem0 hM hb' | replace hM := mem2 (l := []) (Lib.hid trivial) hb'); have hF := hM.out.facts; (try simp only [MemF, World.size_alloc] at hF); (try rcases hF with ⟨f0_0, f0_1, f0_2, f0_3, f0_4, hF⟩); (try rcases hF with ⟨f1_0, f1_1, f1_2, f1_3, f1_4, hF⟩); (try rcases hF with ⟨f2_0, f2_1, f2_2, f2_3, f2_4, hF⟩); (try rcases hF with ⟨f3_0, f3_1, f3_2, f3_3, f3_4, hF⟩); (try rcases hF with ⟨f4_0, f4_1, f4_2, f4_3, f4_4, hF⟩); (try rcases hF with ⟨f5_0, f5_1, f5_2, f5_3, f5_4, hF⟩); (try rcases hF with ⟨f6_0, f6_1, f6_2, f6_3, f6_4, hF⟩); (try rcases hF with ⟨f7_0, f7_1, f7_2, f7_3, f7_4, hF⟩); (try clear hF); clear hb')))
      go_ret
      exact ⟨rfl, by go_grown⟩
    · go_wp2_with (go_at_call 15; go_must (refine (known_any _ (by exact hTH.out.below (by go_grown))).mono ?_; rintro e w' ⟨rfl, hb'⟩; replace hb := chainB (B := w.heap.size) (a := w) (by go_grown) hb' (by have := hb.size; go_size); replace hs := hb.size; (try clear f0_0 f0_1 f0_2 f0_3 f0_4); (try clear f1_0 f1_1 f1_2 f1_3 f1_4); (try clear f2_0 f2_1 f2_2 f2_3 f2_4); (try clear f3_0 f3_1 f3_2 f3_3 f3_4); (try clear f4_0 f4_1 f4_2 f4_3 f4_4); (try clear f5_0 f5_1 f5_2 f5_3 f5_4); (try clear f6_0 f6_1 f6_2 f6_3 f6_4); (try clear f7_0 f7_1 f7_2 f7_3 f7_4); (first | replace hM := mem2 hM hb' | replace hM := mem1 hM hb' | replace hM := mem0 hM hb' | replace hM := mem2 (l := []) (Lib.hid trivial) hb'); have hF := hM.out.facts; (try simp only [MemF, World.size_alloc] at hF); (try rcases hF with ⟨f0_0, f0_1, f0_2, f0_3, f0_4, hF⟩); (try rcases hF with ⟨f1_0, f1_1, f1_2, f1_3, f1_4, hF⟩); (try rcases hF with ⟨f2_0, f2_1, f2_2, f2_3, f2_4, hF⟩); (try rcases hF with ⟨f3_0, f3_1, f3_2, f3_3, f3_4, hF⟩); (try rcases hF with ⟨f4_0, f4_1, f4_2, f4_3, f4_4, hF⟩); (try rcases hF with ⟨f5_0, f5_1, f5_2, f5_3, f5_4, hF⟩); (try rcases hF with ⟨f6_0, f6_1, f6_2, f6_3, f6_4, hF⟩); (try rcases hF with ⟨f7_0, f7_1, f7_2, f7_3, f7_4, hF⟩); (try clear hF); clear hb'))
      go_ret
      exact ⟨rfl, by go_grown⟩

  · have hbad : okD ⟨k0, b0, n0, s0⟩ = false := by unfold okD; rw [hc]; exact decide_eq_false hc0
    obtain ⟨q1, q2⟩ := hd.one (.inr ⟨rfl, rfl, fun d' h1 h2 h3 => print_nil h1 (by rw [← h3, hL.out, printS_bad hbad])⟩)
    obtain ⟨rfl, rfl, rfl, rfl⟩ := dat_eta q1.symm
    subst q2
    have hcb : (c == 0) = false := by simpa using hc0
    have hcb2 : (c != 0) = true := by simpa using hc0
    clear hd hbad hc hc0
    go_wp2_with (go_at_call 16; go_must (refine (check_any k0 b0 n0 s0 _ (by exact hTH.out.below (by go_grown)) hBig.out).mono ?_; rw [hC.out]; rintro e w' ⟨rfl, hb'⟩; replace hb := chainB (B := w.heap.size) (a := w) (by go_grown) hb' (by have := hb.size; go_size); replace hs := hb.size; (try clear f0_0 f0_1 f0_2 f0_3 f0_4); (try clear f1_0 f1_1 f1_2 f1_3 f1_4); (try clear f2_0 f2_1 f2_2 f2_3 f2_4); (try clear f3_0 f3_1 f3_2 f3_3 f3_4); (try clear f4_0 f4_1 f4_2 f4_3 f4_4); (try clear f5_0 f5_1 f5_2 f5_3 f5_4); (try clear f6_0 f6_1 f6_2 f6_3 f6_4); (try clear f7_0 f7_1 f7_2 f7_3 f7_4); (first | replace hM := mem2 hM hb' | replace hM := mem1 hM hb' | replace hM := mem0 hM hb' | replace hM := mem2 (l := []) (Lib.hid trivial) hb'); have hF := hM.out.facts; (try simp only [MemF, World.size_alloc] at hF); (try rcases hF with ⟨f0_0, f0_1, f0_2, f0_3, f0_4, hF⟩); (try rcases hF with ⟨f1_0, f1_1, f1_2, f1_3, f1_4, hF⟩); (try rcases hF with ⟨f2_0, f2_1, f2_2, f2_3, f2_4, hF⟩); (try rcases hF with ⟨f3_0, f3_1, f3_2, f3_3, f3_4, hF⟩); (try rcases hF with ⟨f4_0, f4_1, f4_2, f4_3, f4_4, hF⟩); (try rcases hF with ⟨f5_0, f5_1, f5_2, f5_3, f5_4, hF⟩); (try rcases hF with ⟨f6_0, f6_1, f6_2, f6_3, f6_4, hF⟩); (try rcases hF with ⟨f7_0, f7_1, f7_2, f7_3, f7_4, hF⟩); (try clear hF); clear hb'))
    refine (parse_any s _ (by exact hTH.out.below (by go_grown)) (by exact hVH.out.below (by go_grown)) hS.out).mono ?_
    rintro e w' ⟨⟨⟨k, b, n, t⟩, z, rfl, hd⟩, hb'⟩
    rw [resV_eq]
    replace hb := chainB (B := w.heap.size) (a := w) (by go_grown) hb' (by have := hb.size; go_size); replace hs := hb.size; (try clear f0_0 f0_1 f0_2 f0_3 f0_4); (try clear f1_0 f1_1 f1_2 f1_3 f1_4); (try clear f2_0 f2_1 f2_2 f2_3 f2_4); (try clear f3_0 f3_1 f3_2 f3_3 f3_4); (try clear f4_0 f4_1 f4_2 f4_3 f4_4); (try clear f5_0 f5_1 f5_2 f5_3 f5_4); (try clear f6_0 f6_1 f6_2 f6_3 f6_4); (try clear f7_0 f7_1 f7_2 f7_3 f7_4); (first | replace hM := mem2 hM hb' | replace hM := mem1 hM hb' | replace hM := mem0 hM hb' | replace hM := mem2 (l := []) (Lib.hid trivial) hb'); have hF := hM.out.facts; (try simp only [MemF, World.size_alloc] at hF); (try rcases hF with ⟨f0_0, f0_1, f0_2, f0_3, f0_4, hF⟩); (try rcases hF with ⟨f1_0, f1_1, f1_2, f1_3, f1_4, hF⟩); (try rcases hF with ⟨f2_0, f2_1, f2_2, f2_3, f2_4, hF⟩); (try rcases hF with ⟨f3_0, f3_1, f3_2, f3_3, f3_4, hF⟩); (try rcases hF with ⟨f4_0, f4_1, f4_2, f4_3, f4_4, hF⟩); (try rcases hF with ⟨f5_0, f5_1, f5_2, f5_3, f5_4, hF⟩); (try rcases hF with ⟨f6_0, f6_1, f6_2, f6_3, f6_4, hF⟩); (try rcases hF with ⟨f7_0, f7_1, f7_2, f7_3, f7_4, hF⟩); (try clear hF); clear hb'
    rcases hd with ⟨ok, hI, hp, rfl⟩ | ⟨hz, rfl, _⟩
    · have hCx := Lib.hid (okD_chk ok)
      obtain ⟨q, hq⟩ : ∃ q, (⟨(printS ⟨k, b, n, t⟩).toArray⟩ : ByteArray) = q := ⟨_, rfl⟩
      have hqs : q = s := bytes_ext (by rw [← hq, hp])
      have hPx := Lib.hid (hq.trans hqs)
      have htI := Lib.hid (show I64 n from hI)
      have htB := Lib.hid (show t.size ≤ 9223372036854775807 by
        rcases ok_text4 ok with h | h
        · rw [h]; decide
        · exact Nat.le_trans h (by decide))
      clear hq hqs hI hp ok q
      go_wp2_with (first | (go_at_call 16; go_must (refine (check_any k b n t _ (by exact hTH.out.below (by go_grown)) htB.out).mono ?_; rw [hCx.out]; rintro e w' ⟨rfl, hb'⟩; replace hb := chainB (B := w.heap.size) (a := w) (by go_grown) hb' (by have := hb.size; go_size); replace hs := hb.size; (try clear f0_0 f0_1 f0_2 f0_3 f0_4); (try clear f1_0 f1_1 f1_2 f1_3 f1_4); (try clear f2_0 f2_1 f2_2 f2_3 f2_4); (try clear f3_0 f3_1 f3_2 f3_3 f3_4); (try clear f4_0 f4_1 f4_2 f4_3 f4_4); (try clear f5_0 f5_1 f5_2 f5_3 f5_4); (try clear f6_0 f6_1 f6_2 f6_3 f6_4); (try clear f7_0 f7_1 f7_2 f7_3 f7_4); (first | replace hM := mem2 hM hb' | replace hM := mem1 hM hb' | replace hM := mem0 hM hb' | replace hM := mem2 (l := []) (Lib.hid trivial) hb'); have hF := hM.out.facts; (try simp only [MemF, World.size_alloc] at hF); (try rcases hF with ⟨f0_0, f0_1, f0_2, f0_3, f0_4, hF⟩); (try rcases hF with ⟨f1_0, f1_1, f1_2, f1_3, f1_4, hF⟩); (try rcases hF with ⟨f2_0, f2_1, f2_2, f2_3, f2_4, hF⟩); (try rcases hF with ⟨f3_0, f3_1, f3_2, f3_3, f3_4, hF⟩); (try rcases hF with ⟨f4_0, f4_1, f4_2, f4_3, f4_4, hF⟩); (try rcases hF with ⟨f5_0, f5_1, f5_2, f5_3, f5_4, hF⟩); (try rcases hF with ⟨f6_0, f6_1, f6_2, f6_3, f6_4, hF⟩); (try rcases hF with ⟨f7_0, f7_1, f7_2, f7_3, f7_4, hF⟩); (try clear hF); clear hb')) | (go_at_call 20; go_must (refine (print_any k b n t _ (by exact hTH.out.below (by go_grown)) htB.out htI.out).mono ?_; rw [hPx.out]; rintro e w' ⟨rfl, hb'⟩; replace hb := chainB (B := w.heap.size) (a := w) (by go_grown) hb' (by have := hb.size; go_size); replace hs := hb.size; (try clear f0_0 f0_1 f0_2 f0_3 f0_4); (try clear f1_0 f1_1 f1_2 f1_3 f1_4); (try clear f2_0 f2_1 f2_2 f2_3 f2_4); (try clear f3_0 f3_1 f3_2 f3_3 f3_4); (try clear f4_0 f4_1 f4_2 f4_3 f4_4); (try clear f5_0 f5_1 f5_2 f5_3 f5_4); (try clear f6_0 f6_1 f6_2 f6_3 f6_4); (try clear f7_0 f7_1 f7_2 f7_3 f7_4); (first | replace hM := mem2 hM hb' | replace hM := mem1 hM hb' | replace hM := mem0 hM hb' | replace hM := mem2 (l := []) (Lib.hid trivial) hb'); have hF := hM.out.facts; (try simp only [MemF, World.size_alloc] at hF); (try rcases hF with ⟨f0_0, f0_1, f0_2, f0_3, f0_4, hF⟩); (try rcases hF with ⟨f1_0, f1_1, f1_2, f1_3, f1_4, hF⟩); (try rcases hF with ⟨f2_0, f2_1, f2_2, f2_3, f2_4, hF⟩); (try rcases hF with ⟨f3_0, f3_1, f3_2, f3_3, f3_4, hF⟩); (try rcases hF with ⟨f4_0, f4_1, f4_2, f4_3, f4_4, hF⟩); (try rcases hF with ⟨f5_0, f5_1, f5_2, f5_3, f5_4, hF⟩); (try rcases hF with ⟨f6_0, f6_1, f6_2, f6_3, f6_4, hF⟩); (try rcases hF with ⟨f7_0, f7_1, f7_2, f7_3, f7_4, hF⟩); (try clear hF); clear hb')) | (go_at_call 15; go_must (refine (known_any _ (by exact hTH.out.below (by go_grown))).mono ?_; rintro e w' ⟨rfl, hb'⟩; replace hb := chainB (B := w.heap.size) (a := w) (by go_grown) hb' (by have := hb.size; go_size); replace hs := hb.size; (try clear f0_0 f0_1 f0_2 f0_3 f0_4); (try clear f1_0 f1_1 f1_2 f1_3 f1_4); (try clear f2_0 f2_1 f2_2 f2_3 f2_4); (try clear f3_0 f3_1 f3_2 f3_3 f3_4); (try clear f4_0 f4_1 f4_2 f4_3 f4_4); (try clear f5_0 f5_1 f5_2 f5_3 f5_4); (try clear f6_0 f6_1 f6_2 f6_3 f6_4); (try clear f7_0 f7_1 f7_2 f7_3 f7_4); (first | replace hM := mem2 hM hb' | replace hM := mem1 hM hb' | replace hM := mem0 hM hb' | replace hM := mem2 (l := []) (Lib.hid trivial) hb'); have hF := hM.out.facts; (try simp only [MemF, World.size_alloc] at hF); (try rcases hF with ⟨f0_0, f0_1, f0_2, f0_3, f0_4, hF⟩); (try rcases hF with ⟨f1_0, f1_1, f1_2, f1_3, f1_4, hF⟩); (try rcases hF with ⟨f2_0, f2_1, f2_2, f2_3, f2_4, hF⟩); (try rcases hF with ⟨f3_0, f3_1, f3_2, f3_3, f3_4, hF⟩); (try rcases hF with ⟨f4_0, f4_1, f4_2, f4_3, f4_4, hF⟩); (try rcases hF with ⟨f5_0, f5_1, f5_2, f5_3, f5_4, hF⟩); (try rcases hF with ⟨f6_0, f6_1, f6_2, f6_3, f6_4, hF⟩); (try rcases hF with ⟨f7_0, f7_1, f7_2, f7_3, f7_4, hF⟩); (try clear hF); clear hb')))
      go_ret
      exact ⟨rfl, by go_grown⟩
    · go_wp2_with (go_at_call 15; go_must (refine (known_any _ (by exact hTH.out.below (by go_grown))).mono ?_; rintro e w' ⟨rfl, hb'⟩; replace hb := chainB (B := w.heap.size) (a := w) (by go_grown) hb' (by have := hb.size; go_size); replace hs := hb.size; (try clear f0_0 f0_1 f0_2 f0_3 f0_4); (try clear f1_0 f1_1 f1_2 f1_3 f1_4); (try clear f2_0 f2_1 f2_2 f2_3 f2_4); (try clear f3_0 f3_1 f3_2 f3_3 f3_4); (try clear f4_0 f4_1 f4_2 f4_3 f4_4); (try clear f5_0 f5_1 f5_2 f5_3 f5_4); (try clear f6_0 f6_1 f6_2 f6_3 f6_4); (try clear f7_0 f7_1 f7_2 f7_3 f7_4); (first | replace hM := mem2 hM hb' | replace hM := mem1 hM hb' | replace hM := mem0 hM hb' | replace hM := mem2 (l := []) (Lib.hid trivial) hb'); have hF := hM.out.facts; (try simp only [MemF, World.size_alloc] at hF); (try rcases hF with ⟨f0_0, f0_1, f0_2, f0_3, f0_4, hF⟩); (try rcases hF with ⟨f1_0, f1_1, f1_2, f1_3, f1_4, hF⟩); (try rcases hF with ⟨f2_0, f2_1, f2_2, f2_3, f2_4, hF⟩); (try rcases hF with ⟨f3_0, f3_1, f3_2, f3_3, f3_4, hF⟩); (try rcases hF with ⟨f4_0, f4_1, f4_2, f4_3, f4_4, hF⟩); (try rcases hF with ⟨f5_0, f5_1, f5_2, f5_3, f5_4, hF⟩); (try rcases hF with ⟨f6_0, f6_1, f6_2, f6_3, f6_4, hF⟩); (try rcases hF with ⟨f7_0, f7_1, f7_2, f7_3, f7_4, hF⟩); (try clear hF); clear hb'))
      go_ret
      exact ⟨rfl, by go_grown⟩

end Go.Proofs.YtlodohgoondkhaaDoor
