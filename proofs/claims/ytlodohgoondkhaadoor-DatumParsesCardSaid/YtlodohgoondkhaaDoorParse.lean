/-
  What datum.Parse answers, at this program: of every text of at most 2^40 bytes the datum that may be and is written so, if there is one. Condition: the variables strconv.ErrSyntax and strconv.ErrRange hold errors; the tables of Go's library lie as their initialisers lay them.
-/
import Derived.Test.YtlodohgoondkhaaDoorRead
import Derived.Test.YtlodohgoondkhaaDoorPrint
set_option linter.unusedVariables false
set_option linter.unusedSimpArgs false
namespace Go.Proofs.YtlodohgoondkhaaDoor
open Go.RowKit Go.Lib

/-- What is to be parsed: the datum that may be and is written so, if there is one. -/
def ParsedR (s : ByteArray) (d : Dat) (z : Int) : Prop :=
  (okD d = true ∧ I64 d.n ∧ s.data.toList = printS d ∧ z = 0) ∨ (d = zeroD ∧ z = 13 ∧ ∀ d', okD d' = true → I64 d'.n → s.data.toList ≠ printS d')
theorem ParsedR.one {s : ByteArray} {d d' : Dat} {z z' : Int} (h : ParsedR s d z) (h' : ParsedR s d' z') : d = d' ∧ z = z' := by
  rcases h with ⟨a1, a2, a3, a4⟩ | ⟨a1, a2, a3⟩ <;> rcases h' with ⟨b1, b2, b3, b4⟩ | ⟨b1, b2, b3⟩
  · exact ⟨print_inj a1 b1 (a3.symm.trans b3), a4.trans b4.symm⟩
  · exact absurd a3 (b3 d a1 a2)
  · exact absurd b3 (a3 d' b1 b2)
  · exact ⟨a1.trans b1.symm, a2.trans b2.symm⟩
/-- What Parse answers. -/
def OutZ (s : ByteArray) (e : Ending) : Prop := ∃ d z, e = .returned (resV (d, z)) ∧ ParsedR s d z
set_option maxHeartbeats 8000000 in
set_option maxRecDepth 1000000 in
theorem parse_any (s : ByteArray) (w : World) (hT : Tabs w) (hV : VarsE w) (hs : s.size ≤ 1099511627776) :
    Calls Tryd.prog 22 #[.string s] w fun e w' => OutZ s e ∧ Below w.heap.size w w' := by
  have hVH := Lib.hid hV
  have hTH := Lib.hid hT
  clear hV hT
  obtain ⟨W0, hW0, hwW, hR, hzz⟩ := box0 w
  have hRH := Lib.hid hR; have hz0 := Lib.hid hzz; have hwWH := Lib.hid hwW
  have hTW := Lib.hid (hTH.out.below hwW)
  clear hR hzz hwW
  have hb := Below.refl W0.heap.size W0
  obtain ⟨r0_, r1_, r2_, r3_⟩ := (hRH.out.below hb).cells; obtain ⟨f0_, f1_, f2_, f3_⟩ := (hRH.out.below hb).free; have hz := Nat.lt_of_lt_of_le hz0.out hb.size; have hs_ := hb.size
  go_enter Tryd.func22, Tryd.ntmps22
  go_wp2_with fail
  refine (read_any s _ (by exact hVH.out.below (hwWH.out.trans (hb.mono hwWH.out.size))) hs).mono ?_
  rintro e w1 ⟨⟨⟨k, b, n, t⟩, ok, rfl, hn, ht, hall⟩, hb'⟩
  replace hb := chainB (B := W0.heap.size) (a := W0) (by go_grown) hb' (by have := hb.size; first | omega | (simp; done) | (simp; omega))
  clear hb' r0_ r1_ r2_ r3_ f0_ f1_ f2_ f3_ hz hs_
  obtain ⟨r0_, r1_, r2_, r3_⟩ := (hRH.out.below hb).cells; obtain ⟨f0_, f1_, f2_, f3_⟩ := (hRH.out.below hb).free; have hz := Nat.lt_of_lt_of_le hz0.out hb.size; have hs_ := hb.size
  simp only at hn ht hall ⊢
  have hnH := Lib.hid hn; have htB := Lib.hid (show t.size ≤ 9223372036854775807 by omega); have hallH := Lib.hid hall
  clear hn ht hall
  cases ok with
  | false =>
    have houtH := Lib.hid (show OutZ s (.returned (resV (zeroD, 13))) from ⟨_, _, rfl, .inr ⟨rfl, rfl, fun d' h1 h2 h3 => absurd (hallH.out d' h1 h2 h3).1 (by decide)⟩⟩)
    go_wp2
    skip
    refine bodyPost_ret (v := .tuple #[.agg #[.int .u8 0, .bool false, .int .i64 0, .string ⟨#[]⟩], .int .u16 13]) (by simp [results, Tryd.results22, go_sem, r0_, r1_, r2_, r3_, hz]) rfl ⟨?_, ?_⟩
    · exact houtH.out
    · have hbw := hwWH.out.trans (hb.mono hwWH.out.size)
      clear hb
      go_grown

  | true =>
    obtain ⟨c, hc⟩ : ∃ c, chk ⟨k, b, n, t⟩ = c := ⟨_, rfl⟩
    have hcH := Lib.hid hc
    by_cases hc0 : c = 0
    · obtain ⟨p, hp⟩ : ∃ p, (⟨(printS ⟨k, b, n, t⟩).toArray⟩ : ByteArray) = p := ⟨_, rfl⟩
      have hok : okD ⟨k, b, n, t⟩ = true := by unfold okD; rw [hc, hc0]; rfl
      have hpl : printS ⟨k, b, n, t⟩ = p.data.toList := by rw [← hp]
      have hpH := Lib.hid hp
      clear hp hc
      subst hc0
      by_cases he : p = s
      · subst he
        have houtH := Lib.hid (show OutZ p (.returned (resV (⟨k, b, n, t⟩, 0))) from ⟨_, _, rfl, .inl ⟨hok, hnH.out, hpl.symm, rfl⟩⟩)
        clear hok hpl
        go_wp2_with (first
          | (go_at_call 16; go_must (refine (check_any k b n t _ (by exact hTW.out.below (by go_grown)) htB.out).mono ?_; rw [hcH.out]; rintro e w' ⟨rfl, hb'⟩; have hA := Lib.hid ((Has.new w1 (.int .u8 k) (.bool b) (.int .i64 n) (.string t)).below hb'); obtain ⟨a0_, a1_, a2_, a3_⟩ := hA.out.cells; replace hb := chainB (B := W0.heap.size) (a := W0) (by go_grown) hb' (by have := hb.size; first | omega | (simp; done) | (simp; omega)); clear hb' r0_ r1_ r2_ r3_ f0_ f1_ f2_ f3_ hz hs_; obtain ⟨r0_, r1_, r2_, r3_⟩ := (hRH.out.below hb).cells; obtain ⟨f0_, f1_, f2_, f3_⟩ := (hRH.out.below hb).free; have hz := Nat.lt_of_lt_of_le hz0.out hb.size; have hs_ := hb.size))
          | (go_at_call 20; go_must (refine (print_any k b n t _ (by exact hTW.out.below (by go_grown)) htB.out hnH.out).mono ?_; rw [hpH.out]; rintro e w' ⟨rfl, hb'⟩; have hA2 := hA.out.below hb'; obtain ⟨a0_, a1_, a2_, a3_⟩ := hA2.cells; replace hb := chainB (B := W0.heap.size) (a := W0) (by go_grown) hb' (by have := hb.size; first | omega | (simp; done) | (simp; omega)); clear hb' r0_ r1_ r2_ r3_ f0_ f1_ f2_ f3_ hz hs_; obtain ⟨r0_, r1_, r2_, r3_⟩ := (hRH.out.below hb).cells; obtain ⟨f0_, f1_, f2_, f3_⟩ := (hRH.out.below hb).free; have hz := Nat.lt_of_lt_of_le hz0.out hb.size; have hs_ := hb.size)))
        refine bodyPost_ret (v := .tuple #[.agg #[.int .u8 k, .bool b, .int .i64 n, .string t], .int .u16 0]) (by simp [results, Tryd.results22, go_sem, r0_, r1_, r2_, r3_, hz]) rfl ⟨?_, ?_⟩
        · exact houtH.out
        · have hbw := hwWH.out.trans (hb.mono hwWH.out.size)
          clear hb
          go_grown

      · have hne := Lib.hid he
        have heB : (p.toList == s.toList) = false := by
          rw [beq_eq_false_iff_ne, ByteArray.toList_eq, ByteArray.toList_eq]
          exact fun h => he (bytes_ext h)
        have houtH := Lib.hid (show OutZ s (.returned (resV (zeroD, 13))) from ⟨_, _, rfl, .inr ⟨rfl, rfl, fun d' h1 h2 h3 => he (bytes_ext (by rw [← hpl, h3, ← (hallH.out d' h1 h2 h3).2]))⟩⟩)
        clear hok hpl he
        go_wp2_with (first
          | (go_at_call 16; go_must (refine (check_any k b n t _ (by exact hTW.out.below (by go_grown)) htB.out).mono ?_; rw [hcH.out]; rintro e w' ⟨rfl, hb'⟩; have hA := Lib.hid ((Has.new w1 (.int .u8 k) (.bool b) (.int .i64 n) (.string t)).below hb'); obtain ⟨a0_, a1_, a2_, a3_⟩ := hA.out.cells; replace hb := chainB (B := W0.heap.size) (a := W0) (by go_grown) hb' (by have := hb.size; first | omega | (simp; done) | (simp; omega)); clear hb' r0_ r1_ r2_ r3_ f0_ f1_ f2_ f3_ hz hs_; obtain ⟨r0_, r1_, r2_, r3_⟩ := (hRH.out.below hb).cells; obtain ⟨f0_, f1_, f2_, f3_⟩ := (hRH.out.below hb).free; have hz := Nat.lt_of_lt_of_le hz0.out hb.size; have hs_ := hb.size))
          | (go_at_call 20; go_must (refine (print_any k b n t _ (by exact hTW.out.below (by go_grown)) htB.out hnH.out).mono ?_; rw [hpH.out]; rintro e w' ⟨rfl, hb'⟩; have hA2 := hA.out.below hb'; obtain ⟨a0_, a1_, a2_, a3_⟩ := hA2.cells; replace hb := chainB (B := W0.heap.size) (a := W0) (by go_grown) hb' (by have := hb.size; first | omega | (simp; done) | (simp; omega)); clear hb' r0_ r1_ r2_ r3_ f0_ f1_ f2_ f3_ hz hs_; obtain ⟨r0_, r1_, r2_, r3_⟩ := (hRH.out.below hb).cells; obtain ⟨f0_, f1_, f2_, f3_⟩ := (hRH.out.below hb).free; have hz := Nat.lt_of_lt_of_le hz0.out hb.size; have hs_ := hb.size)))

        refine bodyPost_ret (v := .tuple #[.agg #[.int .u8 0, .bool false, .int .i64 0, .string ⟨#[]⟩], .int .u16 13]) (by simp [results, Tryd.results22, go_sem, r0_, r1_, r2_, r3_, hz]) rfl ⟨?_, ?_⟩
        · exact houtH.out
        · have hbw := hwWH.out.trans (hb.mono hwWH.out.size)
          clear hb
          go_grown

    · have houtH := Lib.hid (show OutZ s (.returned (resV (zeroD, 13))) from ⟨_, _, rfl, .inr ⟨rfl, rfl, fun d' h1 h2 h3 => by
        have hd := (hallH.out d' h1 h2 h3).2
        rw [← hd] at h1
        unfold okD at h1
        rw [hc] at h1
        exact hc0 (of_decide_eq_true h1)⟩⟩)
      have hc2 : (c != 0) = true := by simpa using hc0
      clear hc hc0
      go_wp2_with (first
        | (go_at_call 16; go_must (refine (check_any k b n t _ (by exact hTW.out.below (by go_grown)) htB.out).mono ?_; rw [hcH.out]; rintro e w' ⟨rfl, hb'⟩; have hA := Lib.hid ((Has.new w1 (.int .u8 k) (.bool b) (.int .i64 n) (.string t)).below hb'); obtain ⟨a0_, a1_, a2_, a3_⟩ := hA.out.cells; replace hb := chainB (B := W0.heap.size) (a := W0) (by go_grown) hb' (by have := hb.size; first | omega | (simp; done) | (simp; omega)); clear hb' r0_ r1_ r2_ r3_ f0_ f1_ f2_ f3_ hz hs_; obtain ⟨r0_, r1_, r2_, r3_⟩ := (hRH.out.below hb).cells; obtain ⟨f0_, f1_, f2_, f3_⟩ := (hRH.out.below hb).free; have hz := Nat.lt_of_lt_of_le hz0.out hb.size; have hs_ := hb.size))
        | (go_at_call 20; go_must (refine (print_any k b n t _ (by exact hTW.out.below (by go_grown)) htB.out hnH.out).mono ?_; rw [hpH.out]; rintro e w' ⟨rfl, hb'⟩; have hA2 := hA.out.below hb'; obtain ⟨a0_, a1_, a2_, a3_⟩ := hA2.cells; replace hb := chainB (B := W0.heap.size) (a := W0) (by go_grown) hb' (by have := hb.size; first | omega | (simp; done) | (simp; omega)); clear hb' r0_ r1_ r2_ r3_ f0_ f1_ f2_ f3_ hz hs_; obtain ⟨r0_, r1_, r2_, r3_⟩ := (hRH.out.below hb).cells; obtain ⟨f0_, f1_, f2_, f3_⟩ := (hRH.out.below hb).free; have hz := Nat.lt_of_lt_of_le hz0.out hb.size; have hs_ := hb.size)))
      refine bodyPost_ret (v := .tuple #[.agg #[.int .u8 0, .bool false, .int .i64 0, .string ⟨#[]⟩], .int .u16 13]) (by simp [results, Tryd.results22, go_sem, r0_, r1_, r2_, r3_, hz]) rfl ⟨?_, ?_⟩
      · exact houtH.out
      · have hbw := hwWH.out.trans (hb.mono hwWH.out.size)
        clear hb
        go_grown

end Go.Proofs.YtlodohgoondkhaaDoor
