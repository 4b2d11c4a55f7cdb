/-
  Texts that belong together: RefParse1. What each one says stands ahead of it.
-/
import Derived.Test.YtpmfbmigdpmloaaGreatDoorRefParse0Pk
import Derived.Deep.RegionHeld3
/-
  What the document's own Parse answers, at this program: the datum that may be and is written so, if there is one: of one byte; of at most 20, between which the first one is a quote and the last one is none. Condition: those.
-/
set_option linter.unusedVariables false
set_option linter.unusedSimpArgs false
namespace Go.Proofs.YtpmfbmigdpmloaaGreatDoor
open Go.RowKit Go.Lib

/-- What the rounds over the digits hold. -/
def RelN (s : ByteArray) (w : World) (n i : Value) (wr : World) : Prop :=
  ∃ (p : Nat) (z : Int), i = .int .i64 (p : Int) ∧ n = .int .u64 z ∧ 0 ≤ z ∧ z < 18446744073709551616 ∧ p ≤ s.size ∧ InvD s p z ∧ (p = 0 → z = 0) ∧ Cur w wr (.int .u8 0) (.bool false) (.int .i64 0) (.string ⟨#[]⟩)
theorem relN_step {s : ByteArray} {w wr : World} {p c : Nat} {z : Int} (hz : 0 ≤ z) (hp : p < s.size) (hc : 1 ≤ p ∨ (s.get! p).toNat ≠ 45) (h : (s.get! p).toNat = c) (h1 : 48 ≤ c) (hi : InvD s p z) (hC : Cur w wr (.int .u8 0) (.bool false) (.int .i64 0) (.string ⟨#[]⟩)) : RelN s w (.int .u64 (IntKind.u64.wrap (IntKind.u64.wrap (10 * z) + ((c : Int) - 48)))) (.int .i64 ((p : Int) + 1)) wr := by
  subst h
  refine ⟨p + 1, _, by rw [show ((p + 1 : Nat) : Int) = (p : Int) + 1 by omega], rfl, ?_, ?_, hp, invD_step hz hp hc h1 hi ?_, fun h => absurd h (by omega), hC⟩
  · rw [IntKind.wrap_u64]; omega
  · rw [IntKind.wrap_u64]; omega
  · intro hlt
    have := (s.get! p).toNat_lt
    rw [IntKind.wrap_u64, IntKind.wrap_u64]; omega
theorem relN_minus {s : ByteArray} {w wr : World} (hp : 0 < s.size) (hc : (s.get! 0).toNat = 45) (hC : Cur w wr (.int .u8 0) (.bool false) (.int .i64 0) (.string ⟨#[]⟩)) : RelN s w (.int .u64 0) (.int .i64 1) wr :=
  ⟨1, 0, rfl, rfl, by omega, by omega, hp, invD_minus hp hc, fun h => absurd h (by omega), hC⟩
set_option maxHeartbeats 8000000 in
set_option maxRecDepth 1000000 in
theorem refParse_D1 (s : ByteArray) (w : World) (h1 : s.size = 1) (n1 : (s.toList == [110, 117, 108, 108]) = false) (n2 : (s.toList == [116, 114, 117, 101]) = false) (n3 : (s.toList == [102, 97, 108, 115, 101]) = false) :
    Calls Tryz.prog 45 #[.string s] w fun e w' => OutY s e ∧ Below w.heap.size w w' := by
  have n1H := Lib.hid n1; have n2H := Lib.hid n2; have n3H := Lib.hid n3
  have hqn := Lib.hid (not_quoted (s := s) (.inl (by omega)))
  have hsz := Lib.hid (show 0 < s.size by omega)
  have hx0 := fun w' => idx_run s 0 0 rfl hsz.out w'
  obtain ⟨c0, hc0_⟩ : ∃ c0, bt s (0) = c0 := ⟨_, rfl⟩
  rw [hc0_] at hx0
  have hc0_H := Lib.hid (show (s.get! (0)).toNat = c0 from hc0_)
  clear hc0_
  have hC := Lib.hid (Cur.start w)
  obtain ⟨r0_, r1_, r2_, r3_⟩ := hC.out.1.cells; obtain ⟨f0_, f1_, f2_, f3_⟩ := hC.out.1.free; obtain ⟨a0_, a1_, a2_, a3_⟩ := hC.out.2.1.cells; obtain ⟨g0_, g1_, g2_, g3_⟩ := hC.out.2.1.free; have hz_ := hC.out.1.lt; have hy_ := hC.out.2.1.lt
  go_enter Tryz.func45, Tryz.ntmps45
  go_wp2_with fail
  go_loopw [7, 8] (fun n i wr => RelN s w n i wr) (fun _ i _ => s.size - (Go.RowKit.intOf i).toNat)
  case atStart => exact ⟨0, 0, rfl, rfl, by omega, by omega, Nat.zero_le _, invD_start s, fun _ => rfl, hC.out⟩
  case round =>
    unfold RelN at hrel
    obtain ⟨p, z, rfl, rfl, hz0, hz1, hp, hi, hpz, hcur⟩ := hrel
    replace hC := Lib.hid hcur
    have hiH := Lib.hid hi
    clear hcur hi
    clear r0_ r1_ r2_ r3_ f0_ f1_ f2_ f3_ a0_ a1_ a2_ a3_ g0_ g1_ g2_ g3_ hz_ hy_
    obtain ⟨r0_, r1_, r2_, r3_⟩ := hC.out.1.cells; obtain ⟨f0_, f1_, f2_, f3_⟩ := hC.out.1.free; obtain ⟨a0_, a1_, a2_, a3_⟩ := hC.out.2.1.cells; obtain ⟨g0_, g1_, g2_, g3_⟩ := hC.out.2.1.free; have hz_ := hC.out.1.lt; have hy_ := hC.out.2.1.lt
    by_cases hlt : p < s.size
    · have hltH := Lib.hid hlt
      have hxp := fun w' => idx_run s p (p : Int) rfl hlt w'
      obtain ⟨c, hc⟩ : ∃ c, bt s p = c := ⟨_, rfl⟩
      have hc256 : c < 256 := by rw [← hc]; exact bt_lt s p
      rw [hc] at hxp
      have hcH := Lib.hid (show (s.get! p).toNat = c from hc)
      clear hc
      by_cases p0 : p = 0
      · have hcc : c0 = c := by rw [← hc0_H.out, ← hcH.out, p0]
        have e0 : ((p : Int) == 0) = true := by simp; omega
        have hz00 := Lib.hid (hpz p0)
        have p0H := Lib.hid p0
        have hccH := Lib.hid hcc
        clear hpz p0 hcc
        by_cases c45 : c0 = 45
        · have d45 : ((c0 : Int) == 45) = true := by simp; omega
          have hR : RelN s w (.int .u64 z) (.int .i64 ((p : Int) + 1)) wr := by
            rw [hz00.out, p0H.out]
            exact relN_minus hsz.out (by rw [hc0_H.out]; exact c45) hC.out
          go_wp2_with fail
          go_roundw
          case rel => exact hR
          case measure => simp [Go.RowKit.intOf]; omega
        · have d45 : ((c0 : Int) == 45) = false := by simp; omega
          by_cases q1 : 48 ≤ c
          · by_cases q2 : c ≤ 57
            · have hR := relN_step hz0 hltH.out (by rw [hcH.out, ← hccH.out]; omega) hcH.out q1 hiH.out hC.out
              have w8 : IntKind.u8.wrap ((c : Int) - 48) = (c : Int) - 48 := by rw [IntKind.wrap_u8]; omega
              have w64 : IntKind.u64.wrap ((c : Int) - 48) = (c : Int) - 48 := by rw [IntKind.wrap_u64]; omega
              go_wp2_with fail
              go_roundw
              case rel => exact hR
              case measure => simp [Go.RowKit.intOf]; omega
            · have houtH := Lib.hid (no_digit hltH.out hqn.out n1H.out n2H.out n3H.out (by rw [hcH.out, ← hccH.out]; omega) (by rw [hcH.out]; omega))
              go_wp2_with fail
              refine bodyPost_ret (v := .tuple #[.agg #[.int .u8 0, .bool false, .int .i64 0, .string ⟨#[]⟩], .int .i64 13]) (by simp [results, Tryz.results45, go_sem, r0_, r1_, r2_, r3_, a0_, a1_, a2_, a3_, hz_, hy_]) rfl ⟨?_, ?_⟩
              · exact houtH.out
              · have hbw := hC.out.2.2
                clear hC
                go_grown
          · have houtH := Lib.hid (no_digit hltH.out hqn.out n1H.out n2H.out n3H.out (by rw [hcH.out, ← hccH.out]; omega) (by rw [hcH.out]; omega))
            go_wp2_with fail
            refine bodyPost_ret (v := .tuple #[.agg #[.int .u8 0, .bool false, .int .i64 0, .string ⟨#[]⟩], .int .i64 13]) (by simp [results, Tryz.results45, go_sem, r0_, r1_, r2_, r3_, a0_, a1_, a2_, a3_, hz_, hy_]) rfl ⟨?_, ?_⟩
            · exact houtH.out
            · have hbw := hC.out.2.2
              clear hC
              go_grown
      · exfalso; omega
    · obtain ⟨y, hy⟩ : ∃ y, IntKind.i64.wrap z = y := ⟨_, rfl⟩
      obtain ⟨y2, hy2⟩ : ∃ y2, IntKind.i64.wrap (-y) = y2 := ⟨_, rfl⟩
      have htB := Lib.hid (show (⟨#[]⟩ : ByteArray).size ≤ 140737488355328 by decide)
      by_cases c45 : c0 = 45
      · have d45 : ((c0 : Int) == 45) = true := by simp; omega
        have hnH := Lib.hid (show I64 y2 by rw [← hy2]; exact wrap_I64 _)
        have hallH := Lib.hid (show ∀ d', okD d' = true → I64 d'.n → s.data.toList = printS d' → (⟨3, false, y2, ⟨#[]⟩⟩ : Dat) = d' from fun d' h1 h2 h3 => by
          obtain ⟨v, hv, e⟩ := plain_any h1 h3 hqn.out n1H.out n2H.out n3H.out
          rw [hv] at h2
          have := neg_val hz0 (by omega) hsz.out hiH.out (by rw [hc0_H.out]; exact c45) h2 e
          rw [hv, ← hy2, ← hy, this]; rfl)
        go_wp2_with (go_at_call 37; go_must (first | (refine (refInt_any y _).mono ?_; rintro e w' ⟨rfl, hb'⟩; replace hC := Lib.hid ((hC.out).below hb'); clear hb'; clear r0_ r1_ r2_ r3_ f0_ f1_ f2_ f3_ a0_ a1_ a2_ a3_ g0_ g1_ g2_ g3_ hz_ hy_; obtain ⟨r0_, r1_, r2_, r3_⟩ := hC.out.1.cells; obtain ⟨f0_, f1_, f2_, f3_⟩ := hC.out.1.free; obtain ⟨a0_, a1_, a2_, a3_⟩ := hC.out.2.1.cells; obtain ⟨g0_, g1_, g2_, g3_⟩ := hC.out.2.1.free; have hz_ := hC.out.1.lt; have hy_ := hC.out.2.1.lt) | (refine (refInt_any y2 _).mono ?_; rintro e w' ⟨rfl, hb'⟩; replace hC := Lib.hid ((hC.out.set (.int .u8 3) (.bool false) (.int .i64 y) (.string ⟨#[]⟩)).below hb'); clear hb'; clear r0_ r1_ r2_ r3_ f0_ f1_ f2_ f3_ a0_ a1_ a2_ a3_ g0_ g1_ g2_ g3_ hz_ hy_; obtain ⟨r0_, r1_, r2_, r3_⟩ := hC.out.1.cells; obtain ⟨f0_, f1_, f2_, f3_⟩ := hC.out.1.free; obtain ⟨a0_, a1_, a2_, a3_⟩ := hC.out.2.1.cells; obtain ⟨g0_, g1_, g2_, g3_⟩ := hC.out.2.1.free; have hz_ := hC.out.1.lt; have hy_ := hC.out.2.1.lt)))
        obtain ⟨c, hc⟩ : ∃ c, chk ⟨3, false, y2, ⟨#[]⟩⟩ = c := ⟨_, rfl⟩
        have hcH := Lib.hid hc
        by_cases hc0 : c = 0
        · obtain ⟨p, hp⟩ : ∃ p, (⟨(printS ⟨3, false, y2, ⟨#[]⟩⟩).toArray⟩ : ByteArray) = p := ⟨_, rfl⟩
          have hok : okD ⟨3, false, y2, ⟨#[]⟩⟩ = true := by unfold okD; rw [hc, hc0]; rfl
          have hpl : printS ⟨3, false, y2, ⟨#[]⟩⟩ = p.data.toList := by rw [← hp]
          have hpH := Lib.hid hp
          clear hp hc
          subst hc0
          by_cases he : p.data.toList = s.data.toList
          · have heB : (p.toList == s.toList) = true := by
              rw [beq_iff_eq, ByteArray.toList_eq, ByteArray.toList_eq]; exact he
            have hps : p = s := bytes_ext he
            have houtH := Lib.hid (show OutY s (.returned (refV (⟨3, false, y2, ⟨#[]⟩⟩, 0))) from ⟨_, _, rfl, .inl ⟨hok, hnH.out, by rw [← he, hpl], rfl⟩⟩)
            clear hok hpl he hps
            go_wp2_with (first
              | (go_at_call 36; go_must (refine (refCheck_any 3 false y2 ⟨#[]⟩ _ htB.out).mono ?_; rw [hcH.out]; rintro e w' ⟨rfl, hb'⟩; replace hC := Lib.hid ((hC.out.set (.int .u8 3) (.bool false) (.int .i64 y2) (.string ⟨#[]⟩)).below hb'); clear hb'; clear r0_ r1_ r2_ r3_ f0_ f1_ f2_ f3_ a0_ a1_ a2_ a3_ g0_ g1_ g2_ g3_ hz_ hy_; obtain ⟨r0_, r1_, r2_, r3_⟩ := hC.out.1.cells; obtain ⟨f0_, f1_, f2_, f3_⟩ := hC.out.1.free; obtain ⟨a0_, a1_, a2_, a3_⟩ := hC.out.2.1.cells; obtain ⟨g0_, g1_, g2_, g3_⟩ := hC.out.2.1.free; have hz_ := hC.out.1.lt; have hy_ := hC.out.2.1.lt))
              | (go_at_call 34; go_must (refine (refPrint_any 3 false y2 ⟨#[]⟩ _ htB.out hnH.out).mono ?_; rw [hpH.out]; rintro e w' ⟨rfl, hb'⟩; replace hC := Lib.hid ((hC.out).below hb'); clear hb'; clear r0_ r1_ r2_ r3_ f0_ f1_ f2_ f3_ a0_ a1_ a2_ a3_ g0_ g1_ g2_ g3_ hz_ hy_; obtain ⟨r0_, r1_, r2_, r3_⟩ := hC.out.1.cells; obtain ⟨f0_, f1_, f2_, f3_⟩ := hC.out.1.free; obtain ⟨a0_, a1_, a2_, a3_⟩ := hC.out.2.1.cells; obtain ⟨g0_, g1_, g2_, g3_⟩ := hC.out.2.1.free; have hz_ := hC.out.1.lt; have hy_ := hC.out.2.1.lt)))
            refine bodyPost_ret (v := .tuple #[.agg #[.int .u8 3, .bool false, .int .i64 y2, .string ⟨#[]⟩], .int .i64 0]) (by simp [results, Tryz.results45, go_sem, r0_, r1_, r2_, r3_, a0_, a1_, a2_, a3_, hz_, hy_]) rfl ⟨?_, ?_⟩
            · exact houtH.out
            · have hbw := hC.out.2.2
              clear hC
              go_grown
          · have heB : (p.toList == s.toList) = false := by
              rw [beq_eq_false_iff_ne, ByteArray.toList_eq, ByteArray.toList_eq]; exact he
            have houtH := Lib.hid (show OutY s (.returned (refV (zeroD, 13))) from outY_bad fun d' h1 h2 h3 => he (by rw [← hpl, h3, ← hallH.out d' h1 h2 h3]))
            clear hok hpl he
            go_wp2_with (first
              | (go_at_call 36; go_must (refine (refCheck_any 3 false y2 ⟨#[]⟩ _ htB.out).mono ?_; rw [hcH.out]; rintro e w' ⟨rfl, hb'⟩; replace hC := Lib.hid ((hC.out.set (.int .u8 3) (.bool false) (.int .i64 y2) (.string ⟨#[]⟩)).below hb'); clear hb'; clear r0_ r1_ r2_ r3_ f0_ f1_ f2_ f3_ a0_ a1_ a2_ a3_ g0_ g1_ g2_ g3_ hz_ hy_; obtain ⟨r0_, r1_, r2_, r3_⟩ := hC.out.1.cells; obtain ⟨f0_, f1_, f2_, f3_⟩ := hC.out.1.free; obtain ⟨a0_, a1_, a2_, a3_⟩ := hC.out.2.1.cells; obtain ⟨g0_, g1_, g2_, g3_⟩ := hC.out.2.1.free; have hz_ := hC.out.1.lt; have hy_ := hC.out.2.1.lt))
              | (go_at_call 34; go_must (refine (refPrint_any 3 false y2 ⟨#[]⟩ _ htB.out hnH.out).mono ?_; rw [hpH.out]; rintro e w' ⟨rfl, hb'⟩; replace hC := Lib.hid ((hC.out).below hb'); clear hb'; clear r0_ r1_ r2_ r3_ f0_ f1_ f2_ f3_ a0_ a1_ a2_ a3_ g0_ g1_ g2_ g3_ hz_ hy_; obtain ⟨r0_, r1_, r2_, r3_⟩ := hC.out.1.cells; obtain ⟨f0_, f1_, f2_, f3_⟩ := hC.out.1.free; obtain ⟨a0_, a1_, a2_, a3_⟩ := hC.out.2.1.cells; obtain ⟨g0_, g1_, g2_, g3_⟩ := hC.out.2.1.free; have hz_ := hC.out.1.lt; have hy_ := hC.out.2.1.lt)))
            refine bodyPost_ret (v := .tuple #[.agg #[.int .u8 0, .bool false, .int .i64 0, .string ⟨#[]⟩], .int .i64 13]) (by simp [results, Tryz.results45, go_sem, r0_, r1_, r2_, r3_, a0_, a1_, a2_, a3_, hz_, hy_]) rfl ⟨?_, ?_⟩
            · exact houtH.out
            · have hbw := hC.out.2.2
              clear hC
              go_grown
        · have houtH := Lib.hid (show OutY s (.returned (refV (zeroD, 13))) from outY_bad fun d' h1 h2 h3 => by
            have hd := hallH.out d' h1 h2 h3
            rw [← hd] at h1
            unfold okD at h1
            rw [hc] at h1
            exact hc0 (of_decide_eq_true h1))
          have hc2 : (c != 0) = true := by simpa using hc0
          clear hc hc0
          go_wp2_with (first
            | (go_at_call 36; go_must (refine (refCheck_any 3 false y2 ⟨#[]⟩ _ htB.out).mono ?_; rw [hcH.out]; rintro e w' ⟨rfl, hb'⟩; replace hC := Lib.hid ((hC.out.set (.int .u8 3) (.bool false) (.int .i64 y2) (.string ⟨#[]⟩)).below hb'); clear hb'; clear r0_ r1_ r2_ r3_ f0_ f1_ f2_ f3_ a0_ a1_ a2_ a3_ g0_ g1_ g2_ g3_ hz_ hy_; obtain ⟨r0_, r1_, r2_, r3_⟩ := hC.out.1.cells; obtain ⟨f0_, f1_, f2_, f3_⟩ := hC.out.1.free; obtain ⟨a0_, a1_, a2_, a3_⟩ := hC.out.2.1.cells; obtain ⟨g0_, g1_, g2_, g3_⟩ := hC.out.2.1.free; have hz_ := hC.out.1.lt; have hy_ := hC.out.2.1.lt))
            | (go_at_call 34; go_must (refine (refPrint_any 3 false y2 ⟨#[]⟩ _ htB.out hnH.out).mono ?_; rw [hpH.out]; rintro e w' ⟨rfl, hb'⟩; replace hC := Lib.hid ((hC.out).below hb'); clear hb'; clear r0_ r1_ r2_ r3_ f0_ f1_ f2_ f3_ a0_ a1_ a2_ a3_ g0_ g1_ g2_ g3_ hz_ hy_; obtain ⟨r0_, r1_, r2_, r3_⟩ := hC.out.1.cells; obtain ⟨f0_, f1_, f2_, f3_⟩ := hC.out.1.free; obtain ⟨a0_, a1_, a2_, a3_⟩ := hC.out.2.1.cells; obtain ⟨g0_, g1_, g2_, g3_⟩ := hC.out.2.1.free; have hz_ := hC.out.1.lt; have hy_ := hC.out.2.1.lt)))
          refine bodyPost_ret (v := .tuple #[.agg #[.int .u8 0, .bool false, .int .i64 0, .string ⟨#[]⟩], .int .i64 13]) (by simp [results, Tryz.results45, go_sem, r0_, r1_, r2_, r3_, a0_, a1_, a2_, a3_, hz_, hy_]) rfl ⟨?_, ?_⟩
          · exact houtH.out
          · have hbw := hC.out.2.2
            clear hC
            go_grown
      · have d45 : ((c0 : Int) == 45) = false := by simp; omega
        have hnH := Lib.hid (show I64 y by rw [← hy]; exact wrap_I64 _)
        have hallH := Lib.hid (show ∀ d', okD d' = true → I64 d'.n → s.data.toList = printS d' → (⟨3, false, y, ⟨#[]⟩⟩ : Dat) = d' from fun d' h1 h2 h3 => by
          obtain ⟨v, hv, e⟩ := plain_any h1 h3 hqn.out n1H.out n2H.out n3H.out
          rw [hv] at h2
          have := pos_val hz0 (by omega) hsz.out hiH.out (by rw [hc0_H.out]; exact c45) h2 e
          rw [hv, ← hy, this]; rfl)
        go_wp2_with (go_at_call 37; go_must (first | (refine (refInt_any y _).mono ?_; rintro e w' ⟨rfl, hb'⟩; replace hC := Lib.hid ((hC.out).below hb'); clear hb'; clear r0_ r1_ r2_ r3_ f0_ f1_ f2_ f3_ a0_ a1_ a2_ a3_ g0_ g1_ g2_ g3_ hz_ hy_; obtain ⟨r0_, r1_, r2_, r3_⟩ := hC.out.1.cells; obtain ⟨f0_, f1_, f2_, f3_⟩ := hC.out.1.free; obtain ⟨a0_, a1_, a2_, a3_⟩ := hC.out.2.1.cells; obtain ⟨g0_, g1_, g2_, g3_⟩ := hC.out.2.1.free; have hz_ := hC.out.1.lt; have hy_ := hC.out.2.1.lt)))
        obtain ⟨c, hc⟩ : ∃ c, chk ⟨3, false, y, ⟨#[]⟩⟩ = c := ⟨_, rfl⟩
        have hcH := Lib.hid hc
        by_cases hc0 : c = 0
        · obtain ⟨p, hp⟩ : ∃ p, (⟨(printS ⟨3, false, y, ⟨#[]⟩⟩).toArray⟩ : ByteArray) = p := ⟨_, rfl⟩
          have hok : okD ⟨3, false, y, ⟨#[]⟩⟩ = true := by unfold okD; rw [hc, hc0]; rfl
          have hpl : printS ⟨3, false, y, ⟨#[]⟩⟩ = p.data.toList := by rw [← hp]
          have hpH := Lib.hid hp
          clear hp hc
          subst hc0
          by_cases he : p.data.toList = s.data.toList
          · have heB : (p.toList == s.toList) = true := by
              rw [beq_iff_eq, ByteArray.toList_eq, ByteArray.toList_eq]; exact he
            have hps : p = s := bytes_ext he
            have houtH := Lib.hid (show OutY s (.returned (refV (⟨3, false, y, ⟨#[]⟩⟩, 0))) from ⟨_, _, rfl, .inl ⟨hok, hnH.out, by rw [← he, hpl], rfl⟩⟩)
            clear hok hpl he hps
            go_wp2_with (first
              | (go_at_call 36; go_must (refine (refCheck_any 3 false y ⟨#[]⟩ _ htB.out).mono ?_; rw [hcH.out]; rintro e w' ⟨rfl, hb'⟩; replace hC := Lib.hid ((hC.out.set (.int .u8 3) (.bool false) (.int .i64 y) (.string ⟨#[]⟩)).below hb'); clear hb'; clear r0_ r1_ r2_ r3_ f0_ f1_ f2_ f3_ a0_ a1_ a2_ a3_ g0_ g1_ g2_ g3_ hz_ hy_; obtain ⟨r0_, r1_, r2_, r3_⟩ := hC.out.1.cells; obtain ⟨f0_, f1_, f2_, f3_⟩ := hC.out.1.free; obtain ⟨a0_, a1_, a2_, a3_⟩ := hC.out.2.1.cells; obtain ⟨g0_, g1_, g2_, g3_⟩ := hC.out.2.1.free; have hz_ := hC.out.1.lt; have hy_ := hC.out.2.1.lt))
              | (go_at_call 34; go_must (refine (refPrint_any 3 false y ⟨#[]⟩ _ htB.out hnH.out).mono ?_; rw [hpH.out]; rintro e w' ⟨rfl, hb'⟩; replace hC := Lib.hid ((hC.out).below hb'); clear hb'; clear r0_ r1_ r2_ r3_ f0_ f1_ f2_ f3_ a0_ a1_ a2_ a3_ g0_ g1_ g2_ g3_ hz_ hy_; obtain ⟨r0_, r1_, r2_, r3_⟩ := hC.out.1.cells; obtain ⟨f0_, f1_, f2_, f3_⟩ := hC.out.1.free; obtain ⟨a0_, a1_, a2_, a3_⟩ := hC.out.2.1.cells; obtain ⟨g0_, g1_, g2_, g3_⟩ := hC.out.2.1.free; have hz_ := hC.out.1.lt; have hy_ := hC.out.2.1.lt)))
            refine bodyPost_ret (v := .tuple #[.agg #[.int .u8 3, .bool false, .int .i64 y, .string ⟨#[]⟩], .int .i64 0]) (by simp [results, Tryz.results45, go_sem, r0_, r1_, r2_, r3_, a0_, a1_, a2_, a3_, hz_, hy_]) rfl ⟨?_, ?_⟩
            · exact houtH.out
            · have hbw := hC.out.2.2
              clear hC
              go_grown
          · have heB : (p.toList == s.toList) = false := by
              rw [beq_eq_false_iff_ne, ByteArray.toList_eq, ByteArray.toList_eq]; exact he
            have houtH := Lib.hid (show OutY s (.returned (refV (zeroD, 13))) from outY_bad fun d' h1 h2 h3 => he (by rw [← hpl, h3, ← hallH.out d' h1 h2 h3]))
            clear hok hpl he
            go_wp2_with (first
              | (go_at_call 36; go_must (refine (refCheck_any 3 false y ⟨#[]⟩ _ htB.out).mono ?_; rw [hcH.out]; rintro e w' ⟨rfl, hb'⟩; replace hC := Lib.hid ((hC.out.set (.int .u8 3) (.bool false) (.int .i64 y) (.string ⟨#[]⟩)).below hb'); clear hb'; clear r0_ r1_ r2_ r3_ f0_ f1_ f2_ f3_ a0_ a1_ a2_ a3_ g0_ g1_ g2_ g3_ hz_ hy_; obtain ⟨r0_, r1_, r2_, r3_⟩ := hC.out.1.cells; obtain ⟨f0_, f1_, f2_, f3_⟩ := hC.out.1.free; obtain ⟨a0_, a1_, a2_, a3_⟩ := hC.out.2.1.cells; obtain ⟨g0_, g1_, g2_, g3_⟩ := hC.out.2.1.free; have hz_ := hC.out.1.lt; have hy_ := hC.out.2.1.lt))
              | (go_at_call 34; go_must (refine (refPrint_any 3 false y ⟨#[]⟩ _ htB.out hnH.out).mono ?_; rw [hpH.out]; rintro e w' ⟨rfl, hb'⟩; replace hC := Lib.hid ((hC.out).below hb'); clear hb'; clear r0_ r1_ r2_ r3_ f0_ f1_ f2_ f3_ a0_ a1_ a2_ a3_ g0_ g1_ g2_ g3_ hz_ hy_; obtain ⟨r0_, r1_, r2_, r3_⟩ := hC.out.1.cells; obtain ⟨f0_, f1_, f2_, f3_⟩ := hC.out.1.free; obtain ⟨a0_, a1_, a2_, a3_⟩ := hC.out.2.1.cells; obtain ⟨g0_, g1_, g2_, g3_⟩ := hC.out.2.1.free; have hz_ := hC.out.1.lt; have hy_ := hC.out.2.1.lt)))
            refine bodyPost_ret (v := .tuple #[.agg #[.int .u8 0, .bool false, .int .i64 0, .string ⟨#[]⟩], .int .i64 13]) (by simp [results, Tryz.results45, go_sem, r0_, r1_, r2_, r3_, a0_, a1_, a2_, a3_, hz_, hy_]) rfl ⟨?_, ?_⟩
            · exact houtH.out
            · have hbw := hC.out.2.2
              clear hC
              go_grown
        · have houtH := Lib.hid (show OutY s (.returned (refV (zeroD, 13))) from outY_bad fun d' h1 h2 h3 => by
            have hd := hallH.out d' h1 h2 h3
            rw [← hd] at h1
            unfold okD at h1
            rw [hc] at h1
            exact hc0 (of_decide_eq_true h1))
          have hc2 : (c != 0) = true := by simpa using hc0
          clear hc hc0
          go_wp2_with (first
            | (go_at_call 36; go_must (refine (refCheck_any 3 false y ⟨#[]⟩ _ htB.out).mono ?_; rw [hcH.out]; rintro e w' ⟨rfl, hb'⟩; replace hC := Lib.hid ((hC.out.set (.int .u8 3) (.bool false) (.int .i64 y) (.string ⟨#[]⟩)).below hb'); clear hb'; clear r0_ r1_ r2_ r3_ f0_ f1_ f2_ f3_ a0_ a1_ a2_ a3_ g0_ g1_ g2_ g3_ hz_ hy_; obtain ⟨r0_, r1_, r2_, r3_⟩ := hC.out.1.cells; obtain ⟨f0_, f1_, f2_, f3_⟩ := hC.out.1.free; obtain ⟨a0_, a1_, a2_, a3_⟩ := hC.out.2.1.cells; obtain ⟨g0_, g1_, g2_, g3_⟩ := hC.out.2.1.free; have hz_ := hC.out.1.lt; have hy_ := hC.out.2.1.lt))
            | (go_at_call 34; go_must (refine (refPrint_any 3 false y ⟨#[]⟩ _ htB.out hnH.out).mono ?_; rw [hpH.out]; rintro e w' ⟨rfl, hb'⟩; replace hC := Lib.hid ((hC.out).below hb'); clear hb'; clear r0_ r1_ r2_ r3_ f0_ f1_ f2_ f3_ a0_ a1_ a2_ a3_ g0_ g1_ g2_ g3_ hz_ hy_; obtain ⟨r0_, r1_, r2_, r3_⟩ := hC.out.1.cells; obtain ⟨f0_, f1_, f2_, f3_⟩ := hC.out.1.free; obtain ⟨a0_, a1_, a2_, a3_⟩ := hC.out.2.1.cells; obtain ⟨g0_, g1_, g2_, g3_⟩ := hC.out.2.1.free; have hz_ := hC.out.1.lt; have hy_ := hC.out.2.1.lt)))
          refine bodyPost_ret (v := .tuple #[.agg #[.int .u8 0, .bool false, .int .i64 0, .string ⟨#[]⟩], .int .i64 13]) (by simp [results, Tryz.results45, go_sem, r0_, r1_, r2_, r3_, a0_, a1_, a2_, a3_, hz_, hy_]) rfl ⟨?_, ?_⟩
          · exact houtH.out
          · have hbw := hC.out.2.2
            clear hC
            go_grown
set_option maxHeartbeats 8000000 in
set_option maxRecDepth 1000000 in
theorem refParse_D3 (s : ByteArray) (w : World) (h1 : 2 ≤ s.size) (h2 : s.size ≤ 20) (hq0 : (s.get! 0).toNat = 39) (hq : (s.get! (s.size - 1)).toNat ≠ 39) (n1 : (s.toList == [110, 117, 108, 108]) = false) (n2 : (s.toList == [116, 114, 117, 101]) = false) (n3 : (s.toList == [102, 97, 108, 115, 101]) = false) :
    Calls Tryz.prog 45 #[.string s] w fun e w' => OutY s e ∧ Below w.heap.size w w' := by
  have n1H := Lib.hid n1; have n2H := Lib.hid n2; have n3H := Lib.hid n3
  have hqn := Lib.hid (not_quoted (.inr (.inr hq)))
  have hsz := Lib.hid (show 0 < s.size by omega)
  have hx0 := fun w' => idx_run s 0 0 rfl hsz.out w'
  have hx1 := fun w' => idx_run s (s.size - 1) ((s.size : Int) - 1) (by omega) (by omega) w'
  obtain ⟨cl, hcl_⟩ : ∃ cl, bt s (s.size - 1) = cl := ⟨_, rfl⟩
  rw [hcl_] at hx1
  have hcl_H := Lib.hid (show (s.get! (s.size - 1)).toNat = cl from hcl_)
  clear hcl_
  rw [hcl_H.out] at hq
  have d1 : ((cl : Int) == 39) = false := by simp; omega
  obtain ⟨c0, hc0_⟩ : ∃ c0, bt s (0) = c0 := ⟨_, rfl⟩
  rw [hc0_] at hx0
  have hc0_H := Lib.hid (show (s.get! (0)).toNat = c0 from hc0_)
  clear hc0_
  have d20 : decide ((s.size : Int) ≤ 20) = true := decide_eq_true (by omega)
  rw [hc0_H.out] at hq0
  have d0 : ((c0 : Int) == 39) = true := by simp; omega
  have hC := Lib.hid (Cur.start w)
  obtain ⟨r0_, r1_, r2_, r3_⟩ := hC.out.1.cells; obtain ⟨f0_, f1_, f2_, f3_⟩ := hC.out.1.free; obtain ⟨a0_, a1_, a2_, a3_⟩ := hC.out.2.1.cells; obtain ⟨g0_, g1_, g2_, g3_⟩ := hC.out.2.1.free; have hz_ := hC.out.1.lt; have hy_ := hC.out.2.1.lt
  go_enter Tryz.func45, Tryz.ntmps45
  go_wp2_with fail
  go_loopw [7, 8] (fun n i wr => RelN s w n i wr) (fun _ i _ => s.size - (Go.RowKit.intOf i).toNat)
  case atStart => exact ⟨0, 0, rfl, rfl, by omega, by omega, Nat.zero_le _, invD_start s, fun _ => rfl, hC.out⟩
  case round =>
    unfold RelN at hrel
    obtain ⟨p, z, rfl, rfl, hz0, hz1, hp, hi, hpz, hcur⟩ := hrel
    replace hC := Lib.hid hcur
    have hiH := Lib.hid hi
    clear hcur hi
    clear r0_ r1_ r2_ r3_ f0_ f1_ f2_ f3_ a0_ a1_ a2_ a3_ g0_ g1_ g2_ g3_ hz_ hy_
    obtain ⟨r0_, r1_, r2_, r3_⟩ := hC.out.1.cells; obtain ⟨f0_, f1_, f2_, f3_⟩ := hC.out.1.free; obtain ⟨a0_, a1_, a2_, a3_⟩ := hC.out.2.1.cells; obtain ⟨g0_, g1_, g2_, g3_⟩ := hC.out.2.1.free; have hz_ := hC.out.1.lt; have hy_ := hC.out.2.1.lt
    by_cases hlt : p < s.size
    · have hltH := Lib.hid hlt
      have hxp := fun w' => idx_run s p (p : Int) rfl hlt w'
      obtain ⟨c, hc⟩ : ∃ c, bt s p = c := ⟨_, rfl⟩
      have hc256 : c < 256 := by rw [← hc]; exact bt_lt s p
      rw [hc] at hxp
      have hcH := Lib.hid (show (s.get! p).toNat = c from hc)
      clear hc
      by_cases p0 : p = 0
      · have hcc : c0 = c := by rw [← hc0_H.out, ← hcH.out, p0]
        have e0 : ((p : Int) == 0) = true := by simp; omega
        have hz00 := Lib.hid (hpz p0)
        have p0H := Lib.hid p0
        have hccH := Lib.hid hcc
        clear hpz p0 hcc
        have d45 : ((c0 : Int) == 45) = false := by simp; omega
        by_cases q1 : 48 ≤ c
        · by_cases q2 : c ≤ 57
          · have hR := relN_step hz0 hltH.out (by rw [hcH.out, ← hccH.out]; omega) hcH.out q1 hiH.out hC.out
            have w8 : IntKind.u8.wrap ((c : Int) - 48) = (c : Int) - 48 := by rw [IntKind.wrap_u8]; omega
            have w64 : IntKind.u64.wrap ((c : Int) - 48) = (c : Int) - 48 := by rw [IntKind.wrap_u64]; omega
            go_wp2_with fail
            go_roundw
            case rel => exact hR
            case measure => simp [Go.RowKit.intOf]; omega
          · have houtH := Lib.hid (no_digit hltH.out hqn.out n1H.out n2H.out n3H.out (by rw [hcH.out, ← hccH.out]; omega) (by rw [hcH.out]; omega))
            go_wp2_with fail
            refine bodyPost_ret (v := .tuple #[.agg #[.int .u8 0, .bool false, .int .i64 0, .string ⟨#[]⟩], .int .i64 13]) (by simp [results, Tryz.results45, go_sem, r0_, r1_, r2_, r3_, a0_, a1_, a2_, a3_, hz_, hy_]) rfl ⟨?_, ?_⟩
            · exact houtH.out
            · have hbw := hC.out.2.2
              clear hC
              go_grown
        · have houtH := Lib.hid (no_digit hltH.out hqn.out n1H.out n2H.out n3H.out (by rw [hcH.out, ← hccH.out]; omega) (by rw [hcH.out]; omega))
          go_wp2_with fail
          refine bodyPost_ret (v := .tuple #[.agg #[.int .u8 0, .bool false, .int .i64 0, .string ⟨#[]⟩], .int .i64 13]) (by simp [results, Tryz.results45, go_sem, r0_, r1_, r2_, r3_, a0_, a1_, a2_, a3_, hz_, hy_]) rfl ⟨?_, ?_⟩
          · exact houtH.out
          · have hbw := hC.out.2.2
            clear hC
            go_grown
      · have e0 : ((p : Int) == 0) = false := by simp; omega
        clear hpz
        by_cases q1 : 48 ≤ c
        · by_cases q2 : c ≤ 57
          · have hR := relN_step hz0 hltH.out (by omega) hcH.out q1 hiH.out hC.out
            have w8 : IntKind.u8.wrap ((c : Int) - 48) = (c : Int) - 48 := by rw [IntKind.wrap_u8]; omega
            have w64 : IntKind.u64.wrap ((c : Int) - 48) = (c : Int) - 48 := by rw [IntKind.wrap_u64]; omega
            go_wp2_with fail
            go_roundw
            case rel => exact hR
            case measure => simp [Go.RowKit.intOf]; omega
          · have houtH := Lib.hid (no_digit hltH.out hqn.out n1H.out n2H.out n3H.out (by omega) (by rw [hcH.out]; omega))
            go_wp2_with fail
            refine bodyPost_ret (v := .tuple #[.agg #[.int .u8 0, .bool false, .int .i64 0, .string ⟨#[]⟩], .int .i64 13]) (by simp [results, Tryz.results45, go_sem, r0_, r1_, r2_, r3_, a0_, a1_, a2_, a3_, hz_, hy_]) rfl ⟨?_, ?_⟩
            · exact houtH.out
            · have hbw := hC.out.2.2
              clear hC
              go_grown
        · have houtH := Lib.hid (no_digit hltH.out hqn.out n1H.out n2H.out n3H.out (by omega) (by rw [hcH.out]; omega))
          go_wp2_with fail
          refine bodyPost_ret (v := .tuple #[.agg #[.int .u8 0, .bool false, .int .i64 0, .string ⟨#[]⟩], .int .i64 13]) (by simp [results, Tryz.results45, go_sem, r0_, r1_, r2_, r3_, a0_, a1_, a2_, a3_, hz_, hy_]) rfl ⟨?_, ?_⟩
          · exact houtH.out
          · have hbw := hC.out.2.2
            clear hC
            go_grown
    · obtain ⟨y, hy⟩ : ∃ y, IntKind.i64.wrap z = y := ⟨_, rfl⟩
      obtain ⟨y2, hy2⟩ : ∃ y2, IntKind.i64.wrap (-y) = y2 := ⟨_, rfl⟩
      have htB := Lib.hid (show (⟨#[]⟩ : ByteArray).size ≤ 140737488355328 by decide)
      have c45 : ¬ c0 = 45 := by omega
      have d45 : ((c0 : Int) == 45) = false := by simp; omega
      have hnH := Lib.hid (show I64 y by rw [← hy]; exact wrap_I64 _)
      have hallH := Lib.hid (show ∀ d', okD d' = true → I64 d'.n → s.data.toList = printS d' → (⟨3, false, y, ⟨#[]⟩⟩ : Dat) = d' from fun d' h1 h2 h3 => by
        obtain ⟨v, hv, e⟩ := plain_any h1 h3 hqn.out n1H.out n2H.out n3H.out
        rw [hv] at h2
        have := pos_val hz0 (by omega) hsz.out hiH.out (by rw [hc0_H.out]; exact c45) h2 e
        rw [hv, ← hy, this]; rfl)
      go_wp2_with (go_at_call 37; go_must (first | (refine (refInt_any y _).mono ?_; rintro e w' ⟨rfl, hb'⟩; replace hC := Lib.hid ((hC.out).below hb'); clear hb'; clear r0_ r1_ r2_ r3_ f0_ f1_ f2_ f3_ a0_ a1_ a2_ a3_ g0_ g1_ g2_ g3_ hz_ hy_; obtain ⟨r0_, r1_, r2_, r3_⟩ := hC.out.1.cells; obtain ⟨f0_, f1_, f2_, f3_⟩ := hC.out.1.free; obtain ⟨a0_, a1_, a2_, a3_⟩ := hC.out.2.1.cells; obtain ⟨g0_, g1_, g2_, g3_⟩ := hC.out.2.1.free; have hz_ := hC.out.1.lt; have hy_ := hC.out.2.1.lt)))
      obtain ⟨c, hc⟩ : ∃ c, chk ⟨3, false, y, ⟨#[]⟩⟩ = c := ⟨_, rfl⟩
      have hcH := Lib.hid hc
      by_cases hc0 : c = 0
      · obtain ⟨p, hp⟩ : ∃ p, (⟨(printS ⟨3, false, y, ⟨#[]⟩⟩).toArray⟩ : ByteArray) = p := ⟨_, rfl⟩
        have hok : okD ⟨3, false, y, ⟨#[]⟩⟩ = true := by unfold okD; rw [hc, hc0]; rfl
        have hpl : printS ⟨3, false, y, ⟨#[]⟩⟩ = p.data.toList := by rw [← hp]
        have hpH := Lib.hid hp
        clear hp hc
        subst hc0
        by_cases he : p.data.toList = s.data.toList
        · have heB : (p.toList == s.toList) = true := by
            rw [beq_iff_eq, ByteArray.toList_eq, ByteArray.toList_eq]; exact he
          have hps : p = s := bytes_ext he
          have houtH := Lib.hid (show OutY s (.returned (refV (⟨3, false, y, ⟨#[]⟩⟩, 0))) from ⟨_, _, rfl, .inl ⟨hok, hnH.out, by rw [← he, hpl], rfl⟩⟩)
          clear hok hpl he hps
          go_wp2_with (first
            | (go_at_call 36; go_must (refine (refCheck_any 3 false y ⟨#[]⟩ _ htB.out).mono ?_; rw [hcH.out]; rintro e w' ⟨rfl, hb'⟩; replace hC := Lib.hid ((hC.out.set (.int .u8 3) (.bool false) (.int .i64 y) (.string ⟨#[]⟩)).below hb'); clear hb'; clear r0_ r1_ r2_ r3_ f0_ f1_ f2_ f3_ a0_ a1_ a2_ a3_ g0_ g1_ g2_ g3_ hz_ hy_; obtain ⟨r0_, r1_, r2_, r3_⟩ := hC.out.1.cells; obtain ⟨f0_, f1_, f2_, f3_⟩ := hC.out.1.free; obtain ⟨a0_, a1_, a2_, a3_⟩ := hC.out.2.1.cells; obtain ⟨g0_, g1_, g2_, g3_⟩ := hC.out.2.1.free; have hz_ := hC.out.1.lt; have hy_ := hC.out.2.1.lt))
            | (go_at_call 34; go_must (refine (refPrint_any 3 false y ⟨#[]⟩ _ htB.out hnH.out).mono ?_; rw [hpH.out]; rintro e w' ⟨rfl, hb'⟩; replace hC := Lib.hid ((hC.out).below hb'); clear hb'; clear r0_ r1_ r2_ r3_ f0_ f1_ f2_ f3_ a0_ a1_ a2_ a3_ g0_ g1_ g2_ g3_ hz_ hy_; obtain ⟨r0_, r1_, r2_, r3_⟩ := hC.out.1.cells; obtain ⟨f0_, f1_, f2_, f3_⟩ := hC.out.1.free; obtain ⟨a0_, a1_, a2_, a3_⟩ := hC.out.2.1.cells; obtain ⟨g0_, g1_, g2_, g3_⟩ := hC.out.2.1.free; have hz_ := hC.out.1.lt; have hy_ := hC.out.2.1.lt)))
          refine bodyPost_ret (v := .tuple #[.agg #[.int .u8 3, .bool false, .int .i64 y, .string ⟨#[]⟩], .int .i64 0]) (by simp [results, Tryz.results45, go_sem, r0_, r1_, r2_, r3_, a0_, a1_, a2_, a3_, hz_, hy_]) rfl ⟨?_, ?_⟩
          · exact houtH.out
          · have hbw := hC.out.2.2
            clear hC
            go_grown
        · have heB : (p.toList == s.toList) = false := by
            rw [beq_eq_false_iff_ne, ByteArray.toList_eq, ByteArray.toList_eq]; exact he
          have houtH := Lib.hid (show OutY s (.returned (refV (zeroD, 13))) from outY_bad fun d' h1 h2 h3 => he (by rw [← hpl, h3, ← hallH.out d' h1 h2 h3]))
          clear hok hpl he
          go_wp2_with (first
            | (go_at_call 36; go_must (refine (refCheck_any 3 false y ⟨#[]⟩ _ htB.out).mono ?_; rw [hcH.out]; rintro e w' ⟨rfl, hb'⟩; replace hC := Lib.hid ((hC.out.set (.int .u8 3) (.bool false) (.int .i64 y) (.string ⟨#[]⟩)).below hb'); clear hb'; clear r0_ r1_ r2_ r3_ f0_ f1_ f2_ f3_ a0_ a1_ a2_ a3_ g0_ g1_ g2_ g3_ hz_ hy_; obtain ⟨r0_, r1_, r2_, r3_⟩ := hC.out.1.cells; obtain ⟨f0_, f1_, f2_, f3_⟩ := hC.out.1.free; obtain ⟨a0_, a1_, a2_, a3_⟩ := hC.out.2.1.cells; obtain ⟨g0_, g1_, g2_, g3_⟩ := hC.out.2.1.free; have hz_ := hC.out.1.lt; have hy_ := hC.out.2.1.lt))
            | (go_at_call 34; go_must (refine (refPrint_any 3 false y ⟨#[]⟩ _ htB.out hnH.out).mono ?_; rw [hpH.out]; rintro e w' ⟨rfl, hb'⟩; replace hC := Lib.hid ((hC.out).below hb'); clear hb'; clear r0_ r1_ r2_ r3_ f0_ f1_ f2_ f3_ a0_ a1_ a2_ a3_ g0_ g1_ g2_ g3_ hz_ hy_; obtain ⟨r0_, r1_, r2_, r3_⟩ := hC.out.1.cells; obtain ⟨f0_, f1_, f2_, f3_⟩ := hC.out.1.free; obtain ⟨a0_, a1_, a2_, a3_⟩ := hC.out.2.1.cells; obtain ⟨g0_, g1_, g2_, g3_⟩ := hC.out.2.1.free; have hz_ := hC.out.1.lt; have hy_ := hC.out.2.1.lt)))
          refine bodyPost_ret (v := .tuple #[.agg #[.int .u8 0, .bool false, .int .i64 0, .string ⟨#[]⟩], .int .i64 13]) (by simp [results, Tryz.results45, go_sem, r0_, r1_, r2_, r3_, a0_, a1_, a2_, a3_, hz_, hy_]) rfl ⟨?_, ?_⟩
          · exact houtH.out
          · have hbw := hC.out.2.2
            clear hC
            go_grown
      · have houtH := Lib.hid (show OutY s (.returned (refV (zeroD, 13))) from outY_bad fun d' h1 h2 h3 => by
          have hd := hallH.out d' h1 h2 h3
          rw [← hd] at h1
          unfold okD at h1
          rw [hc] at h1
          exact hc0 (of_decide_eq_true h1))
        have hc2 : (c != 0) = true := by simpa using hc0
        clear hc hc0
        go_wp2_with (first
          | (go_at_call 36; go_must (refine (refCheck_any 3 false y ⟨#[]⟩ _ htB.out).mono ?_; rw [hcH.out]; rintro e w' ⟨rfl, hb'⟩; replace hC := Lib.hid ((hC.out.set (.int .u8 3) (.bool false) (.int .i64 y) (.string ⟨#[]⟩)).below hb'); clear hb'; clear r0_ r1_ r2_ r3_ f0_ f1_ f2_ f3_ a0_ a1_ a2_ a3_ g0_ g1_ g2_ g3_ hz_ hy_; obtain ⟨r0_, r1_, r2_, r3_⟩ := hC.out.1.cells; obtain ⟨f0_, f1_, f2_, f3_⟩ := hC.out.1.free; obtain ⟨a0_, a1_, a2_, a3_⟩ := hC.out.2.1.cells; obtain ⟨g0_, g1_, g2_, g3_⟩ := hC.out.2.1.free; have hz_ := hC.out.1.lt; have hy_ := hC.out.2.1.lt))
          | (go_at_call 34; go_must (refine (refPrint_any 3 false y ⟨#[]⟩ _ htB.out hnH.out).mono ?_; rw [hpH.out]; rintro e w' ⟨rfl, hb'⟩; replace hC := Lib.hid ((hC.out).below hb'); clear hb'; clear r0_ r1_ r2_ r3_ f0_ f1_ f2_ f3_ a0_ a1_ a2_ a3_ g0_ g1_ g2_ g3_ hz_ hy_; obtain ⟨r0_, r1_, r2_, r3_⟩ := hC.out.1.cells; obtain ⟨f0_, f1_, f2_, f3_⟩ := hC.out.1.free; obtain ⟨a0_, a1_, a2_, a3_⟩ := hC.out.2.1.cells; obtain ⟨g0_, g1_, g2_, g3_⟩ := hC.out.2.1.free; have hz_ := hC.out.1.lt; have hy_ := hC.out.2.1.lt)))
        refine bodyPost_ret (v := .tuple #[.agg #[.int .u8 0, .bool false, .int .i64 0, .string ⟨#[]⟩], .int .i64 13]) (by simp [results, Tryz.results45, go_sem, r0_, r1_, r2_, r3_, a0_, a1_, a2_, a3_, hz_, hy_]) rfl ⟨?_, ?_⟩
        · exact houtH.out
        · have hbw := hC.out.2.2
          clear hC
          go_grown
end Go.Proofs.YtpmfbmigdpmloaaGreatDoor
