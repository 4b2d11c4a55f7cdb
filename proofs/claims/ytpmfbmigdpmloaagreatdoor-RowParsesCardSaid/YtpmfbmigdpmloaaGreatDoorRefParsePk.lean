/-
  Texts that belong together: RefParse. What each one says stands ahead of it.
-/
import Derived.Test.YtpmfbmigdpmloaaGreatDoorRefParse1Pk
import Derived.Deep.RegionHeld3
/-
  What the document's own Parse answers, at this program: the datum that may be and is written so, if there is one: of 2 to 20 bytes, the first one no quote. Condition: those.
  Of every text. Condition: it has at most 2^40 bytes.
-/
set_option linter.unusedVariables false
set_option linter.unusedSimpArgs false
namespace Go.Proofs.YtpmfbmigdpmloaaGreatDoor
open Go.RowKit Go.Lib

set_option maxHeartbeats 8000000 in
set_option maxRecDepth 1000000 in
theorem refParse_D2 (s : ByteArray) (w : World) (h1 : 2 ≤ s.size) (h2 : s.size ≤ 20) (hq : (s.get! 0).toNat ≠ 39) (n1 : (s.toList == [110, 117, 108, 108]) = false) (n2 : (s.toList == [116, 114, 117, 101]) = false) (n3 : (s.toList == [102, 97, 108, 115, 101]) = false) :
    Calls Tryz.prog 45 #[.string s] w fun e w' => OutY s e ∧ Below w.heap.size w w' := by
  have n1H := Lib.hid n1; have n2H := Lib.hid n2; have n3H := Lib.hid n3
  have hqn := Lib.hid (not_quoted (.inr (.inl hq)))
  have hsz := Lib.hid (show 0 < s.size by omega)
  have hx0 := fun w' => idx_run s 0 0 rfl hsz.out w'
  obtain ⟨c0, hc0_⟩ : ∃ c0, bt s (0) = c0 := ⟨_, rfl⟩
  rw [hc0_] at hx0
  have hc0_H := Lib.hid (show (s.get! (0)).toNat = c0 from hc0_)
  clear hc0_
  rw [hc0_H.out] at hq
  have d0 : ((c0 : Int) == 39) = false := by simp; omega
  have d20 : decide ((s.size : Int) ≤ 20) = true := decide_eq_true (by omega)
  have hC := Lib.hid (Cur.start w)
  obtain ⟨r0_, r1_, r2_, r3_⟩ := hC.out.1.cells; obtain ⟨f0_, f1_, f2_, f3_⟩ := hC.out.1.free; obtain ⟨a0_, a1_, a2_, a3_⟩ := hC.out.2.1.cells; obtain ⟨g0_, g1_, g2_, g3_⟩ := hC.out.2.1.free; have hz_ := hC.out.1.lt; have hy_ := hC.out.2.1.lt
  go_enter Tryz.func45, Tryz.ntmps45
  go_wp2_with fail
  go_loopw [7, 8] (fun n i wr => RelN s w n i wr) (fun _ i _ => s.size - (Go.RowKit.intOf i).toNat)
  case atStart => exact ⟨0, 0, rfl, rfl, by omega, by omega, Nat.zero_le _, invD_start s, fun _ => rfl, hC.out⟩
  case round =>
    unfold RelN at hrel
    obtain ⟨p, z, rfl, rfl, hz0, hz1, hp, hi, hpz, hcur⟩ := hrel
    replace hC := Lib.hid hcur
    have hiH := Lib.hid hi
    clear hcur hi
    clear r0_ r1_ r2_ r3_ f0_ f1_ f2_ f3_ a0_ a1_ a2_ a3_ g0_ g1_ g2_ g3_ hz_ hy_
    obtain ⟨r0_, r1_, r2_, r3_⟩ := hC.out.1.cells; obtain ⟨f0_, f1_, f2_, f3_⟩ := hC.out.1.free; obtain ⟨a0_, a1_, a2_, a3_⟩ := hC.out.2.1.cells; obtain ⟨g0_, g1_, g2_, g3_⟩ := hC.out.2.1.free; have hz_ := hC.out.1.lt; have hy_ := hC.out.2.1.lt
    by_cases hlt : p < s.size
    · have hltH := Lib.hid hlt
      have hxp := fun w' => idx_run s p (p : Int) rfl hlt w'
      obtain ⟨c, hc⟩ : ∃ c, bt s p = c := ⟨_, rfl⟩
      have hc256 : c < 256 := by rw [← hc]; exact bt_lt s p
      rw [hc] at hxp
      have hcH := Lib.hid (show (s.get! p).toNat = c from hc)
      clear hc
      by_cases p0 : p = 0
      · have hcc : c0 = c := by rw [← hc0_H.out, ← hcH.out, p0]
        have e0 : ((p : Int) == 0) = true := by simp; omega
        have hz00 := Lib.hid (hpz p0)
        have p0H := Lib.hid p0
        have hccH := Lib.hid hcc
        clear hpz p0 hcc
        by_cases c45 : c0 = 45
        · have d45 : ((c0 : Int) == 45) = true := by simp; omega
          have hR : RelN s w (.int .u64 z) (.int .i64 ((p : Int) + 1)) wr := by
            rw [hz00.out, p0H.out]
            exact relN_minus hsz.out (by rw [hc0_H.out]; exact c45) hC.out
          go_wp2_with fail
          go_roundw
          case rel => exact hR
          case measure => simp [Go.RowKit.intOf]; omega
        · have d45 : ((c0 : Int) == 45) = false := by simp; omega
          by_cases q1 : 48 ≤ c
          · by_cases q2 : c ≤ 57
            · have hR := relN_step hz0 hltH.out (by rw [hcH.out, ← hccH.out]; omega) hcH.out q1 hiH.out hC.out
              have w8 : IntKind.u8.wrap ((c : Int) - 48) = (c : Int) - 48 := by rw [IntKind.wrap_u8]; omega
              have w64 : IntKind.u64.wrap ((c : Int) - 48) = (c : Int) - 48 := by rw [IntKind.wrap_u64]; omega
              go_wp2_with fail
              go_roundw
              case rel => exact hR
              case measure => simp [Go.RowKit.intOf]; omega
            · have houtH := Lib.hid (no_digit hltH.out hqn.out n1H.out n2H.out n3H.out (by rw [hcH.out, ← hccH.out]; omega) (by rw [hcH.out]; omega))
              go_wp2_with fail
              refine bodyPost_ret (v := .tuple #[.agg #[.int .u8 0, .bool false, .int .i64 0, .string ⟨#[]⟩], .int .i64 13]) (by simp [results, Tryz.results45, go_sem, r0_, r1_, r2_, r3_, a0_, a1_, a2_, a3_, hz_, hy_]) rfl ⟨?_, ?_⟩
              · exact houtH.out
              · have hbw := hC.out.2.2
                clear hC
                go_grown
          · have houtH := Lib.hid (no_digit hltH.out hqn.out n1H.out n2H.out n3H.out (by rw [hcH.out, ← hccH.out]; omega) (by rw [hcH.out]; omega))
            go_wp2_with fail
            refine bodyPost_ret (v := .tuple #[.agg #[.int .u8 0, .bool false, .int .i64 0, .string ⟨#[]⟩], .int .i64 13]) (by simp [results, Tryz.results45, go_sem, r0_, r1_, r2_, r3_, a0_, a1_, a2_, a3_, hz_, hy_]) rfl ⟨?_, ?_⟩
            · exact houtH.out
            · have hbw := hC.out.2.2
              clear hC
              go_grown
      · have e0 : ((p : Int) == 0) = false := by simp; omega
        clear hpz
        by_cases q1 : 48 ≤ c
        · by_cases q2 : c ≤ 57
          · have hR := relN_step hz0 hltH.out (by omega) hcH.out q1 hiH.out hC.out
            have w8 : IntKind.u8.wrap ((c : Int) - 48) = (c : Int) - 48 := by rw [IntKind.wrap_u8]; omega
            have w64 : IntKind.u64.wrap ((c : Int) - 48) = (c : Int) - 48 := by rw [IntKind.wrap_u64]; omega
            go_wp2_with fail
            go_roundw
            case rel => exact hR
            case measure => simp [Go.RowKit.intOf]; omega
          · have houtH := Lib.hid (no_digit hltH.out hqn.out n1H.out n2H.out n3H.out (by omega) (by rw [hcH.out]; omega))
            go_wp2_with fail
            refine bodyPost_ret (v := .tuple #[.agg #[.int .u8 0, .bool false, .int .i64 0, .string ⟨#[]⟩], .int .i64 13]) (by simp [results, Tryz.results45, go_sem, r0_, r1_, r2_, r3_, a0_, a1_, a2_, a3_, hz_, hy_]) rfl ⟨?_, ?_⟩
            · exact houtH.out
            · have hbw := hC.out.2.2
              clear hC
              go_grown
        · have houtH := Lib.hid (no_digit hltH.out hqn.out n1H.out n2H.out n3H.out (by omega) (by rw [hcH.out]; omega))
          go_wp2_with fail
          refine bodyPost_ret (v := .tuple #[.agg #[.int .u8 0, .bool false, .int .i64 0, .string ⟨#[]⟩], .int .i64 13]) (by simp [results, Tryz.results45, go_sem, r0_, r1_, r2_, r3_, a0_, a1_, a2_, a3_, hz_, hy_]) rfl ⟨?_, ?_⟩
          · exact houtH.out
          · have hbw := hC.out.2.2
            clear hC
            go_grown
    · obtain ⟨y, hy⟩ : ∃ y, IntKind.i64.wrap z = y := ⟨_, rfl⟩
      obtain ⟨y2, hy2⟩ : ∃ y2, IntKind.i64.wrap (-y) = y2 := ⟨_, rfl⟩
      have htB := Lib.hid (show (⟨#[]⟩ : ByteArray).size ≤ 140737488355328 by decide)
      by_cases c45 : c0 = 45
      · have d45 : ((c0 : Int) == 45) = true := by simp; omega
        have hnH := Lib.hid (show I64 y2 by rw [← hy2]; exact wrap_I64 _)
        have hallH := Lib.hid (show ∀ d', okD d' = true → I64 d'.n → s.data.toList = printS d' → (⟨3, false, y2, ⟨#[]⟩⟩ : Dat) = d' from fun d' h1 h2 h3 => by
          obtain ⟨v, hv, e⟩ := plain_any h1 h3 hqn.out n1H.out n2H.out n3H.out
          rw [hv] at h2
          have := neg_val hz0 (by omega) hsz.out hiH.out (by rw [hc0_H.out]; exact c45) h2 e
          rw [hv, ← hy2, ← hy, this]; rfl)
        go_wp2_with (go_at_call 37; go_must (first | (refine (refInt_any y _).mono ?_; rintro e w' ⟨rfl, hb'⟩; replace hC := Lib.hid ((hC.out).below hb'); clear hb'; clear r0_ r1_ r2_ r3_ f0_ f1_ f2_ f3_ a0_ a1_ a2_ a3_ g0_ g1_ g2_ g3_ hz_ hy_; obtain ⟨r0_, r1_, r2_, r3_⟩ := hC.out.1.cells; obtain ⟨f0_, f1_, f2_, f3_⟩ := hC.out.1.free; obtain ⟨a0_, a1_, a2_, a3_⟩ := hC.out.2.1.cells; obtain ⟨g0_, g1_, g2_, g3_⟩ := hC.out.2.1.free; have hz_ := hC.out.1.lt; have hy_ := hC.out.2.1.lt) | (refine (refInt_any y2 _).mono ?_; rintro e w' ⟨rfl, hb'⟩; replace hC := Lib.hid ((hC.out.set (.int .u8 3) (.bool false) (.int .i64 y) (.string ⟨#[]⟩)).below hb'); clear hb'; clear r0_ r1_ r2_ r3_ f0_ f1_ f2_ f3_ a0_ a1_ a2_ a3_ g0_ g1_ g2_ g3_ hz_ hy_; obtain ⟨r0_, r1_, r2_, r3_⟩ := hC.out.1.cells; obtain ⟨f0_, f1_, f2_, f3_⟩ := hC.out.1.free; obtain ⟨a0_, a1_, a2_, a3_⟩ := hC.out.2.1.cells; obtain ⟨g0_, g1_, g2_, g3_⟩ := hC.out.2.1.free; have hz_ := hC.out.1.lt; have hy_ := hC.out.2.1.lt)))
        obtain ⟨c, hc⟩ : ∃ c, chk ⟨3, false, y2, ⟨#[]⟩⟩ = c := ⟨_, rfl⟩
        have hcH := Lib.hid hc
        by_cases hc0 : c = 0
        · obtain ⟨p, hp⟩ : ∃ p, (⟨(printS ⟨3, false, y2, ⟨#[]⟩⟩).toArray⟩ : ByteArray) = p := ⟨_, rfl⟩
          have hok : okD ⟨3, false, y2, ⟨#[]⟩⟩ = true := by unfold okD; rw [hc, hc0]; rfl
          have hpl : printS ⟨3, false, y2, ⟨#[]⟩⟩ = p.data.toList := by rw [← hp]
          have hpH := Lib.hid hp
          clear hp hc
          subst hc0
          by_cases he : p.data.toList = s.data.toList
          · have heB : (p.toList == s.toList) = true := by
              rw [beq_iff_eq, ByteArray.toList_eq, ByteArray.toList_eq]; exact he
            have hps : p = s := bytes_ext he
            have houtH := Lib.hid (show OutY s (.returned (refV (⟨3, false, y2, ⟨#[]⟩⟩, 0))) from ⟨_, _, rfl, .inl ⟨hok, hnH.out, by rw [← he, hpl], rfl⟩⟩)
            clear hok hpl he hps
            go_wp2_with (first
              | (go_at_call 36; go_must (refine (refCheck_any 3 false y2 ⟨#[]⟩ _ htB.out).mono ?_; rw [hcH.out]; rintro e w' ⟨rfl, hb'⟩; replace hC := Lib.hid ((hC.out.set (.int .u8 3) (.bool false) (.int .i64 y2) (.string ⟨#[]⟩)).below hb'); clear hb'; clear r0_ r1_ r2_ r3_ f0_ f1_ f2_ f3_ a0_ a1_ a2_ a3_ g0_ g1_ g2_ g3_ hz_ hy_; obtain ⟨r0_, r1_, r2_, r3_⟩ := hC.out.1.cells; obtain ⟨f0_, f1_, f2_, f3_⟩ := hC.out.1.free; obtain ⟨a0_, a1_, a2_, a3_⟩ := hC.out.2.1.cells; obtain ⟨g0_, g1_, g2_, g3_⟩ := hC.out.2.1.free; have hz_ := hC.out.1.lt; have hy_ := hC.out.2.1.lt))
              | (go_at_call 34; go_must (refine (refPrint_any 3 false y2 ⟨#[]⟩ _ htB.out hnH.out).mono ?_; rw [hpH.out]; rintro e w' ⟨rfl, hb'⟩; replace hC := Lib.hid ((hC.out).below hb'); clear hb'; clear r0_ r1_ r2_ r3_ f0_ f1_ f2_ f3_ a0_ a1_ a2_ a3_ g0_ g1_ g2_ g3_ hz_ hy_; obtain ⟨r0_, r1_, r2_, r3_⟩ := hC.out.1.cells; obtain ⟨f0_, f1_, f2_, f3_⟩ := hC.out.1.free; obtain ⟨a0_, a1_, a2_, a3_⟩ := hC.out.2.1.cells; obtain ⟨g0_, g1_, g2_, g3_⟩ := hC.out.2.1.free; have hz_ := hC.out.1.lt; have hy_ := hC.out.2.1.lt)))
            refine bodyPost_ret (v := .tuple #[.agg #[.int .u8 3, .bool false, .int .i64 y2, .string ⟨#[]⟩], .int .i64 0]) (by simp [results, Tryz.results45, go_sem, r0_, r1_, r2_, r3_, a0_, a1_, a2_, a3_, hz_, hy_]) rfl ⟨?_, ?_⟩
            · exact houtH.out
            · have hbw := hC.out.2.2
              clear hC
              go_grown
          · have heB : (p.toList == s.toList) = false := by
              rw [beq_eq_false_iff_ne, ByteArray.toList_eq, ByteArray.toList_eq]; exact he
            have houtH := Lib.hid (show OutY s (.returned (refV (zeroD, 13))) from outY_bad fun d' h1 h2 h3 => he (by rw [← hpl, h3, ← hallH.out d' h1 h2 h3]))
            clear hok hpl he
            go_wp2_with (first
              | (go_at_call 36; go_must (refine (refCheck_any 3 false y2 ⟨#[]⟩ _ htB.out).mono ?_; rw [hcH.out]; rintro e w' ⟨rfl, hb'⟩; replace hC := Lib.hid ((hC.out.set (.int .u8 3) (.bool false) (.int .i64 y2) (.string ⟨#[]⟩)).below hb'); clear hb'; clear r0_ r1_ r2_ r3_ f0_ f1_ f2_ f3_ a0_ a1_ a2_ a3_ g0_ g1_ g2_ g3_ hz_ hy_; obtain ⟨r0_, r1_, r2_, r3_⟩ := hC.out.1.cells; obtain ⟨f0_, f1_, f2_, f3_⟩ := hC.out.1.free; obtain ⟨a0_, a1_, a2_, a3_⟩ := hC.out.2.1.cells; obtain ⟨g0_, g1_, g2_, g3_⟩ := hC.out.2.1.free; have hz_ := hC.out.1.lt; have hy_ := hC.out.2.1.lt))
              | (go_at_call 34; go_must (refine (refPrint_any 3 false y2 ⟨#[]⟩ _ htB.out hnH.out).mono ?_; rw [hpH.out]; rintro e w' ⟨rfl, hb'⟩; replace hC := Lib.hid ((hC.out).below hb'); clear hb'; clear r0_ r1_ r2_ r3_ f0_ f1_ f2_ f3_ a0_ a1_ a2_ a3_ g0_ g1_ g2_ g3_ hz_ hy_; obtain ⟨r0_, r1_, r2_, r3_⟩ := hC.out.1.cells; obtain ⟨f0_, f1_, f2_, f3_⟩ := hC.out.1.free; obtain ⟨a0_, a1_, a2_, a3_⟩ := hC.out.2.1.cells; obtain ⟨g0_, g1_, g2_, g3_⟩ := hC.out.2.1.free; have hz_ := hC.out.1.lt; have hy_ := hC.out.2.1.lt)))
            refine bodyPost_ret (v := .tuple #[.agg #[.int .u8 0, .bool false, .int .i64 0, .string ⟨#[]⟩], .int .i64 13]) (by simp [results, Tryz.results45, go_sem, r0_, r1_, r2_, r3_, a0_, a1_, a2_, a3_, hz_, hy_]) rfl ⟨?_, ?_⟩
            · exact houtH.out
            · have hbw := hC.out.2.2
              clear hC
              go_grown
        · have houtH := Lib.hid (show OutY s (.returned (refV (zeroD, 13))) from outY_bad fun d' h1 h2 h3 => by
            have hd := hallH.out d' h1 h2 h3
            rw [← hd] at h1
            unfold okD at h1
            rw [hc] at h1
            exact hc0 (of_decide_eq_true h1))
          have hc2 : (c != 0) = true := by simpa using hc0
          clear hc hc0
          go_wp2_with (first
            | (go_at_call 36; go_must (refine (refCheck_any 3 false y2 ⟨#[]⟩ _ htB.out).mono ?_; rw [hcH.out]; rintro e w' ⟨rfl, hb'⟩; replace hC := Lib.hid ((hC.out.set (.int .u8 3) (.bool false) (.int .i64 y2) (.string ⟨#[]⟩)).below hb'); clear hb'; clear r0_ r1_ r2_ r3_ f0_ f1_ f2_ f3_ a0_ a1_ a2_ a3_ g0_ g1_ g2_ g3_ hz_ hy_; obtain ⟨r0_, r1_, r2_, r3_⟩ := hC.out.1.cells; obtain ⟨f0_, f1_, f2_, f3_⟩ := hC.out.1.free; obtain ⟨a0_, a1_, a2_, a3_⟩ := hC.out.2.1.cells; obtain ⟨g0_, g1_, g2_, g3_⟩ := hC.out.2.1.free; have hz_ := hC.out.1.lt; have hy_ := hC.out.2.1.lt))
            | (go_at_call 34; go_must (refine (refPrint_any 3 false y2 ⟨#[]⟩ _ htB.out hnH.out).mono ?_; rw [hpH.out]; rintro e w' ⟨rfl, hb'⟩; replace hC := Lib.hid ((hC.out).below hb'); clear hb'; clear r0_ r1_ r2_ r3_ f0_ f1_ f2_ f3_ a0_ a1_ a2_ a3_ g0_ g1_ g2_ g3_ hz_ hy_; obtain ⟨r0_, r1_, r2_, r3_⟩ := hC.out.1.cells; obtain ⟨f0_, f1_, f2_, f3_⟩ := hC.out.1.free; obtain ⟨a0_, a1_, a2_, a3_⟩ := hC.out.2.1.cells; obtain ⟨g0_, g1_, g2_, g3_⟩ := hC.out.2.1.free; have hz_ := hC.out.1.lt; have hy_ := hC.out.2.1.lt)))
          refine bodyPost_ret (v := .tuple #[.agg #[.int .u8 0, .bool false, .int .i64 0, .string ⟨#[]⟩], .int .i64 13]) (by simp [results, Tryz.results45, go_sem, r0_, r1_, r2_, r3_, a0_, a1_, a2_, a3_, hz_, hy_]) rfl ⟨?_, ?_⟩
          · exact houtH.out
          · have hbw := hC.out.2.2
            clear hC
            go_grown
      · have d45 : ((c0 : Int) == 45) = false := by simp; omega
        have hnH := Lib.hid (show I64 y by rw [← hy]; exact wrap_I64 _)
        have hallH := Lib.hid (show ∀ d', okD d' = true → I64 d'.n → s.data.toList = printS d' → (⟨3, false, y, ⟨#[]⟩⟩ : Dat) = d' from fun d' h1 h2 h3 => by
          obtain ⟨v, hv, e⟩ := plain_any h1 h3 hqn.out n1H.out n2H.out n3H.out
          rw [hv] at h2
          have := pos_val hz0 (by omega) hsz.out hiH.out (by rw [hc0_H.out]; exact c45) h2 e
          rw [hv, ← hy, this]; rfl)
        go_wp2_with (go_at_call 37; go_must (first | (refine (refInt_any y _).mono ?_; rintro e w' ⟨rfl, hb'⟩; replace hC := Lib.hid ((hC.out).below hb'); clear hb'; clear r0_ r1_ r2_ r3_ f0_ f1_ f2_ f3_ a0_ a1_ a2_ a3_ g0_ g1_ g2_ g3_ hz_ hy_; obtain ⟨r0_, r1_, r2_, r3_⟩ := hC.out.1.cells; obtain ⟨f0_, f1_, f2_, f3_⟩ := hC.out.1.free; obtain ⟨a0_, a1_, a2_, a3_⟩ := hC.out.2.1.cells; obtain ⟨g0_, g1_, g2_, g3_⟩ := hC.out.2.1.free; have hz_ := hC.out.1.lt; have hy_ := hC.out.2.1.lt)))
        obtain ⟨c, hc⟩ : ∃ c, chk ⟨3, false, y, ⟨#[]⟩⟩ = c := ⟨_, rfl⟩
        have hcH := Lib.hid hc
        by_cases hc0 : c = 0
        · obtain ⟨p, hp⟩ : ∃ p, (⟨(printS ⟨3, false, y, ⟨#[]⟩⟩).toArray⟩ : ByteArray) = p := ⟨_, rfl⟩
          have hok : okD ⟨3, false, y, ⟨#[]⟩⟩ = true := by unfold okD; rw [hc, hc0]; rfl
          have hpl : printS ⟨3, false, y, ⟨#[]⟩⟩ = p.data.toList := by rw [← hp]
          have hpH := Lib.hid hp
          clear hp hc
          subst hc0
          by_cases he : p.data.toList = s.data.toList
          · have heB : (p.toList == s.toList) = true := by
              rw [beq_iff_eq, ByteArray.toList_eq, ByteArray.toList_eq]; exact he
            have hps : p = s := bytes_ext he
            have houtH := Lib.hid (show OutY s (.returned (refV (⟨3, false, y, ⟨#[]⟩⟩, 0))) from ⟨_, _, rfl, .inl ⟨hok, hnH.out, by rw [← he, hpl], rfl⟩⟩)
            clear hok hpl he hps
            go_wp2_with (first
              | (go_at_call 36; go_must (refine (refCheck_any 3 false y ⟨#[]⟩ _ htB.out).mono ?_; rw [hcH.out]; rintro e w' ⟨rfl, hb'⟩; replace hC := Lib.hid ((hC.out.set (.int .u8 3) (.bool false) (.int .i64 y) (.string ⟨#[]⟩)).below hb'); clear hb'; clear r0_ r1_ r2_ r3_ f0_ f1_ f2_ f3_ a0_ a1_ a2_ a3_ g0_ g1_ g2_ g3_ hz_ hy_; obtain ⟨r0_, r1_, r2_, r3_⟩ := hC.out.1.cells; obtain ⟨f0_, f1_, f2_, f3_⟩ := hC.out.1.free; obtain ⟨a0_, a1_, a2_, a3_⟩ := hC.out.2.1.cells; obtain ⟨g0_, g1_, g2_, g3_⟩ := hC.out.2.1.free; have hz_ := hC.out.1.lt; have hy_ := hC.out.2.1.lt))
              | (go_at_call 34; go_must (refine (refPrint_any 3 false y ⟨#[]⟩ _ htB.out hnH.out).mono ?_; rw [hpH.out]; rintro e w' ⟨rfl, hb'⟩; replace hC := Lib.hid ((hC.out).below hb'); clear hb'; clear r0_ r1_ r2_ r3_ f0_ f1_ f2_ f3_ a0_ a1_ a2_ a3_ g0_ g1_ g2_ g3_ hz_ hy_; obtain ⟨r0_, r1_, r2_, r3_⟩ := hC.out.1.cells; obtain ⟨f0_, f1_, f2_, f3_⟩ := hC.out.1.free; obtain ⟨a0_, a1_, a2_, a3_⟩ := hC.out.2.1.cells; obtain ⟨g0_, g1_, g2_, g3_⟩ := hC.out.2.1.free; have hz_ := hC.out.1.lt; have hy_ := hC.out.2.1.lt)))
            refine bodyPost_ret (v := .tuple #[.agg #[.int .u8 3, .bool false, .int .i64 y, .string ⟨#[]⟩], .int .i64 0]) (by simp [results, Tryz.results45, go_sem, r0_, r1_, r2_, r3_, a0_, a1_, a2_, a3_, hz_, hy_]) rfl ⟨?_, ?_⟩
            · exact houtH.out
            · have hbw := hC.out.2.2
              clear hC
              go_grown
          · have heB : (p.toList == s.toList) = false := by
              rw [beq_eq_false_iff_ne, ByteArray.toList_eq, ByteArray.toList_eq]; exact he
            have houtH := Lib.hid (show OutY s (.returned (refV (zeroD, 13))) from outY_bad fun d' h1 h2 h3 => he (by rw [← hpl, h3, ← hallH.out d' h1 h2 h3]))
            clear hok hpl he
            go_wp2_with (first
              | (go_at_call 36; go_must (refine (refCheck_any 3 false y ⟨#[]⟩ _ htB.out).mono ?_; rw [hcH.out]; rintro e w' ⟨rfl, hb'⟩; replace hC := Lib.hid ((hC.out.set (.int .u8 3) (.bool false) (.int .i64 y) (.string ⟨#[]⟩)).below hb'); clear hb'; clear r0_ r1_ r2_ r3_ f0_ f1_ f2_ f3_ a0_ a1_ a2_ a3_ g0_ g1_ g2_ g3_ hz_ hy_; obtain ⟨r0_, r1_, r2_, r3_⟩ := hC.out.1.cells; obtain ⟨f0_, f1_, f2_, f3_⟩ := hC.out.1.free; obtain ⟨a0_, a1_, a2_, a3_⟩ := hC.out.2.1.cells; obtain ⟨g0_, g1_, g2_, g3_⟩ := hC.out.2.1.free; have hz_ := hC.out.1.lt; have hy_ := hC.out.2.1.lt))
              | (go_at_call 34; go_must (refine (refPrint_any 3 false y ⟨#[]⟩ _ htB.out hnH.out).mono ?_; rw [hpH.out]; rintro e w' ⟨rfl, hb'⟩; replace hC := Lib.hid ((hC.out).below hb'); clear hb'; clear r0_ r1_ r2_ r3_ f0_ f1_ f2_ f3_ a0_ a1_ a2_ a3_ g0_ g1_ g2_ g3_ hz_ hy_; obtain ⟨r0_, r1_, r2_, r3_⟩ := hC.out.1.cells; obtain ⟨f0_, f1_, f2_, f3_⟩ := hC.out.1.free; obtain ⟨a0_, a1_, a2_, a3_⟩ := hC.out.2.1.cells; obtain ⟨g0_, g1_, g2_, g3_⟩ := hC.out.2.1.free; have hz_ := hC.out.1.lt; have hy_ := hC.out.2.1.lt)))
            refine bodyPost_ret (v := .tuple #[.agg #[.int .u8 0, .bool false, .int .i64 0, .string ⟨#[]⟩], .int .i64 13]) (by simp [results, Tryz.results45, go_sem, r0_, r1_, r2_, r3_, a0_, a1_, a2_, a3_, hz_, hy_]) rfl ⟨?_, ?_⟩
            · exact houtH.out
            · have hbw := hC.out.2.2
              clear hC
              go_grown
        · have houtH := Lib.hid (show OutY s (.returned (refV (zeroD, 13))) from outY_bad fun d' h1 h2 h3 => by
            have hd := hallH.out d' h1 h2 h3
            rw [← hd] at h1
            unfold okD at h1
            rw [hc] at h1
            exact hc0 (of_decide_eq_true h1))
          have hc2 : (c != 0) = true := by simpa using hc0
          clear hc hc0
          go_wp2_with (first
            | (go_at_call 36; go_must (refine (refCheck_any 3 false y ⟨#[]⟩ _ htB.out).mono ?_; rw [hcH.out]; rintro e w' ⟨rfl, hb'⟩; replace hC := Lib.hid ((hC.out.set (.int .u8 3) (.bool false) (.int .i64 y) (.string ⟨#[]⟩)).below hb'); clear hb'; clear r0_ r1_ r2_ r3_ f0_ f1_ f2_ f3_ a0_ a1_ a2_ a3_ g0_ g1_ g2_ g3_ hz_ hy_; obtain ⟨r0_, r1_, r2_, r3_⟩ := hC.out.1.cells; obtain ⟨f0_, f1_, f2_, f3_⟩ := hC.out.1.free; obtain ⟨a0_, a1_, a2_, a3_⟩ := hC.out.2.1.cells; obtain ⟨g0_, g1_, g2_, g3_⟩ := hC.out.2.1.free; have hz_ := hC.out.1.lt; have hy_ := hC.out.2.1.lt))
            | (go_at_call 34; go_must (refine (refPrint_any 3 false y ⟨#[]⟩ _ htB.out hnH.out).mono ?_; rw [hpH.out]; rintro e w' ⟨rfl, hb'⟩; replace hC := Lib.hid ((hC.out).below hb'); clear hb'; clear r0_ r1_ r2_ r3_ f0_ f1_ f2_ f3_ a0_ a1_ a2_ a3_ g0_ g1_ g2_ g3_ hz_ hy_; obtain ⟨r0_, r1_, r2_, r3_⟩ := hC.out.1.cells; obtain ⟨f0_, f1_, f2_, f3_⟩ := hC.out.1.free; obtain ⟨a0_, a1_, a2_, a3_⟩ := hC.out.2.1.cells; obtain ⟨g0_, g1_, g2_, g3_⟩ := hC.out.2.1.free; have hz_ := hC.out.1.lt; have hy_ := hC.out.2.1.lt)))
          refine bodyPost_ret (v := .tuple #[.agg #[.int .u8 0, .bool false, .int .i64 0, .string ⟨#[]⟩], .int .i64 13]) (by simp [results, Tryz.results45, go_sem, r0_, r1_, r2_, r3_, a0_, a1_, a2_, a3_, hz_, hy_]) rfl ⟨?_, ?_⟩
          · exact houtH.out
          · have hbw := hC.out.2.2
            clear hC
            go_grown
open Go.RowKit Go.Lib

theorem refParse_any (s : ByteArray) (w : World) (hs : s.size ≤ 1099511627776) :
    Calls Tryz.prog 45 #[.string s] w fun e w' => OutY s e ∧ Below w.heap.size w w' := by
  by_cases e1 : s.toList = [110, 117, 108, 108]
  · obtain rfl : s = ⟨#[110, 117, 108, 108]⟩ := bytes_ext (by rw [← ByteArray.toList_eq]; exact e1)
    exact refParse_null w
  by_cases e2 : s.toList = [116, 114, 117, 101]
  · obtain rfl : s = ⟨#[116, 114, 117, 101]⟩ := bytes_ext (by rw [← ByteArray.toList_eq]; exact e2)
    exact refParse_true w
  by_cases e3 : s.toList = [102, 97, 108, 115, 101]
  · obtain rfl : s = ⟨#[102, 97, 108, 115, 101]⟩ := bytes_ext (by rw [← ByteArray.toList_eq]; exact e3)
    exact refParse_false w
  have n1 := beq_eq_false_iff_ne.2 e1
  have n2 := beq_eq_false_iff_ne.2 e2
  have n3 := beq_eq_false_iff_ne.2 e3
  by_cases h0 : s.size = 0
  · exact refParse_E0 s w h0 n1 n2 n3
  by_cases h1 : s.size = 1
  · exact refParse_D1 s w h1 n1 n2 n3
  by_cases hq0 : (s.get! 0).toNat = 39
  · by_cases hq : (s.get! (s.size - 1)).toNat = 39
    · exact refParse_q s w hs ⟨by omega, hq0, hq⟩ n1 n2 n3
    · by_cases h20 : s.size ≤ 20
      · exact refParse_D3 s w (by omega) h20 hq0 hq n1 n2 n3
      · exact refParse_E2 s w (by omega) hs hq0 hq n1 n2 n3
  · by_cases h20 : s.size ≤ 20
    · exact refParse_D2 s w (by omega) h20 hq0 n1 n2 n3
    · exact refParse_E1 s w (by omega) hs hq0 n1 n2 n3
end Go.Proofs.YtpmfbmigdpmloaaGreatDoor
