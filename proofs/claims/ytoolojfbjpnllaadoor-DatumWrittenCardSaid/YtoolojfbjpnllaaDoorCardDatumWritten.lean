/-
  The statement DatumWritten: for every input the law returns true, and each argument reads behind the call as it read before; the card, tied. What it takes: the library's tables that the row lists read, when the call begins, as the program's text lays them (the card ties that).
-/
import Derived.Test.YtoolojfbjpnllaaDoorLawWritten
import Derived.Test.YtoolojfbjpnllaaDoorTabs
import Derived.Test.YtoolojfbjpnllaaDoorTie
import Derived.Test.YtoolojfbjpnllaaDoorCards
import Derived.ProofKit
import Derived.Lib.SmallJoins
import Derived.ShutString
import Derived.Lay
import Derived.LaidOnce
import Derived.SevenTiedAt
set_option linter.unusedVariables false
set_option linter.unusedSimpArgs false
namespace Go.Proofs.YtoolojfbjpnllaaDoor
namespace datumWritten
open Go.ChangeShapes Go.WideShapes Go.ChangeAt Go.RowKit Go.Joins Go.Lib Go.Shelf
open Go.ChangeMaps (open_string shut_string)

theorem own : ownKnob Tryd.prog.godebug = none := by kernel_rfl
theorem cellsDat : Tryd.prog.cellsOf 24 = 4 := by kernel_rfl
set_option maxRecDepth 100000 in
set_option maxHeartbeats 2000000 in
theorem lifted (os : Os) (started : os.Started) (H : Type) (enc : TypeId × Value → H) :
    ReturnsInHanded {} Tryd.checked os 14 .any (fun w args => (Rows.datumWrittenSpec.pre enc Tryd.prog Tryd.f14 [] false w args ∧ laidMetH Tryd.prog Rows.datumWrittenRow.laid w) ∧ sizedMet enc Tryd.prog Tryd.f14 (OpenSpec.ofChange Rows.datumWrittenSpec) false w args)
      (Rows.datumWrittenSpec.post enc Tryd.prog Tryd.f14 false true false false) := by
  refine returnsInHanded_of_change_and (C := Tryd.checked) (X := fun w _ => laidMetH Tryd.prog Rows.datumWrittenRow.laid w) (fun _ _ _ hh h => h.of_heap hh) own started (by kernel_rfl) Tryd.func14
    (ChangeSpec.witness_shaped (enc := enc) (C := Tryd.checked) (os := os) (X := fun w _ => laidMetH Tryd.prog Rows.datumWrittenRow.laid w) false (World.laidAll Tryd.prog os Rows.datumWrittenRow.laid) #[.agg #[.int .u8 0, .bool false, .int .i64 0, .string ⟨#[]⟩], .agg #[.int .u8 0, .bool false, .int .i64 0, .string ⟨#[]⟩]] 8 (World.laidAll_os _ _ _)
      (World.shaped_of_ZipB (by kernel_rfl) (by kernel_rfl)) (by kernel_rfl) (by kernel_rfl) (by kernel_rfl)
      (by rw [MakeChecks.laidMetH_plain _ _ _ (by kernel_rfl)]; exact laidMet_laidAll _ (by kernel_rfl) (by kernel_rfl))) ?_
  intro W base args ds gs before hval0 hW _ hsz0 hL _
  have hsz : (DataW.weightsEach Tryd.prog (Tryd.f14.params.toList ++ Rows.datumWrittenSpec.plain.varTypes Tryd.prog) (ds ++ gs)).all (· ≤ reachBytes) = true := hsz0
  have hval : ∀ (j : Nat) t v, Tryd.f14.params[j]? = some t → args[j]? = some v → Value.okWide Tryd.prog W .any base t v := hval0
  have hW' := hW
  obtain ⟨p, q, hA0, hV, rfl, _, _⟩ := hW
  have hA : DataW.TrodAll enc Tryd.prog W 0 (fun _ => true) true Tryd.f14.params.toList args.toList ds p := hA0
  rw [Tryd.params14] at hA hval hsz
  obtain ⟨v0, v1, d0, d1, p0, p1, rfl, rfl, rfl, h0, h1⟩ := trodAll_two hA
  obtain ⟨rfl, rfl⟩ := trodVars_none hV
  obtain ⟨c00, c01, c02, c03, y00, y01, y02, y03, m0, rfl, rfl, rfl, hy00, hy01, hy02, hy03⟩ := open_agg4 Tryd.underlying24 (by kernel_rfl) cellsDat (hval 0 24 v0 rfl rfl) h0
  obtain ⟨k0, e00, rfl, wk0⟩ := DataW.trod_int Tryd.underlying22 hy00
  obtain ⟨b0, e01, rfl⟩ := DataW.trod_bool Tryd.underlying4 hy01
  obtain ⟨n0, e02, rfl, wn0⟩ := DataW.trod_int Tryd.underlying2 hy02
  obtain ⟨s0, e03, rfl, ws0⟩ := DataW.trod_string Tryd.underlying9 hy03
  simp only [List.cons.injEq, and_true] at e00 e01 e02 e03
  subst e00 e01 e02 e03
  have hk0 : 0 ≤ k0 ∧ k0 ≤ 255 := by simpa [Lit.wf, IntKind.min, IntKind.max, IntKind.signed, IntKind.bits] using wk0
  have hn0 : I64 n0 := by simpa [I64, Lit.wf, IntKind.min, IntKind.max, IntKind.signed, IntKind.bits] using wn0
  have hs0 : s0.size ≤ 9223372036854775807 := by unfold maxLen at ws0; exact ws0
  have shut0 : ∀ (W' : World) (sp : Nat → Bool), DataW.Trod enc Tryd.prog W' 0 sp true 24 (.agg #[.int .u8 k0, .bool b0, .int .i64 n0, .string s0]) (.agg [.lit (.int .u8 k0), .lit (.bool b0), .lit (.int .i64 n0), .lit (.string s0.data.toList)]) [] := fun W' sp =>
    shut_agg4 (y0 := (.lit (.int .u8 k0), [])) (y1 := (.lit (.bool b0), [])) (y2 := (.lit (.int .i64 n0), [])) (y3 := (.lit (.string s0.data.toList), [])) Tryd.underlying24 (by kernel_rfl) cellsDat
      ⟨1, by simp [DataW.trod, Tryd.underlying22, wk0]⟩ ⟨1, by simp [DataW.trod, Tryd.underlying4]⟩ ⟨1, by simp [DataW.trod, Tryd.underlying2, wn0]⟩ ⟨1, by simp [DataW.trod, Tryd.underlying9, ws0]⟩
  obtain ⟨c10, c11, c12, c13, y10, y11, y12, y13, m1, rfl, rfl, rfl, hy10, hy11, hy12, hy13⟩ := open_agg4 Tryd.underlying24 (by kernel_rfl) cellsDat (hval 1 24 v1 rfl rfl) h1
  obtain ⟨k1, e10, rfl, wk1⟩ := DataW.trod_int Tryd.underlying22 hy10
  obtain ⟨b1, e11, rfl⟩ := DataW.trod_bool Tryd.underlying4 hy11
  obtain ⟨n1, e12, rfl, wn1⟩ := DataW.trod_int Tryd.underlying2 hy12
  obtain ⟨s1, e13, rfl, ws1⟩ := DataW.trod_string Tryd.underlying9 hy13
  simp only [List.cons.injEq, and_true] at e10 e11 e12 e13
  subst e10 e11 e12 e13
  have hk1 : 0 ≤ k1 ∧ k1 ≤ 255 := by simpa [Lit.wf, IntKind.min, IntKind.max, IntKind.signed, IntKind.bits] using wk1
  have hn1 : I64 n1 := by simpa [I64, Lit.wf, IntKind.min, IntKind.max, IntKind.signed, IntKind.bits] using wn1
  have hs1 : s1.size ≤ 9223372036854775807 := by unfold maxLen at ws1; exact ws1
  have shut1 : ∀ (W' : World) (sp : Nat → Bool), DataW.Trod enc Tryd.prog W' 0 sp true 24 (.agg #[.int .u8 k1, .bool b1, .int .i64 n1, .string s1]) (.agg [.lit (.int .u8 k1), .lit (.bool b1), .lit (.int .i64 n1), .lit (.string s1.data.toList)]) [] := fun W' sp =>
    shut_agg4 (y0 := (.lit (.int .u8 k1), [])) (y1 := (.lit (.bool b1), [])) (y2 := (.lit (.int .i64 n1), [])) (y3 := (.lit (.string s1.data.toList), [])) Tryd.underlying24 (by kernel_rfl) cellsDat
      ⟨1, by simp [DataW.trod, Tryd.underlying22, wk1]⟩ ⟨1, by simp [DataW.trod, Tryd.underlying4]⟩ ⟨1, by simp [DataW.trod, Tryd.underlying2, wn1]⟩ ⟨1, by simp [DataW.trod, Tryd.underlying9, ws1]⟩
  simp only [List.append_nil] at hW'
  rw [MakeChecks.laidMetH_plain _ _ _ (by kernel_rfl)] at hL
  have hT : Tabs W := tabs_of (Lib.laidMet.reads hL (by simp [Rows.datumWrittenRow])) (Lib.laidMet.reads hL (by simp [Rows.datumWrittenRow])) (Lib.laidMet.reads hL (by simp [Rows.datumWrittenRow]))
  refine (written_any k0 b0 n0 s0 k1 b1 n1 s1 W hT hs0 hn0 hk0 hs1 hn1 hk1).mono fun e W' ⟨he, hb⟩ => ?_
  subst he
  exact ⟨_, rfl, _, _, _, [], [], [], hW', trodAll_mk1 (shut_bool Tryd.underlying4 _), trodAll_mk2 (shut0 _ _) (shut1 _ _), rfl, hb.frame _, fun h => by cases h⟩

theorem row_holds : Rows.DatumWrittenSaid :=
  OpenClaim.holds_of_wide 14 Tryd.f14 rfl rfl rfl rfl rfl rfl rfl ⟨rfl, rfl, rfl, rfl, rfl⟩ rfl rfl rfl rfl rfl (by kernel_rfl) Tryd.func14 (by kernel_rfl)
    (of_decide_eq_true (by kernel_rfl)) (by unfold Func.isWrapper; rw [if_neg (of_decide_eq_false (by kernel_rfl))]; exact ⟨rfl, rfl⟩)
    (fun os started H enc _ => lifted os started H enc)

theorem proved : Rows.DatumWrittenCardSaid :=
  Claim7.holds_tied_plain_at .later [] Rows.datumWrittenCard.laidKinds true Rows.datumWrittenCard.stood.harness true row_holds (fun _ h => by cases h) (by kernel_rfl) (fun _ h => by cases h) datumWritten_row_tie rfl ⟨rfl, rfl⟩ (by kernel_rfl) rfl
    (fun f fn hf hfn => by
      obtain rfl : f = 14 := Option.some.inj ((show Tryd.prog.funcNamed "penstock/penstocklaw01.DatumWritten" = some 14 by kernel_rfl).symm.trans hf) |>.symm
      obtain rfl : fn = Tryd.f14 := (Option.some.inj (Tryd.func14.symm.trans hfn)).symm
      exact ⟨by kernel_rfl, fun j t ht => by
        rw [Tryd.params14] at ht
        have hm : t ∈ [24, 24] := by simpa using Array.mem_of_getElem? ht
        have hall : ([24, 24].all fun u => !Tryd.prog.wantsStandIn u) = true := by kernel_rfl
        exact (show Tryd.prog.wantsStandIn t = false by simpa using List.all_eq_true.1 hall t hm)⟩)
    (by kernel_rfl)
end datumWritten
end Go.Proofs.YtoolojfbjpnllaaDoor
