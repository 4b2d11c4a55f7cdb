/-
  Texts that belong together: RwPa. What each one says stands ahead of it.
-/
import Derived.Test.YtpmfbmigdpmloaaGreatDoorPk07
import Derived.Test.YtpmfbmigdpmloaaGreatDoorPk08
/-
  What row.Parse answers, at this program: of every text of at most 2^40 bytes the row that may be and is written so, if there is one. Condition: the variables strconv.ErrSyntax and strconv.ErrRange hold errors; the tables of Go's library lie as their initialisers lay them.
-/
set_option linter.unusedVariables false
set_option linter.unusedSimpArgs false
namespace Go.Proofs.YtpmfbmigdpmloaaGreatDoor
open Go.RowKit Go.Lib

theorem lift_prefix (L : List UInt8) (b : UInt8) : Lib.hasPrefix L [b] = true ↔ ∃ M, L = b :: M := by
  unfold Lib.hasPrefix
  cases L with
  | nil => simp [List.isPrefixOf]
  | cons c M =>
    simp only [List.isPrefixOf, Bool.and_true, beq_iff_eq, List.cons.injEq]
    exact ⟨fun h => ⟨M, h.symm, rfl⟩, fun ⟨_, h, _⟩ => h.symm⟩
theorem lift_suffix (L : List UInt8) (b : UInt8) : Lib.hasSuffix L [b] = true ↔ ∃ M, L = M ++ [b] := by
  unfold Lib.hasSuffix
  rw [List.isSuffixOf_iff_suffix]
  exact ⟨fun ⟨M, h⟩ => ⟨M, h.symm⟩, fun ⟨M, h⟩ => ⟨M, h.symm⟩⟩
/-- What the rounds hold: the data that were read, and what is left; or all is done. -/
def RelPa (L B : List UInt8) (w : World) (s4 s7 s8 : Value) (wr : World) : Prop :=
  ∃ (acc : List Dat) (r : List UInt8) (more : Bool), s4 = .string ⟨r.toArray⟩ ∧ s8 = .bool more ∧ OwnKR w.heap.size s7 acc w wr ∧
    ((more = true ∧ Left B acc r ∧ (acc = [] → B ≠ [])) ∨ (more = false ∧ RowZ L acc 0)) ∧ r.length ≤ B.length
/-- What Parse answers. -/
def OutPa (L : List UInt8) (w : World) (e : Ending) (w' : World) : Prop := ∃ v l z, e = .returned (.tuple #[v, .int .u16 z]) ∧ RowZ L l z ∧ OwnKR w.heap.size v l w w'
def paM (s4 s8 : Value) : Nat := match s4, s8 with
  | .string s, .bool true => s.size + 1
  | _, _ => 0
set_option maxHeartbeats 8000000 in
set_option maxRecDepth 100000 in
theorem parseRow_any (s : ByteArray) (w : World) (hT : Tabs w) (hV : VarsE w) (hs : s.size ≤ 1099511627776) :
    Calls Tryz.prog 24 #[.string s] w fun e w' => OutPa s.data.toList w e w' := by
  obtain ⟨L, hL⟩ : ∃ L, s.data.toList = L := ⟨_, rfl⟩
  have hLs := Lib.hid (show s.size = L.length by rw [← hL]; exact size_eq s)
  rw [hL]
  have hLH := Lib.hid hL; have hTH := Lib.hid hT; have hVH := Lib.hid hV
  clear hL hT hV
  obtain ⟨P, hP⟩ : ∃ P, Lib.hasPrefix L [40] = P := ⟨_, rfl⟩
  obtain ⟨R, hR⟩ : ∃ R, Lib.trimPrefix L [40] = R := ⟨_, rfl⟩
  obtain ⟨Q, hQ⟩ : ∃ Q, Lib.hasSuffix R [41] = Q := ⟨_, rfl⟩
  obtain ⟨B, hB⟩ : ∃ B, Lib.trimSuffix R [41] = B := ⟨_, rfl⟩
  have hPH := Lib.hid hP; have hRH := Lib.hid hR; have hQH := Lib.hid hQ; have hBH := Lib.hid hB
  have hopen := Lib.hid (show P = true ∧ Q = true → L = 40 :: (B ++ [41]) by
    rintro ⟨rfl, rfl⟩
    obtain ⟨M, hM⟩ := (lift_prefix _ _).1 hP
    have hRM : R = M := by rw [← hR]; unfold Lib.trimPrefix; rw [if_pos hP, hM]; rfl
    obtain ⟨K, hK⟩ := (lift_suffix _ _).1 hQ
    have hBK : B = K := by rw [← hB]; unfold Lib.trimSuffix; rw [if_pos hQ, hK]; simp
    rw [hM, ← hRM, hK, hBK])
  have hshut := Lib.hid (show ¬ (P = true ∧ Q = true) → RowZ L [] 20 by
    intro hn
    refine .bare (fun C e => hn ?_)
    have h1 : P = true := by rw [← hP]; exact (lift_prefix _ _).2 ⟨_, e⟩
    refine ⟨h1, ?_⟩
    have hRM : R = C ++ [41] := by rw [← hR]; unfold Lib.trimPrefix; rw [if_pos (hP.trans h1), e]; rfl
    rw [← hQ]
    exact (lift_suffix _ _).2 ⟨_, hRM⟩)
  have hRs : R.length ≤ L.length := by rw [← hR]; unfold Lib.trimPrefix; split <;> simp
  have hBs : B.length ≤ R.length := by rw [← hB]; unfold Lib.trimSuffix; split <;> simp
  have hBsH := Lib.hid (show B.length ≤ 1099511627776 by have := hLs.out; omega)
  have hRsH := Lib.hid (show (⟨R.toArray⟩ : ByteArray).size ≤ 9223372036854775807 by have := hLs.out; rw [size_eq]; show R.length ≤ _; omega)
  clear hP hR hQ hB hRs hBs
  cases P with
  | false =>
    have hz := Lib.hid (hshut.out (by simp))
    go_enter Tryz.func24, Tryz.ntmps24
    go_wp2_with (first
      | (go_at_call 40; go_must (refine (Tryz.strings_CutPrefix s _ _).mono ?_; rw [hLH.out, hPH.out, hRH.out]; rintro e w1 ⟨rfl, rfl⟩))
      | (go_at_call 41; go_must (refine (Tryz.strings_CutSuffix ⟨R.toArray⟩ _ _ hRsH.out).mono ?_; rw [hQH.out, hBH.out]; rintro e w1 ⟨rfl, rfl⟩)))
    exact bodyPost_ret (v := .tuple #[.slice none 0 0, .int .u16 20]) (by simp [results, Tryz.results24, go_sem]) rfl ⟨_, _, _, rfl, hz.out, OwnK.start (World.ownsRow_nil _ _ _ _) (Nat.le_refl _)⟩
  | true =>
  cases Q with
  | false =>
    have hz := Lib.hid (hshut.out (by simp))
    go_enter Tryz.func24, Tryz.ntmps24
    go_wp2_with (first
      | (go_at_call 40; go_must (refine (Tryz.strings_CutPrefix s _ _).mono ?_; rw [hLH.out, hPH.out, hRH.out]; rintro e w1 ⟨rfl, rfl⟩))
      | (go_at_call 41; go_must (refine (Tryz.strings_CutSuffix ⟨R.toArray⟩ _ _ hRsH.out).mono ?_; rw [hQH.out, hBH.out]; rintro e w1 ⟨rfl, rfl⟩)))
    exact bodyPost_ret (v := .tuple #[.slice none 0 0, .int .u16 20]) (by simp [results, Tryz.results24, go_sem]) rfl ⟨_, _, _, rfl, hz.out, OwnK.start (World.ownsRow_nil _ _ _ _) (Nat.le_refl _)⟩
  | true =>
  have hLB := Lib.hid (hopen.out ⟨rfl, rfl⟩)
  clear hopen hshut
  go_enter Tryz.func24, Tryz.ntmps24
  go_wp2_with (first
    | (go_at_call 40; go_must (refine (Tryz.strings_CutPrefix s _ _).mono ?_; rw [hLH.out, hPH.out, hRH.out]; rintro e w1 ⟨rfl, rfl⟩))
    | (go_at_call 41; go_must (refine (Tryz.strings_CutSuffix ⟨R.toArray⟩ _ _ hRsH.out).mono ?_; rw [hQH.out, hBH.out]; rintro e w1 ⟨rfl, rfl⟩)))
  go_loopw [4, 7, 8] (fun s4 s7 s8 wr => RelPa L B w1 s4 s7 s8 wr) (fun s4 s7 s8 _ => paM s4 s8)
  case atStart =>
    refine ⟨[], B, !B.isEmpty, rfl, rfl, OwnK.start (World.ownsRow_nil _ _ _ _) (Nat.le_refl _), ?_, Nat.le_refl _⟩
    cases B with
    | nil => exact .inr ⟨rfl, by rw [hLB.out]; exact RowZ.empty⟩
    | cons b B => exact .inl ⟨rfl, Left.start _, fun _ => by simp⟩
  case round =>
    unfold RelPa at hrel
    obtain ⟨acc, r, more, rfl, rfl, hown, hst, hrl⟩ := hrel
    obtain ⟨A0, c0, rfl⟩ := hown.form
    have hownH := Lib.hid hown
    clear hown
    cases more with
    | false =>
      have hz := Lib.hid (hst.elim (fun h => by cases h.1) (fun h => h.2))
      clear hst
      go_wp2_with fail
      exact bodyPost_ret (v := .tuple #[.slice A0 acc.length c0, .int .u16 0]) (by simp [results, Tryz.results24, go_sem]) rfl ⟨_, _, _, rfl, hz.out, hownH.out⟩
    | true =>
      obtain ⟨hleft, hne⟩ := hst.elim (fun h => h.2) (fun h => by cases h.1)
      have hleftH := Lib.hid hleft; have hneH := Lib.hid hne
      have hrs := Lib.hid (show r.length ≤ 1099511627776 by have := hBsH.out; omega)
      have hrlH := Lib.hid hrl
      clear hst hleft hne hrl
      have hcu := cut_any ⟨r.toArray⟩ wr (by rw [size_eq]; exact hrs.out)
      rw [show (⟨r.toArray⟩ : ByteArray).data.toList = r by simp] at hcu
      obtain ⟨F, hF⟩ : ∃ F, formF r = F := ⟨_, rfl⟩
      obtain ⟨Z, hZ⟩ : ∃ Z, restF r = Z := ⟨_, rfl⟩
      obtain ⟨m, hm⟩ : ∃ m, moreF r = m := ⟨_, rfl⟩
      rw [hF, hZ, hm] at hcu
      have hcuH := Lib.hid hcu; have hFH := Lib.hid hF; have hZH := Lib.hid hZ; have hmH := Lib.hid hm
      have hFs := Lib.hid (show (⟨F.toArray⟩ : ByteArray).size ≤ 1099511627776 by rw [size_eq, ← hF]; have := form_len r; have := hrs.out; show (formF r).length ≤ _; omega)
      clear hcu hF hZ hm
      go_wp2_with fail
      refine hcuH.out.mono ?_
      rintro e w2 ⟨rfl, hb2⟩
      have hown2 := Lib.hid (hownH.out.below hb2)
      clear hb2
      go_wp2_with fail
      refine (parse_any ⟨F.toArray⟩ w2 (hTH.out.below (hown2.out.2.1)) (hVH.out.below hown2.out.2.1) hFs.out).mono ?_
      rintro e w3 ⟨⟨d, z, rfl, hpd⟩, hb3⟩
      have hown3 := Lib.hid (hown2.out.below hb3); have hpdH := Lib.hid hpd
      clear hb3 hpd
      obtain ⟨k, bb, n, t⟩ := d
      simp only [resV]
      by_cases hz : z = 0
      · subst hz
        have hgood := Lib.hid (show okD ⟨k, bb, n, t⟩ = true ∧ I64 n ∧ F = printS ⟨k, bb, n, t⟩ by
          rcases hpdH.out with ⟨h1, h2, h3, _⟩ | ⟨_, h2, _⟩
          · exact ⟨h1, h2, by simpa using h3⟩
          · exact absurd h2 (by decide))
        by_cases h32 : acc.length = 32
        · have hbad := Lib.hid (hleftH.out.bad hLB.out hneH.out (.inl h32))
          have h32i : ((acc.length : Int) == 32) = true := by rw [h32]; rfl
          clear h32
          go_wp2_with fail
          exact bodyPost_ret (v := .tuple #[.slice none 0 0, .int .u16 20]) (by simp [results, Tryz.results24, go_sem]) rfl ⟨_, _, _, rfl, hbad.out, OwnK.nothing (hown3.out.alloc _)⟩
        · have h32i : ((acc.length : Int) == 32) = false := by rw [beq_eq_false_iff_ne]; omega
          have h32H := Lib.hid (show acc.length < 32 by have := hleftH.out.most; omega)
          clear h32
          have hV := Lib.hid (HasV.new w3 [.int .u8 k, .bool bb, .int .i64 n, .string t] 60)
          have v0_ := hV.out.cell 0 rfl; have v1_ := hV.out.cell 1 rfl; have v2_ := hV.out.cell 2 rfl; have v3_ := hV.out.cell 3 rfl
          have hOne := Lib.hid (show RowV ((w3.alloc (.cells #[.int .u8 k, .bool bb, .int .i64 n, .string t] 60)).alloc (.cells #[.int .u8 k, .bool bb, .int .i64 n, .string t] 60)) (.slice (some ⟨w3.heap.size + 1, 0, none⟩) 1 1) [⟨k, bb, n, t⟩] from by
            have := one_datum (w3.alloc (.cells #[.int .u8 k, .bool bb, .int .i64 n, .string t] 60)) k bb n t
            rwa [World.size_alloc] at this)
          go_wp2_with (at_builtin; refine wpList_rowK rfl _ _ 23 Tryz.underlying23 rfl w1.heap.size _ acc w1 _ _ [⟨k, bb, n, t⟩] (OwnK.alloc (OwnK.alloc hown3.out _) _) rfl hOne.out rfl (by have := h32H.out; simp; omega) ?_; intro v4 w4 hq4; have hown4 := Lib.hid hq4; clear hq4)
          have hfo : formF r = printS ⟨k, bb, n, t⟩ := hFH.out.trans hgood.out.2.2
          cases m with
          | true =>
            have hl2 := hleftH.out.more h32H.out hgood.out.1 hgood.out.2.1 hfo hmH.out
            have hrl := rest_len r hmH.out
            rw [hZH.out] at hl2 hrl
            exact ⟨⟨_, Z, true, rfl, rfl, hown4.out, .inl ⟨rfl, hl2, fun e => absurd e (by simp)⟩, by have := hrlH.out; omega⟩, by simp [paM, size_eq]; exact hrl⟩
          | false =>
            have hl2 := hleftH.out.last hLB.out h32H.out hgood.out.1 hgood.out.2.1 hfo hmH.out
            refine ⟨⟨_, Z, false, rfl, rfl, hown4.out, .inr ⟨rfl, hl2⟩, ?_⟩, by simp [paM]⟩
            have h1 := hmH.out
            have h2 := hZH.out
            unfold moreF at h1
            unfold restF at h2
            cases hc : cutF false r with
            | none => rw [hc] at h2; rw [← h2]; simp
            | some x => rw [hc] at h1; cases h1
      · have hbad := Lib.hid (hleftH.out.bad hLB.out hneH.out (.inr (fun d h1 h2 e => by
          rcases hpdH.out with ⟨_, _, _, h0⟩ | ⟨_, _, h3⟩
          · exact hz h0
          · exact h3 d h1 h2 (by rw [← e, hFH.out]))))
        have hzn : (z != 0) = true := by simpa using hz
        clear hz
        go_wp2_with fail
        exact bodyPost_ret (v := .tuple #[.slice none 0 0, .int .u16 20]) (by simp [results, Tryz.results24, go_sem]) rfl ⟨_, _, _, rfl, hbad.out, OwnK.nothing (hown3.out.alloc _)⟩
end Go.Proofs.YtpmfbmigdpmloaaGreatDoor
