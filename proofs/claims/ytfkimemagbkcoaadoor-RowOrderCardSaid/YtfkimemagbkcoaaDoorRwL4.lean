/-
  The law RowOrder, walked at this program: of any three rows. Condition: unicode/utf8's two tables lie as their initialisers lay them.
-/
import Derived.Test.YtfkimemagbkcoaaDoorRwB9
import Derived.Test.YtfkimemagbkcoaaDoorRwP
set_option linter.unusedVariables false
set_option linter.unusedSimpArgs false
namespace Go.Proofs.YtfkimemagbkcoaaDoor
open Go.RowKit Go.Lib Go.Proofs

theorem enc_cmp {l m : List Dat} (hl : chkR l = 0) (hm : chkR m = 0) (wl : ∀ d ∈ l, Wide d ∧ d.s.size ≤ 9223372036854775807) (wm : ∀ d ∈ m, Wide d ∧ d.s.size ≤ 9223372036854775807) : compareBytes (encR l) (encR m) = cmpR l m :=
  encR_cmp l m (fun d hd => ⟨chk_kinded ((chkR_all hl).2 d hd), (wl d hd).1⟩) (fun d hd => ⟨chk_kinded ((chkR_all hm).2 d hd), (wm d hd).1⟩)
set_option maxHeartbeats 8000000 in
set_option maxRecDepth 1000000 in
theorem rowOrder_any (va vb vc : Value) (l m n : List Dat) (w : World) (hT : Tab8 w) (ha : RowV w va l) (hb : RowV w vb m) (hc : RowV w vc n) (wa : ∀ d ∈ l, Wide d ∧ d.s.size ≤ 9223372036854775807) (wb : ∀ d ∈ m, Wide d ∧ d.s.size ≤ 9223372036854775807) (_ : ∀ d ∈ n, Wide d ∧ d.s.size ≤ 9223372036854775807) :
    Calls Tryd.prog 4 #[va, vb, vc] w fun e w' => e = .returned (.bool true) ∧ Below w.heap.size w w' := by
  obtain ⟨A, ca, rfl, hla⟩ := ha.form
  obtain ⟨B, cb, rfl, hlb⟩ := hb.form
  obtain ⟨C, cc, rfl, hlc⟩ := hc.form
  have haH := Lib.hid ha; have hbH := Lib.hid hb; have hcH := Lib.hid hc; have hTH := Lib.hid hT; have waH := Lib.hid wa; have wbH := Lib.hid wb
  clear ha hb hc hT wa wb
  obtain ⟨q, hq⟩ : ∃ q : Int, wrap64 (wrap64 ((l.length : Int) + (m.length : Int)) + (n.length : Int)) = q := ⟨_, rfl⟩
  by_cases hbig : 4000 < q
  · go_enter Tryd.func4, Tryd.ntmps4
    go_wp2_with fail
    go_ret
    exact ⟨rfl, by go_grown⟩
  have t1 := cmpR_turn m l
  have t2 := cmpR_range l m
  have t3 := cmpR_range m n
  have t4 := cmpR_range l n
  have t5 := Lib.hid (cmpR_trans (l := l) (m := m) (n := n))
  obtain ⟨r2, hr2⟩ : ∃ r, cmpR m l = r := ⟨_, rfl⟩
  obtain ⟨r1, hr1⟩ : ∃ r, cmpR l m = r := ⟨_, rfl⟩
  obtain ⟨r3, hr3⟩ : ∃ r, cmpR m n = r := ⟨_, rfl⟩
  obtain ⟨r4, hr4⟩ : ∃ r, cmpR l n = r := ⟨_, rfl⟩
  rw [hr2, hr1] at t1
  rw [hr1] at t2
  rw [hr3] at t3
  rw [hr4] at t4
  rw [hr1, hr3, hr4] at t5
  have e1 := Lib.hid hr1; have e2 := Lib.hid hr2; have e3 := Lib.hid hr3; have e4 := Lib.hid hr4
  clear hr1 hr2 hr3 hr4
  go_enter Tryd.func4, Tryd.ntmps4
  go_wp2_with fail
  refine (rowCmp_any _ _ l m _ haH.out hbH.out).mono ?_
  rw [e1.out]
  rintro e w1 ⟨rfl, hb1⟩
  have hb1H := Lib.hid hb1
  clear hb1
  go_wp2_with fail
  refine (rowCmp_any _ _ m l _ (hbH.out.below hb1H.out) (haH.out.below hb1H.out)).mono ?_
  rw [e2.out]
  rintro e w2 ⟨rfl, hb2⟩
  have hb2H := Lib.hid (hb1H.out.trans (hb2.mono hb1H.out.size))
  clear hb2
  have hc : r1 = -1 ∨ r1 = 0 ∨ r1 = 1 := by omega
  rcases hc with h1 | h1 | h1
  · obtain rfl : r1 = -1 := h1
    obtain rfl : r2 = 1 := by omega
    clear t1 t2
    go_wp2_with fail
    refine (rowCmp_any _ _ m n _ (hbH.out.below hb2H.out) (hcH.out.below hb2H.out)).mono ?_
    rw [e3.out]
    rintro e w3 ⟨rfl, hb3⟩
    have hb3H := Lib.hid (hb2H.out.trans (hb3.mono hb2H.out.size))
    clear hb3
    by_cases h3 : r3 ≤ 0
    · have h4 : r4 ≤ 0 := t5.out (by decide) h3
      go_wp2_with fail
      refine (rowCmp_any _ _ l n _ (haH.out.below hb3H.out) (hcH.out.below hb3H.out)).mono ?_
      rw [e4.out]
      rintro e w4 ⟨rfl, hb4⟩
      have hbx := Lib.hid (hb3H.out.trans (hb4.mono hb3H.out.size))
      clear hb4
      go_wp2_with fail
      refine (encode_any _ l _ (haH.out.below hbx.out) (hTH.out.below hbx.out) waH.out).mono ?_
      obtain ⟨ka, hka⟩ : ∃ k, chkR l = k := ⟨_, rfl⟩
      rw [hka]
      rintro e w5 ⟨v5, rfl, h5, hb5⟩
      have h5H := Lib.hid h5
      have hb5H := Lib.hid (hbx.out.trans (hb5.mono hbx.out.size))
      have hr5 := Lib.hid hka
      clear h5 hb5 hka
      go_wp2_with fail
      refine (encode_any _ m _ (hbH.out.below hb5H.out) (hTH.out.below hb5H.out) wbH.out).mono ?_
      obtain ⟨kb, hkb⟩ : ∃ k, chkR m = k := ⟨_, rfl⟩
      rw [hkb]
      rintro e w6 ⟨v6, rfl, h6, hb6⟩
      have h6H := Lib.hid h6
      have hb56 := Lib.hid hb6
      have hb6H := Lib.hid (hb5H.out.trans (hb6.mono hb5H.out.size))
      have hr6 := Lib.hid hkb
      clear h6 hb6 hkb
      go_wp2_with fail
      refine (known_any _).mono ?_
      rintro e w7 ⟨rfl, hb7⟩
      have hb67 := Lib.hid hb7
      have hb7H := Lib.hid (hb6H.out.trans (hb7.mono hb6H.out.size))
      clear hb7
      by_cases hza : ka = 0
      · subst hza
        by_cases hzb : kb = 0
        · subst hzb
          have hx : Hid (OwnU _ v5 (encR l) w5) := Lib.hid (h5H.out.elim (fun h => h.2) (fun h => absurd rfl h.1))
          have hy : Hid (OwnU _ v6 (encR m) w6) := Lib.hid (h6H.out.elim (fun h => h.2) (fun h => absurd rfl h.1))
          have hx7 := Lib.hid ((OwnU.byts hx.out).below (hb56.out.trans (hb67.out.mono hb56.out.size)))
          have hy7 := Lib.hid ((OwnU.byts hy.out).below hb67.out)
          go_wp2_with fail
          refine (bytes_any _ _ (encR l) (encR m) _ hx7.out hy7.out).mono ?_
          rw [enc_cmp hr5.out hr6.out waH.out wbH.out, e1.out]
          rintro e w8 ⟨rfl, hb8⟩
          have hb8H := Lib.hid (hb7H.out.trans (hb8.mono hb7H.out.size))
          clear hb8
          go_wp2_with fail
          go_ret
          exact ⟨rfl, hb8H.out⟩
        · go_wp2_with fail
          go_ret
          exact ⟨rfl, hb7H.out⟩
      · go_wp2_with fail
        go_ret
        exact ⟨rfl, hb7H.out⟩
    · have hbx := hb3H
      go_wp2_with fail
      refine (encode_any _ l _ (haH.out.below hbx.out) (hTH.out.below hbx.out) waH.out).mono ?_
      obtain ⟨ka, hka⟩ : ∃ k, chkR l = k := ⟨_, rfl⟩
      rw [hka]
      rintro e w5 ⟨v5, rfl, h5, hb5⟩
      have h5H := Lib.hid h5
      have hb5H := Lib.hid (hbx.out.trans (hb5.mono hbx.out.size))
      have hr5 := Lib.hid hka
      clear h5 hb5 hka
      go_wp2_with fail
      refine (encode_any _ m _ (hbH.out.below hb5H.out) (hTH.out.below hb5H.out) wbH.out).mono ?_
      obtain ⟨kb, hkb⟩ : ∃ k, chkR m = k := ⟨_, rfl⟩
      rw [hkb]
      rintro e w6 ⟨v6, rfl, h6, hb6⟩
      have h6H := Lib.hid h6
      have hb56 := Lib.hid hb6
      have hb6H := Lib.hid (hb5H.out.trans (hb6.mono hb5H.out.size))
      have hr6 := Lib.hid hkb
      clear h6 hb6 hkb
      go_wp2_with fail
      refine (known_any _).mono ?_
      rintro e w7 ⟨rfl, hb7⟩
      have hb67 := Lib.hid hb7
      have hb7H := Lib.hid (hb6H.out.trans (hb7.mono hb6H.out.size))
      clear hb7
      by_cases hza : ka = 0
      · subst hza
        by_cases hzb : kb = 0
        · subst hzb
          have hx : Hid (OwnU _ v5 (encR l) w5) := Lib.hid (h5H.out.elim (fun h => h.2) (fun h => absurd rfl h.1))
          have hy : Hid (OwnU _ v6 (encR m) w6) := Lib.hid (h6H.out.elim (fun h => h.2) (fun h => absurd rfl h.1))
          have hx7 := Lib.hid ((OwnU.byts hx.out).below (hb56.out.trans (hb67.out.mono hb56.out.size)))
          have hy7 := Lib.hid ((OwnU.byts hy.out).below hb67.out)
          go_wp2_with fail
          refine (bytes_any _ _ (encR l) (encR m) _ hx7.out hy7.out).mono ?_
          rw [enc_cmp hr5.out hr6.out waH.out wbH.out, e1.out]
          rintro e w8 ⟨rfl, hb8⟩
          have hb8H := Lib.hid (hb7H.out.trans (hb8.mono hb7H.out.size))
          clear hb8
          go_wp2_with fail
          go_ret
          exact ⟨rfl, hb8H.out⟩
        · go_wp2_with fail
          go_ret
          exact ⟨rfl, hb7H.out⟩
      · go_wp2_with fail
        go_ret
        exact ⟨rfl, hb7H.out⟩
  · obtain rfl : r1 = 0 := h1
    obtain rfl : r2 = 0 := by omega
    clear t1 t2
    go_wp2_with fail
    refine (rowCmp_any _ _ m n _ (hbH.out.below hb2H.out) (hcH.out.below hb2H.out)).mono ?_
    rw [e3.out]
    rintro e w3 ⟨rfl, hb3⟩
    have hb3H := Lib.hid (hb2H.out.trans (hb3.mono hb2H.out.size))
    clear hb3
    by_cases h3 : r3 ≤ 0
    · have h4 : r4 ≤ 0 := t5.out (by decide) h3
      go_wp2_with fail
      refine (rowCmp_any _ _ l n _ (haH.out.below hb3H.out) (hcH.out.below hb3H.out)).mono ?_
      rw [e4.out]
      rintro e w4 ⟨rfl, hb4⟩
      have hbx := Lib.hid (hb3H.out.trans (hb4.mono hb3H.out.size))
      clear hb4
      go_wp2_with fail
      refine (encode_any _ l _ (haH.out.below hbx.out) (hTH.out.below hbx.out) waH.out).mono ?_
      obtain ⟨ka, hka⟩ : ∃ k, chkR l = k := ⟨_, rfl⟩
      rw [hka]
      rintro e w5 ⟨v5, rfl, h5, hb5⟩
      have h5H := Lib.hid h5
      have hb5H := Lib.hid (hbx.out.trans (hb5.mono hbx.out.size))
      have hr5 := Lib.hid hka
      clear h5 hb5 hka
      go_wp2_with fail
      refine (encode_any _ m _ (hbH.out.below hb5H.out) (hTH.out.below hb5H.out) wbH.out).mono ?_
      obtain ⟨kb, hkb⟩ : ∃ k, chkR m = k := ⟨_, rfl⟩
      rw [hkb]
      rintro e w6 ⟨v6, rfl, h6, hb6⟩
      have h6H := Lib.hid h6
      have hb56 := Lib.hid hb6
      have hb6H := Lib.hid (hb5H.out.trans (hb6.mono hb5H.out.size))
      have hr6 := Lib.hid hkb
      clear h6 hb6 hkb
      go_wp2_with fail
      refine (known_any _).mono ?_
      rintro e w7 ⟨rfl, hb7⟩
      have hb67 := Lib.hid hb7
      have hb7H := Lib.hid (hb6H.out.trans (hb7.mono hb6H.out.size))
      clear hb7
      by_cases hza : ka = 0
      · subst hza
        by_cases hzb : kb = 0
        · subst hzb
          have hx : Hid (OwnU _ v5 (encR l) w5) := Lib.hid (h5H.out.elim (fun h => h.2) (fun h => absurd rfl h.1))
          have hy : Hid (OwnU _ v6 (encR m) w6) := Lib.hid (h6H.out.elim (fun h => h.2) (fun h => absurd rfl h.1))
          have hx7 := Lib.hid ((OwnU.byts hx.out).below (hb56.out.trans (hb67.out.mono hb56.out.size)))
          have hy7 := Lib.hid ((OwnU.byts hy.out).below hb67.out)
          go_wp2_with fail
          refine (bytes_any _ _ (encR l) (encR m) _ hx7.out hy7.out).mono ?_
          rw [enc_cmp hr5.out hr6.out waH.out wbH.out, e1.out]
          rintro e w8 ⟨rfl, hb8⟩
          have hb8H := Lib.hid (hb7H.out.trans (hb8.mono hb7H.out.size))
          clear hb8
          go_wp2_with fail
          go_ret
          exact ⟨rfl, hb8H.out⟩
        · go_wp2_with fail
          go_ret
          exact ⟨rfl, hb7H.out⟩
      · go_wp2_with fail
        go_ret
        exact ⟨rfl, hb7H.out⟩
    · have hbx := hb3H
      go_wp2_with fail
      refine (encode_any _ l _ (haH.out.below hbx.out) (hTH.out.below hbx.out) waH.out).mono ?_
      obtain ⟨ka, hka⟩ : ∃ k, chkR l = k := ⟨_, rfl⟩
      rw [hka]
      rintro e w5 ⟨v5, rfl, h5, hb5⟩
      have h5H := Lib.hid h5
      have hb5H := Lib.hid (hbx.out.trans (hb5.mono hbx.out.size))
      have hr5 := Lib.hid hka
      clear h5 hb5 hka
      go_wp2_with fail
      refine (encode_any _ m _ (hbH.out.below hb5H.out) (hTH.out.below hb5H.out) wbH.out).mono ?_
      obtain ⟨kb, hkb⟩ : ∃ k, chkR m = k := ⟨_, rfl⟩
      rw [hkb]
      rintro e w6 ⟨v6, rfl, h6, hb6⟩
      have h6H := Lib.hid h6
      have hb56 := Lib.hid hb6
      have hb6H := Lib.hid (hb5H.out.trans (hb6.mono hb5H.out.size))
      have hr6 := Lib.hid hkb
      clear h6 hb6 hkb
      go_wp2_with fail
      refine (known_any _).mono ?_
      rintro e w7 ⟨rfl, hb7⟩
      have hb67 := Lib.hid hb7
      have hb7H := Lib.hid (hb6H.out.trans (hb7.mono hb6H.out.size))
      clear hb7
      by_cases hza : ka = 0
      · subst hza
        by_cases hzb : kb = 0
        · subst hzb
          have hx : Hid (OwnU _ v5 (encR l) w5) := Lib.hid (h5H.out.elim (fun h => h.2) (fun h => absurd rfl h.1))
          have hy : Hid (OwnU _ v6 (encR m) w6) := Lib.hid (h6H.out.elim (fun h => h.2) (fun h => absurd rfl h.1))
          have hx7 := Lib.hid ((OwnU.byts hx.out).below (hb56.out.trans (hb67.out.mono hb56.out.size)))
          have hy7 := Lib.hid ((OwnU.byts hy.out).below hb67.out)
          go_wp2_with fail
          refine (bytes_any _ _ (encR l) (encR m) _ hx7.out hy7.out).mono ?_
          rw [enc_cmp hr5.out hr6.out waH.out wbH.out, e1.out]
          rintro e w8 ⟨rfl, hb8⟩
          have hb8H := Lib.hid (hb7H.out.trans (hb8.mono hb7H.out.size))
          clear hb8
          go_wp2_with fail
          go_ret
          exact ⟨rfl, hb8H.out⟩
        · go_wp2_with fail
          go_ret
          exact ⟨rfl, hb7H.out⟩
      · go_wp2_with fail
        go_ret
        exact ⟨rfl, hb7H.out⟩
  · obtain rfl : r1 = 1 := h1
    obtain rfl : r2 = -1 := by omega
    clear t1 t2
    have hbx := hb2H
    go_wp2_with fail
    refine (encode_any _ l _ (haH.out.below hbx.out) (hTH.out.below hbx.out) waH.out).mono ?_
    obtain ⟨ka, hka⟩ : ∃ k, chkR l = k := ⟨_, rfl⟩
    rw [hka]
    rintro e w5 ⟨v5, rfl, h5, hb5⟩
    have h5H := Lib.hid h5
    have hb5H := Lib.hid (hbx.out.trans (hb5.mono hbx.out.size))
    have hr5 := Lib.hid hka
    clear h5 hb5 hka
    go_wp2_with fail
    refine (encode_any _ m _ (hbH.out.below hb5H.out) (hTH.out.below hb5H.out) wbH.out).mono ?_
    obtain ⟨kb, hkb⟩ : ∃ k, chkR m = k := ⟨_, rfl⟩
    rw [hkb]
    rintro e w6 ⟨v6, rfl, h6, hb6⟩
    have h6H := Lib.hid h6
    have hb56 := Lib.hid hb6
    have hb6H := Lib.hid (hb5H.out.trans (hb6.mono hb5H.out.size))
    have hr6 := Lib.hid hkb
    clear h6 hb6 hkb
    go_wp2_with fail
    refine (known_any _).mono ?_
    rintro e w7 ⟨rfl, hb7⟩
    have hb67 := Lib.hid hb7
    have hb7H := Lib.hid (hb6H.out.trans (hb7.mono hb6H.out.size))
    clear hb7
    by_cases hza : ka = 0
    · subst hza
      by_cases hzb : kb = 0
      · subst hzb
        have hx : Hid (OwnU _ v5 (encR l) w5) := Lib.hid (h5H.out.elim (fun h => h.2) (fun h => absurd rfl h.1))
        have hy : Hid (OwnU _ v6 (encR m) w6) := Lib.hid (h6H.out.elim (fun h => h.2) (fun h => absurd rfl h.1))
        have hx7 := Lib.hid ((OwnU.byts hx.out).below (hb56.out.trans (hb67.out.mono hb56.out.size)))
        have hy7 := Lib.hid ((OwnU.byts hy.out).below hb67.out)
        go_wp2_with fail
        refine (bytes_any _ _ (encR l) (encR m) _ hx7.out hy7.out).mono ?_
        rw [enc_cmp hr5.out hr6.out waH.out wbH.out, e1.out]
        rintro e w8 ⟨rfl, hb8⟩
        have hb8H := Lib.hid (hb7H.out.trans (hb8.mono hb7H.out.size))
        clear hb8
        go_wp2_with fail
        go_ret
        exact ⟨rfl, hb8H.out⟩
      · go_wp2_with fail
        go_ret
        exact ⟨rfl, hb7H.out⟩
    · go_wp2_with fail
      go_ret
      exact ⟨rfl, hb7H.out⟩
end Go.Proofs.YtfkimemagbkcoaaDoor
