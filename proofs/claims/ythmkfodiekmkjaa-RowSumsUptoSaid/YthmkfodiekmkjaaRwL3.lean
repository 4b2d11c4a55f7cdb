/-
  The law RowSums, walked at this program. Conditions: those written.
-/
import Derived.Test.YthmkfodiekmkjaaRwP
import Derived.Test.YthmkfodiekmkjaaRwQ
set_option linter.unusedVariables false
set_option linter.unusedSimpArgs false
namespace Go.Proofs.Ythmkfodiekmkjaa
open Go.RowKit Go.Lib Go.Proofs

theorem rows_of {qs ds : List Cd} (h : qs.map cnD = ds.map cnD) : ∀ a ∈ qs, ∃ b ∈ ds, a.2 = b.2 ∧ a.1.n = b.1.n := by
  intro a ha
  obtain ⟨i, hi⟩ := List.mem_iff_getElem?.1 ha
  obtain ⟨b, hb, e1, e2⟩ := cn_at h hi
  exact ⟨b, List.mem_of_getElem? hb, e1, e2⟩
set_option maxHeartbeats 8000000 in
set_option maxRecDepth 1000000 in
theorem rowSums_any (v : Value) (ds : List Cd) (w : World) (h : CtsV w v ds) (hk : ∀ d ∈ ds, (∀ x ∈ d.2, Wide x ∧ x.s.size ≤ 9223372036854775807) ∧ S64 d.1.n) (hz : ds.length ≤ 1048576 ∧ ∀ d ∈ ds, szR d.2 ≤ 4194304) :
    Calls Try.prog 4 #[v] w fun e w' => e = .returned (.bool true) ∧ Below w.heap.size w w' := by
  obtain ⟨A, c, rfl, hla⟩ := h.form
  obtain ⟨hn, hsz⟩ := hz
  have hH := Lib.hid h; have hkH := Lib.hid hk; have hszH := Lib.hid hsz
  obtain ⟨k, hkm⟩ : ∃ k, min ds.length 300 = k := ⟨_, rfl⟩
  have hkl : k ≤ ds.length := by omega
  have hfr := Lib.hid (h.front hkl)
  have hcap : k ≤ c := by
    obtain ⟨⟨-, _, _, e, h1, -⟩, -⟩ := h
    cases e
    omega
  have hmin : (if (ds.length : Int) ≤ 300 then (ds.length : Int) else 300) = (k : Int) := by split <;> omega
  have hmin2 : min (ds.length : Int) 300 = (k : Int) := by omega
  clear h hk hsz
  go_enter Try.func4, Try.ntmps4
  go_wp2_with fail
  refine (many_any _ ds w hH.out (by omega)).mono ?_
  rintro e w1 ⟨b, rfl, hb1⟩
  have hb1H := Lib.hid hb1
  clear hb1
  cases b with
  | true =>
    go_wp2_with fail
    go_ret
    exact ⟨rfl, hb1H.out⟩
  | false =>
    obtain ⟨ks, hks⟩ : ∃ ks, ds.take k = ks := ⟨_, rfl⟩
    have hkn : ks.length = k := by rw [← hks, List.length_take]; omega
    have hmem := Lib.hid (show ∀ d ∈ ks, d ∈ ds from fun d hd => List.mem_of_mem_take (hks ▸ hd))
    rw [hks] at hfr
    have hknH := Lib.hid hkn
    clear hks hkn
    go_wp2_with fail
    have hlk := Lib.hid (show ∀ d ∈ ks, d.2.length ≤ 1099511627776 from fun d hd => by
      have h1 := szR_len d.2
      have h2 := hszH.out d (hmem.out d hd)
      omega)
    refine (lentCounteds_any (.slice A k c) ks w1 (hfr.out.below hb1H.out) (by have := hknH.out; omega) hlk.out).mono ?_
    rintro e w2 ⟨u, rfl, hlent, hb2⟩
    obtain ⟨es, hes, hce⟩ := hlent.cts
    have hlentH := Lib.hid hlent; have hceH := Lib.hid hce; have hesH := Lib.hid hes
    have hb2H := Lib.hid (hb1H.out.trans (hb2.mono hb1H.out.size))
    have heW := Lib.hid (show ∀ d ∈ es, d.2.length ≤ 1099511627776 ∧ (∀ x ∈ d.2, Wide x) ∧ szR d.2 ≤ 70368744177664 from fun d hd => by
      obtain ⟨b, hb, e1, _⟩ := rows_of hesH.out d hd
      rw [e1]
      refine ⟨hlk.out b hb, fun x hx => ((hkH.out b (hmem.out b hb)).1 x hx).1, ?_⟩
      have := hszH.out b (hmem.out b hb)
      omega)
    clear hlent hce hes hb2
    go_wp2_with fail
    refine (sumAny_any _ es w2 hceH.out (by rw [cn_len hesH.out, hknH.out]; omega) (fun d hd => (heW.out d hd).1) (fun d hd => (heW.out d hd).2.1) (fun d hd => (heW.out d hd).2.2)).mono ?_
    rintro e w3 ⟨v3, r3, rfl, hso, ho3, hf3, hb3⟩
    have hc3 := Lib.hid (show CtsV w3 v3 r3 from ⟨own_slV ho3, fun d hd => (hf3.1 d hd).rowV⟩)
    have hsoH := Lib.hid (show SumOf (ks.map cnD) (r3.map cnD) from hesH.out ▸ hso)
    have hl3 := Lib.hid (hlentH.out.below hb3)
    have hb3H := Lib.hid (hb2H.out.trans (hb3.mono hb2H.out.size))
    clear hso ho3 hf3 hb3
    go_wp2_with fail
    refine (known_any _).mono ?_
    rintro e w4 ⟨rfl, hb4⟩
    have hc4 := Lib.hid (hc3.out.below hb4)
    have hl4 := Lib.hid (hl3.out.below hb4)
    have hb4H := Lib.hid (hb3H.out.trans (hb4.mono hb3H.out.size))
    clear hb4
    go_wp2_with fail
    have hkn : ks.length = k := hknH.out
    subst hkn
    refine (refSum_any (.slice A ks.length c) ks _ (hfr.out.below hb4H.out) (by omega)).mono ?_
    rintro e w5 ⟨v5, r5, rfl, hr5, hc5, hb5⟩
    have hW := Lib.hid (show WideN (ks.map cnD) from fun x hx => by
      obtain ⟨d, hd, rfl⟩ := List.mem_map.1 hx
      exact fun y hy => ((hkH.out d (hmem.out d hd)).1 y hy).1)
    have hS := Lib.hid (show ∀ x ∈ ks.map cnD, S64 x.2 from fun x hx => by
      obtain ⟨d, hd, rfl⟩ := List.mem_map.1 hx
      exact (hkH.out d (hmem.out d hd)).2)
    have heq := Lib.hid (show r3.map cnD = r5.map cnD from (sum_one hsoH.out (refSum_of hW.out hS.out)).trans hr5.symm)
    have hr5l := Lib.hid (show r5.length ≤ 1099511627776 ∧ ∀ d ∈ r5, d.2.length ≤ 1099511627776 by
      have hp := (heq.out ▸ hsoH.out).1
      refine ⟨?_, fun d hd => ?_⟩
      · have h1 := hp.length_eq
        have h2 := List.length_filter_le (fun x : Cn => x.2 != 0) (sumN (ks.map cnD))
        have h3 := sum_len (ks.map cnD)
        rw [List.length_map] at h1 h3
        omega
      · have h1 := (List.mem_filter.1 (hp.mem_iff.1 (List.mem_map_of_mem hd))).1
        obtain ⟨y, hy, e1⟩ := sum_rows _ _ h1
        obtain ⟨b, hb, rfl⟩ := List.mem_map.1 hy
        show (cnD d).1.length ≤ _
        rw [e1]
        exact hlk.out b hb)
    have hc3' := Lib.hid (hc4.out.below hb5)
    have hl5 := Lib.hid (hl4.out.below hb5)
    have hc5H := Lib.hid hc5
    have hb5H := Lib.hid (hb4H.out.trans (hb5.mono hb4H.out.size))
    clear hr5 hc5 hb5
    go_wp2_with fail
    refine (sameCounteds_any _ _ r3 r5 _ hc3'.out hc5H.out heq.out hr5l.out.1 hr5l.out.2).mono ?_
    rintro e w6 ⟨rfl, hb6⟩
    have hl6 := Lib.hid (hl5.out.below hb6)
    have hb6H := Lib.hid (hb5H.out.trans (hb6.mono hb5H.out.size))
    clear hb6
    go_wp2_with fail
    refine (wholeCounteds_any _ _ _ ks _ hl6.out (hfr.out.below hb6H.out) (by omega) hlk.out).mono ?_
    rintro e w7 ⟨rfl, hb7⟩
    have hb7H := Lib.hid (hb6H.out.trans (hb7.mono hb6H.out.size))
    clear hb7
    go_wp2_with fail
    go_ret
    exact ⟨rfl, hb7H.out⟩
end Go.Proofs.Ythmkfodiekmkjaa
