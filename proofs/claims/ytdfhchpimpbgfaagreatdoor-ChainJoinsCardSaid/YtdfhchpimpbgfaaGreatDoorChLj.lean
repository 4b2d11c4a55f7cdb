/-
  The law ChainJoins answers true, at this program: of any times. Condition: the table of the powers of ten lies as its initialiser lays it; numbers of their kinds.
-/
import Derived.Test.YtdfhchpimpbgfaaGreatDoorChK
import Derived.LoopTactic
import Derived.BigQuiet
set_option linter.unusedVariables false
set_option linter.unusedSimpArgs false
namespace Go.Proofs.YtdfhchpimpbgfaaGreatDoor
open Go.RowKit Go.Lib Go.Proofs

theorem upL_app {a b : List Tm} {z : Tm} : upL (a ++ b) z ↔ upL a z ∨ upL b z := by
  constructor
  · rintro ⟨y, hy, hz⟩
    rw [List.mem_append] at hy
    rcases hy with hy | hy
    · exact .inl ⟨y, hy, hz⟩
    · exact .inr ⟨y, hy, hz⟩
  · rintro (⟨y, hy, hz⟩ | ⟨y, hy, hz⟩)
    · exact ⟨y, by simp [hy], hz⟩
    · exact ⟨y, by simp [hy], hz⟩
theorem upL_one {a : List Tm} {t z : Tm} (h : upB a t = true) : upL (a ++ [t]) z ↔ upL a z := by
  rw [upL_app]
  constructor
  · rintro (h1 | ⟨y, hy, hz⟩)
    · exact h1
    · rw [List.mem_singleton] at hy
      subst hy
      exact upL_mono (upB_iff.1 h) hz
  · exact .inl
theorem small_of {ds : List Td} (h : ∀ d ∈ ds, d.t.l.length ≤ 600) (hw : ∀ d ∈ ds, TmW d.t) : ∀ d ∈ ds, TmW d.t ∧ d.t.l.length ≤ 1099511627776 := fun d hd => ⟨hw d hd, Nat.le_trans (h d hd) (by decide)⟩
theorem both_of {P : Td → Prop} {a b : List Td} (ha : ∀ d ∈ a, P d) (hb : ∀ d ∈ b, P d) : ∀ d ∈ a ++ b, P d := fun d hd => by
  rw [List.mem_append] at hd
  rcases hd with hd | hd
  · exact ha d hd
  · exact hb d hd
set_option maxHeartbeats 8000000 in
set_option maxRecDepth 1000000 in
theorem chainJoins_any (va vb vc vt : Value) (xs ys zs : List Td) (u : Td) (w : World) (hT0 : Pows w) (ha : TmsV w va xs) (hb : TmsV w vb ys) (hc : TmsV w vc zs) (hvt : vt = valT u) (hu : WordsV w (slD u) u.t.l) (wa : ∀ d ∈ xs, TmW d.t) (wb : ∀ d ∈ ys, TmW d.t) (wc : ∀ d ∈ zs, TmW d.t) (wu : TmW u.t) :
    Calls Tryz.prog 6 #[va, vb, vc, vt] w fun e w' => e = .returned (.bool true) ∧ Below w.heap.size w w' := by
  subst hvt
  obtain ⟨Aa, na, ca, rfl, hna, hnca, hca⟩ := ha.form
  obtain ⟨Ab, nb, cb, rfl, hnb, hncb, hcb⟩ := hb.form
  obtain ⟨Ac_, nc, cc, rfl, hnc, hncc, hcc⟩ := hc.form
  obtain ⟨uA, uc, ⟨ue, ul⟩⟩ := u
  obtain ⟨W0, hW0, hwW, hA, hzz⟩ := boxes1 w [.int .u64 ue, .slice uA ul.length uc] 26
  have hW0' : w.alloc (.cells #[.int .u64 ue, .slice uA ul.length uc] 26) = W0 := hW0
  have hvu := Lib.hid (show WordsV W0 (slD ⟨uA, uc, ⟨ue, ul⟩⟩) ul from hu.below hwW)
  have hva := Lib.hid (ha.below hwW); have hvb := Lib.hid (hb.below hwW); have hvc := Lib.hid (hc.below hwW); have hbu := Lib.hid hA; have hall := Lib.hid hwW; have hT := Lib.hid (hT0.below hwW)
  have hnaH := Lib.hid hna; have hnbH := Lib.hid hnb; have hncH := Lib.hid hnc; have waH := Lib.hid wa; have wbH := Lib.hid wb; have wcH := Lib.hid wc
  have hul : ul.length ≤ 9223372036854775807 := by obtain ⟨_, n', _, e, h1, h2, h3⟩ := hu.form; simp only at h1; omega
  simp only [valT]
  clear ha hb hc hu hA hwW hzz hT0 hna hnb hnc wa wb wc hW0
  go_enter Tryz.func6, Tryz.ntmps6
  have u0_ := hbu.out.cell 0 rfl; have u1_ := hbu.out.cell 1 rfl; have ul_ := hbu.out.lt
  go_wp2_with fail
  clear u0_ u1_ ul_
  refine (much_any _ xs _ hva.out).mono ?_
  rintro e_ w1 ⟨z1, rfl, hz1_, hw_⟩
  have hb_ := (show ∀ {a b : World}, a = b → Below a.heap.size a b from fun h => h ▸ Below.refl _ _) hw_
  clear hw_
  have hc_ : Below W0.heap.size W0 w1 := chainB (by first | exact Below.refl _ _ | go_grown) hb_ (by first | exact Nat.le_refl _ | (simp; done) | (simp; omega))
  replace hva := Lib.hid (hva.out.below hc_)
  replace hvb := Lib.hid (hvb.out.below hc_)
  replace hvc := Lib.hid (hvc.out.below hc_)
  replace hvu := Lib.hid (hvu.out.below hc_)
  replace hbu := Lib.hid (hbu.out.below hc_)
  replace hT := Lib.hid (hT.out.below hc_)
  replace hall := Lib.hid (chainB hall.out hc_ hall.out.size)
  clear hc_
  clear hb_
  have hz1 := Lib.hid hz1_
  clear hz1_
  cases z1 with
  | true =>
    have u0_ := hbu.out.cell 0 rfl; have u1_ := hbu.out.cell 1 rfl; have ul_ := hbu.out.lt
    go_wp2_with fail
    clear u0_ u1_ ul_
    refine (known_any _ (hT.out.below (by first | exact Below.refl _ _ | go_grown))).mono ?_
    rintro e_ w2 ⟨rfl, hb_⟩
    have hc_ : Below w1.heap.size w1 w2 := chainB (by first | exact Below.refl _ _ | go_grown) hb_ (by first | exact Nat.le_refl _ | (simp; done) | (simp; omega))
    replace hva := Lib.hid (hva.out.below hc_)
    replace hvb := Lib.hid (hvb.out.below hc_)
    replace hvc := Lib.hid (hvc.out.below hc_)
    replace hvu := Lib.hid (hvu.out.below hc_)
    replace hbu := Lib.hid (hbu.out.below hc_)
    replace hT := Lib.hid (hT.out.below hc_)
    replace hall := Lib.hid (chainB hall.out hc_ hall.out.size)
    clear hc_
    clear hb_
    have u0_ := hbu.out.cell 0 rfl; have u1_ := hbu.out.cell 1 rfl; have ul_ := hbu.out.lt
    go_wp2_with fail
    go_ret
    exact ⟨rfl, hall.out⟩
  | false =>
    have hsz1 := Lib.hid (hz1.out rfl)
    clear hz1
    have u0_ := hbu.out.cell 0 rfl; have u1_ := hbu.out.cell 1 rfl; have ul_ := hbu.out.lt
    go_wp2_with fail
    clear u0_ u1_ ul_
    refine (much_any _ ys _ hvb.out).mono ?_
    rintro e_ w3 ⟨z2, rfl, hz2_, hw_⟩
    have hb_ := (show ∀ {a b : World}, a = b → Below a.heap.size a b from fun h => h ▸ Below.refl _ _) hw_
    clear hw_
    have hc_ : Below w1.heap.size w1 w3 := chainB (by first | exact Below.refl _ _ | go_grown) hb_ (by first | exact Nat.le_refl _ | (simp; done) | (simp; omega))
    replace hva := Lib.hid (hva.out.below hc_)
    replace hvb := Lib.hid (hvb.out.below hc_)
    replace hvc := Lib.hid (hvc.out.below hc_)
    replace hvu := Lib.hid (hvu.out.below hc_)
    replace hbu := Lib.hid (hbu.out.below hc_)
    replace hT := Lib.hid (hT.out.below hc_)
    replace hall := Lib.hid (chainB hall.out hc_ hall.out.size)
    clear hc_
    clear hb_
    have hz2 := Lib.hid hz2_
    clear hz2_
    cases z2 with
    | true =>
      have u0_ := hbu.out.cell 0 rfl; have u1_ := hbu.out.cell 1 rfl; have ul_ := hbu.out.lt
      go_wp2_with fail
      clear u0_ u1_ ul_
      refine (known_any _ (hT.out.below (by first | exact Below.refl _ _ | go_grown))).mono ?_
      rintro e_ w4 ⟨rfl, hb_⟩
      have hc_ : Below w3.heap.size w3 w4 := chainB (by first | exact Below.refl _ _ | go_grown) hb_ (by first | exact Nat.le_refl _ | (simp; done) | (simp; omega))
      replace hva := Lib.hid (hva.out.below hc_)
      replace hvb := Lib.hid (hvb.out.below hc_)
      replace hvc := Lib.hid (hvc.out.below hc_)
      replace hvu := Lib.hid (hvu.out.below hc_)
      replace hbu := Lib.hid (hbu.out.below hc_)
      replace hT := Lib.hid (hT.out.below hc_)
      replace hall := Lib.hid (chainB hall.out hc_ hall.out.size)
      clear hc_
      clear hb_
      have u0_ := hbu.out.cell 0 rfl; have u1_ := hbu.out.cell 1 rfl; have ul_ := hbu.out.lt
      go_wp2_with fail
      go_ret
      exact ⟨rfl, hall.out⟩
    | false =>
      have hsz2 := Lib.hid (hz2.out rfl)
      clear hz2
      have u0_ := hbu.out.cell 0 rfl; have u1_ := hbu.out.cell 1 rfl; have ul_ := hbu.out.lt
      go_wp2_with fail
      clear u0_ u1_ ul_
      refine (much_any _ zs _ hvc.out).mono ?_
      rintro e_ w5 ⟨z3, rfl, hz3_, hw_⟩
      have hb_ := (show ∀ {a b : World}, a = b → Below a.heap.size a b from fun h => h ▸ Below.refl _ _) hw_
      clear hw_
      have hc_ : Below w3.heap.size w3 w5 := chainB (by first | exact Below.refl _ _ | go_grown) hb_ (by first | exact Nat.le_refl _ | (simp; done) | (simp; omega))
      replace hva := Lib.hid (hva.out.below hc_)
      replace hvb := Lib.hid (hvb.out.below hc_)
      replace hvc := Lib.hid (hvc.out.below hc_)
      replace hvu := Lib.hid (hvu.out.below hc_)
      replace hbu := Lib.hid (hbu.out.below hc_)
      replace hT := Lib.hid (hT.out.below hc_)
      replace hall := Lib.hid (chainB hall.out hc_ hall.out.size)
      clear hc_
      clear hb_
      have hz3 := Lib.hid hz3_
      clear hz3_
      cases z3 with
      | true =>
        have u0_ := hbu.out.cell 0 rfl; have u1_ := hbu.out.cell 1 rfl; have ul_ := hbu.out.lt
        go_wp2_with fail
        clear u0_ u1_ ul_
        refine (known_any _ (hT.out.below (by first | exact Below.refl _ _ | go_grown))).mono ?_
        rintro e_ w6 ⟨rfl, hb_⟩
        have hc_ : Below w5.heap.size w5 w6 := chainB (by first | exact Below.refl _ _ | go_grown) hb_ (by first | exact Nat.le_refl _ | (simp; done) | (simp; omega))
        replace hva := Lib.hid (hva.out.below hc_)
        replace hvb := Lib.hid (hvb.out.below hc_)
        replace hvc := Lib.hid (hvc.out.below hc_)
        replace hvu := Lib.hid (hvu.out.below hc_)
        replace hbu := Lib.hid (hbu.out.below hc_)
        replace hT := Lib.hid (hT.out.below hc_)
        replace hall := Lib.hid (chainB hall.out hc_ hall.out.size)
        clear hc_
        clear hb_
        have u0_ := hbu.out.cell 0 rfl; have u1_ := hbu.out.cell 1 rfl; have ul_ := hbu.out.lt
        go_wp2_with fail
        go_ret
        exact ⟨rfl, hall.out⟩
      | false =>
        have hsz3 := Lib.hid (hz3.out rfl)
        clear hz3
        by_cases hda : 12 < na
        · have daa : decide ((na : Int) > 12) = true := decide_eq_true (by omega)
          have dab : decide (12 < (na : Int)) = true := decide_eq_true (by omega)
          have u0_ := hbu.out.cell 0 rfl; have u1_ := hbu.out.cell 1 rfl; have ul_ := hbu.out.lt
          go_wp2_with fail
          clear u0_ u1_ ul_
          refine (known_any _ (hT.out.below (by first | exact Below.refl _ _ | go_grown))).mono ?_
          rintro e_ w7 ⟨rfl, hb_⟩
          have hc_ : Below w5.heap.size w5 w7 := chainB (by first | exact Below.refl _ _ | go_grown) hb_ (by first | exact Nat.le_refl _ | (simp; done) | (simp; omega))
          replace hva := Lib.hid (hva.out.below hc_)
          replace hvb := Lib.hid (hvb.out.below hc_)
          replace hvc := Lib.hid (hvc.out.below hc_)
          replace hvu := Lib.hid (hvu.out.below hc_)
          replace hbu := Lib.hid (hbu.out.below hc_)
          replace hT := Lib.hid (hT.out.below hc_)
          replace hall := Lib.hid (chainB hall.out hc_ hall.out.size)
          clear hc_
          clear hb_
          have u0_ := hbu.out.cell 0 rfl; have u1_ := hbu.out.cell 1 rfl; have ul_ := hbu.out.lt
          go_wp2_with fail
          go_ret
          exact ⟨rfl, hall.out⟩
        · have daa : decide ((na : Int) > 12) = false := decide_eq_false (by omega)
          have dab : decide (12 < (na : Int)) = false := decide_eq_false (by omega)
          by_cases hdb : 12 < nb
          · have dba : decide ((nb : Int) > 12) = true := decide_eq_true (by omega)
            have dbb : decide (12 < (nb : Int)) = true := decide_eq_true (by omega)
            have u0_ := hbu.out.cell 0 rfl; have u1_ := hbu.out.cell 1 rfl; have ul_ := hbu.out.lt
            go_wp2_with fail
            clear u0_ u1_ ul_
            refine (known_any _ (hT.out.below (by first | exact Below.refl _ _ | go_grown))).mono ?_
            rintro e_ w8 ⟨rfl, hb_⟩
            have hc_ : Below w5.heap.size w5 w8 := chainB (by first | exact Below.refl _ _ | go_grown) hb_ (by first | exact Nat.le_refl _ | (simp; done) | (simp; omega))
            replace hva := Lib.hid (hva.out.below hc_)
            replace hvb := Lib.hid (hvb.out.below hc_)
            replace hvc := Lib.hid (hvc.out.below hc_)
            replace hvu := Lib.hid (hvu.out.below hc_)
            replace hbu := Lib.hid (hbu.out.below hc_)
            replace hT := Lib.hid (hT.out.below hc_)
            replace hall := Lib.hid (chainB hall.out hc_ hall.out.size)
            clear hc_
            clear hb_
            have u0_ := hbu.out.cell 0 rfl; have u1_ := hbu.out.cell 1 rfl; have ul_ := hbu.out.lt
            go_wp2_with fail
            go_ret
            exact ⟨rfl, hall.out⟩
          · have dba : decide ((nb : Int) > 12) = false := decide_eq_false (by omega)
            have dbb : decide (12 < (nb : Int)) = false := decide_eq_false (by omega)
            by_cases hdc : 12 < nc
            · have dca : decide ((nc : Int) > 12) = true := decide_eq_true (by omega)
              have dcb : decide (12 < (nc : Int)) = true := decide_eq_true (by omega)
              have u0_ := hbu.out.cell 0 rfl; have u1_ := hbu.out.cell 1 rfl; have ul_ := hbu.out.lt
              go_wp2_with fail
              clear u0_ u1_ ul_
              refine (known_any _ (hT.out.below (by first | exact Below.refl _ _ | go_grown))).mono ?_
              rintro e_ w9 ⟨rfl, hb_⟩
              have hc_ : Below w5.heap.size w5 w9 := chainB (by first | exact Below.refl _ _ | go_grown) hb_ (by first | exact Nat.le_refl _ | (simp; done) | (simp; omega))
              replace hva := Lib.hid (hva.out.below hc_)
              replace hvb := Lib.hid (hvb.out.below hc_)
              replace hvc := Lib.hid (hvc.out.below hc_)
              replace hvu := Lib.hid (hvu.out.below hc_)
              replace hbu := Lib.hid (hbu.out.below hc_)
              replace hT := Lib.hid (hT.out.below hc_)
              replace hall := Lib.hid (chainB hall.out hc_ hall.out.size)
              clear hc_
              clear hb_
              have u0_ := hbu.out.cell 0 rfl; have u1_ := hbu.out.cell 1 rfl; have ul_ := hbu.out.lt
              go_wp2_with fail
              go_ret
              exact ⟨rfl, hall.out⟩
            · have dca : decide ((nc : Int) > 12) = false := decide_eq_false (by omega)
              have dcb : decide (12 < (nc : Int)) = false := decide_eq_false (by omega)
              by_cases hdu : 60 < ul.length
              · have dua : decide ((ul.length : Int) > 60) = true := decide_eq_true (by omega)
                have dub : decide (60 < (ul.length : Int)) = true := decide_eq_true (by omega)
                have u0_ := hbu.out.cell 0 rfl; have u1_ := hbu.out.cell 1 rfl; have ul_ := hbu.out.lt
                go_wp2_with fail
                clear u0_ u1_ ul_
                refine (known_any _ (hT.out.below (by first | exact Below.refl _ _ | go_grown))).mono ?_
                rintro e_ w10 ⟨rfl, hb_⟩
                have hc_ : Below w5.heap.size w5 w10 := chainB (by first | exact Below.refl _ _ | go_grown) hb_ (by first | exact Nat.le_refl _ | (simp; done) | (simp; omega))
                replace hva := Lib.hid (hva.out.below hc_)
                replace hvb := Lib.hid (hvb.out.below hc_)
                replace hvc := Lib.hid (hvc.out.below hc_)
                replace hvu := Lib.hid (hvu.out.below hc_)
                replace hbu := Lib.hid (hbu.out.below hc_)
                replace hT := Lib.hid (hT.out.below hc_)
                replace hall := Lib.hid (chainB hall.out hc_ hall.out.size)
                clear hc_
                clear hb_
                have u0_ := hbu.out.cell 0 rfl; have u1_ := hbu.out.cell 1 rfl; have ul_ := hbu.out.lt
                go_wp2_with fail
                go_ret
                exact ⟨rfl, hall.out⟩
              · have dua : decide ((ul.length : Int) > 60) = false := decide_eq_false (by omega)
                have dub : decide (60 < (ul.length : Int)) = false := decide_eq_false (by omega)
                have u0_ := hbu.out.cell 0 rfl; have u1_ := hbu.out.cell 1 rfl; have ul_ := hbu.out.lt
                go_wp2_with fail
                clear u0_ u1_ ul_
                refine (known_any _ (hT.out.below (by first | exact Below.refl _ _ | go_grown))).mono ?_
                rintro e_ w11 ⟨rfl, hb_⟩
                have hc_ : Below w5.heap.size w5 w11 := chainB (by first | exact Below.refl _ _ | go_grown) hb_ (by first | exact Nat.le_refl _ | (simp; done) | (simp; omega))
                replace hva := Lib.hid (hva.out.below hc_)
                replace hvb := Lib.hid (hvb.out.below hc_)
                replace hvc := Lib.hid (hvc.out.below hc_)
                replace hvu := Lib.hid (hvu.out.below hc_)
                replace hbu := Lib.hid (hbu.out.below hc_)
                replace hT := Lib.hid (hT.out.below hc_)
                replace hall := Lib.hid (chainB hall.out hc_ hall.out.size)
                clear hc_
                clear hb_
                have u0_ := hbu.out.cell 0 rfl; have u1_ := hbu.out.cell 1 rfl; have ul_ := hbu.out.lt
                go_wp2_with fail
                clear daa dab dba dbb dca dcb dua dub
                have ha1 := Lib.hid (small_of hsz1.out.2 waH.out); have hb1 := Lib.hid (small_of hsz2.out.2 wbH.out); have hc1 := Lib.hid (small_of hsz3.out.2 wcH.out)
                have hla := Lib.hid (show xs.length ≤ 12 by have := hnaH.out; omega); have hlb := Lib.hid (show ys.length ≤ 12 by have := hnbH.out; omega); have hlc := Lib.hid (show zs.length ≤ 12 by have := hncH.out; omega)
                clear u0_ u1_ ul_
                refine (join_all _ _ xs ys _ (hva.out.below (by first | exact Below.refl _ _ | go_grown)) (hvb.out.below (by first | exact Below.refl _ _ | go_grown)) ⟨by have := hla.out; omega, by have := hlb.out; omega⟩ (both_of ha1.out hb1.out)).mono ?_
                rintro e_ w12 ⟨⟨_, vab, rab, rfl, hvab_, hac_, hl_, hw_⟩, hb_⟩
                have hc_ : Below w11.heap.size w11 w12 := chainB (by first | exact Below.refl _ _ | go_grown) hb_ (by first | exact Nat.le_refl _ | (simp; done) | (simp; omega))
                replace hva := Lib.hid (hva.out.below hc_)
                replace hvb := Lib.hid (hvb.out.below hc_)
                replace hvc := Lib.hid (hvc.out.below hc_)
                replace hvu := Lib.hid (hvu.out.below hc_)
                replace hbu := Lib.hid (hbu.out.below hc_)
                replace hT := Lib.hid (hT.out.below hc_)
                replace hall := Lib.hid (chainB hall.out hc_ hall.out.size)
                have hvab := Lib.hid (hvab_)
                have hacab := Lib.hid hac_; have hlab := Lib.hid hl_; have hwab := Lib.hid hw_
                clear hvab_ hac_ hl_ hw_
                clear hc_
                clear hb_
                have u0_ := hbu.out.cell 0 rfl; have u1_ := hbu.out.cell 1 rfl; have ul_ := hbu.out.lt
                go_wp2_with fail
                have hlab2 := Lib.hid (show rab.length ≤ 144 from Nat.le_trans hlab.out (Nat.mul_le_mul hla.out hlb.out))
                clear u0_ u1_ ul_
                refine (join_all _ _ ys zs _ (hvb.out.below (by first | exact Below.refl _ _ | go_grown)) (hvc.out.below (by first | exact Below.refl _ _ | go_grown)) ⟨by have := hlb.out; omega, by have := hlc.out; omega⟩ (both_of hb1.out hc1.out)).mono ?_
                rintro e_ w13 ⟨⟨_, vbc, rbc, rfl, hvbc_, hac_, hl_, hw_⟩, hb_⟩
                have hc_ : Below w12.heap.size w12 w13 := chainB (by first | exact Below.refl _ _ | go_grown) hb_ (by first | exact Nat.le_refl _ | (simp; done) | (simp; omega))
                replace hva := Lib.hid (hva.out.below hc_)
                replace hvb := Lib.hid (hvb.out.below hc_)
                replace hvc := Lib.hid (hvc.out.below hc_)
                replace hvu := Lib.hid (hvu.out.below hc_)
                replace hbu := Lib.hid (hbu.out.below hc_)
                replace hT := Lib.hid (hT.out.below hc_)
                replace hvab := Lib.hid (hvab.out.below hc_)
                replace hall := Lib.hid (chainB hall.out hc_ hall.out.size)
                have hvbc := Lib.hid (hvbc_)
                have hacbc := Lib.hid hac_; have hlbc := Lib.hid hl_; have hwbc := Lib.hid hw_
                clear hvbc_ hac_ hl_ hw_
                clear hc_
                clear hb_
                have u0_ := hbu.out.cell 0 rfl; have u1_ := hbu.out.cell 1 rfl; have ul_ := hbu.out.lt
                go_wp2_with fail
                have hlbc2 := Lib.hid (show rbc.length ≤ 144 from Nat.le_trans hlbc.out (Nat.mul_le_mul hlb.out hlc.out))
                clear u0_ u1_ ul_
                refine (join_all _ _ ys xs _ (hvb.out.below (by first | exact Below.refl _ _ | go_grown)) (hva.out.below (by first | exact Below.refl _ _ | go_grown)) ⟨by have := hlb.out; omega, by have := hla.out; omega⟩ (both_of hb1.out ha1.out)).mono ?_
                rintro e_ w14 ⟨⟨_, vba, rba, rfl, hvba_, hac_, hl_, hw_⟩, hb_⟩
                have hc_ : Below w13.heap.size w13 w14 := chainB (by first | exact Below.refl _ _ | go_grown) hb_ (by first | exact Nat.le_refl _ | (simp; done) | (simp; omega))
                replace hva := Lib.hid (hva.out.below hc_)
                replace hvb := Lib.hid (hvb.out.below hc_)
                replace hvc := Lib.hid (hvc.out.below hc_)
                replace hvu := Lib.hid (hvu.out.below hc_)
                replace hbu := Lib.hid (hbu.out.below hc_)
                replace hT := Lib.hid (hT.out.below hc_)
                replace hvab := Lib.hid (hvab.out.below hc_)
                replace hvbc := Lib.hid (hvbc.out.below hc_)
                replace hall := Lib.hid (chainB hall.out hc_ hall.out.size)
                have hvba := Lib.hid (hvba_)
                have hacba := Lib.hid hac_; have hlba := Lib.hid hl_; have hwba := Lib.hid hw_
                clear hvba_ hac_ hl_ hw_
                clear hc_
                clear hb_
                have u0_ := hbu.out.cell 0 rfl; have u1_ := hbu.out.cell 1 rfl; have ul_ := hbu.out.lt
                go_wp2_with fail
                have hsm := Lib.hid (show decide (tmsD rab = tmsD rba) = true from decide_eq_true (hacab.out.one hacba.out (fun z => And.comm)))
                clear u0_ u1_ ul_
                refine (sameTimes_any _ _ rab rba _ (hvab.out.below (by first | exact Below.refl _ _ | go_grown)) (hvba.out.below (by first | exact Below.refl _ _ | go_grown))).mono ?_
                rw [hsm.out]
                rintro e_ w15 ⟨rfl, hb_⟩
                have hc_ : Below w14.heap.size w14 w15 := chainB (by first | exact Below.refl _ _ | go_grown) hb_ (by first | exact Nat.le_refl _ | (simp; done) | (simp; omega))
                replace hva := Lib.hid (hva.out.below hc_)
                replace hvb := Lib.hid (hvb.out.below hc_)
                replace hvc := Lib.hid (hvc.out.below hc_)
                replace hvu := Lib.hid (hvu.out.below hc_)
                replace hbu := Lib.hid (hbu.out.below hc_)
                replace hT := Lib.hid (hT.out.below hc_)
                replace hvab := Lib.hid (hvab.out.below hc_)
                replace hvbc := Lib.hid (hvbc.out.below hc_)
                replace hvba := Lib.hid (hvba.out.below hc_)
                replace hall := Lib.hid (chainB hall.out hc_ hall.out.size)
                clear hsm
                clear hc_
                clear hb_
                have u0_ := hbu.out.cell 0 rfl; have u1_ := hbu.out.cell 1 rfl; have ul_ := hbu.out.lt
                go_wp2_with fail
                clear u0_ u1_ ul_
                refine (join_all _ _ rab zs _ (hvab.out.below (by first | exact Below.refl _ _ | go_grown)) (hvc.out.below (by first | exact Below.refl _ _ | go_grown)) ⟨by have := hlab2.out; omega, by have := hlc.out; omega⟩ (both_of hwab.out hc1.out)).mono ?_
                rintro e_ w16 ⟨⟨_, vl, rl, rfl, hvl_, hac_, hl_, hw_⟩, hb_⟩
                have hc_ : Below w15.heap.size w15 w16 := chainB (by first | exact Below.refl _ _ | go_grown) hb_ (by first | exact Nat.le_refl _ | (simp; done) | (simp; omega))
                replace hva := Lib.hid (hva.out.below hc_)
                replace hvb := Lib.hid (hvb.out.below hc_)
                replace hvc := Lib.hid (hvc.out.below hc_)
                replace hvu := Lib.hid (hvu.out.below hc_)
                replace hbu := Lib.hid (hbu.out.below hc_)
                replace hT := Lib.hid (hT.out.below hc_)
                replace hvab := Lib.hid (hvab.out.below hc_)
                replace hvbc := Lib.hid (hvbc.out.below hc_)
                replace hvba := Lib.hid (hvba.out.below hc_)
                replace hall := Lib.hid (chainB hall.out hc_ hall.out.size)
                have hvl := Lib.hid (hvl_)
                have hacl := Lib.hid hac_; have hll := Lib.hid hl_; have hwl := Lib.hid hw_
                clear hvl_ hac_ hl_ hw_
                clear hc_
                clear hb_
                have u0_ := hbu.out.cell 0 rfl; have u1_ := hbu.out.cell 1 rfl; have ul_ := hbu.out.lt
                go_wp2_with fail
                clear u0_ u1_ ul_
                refine (join_all _ _ xs rbc _ (hva.out.below (by first | exact Below.refl _ _ | go_grown)) (hvbc.out.below (by first | exact Below.refl _ _ | go_grown)) ⟨by have := hla.out; omega, by have := hlbc2.out; omega⟩ (both_of ha1.out hwbc.out)).mono ?_
                rintro e_ w17 ⟨⟨_, vr, rr, rfl, hvr_, hac_, hl_, hw_⟩, hb_⟩
                have hc_ : Below w16.heap.size w16 w17 := chainB (by first | exact Below.refl _ _ | go_grown) hb_ (by first | exact Nat.le_refl _ | (simp; done) | (simp; omega))
                replace hva := Lib.hid (hva.out.below hc_)
                replace hvb := Lib.hid (hvb.out.below hc_)
                replace hvc := Lib.hid (hvc.out.below hc_)
                replace hvu := Lib.hid (hvu.out.below hc_)
                replace hbu := Lib.hid (hbu.out.below hc_)
                replace hT := Lib.hid (hT.out.below hc_)
                replace hvab := Lib.hid (hvab.out.below hc_)
                replace hvbc := Lib.hid (hvbc.out.below hc_)
                replace hvba := Lib.hid (hvba.out.below hc_)
                replace hvl := Lib.hid (hvl.out.below hc_)
                replace hall := Lib.hid (chainB hall.out hc_ hall.out.size)
                have hvr := Lib.hid (hvr_)
                have hacr := Lib.hid hac_; have hlr := Lib.hid hl_; have hwr := Lib.hid hw_
                clear hvr_ hac_ hl_ hw_
                clear hc_
                clear hb_
                have u0_ := hbu.out.cell 0 rfl; have u1_ := hbu.out.cell 1 rfl; have ul_ := hbu.out.lt
                go_wp2_with fail
                have hsm := Lib.hid (show decide (tmsD rl = tmsD rr) = true from decide_eq_true (hacl.out.one hacr.out (fun z => by rw [hacab.out.up, hacbc.out.up, and_assoc])))
                clear u0_ u1_ ul_
                refine (sameTimes_any _ _ rl rr _ (hvl.out.below (by first | exact Below.refl _ _ | go_grown)) (hvr.out.below (by first | exact Below.refl _ _ | go_grown))).mono ?_
                rw [hsm.out]
                rintro e_ w18 ⟨rfl, hb_⟩
                have hc_ : Below w17.heap.size w17 w18 := chainB (by first | exact Below.refl _ _ | go_grown) hb_ (by first | exact Nat.le_refl _ | (simp; done) | (simp; omega))
                replace hva := Lib.hid (hva.out.below hc_)
                replace hvb := Lib.hid (hvb.out.below hc_)
                replace hvc := Lib.hid (hvc.out.below hc_)
                replace hvu := Lib.hid (hvu.out.below hc_)
                replace hbu := Lib.hid (hbu.out.below hc_)
                replace hT := Lib.hid (hT.out.below hc_)
                replace hvab := Lib.hid (hvab.out.below hc_)
                replace hvbc := Lib.hid (hvbc.out.below hc_)
                replace hvba := Lib.hid (hvba.out.below hc_)
                replace hvl := Lib.hid (hvl.out.below hc_)
                replace hvr := Lib.hid (hvr.out.below hc_)
                replace hall := Lib.hid (chainB hall.out hc_ hall.out.size)
                clear hsm
                clear hc_
                clear hb_
                have u0_ := hbu.out.cell 0 rfl; have u1_ := hbu.out.cell 1 rfl; have ul_ := hbu.out.lt
                go_wp2_with fail
                clear hvab hvbc hvba hvl hvr hvb hvc
                clear u0_ u1_ ul_
                refine (of_any _ xs _ (hva.out.below (by first | exact Below.refl _ _ | go_grown)) (by have := hla.out; omega) (fun d hd => (ha1.out d hd).2)).mono ?_
                rintro e_ w19 ⟨vo, ro, rfl, hac_, ho_, hf_, hb_, hl_, hs_⟩
                have hc_ : Below w18.heap.size w18 w19 := chainB (by first | exact Below.refl _ _ | go_grown) hb_ (by first | exact Nat.le_refl _ | (simp; done) | (simp; omega))
                replace hva := Lib.hid (hva.out.below hc_)
                replace hvu := Lib.hid (hvu.out.below hc_)
                replace hbu := Lib.hid (hbu.out.below hc_)
                replace hT := Lib.hid (hT.out.below hc_)
                replace hall := Lib.hid (chainB hall.out hc_ hall.out.size)
                have hvo := Lib.hid (ho_.tms hf_.rd)
                have haco := Lib.hid hac_; have hlo := Lib.hid hl_; have hso := Lib.hid hs_
                clear hac_ ho_ hf_ hl_ hs_
                clear hc_
                clear hb_
                have hwo := Lib.hid (show ∀ d ∈ ro, d.t.l.length ≤ 1099511627776 from fun d hd => by obtain ⟨d', hd', e⟩ := List.mem_map.1 (hso.out d.t (List.mem_map.2 ⟨d, hd, rfl⟩)); rw [← e]; exact (ha1.out d' hd').2)
                have u0_ := hbu.out.cell 0 rfl; have u1_ := hbu.out.cell 1 rfl; have ul_ := hbu.out.lt
                go_wp2_with fail
                clear u0_ u1_ ul_
                refine (of_any _ ro _ (hvo.out.below (by first | exact Below.refl _ _ | go_grown)) (by have := hlo.out; have := hla.out; omega) hwo.out).mono ?_
                rintro e_ w20 ⟨vp, rp, rfl, hac_, ho_, hf_, hb_, hl_, hs_⟩
                have hc_ : Below w19.heap.size w19 w20 := chainB (by first | exact Below.refl _ _ | go_grown) hb_ (by first | exact Nat.le_refl _ | (simp; done) | (simp; omega))
                replace hva := Lib.hid (hva.out.below hc_)
                replace hvu := Lib.hid (hvu.out.below hc_)
                replace hbu := Lib.hid (hbu.out.below hc_)
                replace hT := Lib.hid (hT.out.below hc_)
                replace hvo := Lib.hid (hvo.out.below hc_)
                replace hall := Lib.hid (chainB hall.out hc_ hall.out.size)
                have hvp := Lib.hid (ho_.tms hf_.rd)
                have hacp := Lib.hid hac_
                clear hac_ ho_ hf_ hl_ hs_
                clear hc_
                clear hb_
                have u0_ := hbu.out.cell 0 rfl; have u1_ := hbu.out.cell 1 rfl; have ul_ := hbu.out.lt
                go_wp2_with fail
                have hsm := Lib.hid (show decide (tmsD rp = tmsD ro) = true from decide_eq_true (hacp.out.one haco.out (fun z => haco.out.up z)))
                clear u0_ u1_ ul_
                refine (sameTimes_any _ _ rp ro _ (hvp.out.below (by first | exact Below.refl _ _ | go_grown)) (hvo.out.below (by first | exact Below.refl _ _ | go_grown))).mono ?_
                rw [hsm.out]
                rintro e_ w21 ⟨rfl, hb_⟩
                have hc_ : Below w20.heap.size w20 w21 := chainB (by first | exact Below.refl _ _ | go_grown) hb_ (by first | exact Nat.le_refl _ | (simp; done) | (simp; omega))
                replace hva := Lib.hid (hva.out.below hc_)
                replace hvu := Lib.hid (hvu.out.below hc_)
                replace hbu := Lib.hid (hbu.out.below hc_)
                replace hT := Lib.hid (hT.out.below hc_)
                replace hvo := Lib.hid (hvo.out.below hc_)
                replace hvp := Lib.hid (hvp.out.below hc_)
                replace hall := Lib.hid (chainB hall.out hc_ hall.out.size)
                clear hsm
                clear hc_
                clear hb_
                have u0_ := hbu.out.cell 0 rfl; have u1_ := hbu.out.cell 1 rfl; have ul_ := hbu.out.lt
                go_wp2_with fail
                clear u0_ u1_ ul_
                refine (join_all _ _ xs xs _ (hva.out.below (by first | exact Below.refl _ _ | go_grown)) (hva.out.below (by first | exact Below.refl _ _ | go_grown)) ⟨by have := hla.out; omega, by have := hla.out; omega⟩ (both_of ha1.out ha1.out)).mono ?_
                rintro e_ w22 ⟨⟨_, vaa, raa, rfl, hvaa_, hac_, hl_, hw_⟩, hb_⟩
                have hc_ : Below w21.heap.size w21 w22 := chainB (by first | exact Below.refl _ _ | go_grown) hb_ (by first | exact Nat.le_refl _ | (simp; done) | (simp; omega))
                replace hva := Lib.hid (hva.out.below hc_)
                replace hvu := Lib.hid (hvu.out.below hc_)
                replace hbu := Lib.hid (hbu.out.below hc_)
                replace hT := Lib.hid (hT.out.below hc_)
                replace hvo := Lib.hid (hvo.out.below hc_)
                replace hvp := Lib.hid (hvp.out.below hc_)
                replace hall := Lib.hid (chainB hall.out hc_ hall.out.size)
                have hvaa := Lib.hid (hvaa_)
                have hacaa := Lib.hid hac_; have hlaa := Lib.hid hl_; have hwaa := Lib.hid hw_
                clear hvaa_ hac_ hl_ hw_
                clear hc_
                clear hb_
                have u0_ := hbu.out.cell 0 rfl; have u1_ := hbu.out.cell 1 rfl; have ul_ := hbu.out.lt
                go_wp2_with fail
                have hsm := Lib.hid (show decide (tmsD raa = tmsD ro) = true from decide_eq_true (hacaa.out.one haco.out (fun z => and_self_iff)))
                clear u0_ u1_ ul_
                refine (sameTimes_any _ _ raa ro _ (hvaa.out.below (by first | exact Below.refl _ _ | go_grown)) (hvo.out.below (by first | exact Below.refl _ _ | go_grown))).mono ?_
                rw [hsm.out]
                rintro e_ w23 ⟨rfl, hb_⟩
                have hc_ : Below w22.heap.size w22 w23 := chainB (by first | exact Below.refl _ _ | go_grown) hb_ (by first | exact Nat.le_refl _ | (simp; done) | (simp; omega))
                replace hva := Lib.hid (hva.out.below hc_)
                replace hvu := Lib.hid (hvu.out.below hc_)
                replace hbu := Lib.hid (hbu.out.below hc_)
                replace hT := Lib.hid (hT.out.below hc_)
                replace hvo := Lib.hid (hvo.out.below hc_)
                replace hvp := Lib.hid (hvp.out.below hc_)
                replace hvaa := Lib.hid (hvaa.out.below hc_)
                replace hall := Lib.hid (chainB hall.out hc_ hall.out.size)
                clear hsm
                clear hc_
                clear hb_
                have u0_ := hbu.out.cell 0 rfl; have u1_ := hbu.out.cell 1 rfl; have ul_ := hbu.out.lt
                go_wp2_with fail
                clear hvp hvaa
                clear u0_ u1_ ul_
                refine (insert_any _ xs ⟨uA, uc, ⟨ue, ul⟩⟩ _ (hva.out.below (by first | exact Below.refl _ _ | go_grown)) (hvu.out.below (by first | exact Below.refl _ _ | go_grown)) (by have := hla.out; omega) (both_of (fun d hd => (ha1.out d hd).2) (fun d hd => by simp only [List.mem_singleton] at hd; subst hd; show ul.length ≤ _; omega))).mono ?_
                rintro e_ w24 ⟨⟨vi, ri, rfl, hac_, ho_, hf_⟩, hb_⟩
                have hc_ : Below w23.heap.size w23 w24 := chainB (by first | exact Below.refl _ _ | go_grown) hb_ (by first | exact Nat.le_refl _ | (simp; done) | (simp; omega))
                replace hva := Lib.hid (hva.out.below hc_)
                replace hvu := Lib.hid (hvu.out.below hc_)
                replace hbu := Lib.hid (hbu.out.below hc_)
                replace hT := Lib.hid (hT.out.below hc_)
                replace hvo := Lib.hid (hvo.out.below hc_)
                replace hall := Lib.hid (chainB hall.out hc_ hall.out.size)
                have hvi := Lib.hid (ho_.tms hf_.rd)
                have haci := Lib.hid (show Ac (upL (tmsD xs ++ [(⟨ue, ul⟩ : Tm)])) (tmsD ri) from hac_)
                clear hac_ ho_ hf_
                clear hc_
                clear hb_
                have u0_ := hbu.out.cell 0 rfl; have u1_ := hbu.out.cell 1 rfl; have ul_ := hbu.out.lt
                go_wp2_with fail
                obtain ⟨q, hq_⟩ : ∃ q, upB (tmsD xs) (⟨ue, ul⟩ : Tm) = q := ⟨_, rfl⟩
                have hq := Lib.hid hq_
                clear hq_
                clear u0_ u1_ ul_
                refine (beyond_any _ xs ⟨uA, uc, ⟨ue, ul⟩⟩ _ (hva.out.below (by first | exact Below.refl _ _ | go_grown)) (hvu.out.below (by first | exact Below.refl _ _ | go_grown))).mono ?_
                rw [hq.out]
                rintro e_ w25 ⟨rfl, hb_⟩
                have hc_ : Below w24.heap.size w24 w25 := chainB (by first | exact Below.refl _ _ | go_grown) hb_ (by first | exact Nat.le_refl _ | (simp; done) | (simp; omega))
                replace hva := Lib.hid (hva.out.below hc_)
                replace hvu := Lib.hid (hvu.out.below hc_)
                replace hbu := Lib.hid (hbu.out.below hc_)
                replace hT := Lib.hid (hT.out.below hc_)
                replace hvo := Lib.hid (hvo.out.below hc_)
                replace hvi := Lib.hid (hvi.out.below hc_)
                replace hall := Lib.hid (chainB hall.out hc_ hall.out.size)
                clear hc_
                clear hb_
                have hbi := Lib.hid (show upB (tmsD ri) (⟨ue, ul⟩ : Tm) = true by rw [upB_iff, haci.out.up, upL_app]; exact .inr (upL_self (by simp)))
                have hli := Lib.hid (show ((tmsD xs).all fun t => upB (tmsD ri) t) = true by
                  rw [List.all_eq_true]
                  intro t ht
                  rw [upB_iff, haci.out.up, upL_app]
                  exact .inl (upL_self ht))
                cases q with
                | true =>
                  have u0_ := hbu.out.cell 0 rfl; have u1_ := hbu.out.cell 1 rfl; have ul_ := hbu.out.lt
                  go_wp2_with fail
                  have hsm := Lib.hid (show decide (tmsD ri = tmsD ro) = true from decide_eq_true (haci.out.one haco.out (fun z => upL_one hq.out)))
                  clear u0_ u1_ ul_
                  refine (sameTimes_any _ _ ri ro _ (hvi.out.below (by first | exact Below.refl _ _ | go_grown)) (hvo.out.below (by first | exact Below.refl _ _ | go_grown))).mono ?_
                  rw [hsm.out]
                  rintro e_ w26 ⟨rfl, hb_⟩
                  have hc_ : Below w25.heap.size w25 w26 := chainB (by first | exact Below.refl _ _ | go_grown) hb_ (by first | exact Nat.le_refl _ | (simp; done) | (simp; omega))
                  replace hva := Lib.hid (hva.out.below hc_)
                  replace hvu := Lib.hid (hvu.out.below hc_)
                  replace hbu := Lib.hid (hbu.out.below hc_)
                  replace hT := Lib.hid (hT.out.below hc_)
                  replace hvo := Lib.hid (hvo.out.below hc_)
                  replace hvi := Lib.hid (hvi.out.below hc_)
                  replace hall := Lib.hid (chainB hall.out hc_ hall.out.size)
                  clear hsm
                  clear hc_
                  clear hb_
                  have u0_ := hbu.out.cell 0 rfl; have u1_ := hbu.out.cell 1 rfl; have ul_ := hbu.out.lt
                  go_wp2_with fail
                  clear u0_ u1_ ul_
                  refine (beyond_any _ ri ⟨uA, uc, ⟨ue, ul⟩⟩ _ (hvi.out.below (by first | exact Below.refl _ _ | go_grown)) (hvu.out.below (by first | exact Below.refl _ _ | go_grown))).mono ?_
                  rw [hbi.out]
                  rintro e_ w27 ⟨rfl, hb_⟩
                  have hc_ : Below w26.heap.size w26 w27 := chainB (by first | exact Below.refl _ _ | go_grown) hb_ (by first | exact Nat.le_refl _ | (simp; done) | (simp; omega))
                  replace hva := Lib.hid (hva.out.below hc_)
                  replace hvu := Lib.hid (hvu.out.below hc_)
                  replace hbu := Lib.hid (hbu.out.below hc_)
                  replace hT := Lib.hid (hT.out.below hc_)
                  replace hvo := Lib.hid (hvo.out.below hc_)
                  replace hvi := Lib.hid (hvi.out.below hc_)
                  replace hall := Lib.hid (chainB hall.out hc_ hall.out.size)
                  clear hc_
                  clear hb_
                  have u0_ := hbu.out.cell 0 rfl; have u1_ := hbu.out.cell 1 rfl; have ul_ := hbu.out.lt
                  go_wp2_with fail
                  clear u0_ u1_ ul_
                  refine (leqA_any _ _ ri xs _ (hvi.out.below (by first | exact Below.refl _ _ | go_grown)) (hva.out.below (by first | exact Below.refl _ _ | go_grown))).mono ?_
                  rw [hli.out]
                  rintro e_ w28 ⟨rfl, hb_⟩
                  have hc_ : Below w27.heap.size w27 w28 := chainB (by first | exact Below.refl _ _ | go_grown) hb_ (by first | exact Nat.le_refl _ | (simp; done) | (simp; omega))
                  replace hva := Lib.hid (hva.out.below hc_)
                  replace hvu := Lib.hid (hvu.out.below hc_)
                  replace hbu := Lib.hid (hbu.out.below hc_)
                  replace hT := Lib.hid (hT.out.below hc_)
                  replace hvo := Lib.hid (hvo.out.below hc_)
                  replace hvi := Lib.hid (hvi.out.below hc_)
                  replace hall := Lib.hid (chainB hall.out hc_ hall.out.size)
                  clear hc_
                  clear hb_
                  have u0_ := hbu.out.cell 0 rfl; have u1_ := hbu.out.cell 1 rfl; have ul_ := hbu.out.lt
                  go_wp2_with fail
                  go_ret
                  exact ⟨rfl, hall.out⟩
                | false =>
                  have u0_ := hbu.out.cell 0 rfl; have u1_ := hbu.out.cell 1 rfl; have ul_ := hbu.out.lt
                  go_wp2_with fail
                  clear u0_ u1_ ul_
                  refine (beyond_any _ ri ⟨uA, uc, ⟨ue, ul⟩⟩ _ (hvi.out.below (by first | exact Below.refl _ _ | go_grown)) (hvu.out.below (by first | exact Below.refl _ _ | go_grown))).mono ?_
                  rw [hbi.out]
                  rintro e_ w29 ⟨rfl, hb_⟩
                  have hc_ : Below w25.heap.size w25 w29 := chainB (by first | exact Below.refl _ _ | go_grown) hb_ (by first | exact Nat.le_refl _ | (simp; done) | (simp; omega))
                  replace hva := Lib.hid (hva.out.below hc_)
                  replace hvu := Lib.hid (hvu.out.below hc_)
                  replace hbu := Lib.hid (hbu.out.below hc_)
                  replace hT := Lib.hid (hT.out.below hc_)
                  replace hvo := Lib.hid (hvo.out.below hc_)
                  replace hvi := Lib.hid (hvi.out.below hc_)
                  replace hall := Lib.hid (chainB hall.out hc_ hall.out.size)
                  clear hc_
                  clear hb_
                  have u0_ := hbu.out.cell 0 rfl; have u1_ := hbu.out.cell 1 rfl; have ul_ := hbu.out.lt
                  go_wp2_with fail
                  clear u0_ u1_ ul_
                  refine (leqA_any _ _ ri xs _ (hvi.out.below (by first | exact Below.refl _ _ | go_grown)) (hva.out.below (by first | exact Below.refl _ _ | go_grown))).mono ?_
                  rw [hli.out]
                  rintro e_ w30 ⟨rfl, hb_⟩
                  have hc_ : Below w29.heap.size w29 w30 := chainB (by first | exact Below.refl _ _ | go_grown) hb_ (by first | exact Nat.le_refl _ | (simp; done) | (simp; omega))
                  replace hva := Lib.hid (hva.out.below hc_)
                  replace hvu := Lib.hid (hvu.out.below hc_)
                  replace hbu := Lib.hid (hbu.out.below hc_)
                  replace hT := Lib.hid (hT.out.below hc_)
                  replace hvo := Lib.hid (hvo.out.below hc_)
                  replace hvi := Lib.hid (hvi.out.below hc_)
                  replace hall := Lib.hid (chainB hall.out hc_ hall.out.size)
                  clear hc_
                  clear hb_
                  have u0_ := hbu.out.cell 0 rfl; have u1_ := hbu.out.cell 1 rfl; have ul_ := hbu.out.lt
                  go_wp2_with fail
                  go_ret
                  exact ⟨rfl, hall.out⟩
end Go.Proofs.YtdfhchpimpbgfaaGreatDoor
