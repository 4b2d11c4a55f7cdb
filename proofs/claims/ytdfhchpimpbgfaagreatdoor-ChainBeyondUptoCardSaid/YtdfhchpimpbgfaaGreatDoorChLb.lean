/-
  The law ChainBeyond answers true, at this program: of any times; the two times looked at have no more than 2^20 counters. Condition: the table of the powers of ten lies as its initialiser lays it; numbers of their kinds.
-/
import Derived.Test.YtdfhchpimpbgfaaGreatDoorChK
import Derived.Test.YtdfhchpimpbgfaaGreatDoorChRc
import Derived.Deep.RegionHeld3
import Derived.LoopTactic
import Derived.BigQuiet
set_option linter.unusedVariables false
set_option linter.unusedSimpArgs false
namespace Go.Proofs.YtdfhchpimpbgfaaGreatDoor
open Go.RowKit Go.Lib Go.Proofs

theorem small_ofB {ds : List Td} (h : ∀ d ∈ ds, d.t.l.length ≤ 600) (hw : ∀ d ∈ ds, TmW d.t) : ∀ d ∈ ds, TmW d.t ∧ d.t.l.length ≤ 1099511627776 := fun d hd => ⟨hw d hd, Nat.le_trans (h d hd) (by decide)⟩
theorem both_ofB {P : Td → Prop} {a b : List Td} (ha : ∀ d ∈ a, P d) (hb : ∀ d ∈ b, P d) : ∀ d ∈ a ++ b, P d := fun d hd => by
  rw [List.mem_append] at hd
  rcases hd with hd | hd
  · exact ha d hd
  · exact hb d hd
theorem upB_step {xs : List Td} {p : Nat} {d : Td} (t : Tm) (hd : xs[p]? = some d) : upB ((tmsD xs).take (p + 1)) t = (upB ((tmsD xs).take p) t || leqT d.t t) := by
  obtain ⟨hp, e⟩ := List.getElem?_eq_some_iff.1 (tms_at hd)
  rw [List.take_succ_eq_append_getElem hp]
  unfold upB
  rw [List.any_append, e]
  simp
theorem anti_not {U : Tm → Prop} {o : List Td} {p q : Nat} {x y : Td} (h : Ac U (tmsD o)) (hx : o[p]? = some x) (hy : o[q]? = some y) (hpq : p ≠ q) : leqT x.t y.t = false := by
  cases hl : leqT x.t y.t with
  | false => rfl
  | true =>
    have h1 := tms_at hx
    have h2 := tms_at hy
    have e := h.anti _ (List.mem_of_getElem? h1) _ (List.mem_of_getElem? h2) hl
    obtain ⟨l1, e1⟩ := List.getElem?_eq_some_iff.1 h1
    obtain ⟨l2, e2⟩ := List.getElem?_eq_some_iff.1 h2
    have hs := List.pairwise_iff_getElem.1 h.sorted
    have hself (x : Tm) : ¬ cmpT x x < 0 := by
      have := cmpT_refl x
      omega
    rcases Nat.lt_or_gt_of_ne hpq with hlt | hlt
    · have := hs p q l1 l2 hlt
      rw [e1, e2, e] at this
      exact absurd this (hself _)
    · have := hs q p l2 l1 hlt
      rw [e1, e2, e] at this
      exact absurd this (hself _)
def RelB1 (xs : List Td) (t : Tm) (w0 : World) (s10 s11 : Value) (wr : World) : Prop := ∃ (p : Nat) (f : Bool), s11 = .int .i64 (p : Int) ∧ s10 = .bool f ∧ p ≤ xs.length ∧ f = upB ((tmsD xs).take p) t ∧ Below w0.heap.size w0 wr
def RelB2 (n : Nat) (w0 : World) (s12 : Value) (wr : World) : Prop := ∃ p : Nat, s12 = .int .i64 (p : Int) ∧ p ≤ n ∧ Below w0.heap.size w0 wr
set_option maxHeartbeats 8000000 in
set_option maxRecDepth 1000000 in
theorem chainBeyond_any (va vb vt vs : Value) (xs ys : List Td) (u s : Td) (w : World) (hT0 : Pows w) (ha : TmsV w va xs) (hb : TmsV w vb ys) (hvt : vt = valT u) (hu : WordsV w (slD u) u.t.l) (hvs0 : vs = valT s) (hs : WordsV w (slD s) s.t.l) (wa : ∀ d ∈ xs, TmW d.t) (wb : ∀ d ∈ ys, TmW d.t) (wu : TmW u.t) (ws : TmW s.t) (ku : u.t.l.length ≤ 1048576) (ks : s.t.l.length ≤ 1048576) :
    Calls Tryz.prog 5 #[va, vb, vt, vs] w fun e w' => e = .returned (.bool true) ∧ Below w.heap.size w w' := by
 subst hvt hvs0
 obtain ⟨Aa, na, ca, rfl, hna, hnca, hca⟩ := ha.form
 obtain ⟨Ab, nb, cb, rfl, hnb, hncb, hcb⟩ := hb.form
 obtain ⟨uA, uc, ⟨ue, ul⟩⟩ := u
 obtain ⟨sA, sc, ⟨se, sl⟩⟩ := s
 obtain ⟨W0, hW0, hwW, hA, hB, hzz⟩ := boxes2 w [.int .u64 ue, .slice uA ul.length uc] [.int .u64 se, .slice sA sl.length sc] 26 26
 have hW0' : (w.alloc (.cells #[.int .u64 ue, .slice uA ul.length uc] 26)).alloc (.cells #[.int .u64 se, .slice sA sl.length sc] 26) = W0 := hW0
 have hvu := Lib.hid (show WordsV W0 (slD ⟨uA, uc, ⟨ue, ul⟩⟩) ul from hu.below hwW)
 have hvs := Lib.hid (show WordsV W0 (slD ⟨sA, sc, ⟨se, sl⟩⟩) sl from hs.below hwW)
 have hva := Lib.hid (ha.below hwW); have hvb := Lib.hid (hb.below hwW); have hbu := Lib.hid hA; have hbs := Lib.hid hB; have hall := Lib.hid hwW; have hT := Lib.hid (hT0.below hwW)
 have hnaH := Lib.hid hna; have hnbH := Lib.hid hnb; have waH := Lib.hid wa; have wbH := Lib.hid wb; have wsH := Lib.hid ws
 have ku1 : ul.length ≤ 1048576 := ku
 have ks1 : sl.length ≤ 1048576 := ks
 simp only [valT]
 clear ha hb hu hs hA hB hwW hzz hT0 hna hnb wa wb wu ws hW0 ku ks
 go_enter Tryz.func5, Tryz.ntmps5
 have u0_ := hbu.out.cell 0 rfl; have u1_ := hbu.out.cell 1 rfl; have ul_ := hbu.out.lt
 have s0_ := hbs.out.cell 0 rfl; have s1_ := hbs.out.cell 1 rfl; have sl_ := hbs.out.lt
 go_wp2_with fail
 clear u0_ u1_ s0_ s1_ ul_ sl_
 refine (much_any _ xs _ hva.out).mono ?_
 rintro e_ w1 ⟨z1, rfl, hz1_, hw_⟩
 have hb_ := (show ∀ {a b : World}, a = b → Below a.heap.size a b from fun h => h ▸ Below.refl _ _) hw_
 clear hw_
 have hc_ : Below W0.heap.size W0 w1 := chainB (by first | exact Below.refl _ _ | go_grown) hb_ (by first | exact Nat.le_refl _ | (simp; done) | (simp; omega))
 replace hva := Lib.hid (hva.out.below hc_)
 replace hvb := Lib.hid (hvb.out.below hc_)
 replace hvu := Lib.hid (hvu.out.below hc_)
 replace hvs := Lib.hid (hvs.out.below hc_)
 replace hbu := Lib.hid (hbu.out.below hc_)
 replace hbs := Lib.hid (hbs.out.below hc_)
 replace hT := Lib.hid (hT.out.below hc_)
 replace hall := Lib.hid (chainB hall.out hc_ hall.out.size)
 clear hc_
 clear hb_
 have hz1 := Lib.hid hz1_
 clear hz1_
 cases z1 with
 | true =>
  have u0_ := hbu.out.cell 0 rfl; have u1_ := hbu.out.cell 1 rfl; have ul_ := hbu.out.lt
  have s0_ := hbs.out.cell 0 rfl; have s1_ := hbs.out.cell 1 rfl; have sl_ := hbs.out.lt
  go_wp2_with fail
  clear u0_ u1_ s0_ s1_ ul_ sl_
  refine (known_any _ (hT.out.below (by first | exact Below.refl _ _ | go_grown))).mono ?_
  rintro e_ w2 ⟨rfl, hb_⟩
  have hc_ : Below w1.heap.size w1 w2 := chainB (by first | exact Below.refl _ _ | go_grown) hb_ (by first | exact Nat.le_refl _ | (simp; done) | (simp; omega))
  replace hva := Lib.hid (hva.out.below hc_)
  replace hvb := Lib.hid (hvb.out.below hc_)
  replace hvu := Lib.hid (hvu.out.below hc_)
  replace hvs := Lib.hid (hvs.out.below hc_)
  replace hbu := Lib.hid (hbu.out.below hc_)
  replace hbs := Lib.hid (hbs.out.below hc_)
  replace hT := Lib.hid (hT.out.below hc_)
  replace hall := Lib.hid (chainB hall.out hc_ hall.out.size)
  clear hc_
  clear hb_
  have u0_ := hbu.out.cell 0 rfl; have u1_ := hbu.out.cell 1 rfl; have ul_ := hbu.out.lt
  have s0_ := hbs.out.cell 0 rfl; have s1_ := hbs.out.cell 1 rfl; have sl_ := hbs.out.lt
  go_wp2_with fail
  go_ret
  exact ⟨rfl, hall.out⟩
 | false =>
  have hsz1 := Lib.hid (hz1.out rfl)
  clear hz1
  have u0_ := hbu.out.cell 0 rfl; have u1_ := hbu.out.cell 1 rfl; have ul_ := hbu.out.lt
  have s0_ := hbs.out.cell 0 rfl; have s1_ := hbs.out.cell 1 rfl; have sl_ := hbs.out.lt
  go_wp2_with fail
  clear u0_ u1_ s0_ s1_ ul_ sl_
  refine (much_any _ ys _ hvb.out).mono ?_
  rintro e_ w3 ⟨z2, rfl, hz2_, hw_⟩
  have hb_ := (show ∀ {a b : World}, a = b → Below a.heap.size a b from fun h => h ▸ Below.refl _ _) hw_
  clear hw_
  have hc_ : Below w1.heap.size w1 w3 := chainB (by first | exact Below.refl _ _ | go_grown) hb_ (by first | exact Nat.le_refl _ | (simp; done) | (simp; omega))
  replace hva := Lib.hid (hva.out.below hc_)
  replace hvb := Lib.hid (hvb.out.below hc_)
  replace hvu := Lib.hid (hvu.out.below hc_)
  replace hvs := Lib.hid (hvs.out.below hc_)
  replace hbu := Lib.hid (hbu.out.below hc_)
  replace hbs := Lib.hid (hbs.out.below hc_)
  replace hT := Lib.hid (hT.out.below hc_)
  replace hall := Lib.hid (chainB hall.out hc_ hall.out.size)
  clear hc_
  clear hb_
  have hz2 := Lib.hid hz2_
  clear hz2_
  cases z2 with
  | true =>
   have u0_ := hbu.out.cell 0 rfl; have u1_ := hbu.out.cell 1 rfl; have ul_ := hbu.out.lt
   have s0_ := hbs.out.cell 0 rfl; have s1_ := hbs.out.cell 1 rfl; have sl_ := hbs.out.lt
   go_wp2_with fail
   clear u0_ u1_ s0_ s1_ ul_ sl_
   refine (known_any _ (hT.out.below (by first | exact Below.refl _ _ | go_grown))).mono ?_
   rintro e_ w4 ⟨rfl, hb_⟩
   have hc_ : Below w3.heap.size w3 w4 := chainB (by first | exact Below.refl _ _ | go_grown) hb_ (by first | exact Nat.le_refl _ | (simp; done) | (simp; omega))
   replace hva := Lib.hid (hva.out.below hc_)
   replace hvb := Lib.hid (hvb.out.below hc_)
   replace hvu := Lib.hid (hvu.out.below hc_)
   replace hvs := Lib.hid (hvs.out.below hc_)
   replace hbu := Lib.hid (hbu.out.below hc_)
   replace hbs := Lib.hid (hbs.out.below hc_)
   replace hT := Lib.hid (hT.out.below hc_)
   replace hall := Lib.hid (chainB hall.out hc_ hall.out.size)
   clear hc_
   clear hb_
   have u0_ := hbu.out.cell 0 rfl; have u1_ := hbu.out.cell 1 rfl; have ul_ := hbu.out.lt
   have s0_ := hbs.out.cell 0 rfl; have s1_ := hbs.out.cell 1 rfl; have sl_ := hbs.out.lt
   go_wp2_with fail
   go_ret
   exact ⟨rfl, hall.out⟩
  | false =>
   have hsz2 := Lib.hid (hz2.out rfl)
   clear hz2
   have hws : IntKind.i64.wrap ((ul.length : Int) + (sl.length : Int)) = (ul.length : Int) + (sl.length : Int) := by rw [Go.IntWalk.i64_left]; exact Go.IntWalk.wrap64_in _ (by omega)
   by_cases hdu : 60 < ul.length + sl.length
   · have dua : decide ((ul.length : Int) + (sl.length : Int) > 60) = true := decide_eq_true (by omega)
     have dub : decide (60 < (ul.length : Int) + (sl.length : Int)) = true := decide_eq_true (by omega)
     have u0_ := hbu.out.cell 0 rfl; have u1_ := hbu.out.cell 1 rfl; have ul_ := hbu.out.lt
     have s0_ := hbs.out.cell 0 rfl; have s1_ := hbs.out.cell 1 rfl; have sl_ := hbs.out.lt
     go_wp2_with fail
     clear u0_ u1_ s0_ s1_ ul_ sl_
     refine (known_any _ (hT.out.below (by first | exact Below.refl _ _ | go_grown))).mono ?_
     rintro e_ w5 ⟨rfl, hb_⟩
     have hc_ : Below w3.heap.size w3 w5 := chainB (by first | exact Below.refl _ _ | go_grown) hb_ (by first | exact Nat.le_refl _ | (simp; done) | (simp; omega))
     replace hva := Lib.hid (hva.out.below hc_)
     replace hvb := Lib.hid (hvb.out.below hc_)
     replace hvu := Lib.hid (hvu.out.below hc_)
     replace hvs := Lib.hid (hvs.out.below hc_)
     replace hbu := Lib.hid (hbu.out.below hc_)
     replace hbs := Lib.hid (hbs.out.below hc_)
     replace hT := Lib.hid (hT.out.below hc_)
     replace hall := Lib.hid (chainB hall.out hc_ hall.out.size)
     clear hc_
     clear hb_
     have u0_ := hbu.out.cell 0 rfl; have u1_ := hbu.out.cell 1 rfl; have ul_ := hbu.out.lt
     have s0_ := hbs.out.cell 0 rfl; have s1_ := hbs.out.cell 1 rfl; have sl_ := hbs.out.lt
     go_wp2_with fail
     go_ret
     exact ⟨rfl, hall.out⟩
   · have dua : decide ((ul.length : Int) + (sl.length : Int) > 60) = false := decide_eq_false (by omega)
     have dub : decide (60 < (ul.length : Int) + (sl.length : Int)) = false := decide_eq_false (by omega)
     have u0_ := hbu.out.cell 0 rfl; have u1_ := hbu.out.cell 1 rfl; have ul_ := hbu.out.lt
     have s0_ := hbs.out.cell 0 rfl; have s1_ := hbs.out.cell 1 rfl; have sl_ := hbs.out.lt
     go_wp2_with fail
     clear u0_ u1_ s0_ s1_ ul_ sl_
     refine (known_any _ (hT.out.below (by first | exact Below.refl _ _ | go_grown))).mono ?_
     rintro e_ w6 ⟨rfl, hb_⟩
     have hc_ : Below w3.heap.size w3 w6 := chainB (by first | exact Below.refl _ _ | go_grown) hb_ (by first | exact Nat.le_refl _ | (simp; done) | (simp; omega))
     replace hva := Lib.hid (hva.out.below hc_)
     replace hvb := Lib.hid (hvb.out.below hc_)
     replace hvu := Lib.hid (hvu.out.below hc_)
     replace hvs := Lib.hid (hvs.out.below hc_)
     replace hbu := Lib.hid (hbu.out.below hc_)
     replace hbs := Lib.hid (hbs.out.below hc_)
     replace hT := Lib.hid (hT.out.below hc_)
     replace hall := Lib.hid (chainB hall.out hc_ hall.out.size)
     clear hc_
     clear hb_
     have u0_ := hbu.out.cell 0 rfl; have u1_ := hbu.out.cell 1 rfl; have ul_ := hbu.out.lt
     have s0_ := hbs.out.cell 0 rfl; have s1_ := hbs.out.cell 1 rfl; have sl_ := hbs.out.lt
     go_wp2_with fail
     clear hT
     clear dua dub hws hdu
     have ha1 := Lib.hid (small_ofB hsz1.out.2 waH.out); have hb1 := Lib.hid (small_ofB hsz2.out.2 wbH.out)
     have hla := Lib.hid (hsz1.out.1); have hlb := Lib.hid (hsz2.out.1)
     clear hsz1 hsz2 wbH
     clear u0_ u1_ s0_ s1_ ul_ sl_
     refine (of_any _ xs _ (hva.out.below (by first | exact Below.refl _ _ | go_grown)) (by have := hla.out; omega) (fun d hd => (ha1.out d hd).2)).mono ?_
     rintro e_ w7 ⟨vo, ro, rfl, hac_, ho_, hf_, hb_, hl_, hs_⟩
     have hc_ : Below w6.heap.size w6 w7 := chainB (by first | exact Below.refl _ _ | go_grown) hb_ (by first | exact Nat.le_refl _ | (simp; done) | (simp; omega))
     replace hva := Lib.hid (hva.out.below hc_)
     replace hvb := Lib.hid (hvb.out.below hc_)
     replace hvu := Lib.hid (hvu.out.below hc_)
     replace hvs := Lib.hid (hvs.out.below hc_)
     replace hbu := Lib.hid (hbu.out.below hc_)
     replace hbs := Lib.hid (hbs.out.below hc_)
     replace hall := Lib.hid (chainB hall.out hc_ hall.out.size)
     have hvo := Lib.hid (ho_.tms hf_.rd)
     have haco := Lib.hid hac_; have hlo := Lib.hid hl_
     clear hac_ ho_ hf_ hl_ hs_
     clear hc_
     clear hb_
     obtain ⟨Ao, no, co, rfl, hno_, hnco, hco⟩ := hvo.out.form
     have hno := Lib.hid hno_
     clear hno_
     have u0_ := hbu.out.cell 0 rfl; have u1_ := hbu.out.cell 1 rfl; have ul_ := hbu.out.lt
     have s0_ := hbs.out.cell 0 rfl; have s1_ := hbs.out.cell 1 rfl; have sl_ := hbs.out.lt
     go_wp2_with fail
     clear u0_ u1_ s0_ s1_ ul_ sl_
     go_loopw [10, 11] (fun s10 s11 wr => RelB1 xs ⟨ue, ul⟩ w7 s10 s11 wr) (fun _ s11 _ => na - (Go.RowKit.intOf s11).toNat)
     case atStart => exact ⟨0, false, rfl, rfl, Nat.zero_le _, rfl, Below.refl _ _⟩
     case round =>
      obtain ⟨wm, rfl⟩ : ∃ x, x = wr := ⟨_, rfl⟩
      unfold RelB1 at hrel
      obtain ⟨p, f, rfl, rfl, hp, hf, hbw⟩ := hrel
      have hpn : p ≤ na := by have := hnaH.out; omega
      have hfH := Lib.hid hf; have hbwH := Lib.hid hbw
      clear hp hf hbw
      by_cases hlt : p < na
      · obtain ⟨d, hd⟩ : ∃ d, xs[p]? = some d := ⟨_, List.getElem?_eq_getElem (by have := hnaH.out; omega)⟩
        obtain ⟨ad, rfl, hba, a0_, a1_⟩ := (hva.out.below hbwH.out).at hd
        have hdr := Lib.hid ((hva.out.2 d (List.mem_of_getElem? hd)).below hbwH.out)
        have hstH := Lib.hid (upB_step ⟨ue, ul⟩ hd)
        clear hd
        obtain ⟨dA, dc, ⟨de, dl⟩⟩ := d
        simp only at a0_ a1_
        have b0_ := (hbu.out.below hbwH.out).cell 0 rfl; have b1_ := (hbu.out.below hbwH.out).cell 1 rfl; have bl_ := (hbu.out.below hbwH.out).lt
        have hur := Lib.hid (hvu.out.below hbwH.out)
        obtain ⟨r, hr⟩ : ∃ r, leqT (⟨de, dl⟩ : Tm) ⟨ue, ul⟩ = r := ⟨_, rfl⟩
        have hrH := Lib.hid hr
        clear hr
        go_wp2_with fail
        cases f with
        | true =>
         refine wp_region_noPanic ?_
         refine wp_region_held_drew (S := (fun w' => w'.cell? (ad.add (p * 2)) = some (.int .u64 de) ∧ w'.cell? ⟨(ad.add (p * 2)).block, (ad.add (p * 2)).off + 1, none⟩ = some (.slice dA dl.length dc) ∧ w'.cell? ⟨w.heap.size, 0, none⟩ = some (.int .u64 ue) ∧ w'.cell? ⟨w.heap.size, 1, none⟩ = some (.slice uA ul.length uc))) (by kernel_rfl) (⟨a0_, a1_, b0_, b1_⟩) (fun hHeld => ?_)
         refine' wpAnyH_take (i := 0) (v := ?v1) ?a1 ?b1 ?c1 ?d1 ?e1 ?f1 ?g1 ?z1
         case a1 => (simp only [List.getElem?_toArray, List.getElem?_cons_succ, List.getElem?_cons_zero]; try rfl)
         case b1 | c1 | d1 => kernel_rfl
         case e1 => exact fun _ _ _ h => h
         case f1 => first | exact Or.inl ⟨by rfl, by (intro w hSw; (try dsimp only at hSw); go_simp; try rfl)⟩ | exact Or.inr ⟨by rfl, rfl⟩
         case g1 => assumption
         (try simp only [Act.put, List.setIfInBounds_toArray, List.set_cons_zero, List.set_cons_succ])
         refine' wpAnyH_take (i := 1) (v := ?v2) ?a2 ?b2 ?c2 ?d2 ?e2 ?f2 ?g2 ?z2
         case a2 => (simp only [List.getElem?_toArray, List.getElem?_cons_succ, List.getElem?_cons_zero]; try rfl)
         case b2 | c2 | d2 => kernel_rfl
         case e2 => exact fun _ _ _ h => h
         case f2 => first | exact Or.inl ⟨by rfl, by (intro w hSw; (try dsimp only at hSw); go_simp; try rfl)⟩ | exact Or.inr ⟨by rfl, rfl⟩
         case g2 => assumption
         (try simp only [Act.put, List.setIfInBounds_toArray, List.set_cons_zero, List.set_cons_succ])
         refine' wpAnyH_take (i := 2) (v := undef) ?a3 ?b3 ?c3 ?d3 ?e3 ?f3 ?g3 ?z3
         case a3 => (simp only [List.getElem?_toArray, List.getElem?_cons_succ, List.getElem?_cons_zero]; try rfl)
         case b3 | c3 | d3 => kernel_rfl
         case e3 => exact fun _ _ _ h => h
         case f3 => first | exact Or.inl ⟨by rfl, by (intro w hSw; (try dsimp only at hSw); go_simp; try rfl)⟩ | exact Or.inr ⟨by rfl, rfl⟩
         case g3 => assumption
         (try simp only [Act.put, List.setIfInBounds_toArray, List.set_cons_zero, List.set_cons_succ])
         refine' wpAnyH_take (i := 3) (v := undef) ?a4 ?b4 ?c4 ?d4 ?e4 ?f4 ?g4 ?z4
         case a4 => (simp only [List.getElem?_toArray, List.getElem?_cons_succ, List.getElem?_cons_zero]; try rfl)
         case b4 | c4 | d4 => kernel_rfl
         case e4 => exact fun _ _ _ h => h
         case f4 => first | exact Or.inl ⟨by rfl, by (intro w hSw; (try dsimp only at hSw); go_simp; try rfl)⟩ | exact Or.inr ⟨by rfl, rfl⟩
         case g4 => assumption
         (try simp only [Act.put, List.setIfInBounds_toArray, List.set_cons_zero, List.set_cons_succ])
         refine' wpAnyH_take (i := 4) (v := undef) ?a5 ?b5 ?c5 ?d5 ?e5 ?f5 ?g5 ?z5
         case a5 => (simp only [List.getElem?_toArray, List.getElem?_cons_succ, List.getElem?_cons_zero]; try rfl)
         case b5 | c5 | d5 => kernel_rfl
         case e5 => exact fun _ _ _ h => h
         case f5 => first | exact Or.inl ⟨by rfl, by (intro w hSw; (try dsimp only at hSw); go_simp; try rfl)⟩ | exact Or.inr ⟨by rfl, rfl⟩
         case g5 => assumption
         (try simp only [Act.put, List.setIfInBounds_toArray, List.set_cons_zero, List.set_cons_succ])
         refine' wpAnyH_take (i := 5) (v := undef) ?a6 ?b6 ?c6 ?d6 ?e6 ?f6 ?g6 ?z6
         case a6 => (simp only [List.getElem?_toArray, List.getElem?_cons_succ, List.getElem?_cons_zero]; try rfl)
         case b6 | c6 | d6 => kernel_rfl
         case e6 => exact fun _ _ _ h => h
         case f6 => first | exact Or.inl ⟨by rfl, by (intro w hSw; (try dsimp only at hSw); go_simp; try rfl)⟩ | exact Or.inr ⟨by rfl, rfl⟩
         case g6 => assumption
         (try simp only [Act.put, List.setIfInBounds_toArray, List.set_cons_zero, List.set_cons_succ])
         refine' wpAnyH_take (i := 6) (v := undef) ?a7 ?b7 ?c7 ?d7 ?e7 ?f7 ?g7 ?z7
         case a7 => (simp only [List.getElem?_toArray, List.getElem?_cons_succ, List.getElem?_cons_zero]; try rfl)
         case b7 | c7 | d7 => kernel_rfl
         case e7 => exact fun _ _ _ h => h
         case f7 => first | exact Or.inl ⟨by rfl, by (intro w hSw; (try dsimp only at hSw); go_simp; try rfl)⟩ | exact Or.inr ⟨by rfl, rfl⟩
         case g7 => assumption
         (try simp only [Act.put, List.setIfInBounds_toArray, List.set_cons_zero, List.set_cons_succ])
         refine' wpAnyH_take (i := 7) (v := undef) ?a8 ?b8 ?c8 ?d8 ?e8 ?f8 ?g8 ?z8
         case a8 => (simp only [List.getElem?_toArray, List.getElem?_cons_succ, List.getElem?_cons_zero]; try rfl)
         case b8 | c8 | d8 => kernel_rfl
         case e8 => exact fun _ _ _ h => h
         case f8 => first | exact Or.inl ⟨by rfl, by (intro w hSw; (try dsimp only at hSw); go_simp; try rfl)⟩ | exact Or.inr ⟨by rfl, rfl⟩
         case g8 => assumption
         (try simp only [Act.put, List.setIfInBounds_toArray, List.set_cons_zero, List.set_cons_succ])
         refine' wpAnyH_take (i := 8) (v := ?v9) ?a9 ?b9 ?c9 ?d9 ?e9 ?f9 ?g9 ?z9
         case a9 => (simp only [List.getElem?_toArray, List.getElem?_cons_succ, List.getElem?_cons_zero]; try rfl)
         case b9 | c9 | d9 => kernel_rfl
         case e9 => exact fun _ _ _ h => h
         case f9 => first | exact Or.inl ⟨by rfl, by (intro w hSw; (try dsimp only at hSw); go_simp; try rfl)⟩ | exact Or.inr ⟨by rfl, rfl⟩
         case g9 => assumption
         (try simp only [Act.put, List.setIfInBounds_toArray, List.set_cons_zero, List.set_cons_succ])
         refine' wpAnyH_take (i := 9) (v := ?v10) ?a10 ?b10 ?c10 ?d10 ?e10 ?f10 ?g10 ?z10
         case a10 => (simp only [List.getElem?_toArray, List.getElem?_cons_succ, List.getElem?_cons_zero]; try rfl)
         case b10 | c10 | d10 => kernel_rfl
         case e10 => exact fun _ _ _ h => h
         case f10 => first | exact Or.inl ⟨by rfl, by (intro w hSw; (try dsimp only at hSw); go_simp; try rfl)⟩ | exact Or.inr ⟨by rfl, rfl⟩
         case g10 => assumption
         (try simp only [Act.put, List.setIfInBounds_toArray, List.set_cons_zero, List.set_cons_succ])
         refine wpAnyH_done (by kernel_rfl) ?_ _
         refine NoPanic.normal ?_
         go_wp2_with fail
         go_roundw
         case rel => exact ⟨p + 1, true, by go_num, rfl, by have := hnaH.out; omega, by rw [hstH.out, ← hfH.out]; rfl, hbwH.out.drew⟩
         case measure => simp [Go.RowKit.intOf]; omega
        | false =>
         refine wp_region_noPanic ?_
         refine wp_region_held_drew (S := (fun w' => w'.cell? (ad.add (p * 2)) = some (.int .u64 de) ∧ w'.cell? ⟨(ad.add (p * 2)).block, (ad.add (p * 2)).off + 1, none⟩ = some (.slice dA dl.length dc) ∧ w'.cell? ⟨w.heap.size, 0, none⟩ = some (.int .u64 ue) ∧ w'.cell? ⟨w.heap.size, 1, none⟩ = some (.slice uA ul.length uc))) (by kernel_rfl) (⟨a0_, a1_, b0_, b1_⟩) (fun hHeld => ?_)
         refine' wpAnyH_take (i := 0) (v := ?v11) ?a11 ?b11 ?c11 ?d11 ?e11 ?f11 ?g11 ?z11
         case a11 => (simp only [List.getElem?_toArray, List.getElem?_cons_succ, List.getElem?_cons_zero]; try rfl)
         case b11 | c11 | d11 => kernel_rfl
         case e11 => exact fun _ _ _ h => h
         case f11 => first | exact Or.inl ⟨by rfl, by (intro w hSw; (try dsimp only at hSw); go_simp; try rfl)⟩ | exact Or.inr ⟨by rfl, rfl⟩
         case g11 => assumption
         (try simp only [Act.put, List.setIfInBounds_toArray, List.set_cons_zero, List.set_cons_succ])
         refine' wpAnyH_take (i := 1) (v := ?v12) ?a12 ?b12 ?c12 ?d12 ?e12 ?f12 ?g12 ?z12
         case a12 => (simp only [List.getElem?_toArray, List.getElem?_cons_succ, List.getElem?_cons_zero]; try rfl)
         case b12 | c12 | d12 => kernel_rfl
         case e12 => exact fun _ _ _ h => h
         case f12 => first | exact Or.inl ⟨by rfl, by (intro w hSw; (try dsimp only at hSw); go_simp; try rfl)⟩ | exact Or.inr ⟨by rfl, rfl⟩
         case g12 => assumption
         (try simp only [Act.put, List.setIfInBounds_toArray, List.set_cons_zero, List.set_cons_succ])
         refine' wpAnyH_take (i := 2) (v := ?v13) ?a13 ?b13 ?c13 ?d13 ?e13 ?f13 ?g13 ?z13
         case a13 => (simp only [List.getElem?_toArray, List.getElem?_cons_succ, List.getElem?_cons_zero]; try rfl)
         case b13 | c13 | d13 => kernel_rfl
         case e13 => exact fun _ _ _ h => h
         case f13 => first | exact Or.inl ⟨by rfl, by (intro w hSw; (try dsimp only at hSw); go_simp; try rfl)⟩ | exact Or.inr ⟨by rfl, rfl⟩
         case g13 => assumption
         (try simp only [Act.put, List.setIfInBounds_toArray, List.set_cons_zero, List.set_cons_succ])
         refine' wpAnyH_take (i := 3) (v := ?v14) ?a14 ?b14 ?c14 ?d14 ?e14 ?f14 ?g14 ?z14
         case a14 => (simp only [List.getElem?_toArray, List.getElem?_cons_succ, List.getElem?_cons_zero]; try rfl)
         case b14 | c14 | d14 => kernel_rfl
         case e14 => exact fun _ _ _ h => h
         case f14 => first | exact Or.inl ⟨by rfl, by (intro w hSw; (try dsimp only at hSw); go_simp; try rfl)⟩ | exact Or.inr ⟨by rfl, rfl⟩
         case g14 => assumption
         (try simp only [Act.put, List.setIfInBounds_toArray, List.set_cons_zero, List.set_cons_succ])
         refine' wpAnyH_take (i := 4) (v := ?v15) ?a15 ?b15 ?c15 ?d15 ?e15 ?f15 ?g15 ?z15
         case a15 => (simp only [List.getElem?_toArray, List.getElem?_cons_succ, List.getElem?_cons_zero]; try rfl)
         case b15 | c15 | d15 => kernel_rfl
         case e15 => exact fun _ _ _ h => h
         case f15 => first | exact Or.inl ⟨by rfl, by (intro w hSw; (try dsimp only at hSw); go_simp; try rfl)⟩ | exact Or.inr ⟨by rfl, rfl⟩
         case g15 => assumption
         (try simp only [Act.put, List.setIfInBounds_toArray, List.set_cons_zero, List.set_cons_succ])
         refine' wpAnyH_take (i := 5) (v := ?v16) ?a16 ?b16 ?c16 ?d16 ?e16 ?f16 ?g16 ?z16
         case a16 => (simp only [List.getElem?_toArray, List.getElem?_cons_succ, List.getElem?_cons_zero]; try rfl)
         case b16 | c16 | d16 => kernel_rfl
         case e16 => exact fun _ _ _ h => h
         case f16 => first | exact Or.inl ⟨by rfl, by (intro w hSw; (try dsimp only at hSw); go_simp; try rfl)⟩ | exact Or.inr ⟨by rfl, rfl⟩
         case g16 => assumption
         (try simp only [Act.put, List.setIfInBounds_toArray, List.set_cons_zero, List.set_cons_succ])
         refine' wpAnyH_take (i := 6) (v := ?v17) ?a17 ?b17 ?c17 ?d17 ?e17 ?f17 ?g17 ?z17
         case a17 => (simp only [List.getElem?_toArray, List.getElem?_cons_succ, List.getElem?_cons_zero]; try rfl)
         case b17 | c17 | d17 => kernel_rfl
         case e17 => exact fun _ _ _ h => h
         case f17 => first | exact Or.inl ⟨by rfl, by (intro w hSw; (try dsimp only at hSw); go_simp; try rfl)⟩ | exact Or.inr ⟨by rfl, rfl⟩
         case g17 => assumption
         (try simp only [Act.put, List.setIfInBounds_toArray, List.set_cons_zero, List.set_cons_succ])
         refine wpAnyH_ready (rs := [7]) (by kernel_rfl) (by simp) ?_
         refine' (AllReadyH.cons (i := 7) ?ho7x18 (fun K hK => ?st7x18) AllReadyH.nil)
         case ho7x18 => (simp only [List.getElem?_toArray, List.getElem?_cons_succ, List.getElem?_cons_zero]; try rfl)
         case st7x18 =>
          go_simp
          refine (refLeq_any _ _ ⟨de, dl⟩ ⟨ue, ul⟩ wm.drew ⟨_, rfl, hdr.out⟩ ⟨_, rfl, hur.out⟩).mono ?_
          rw [hrH.out]
          rintro e_ w2 ⟨rfl, hb2⟩
          have hq2 : Below wm.heap.size wm w2 := chainB (Below.refl _ _).drew hb2 (Nat.le_refl _)
          have hbn := Lib.hid (chainB hbwH.out hq2 hbwH.out.size)
          refine hK.out _ _ ?_ (fun hHeld => ?_)
          · exact ⟨(hq2.cell (p := ad.add (p * 2)) hba).trans a0_, (hq2.cell (p := ⟨(ad.add (p * 2)).block, (ad.add (p * 2)).off + 1, none⟩) hba).trans a1_, (hq2.cell (p := ⟨w.heap.size, 0, none⟩) bl_).trans b0_, (hq2.cell (p := ⟨w.heap.size, 1, none⟩) bl_).trans b1_⟩
          clear hK K
          (try simp only [Act.put, List.setIfInBounds_toArray, List.set_cons_zero, List.set_cons_succ])
          refine' wpAnyH_take (i := 8) (v := ?v19) ?a19 ?b19 ?c19 ?d19 ?e19 ?f19 ?g19 ?z19
          case a19 => (simp only [List.getElem?_toArray, List.getElem?_cons_succ, List.getElem?_cons_zero]; try rfl)
          case b19 | c19 | d19 => kernel_rfl
          case e19 => exact fun _ _ _ h => h
          case f19 => first | exact Or.inl ⟨by rfl, by (intro w hSw; (try dsimp only at hSw); go_simp; try rfl)⟩ | exact Or.inr ⟨by rfl, rfl⟩
          case g19 => assumption
          (try simp only [Act.put, List.setIfInBounds_toArray, List.set_cons_zero, List.set_cons_succ])
          refine' wpAnyH_take (i := 9) (v := ?v20) ?a20 ?b20 ?c20 ?d20 ?e20 ?f20 ?g20 ?z20
          case a20 => (simp only [List.getElem?_toArray, List.getElem?_cons_succ, List.getElem?_cons_zero]; try rfl)
          case b20 | c20 | d20 => kernel_rfl
          case e20 => exact fun _ _ _ h => h
          case f20 => first | exact Or.inl ⟨by rfl, by (intro w hSw; (try dsimp only at hSw); go_simp; try rfl)⟩ | exact Or.inr ⟨by rfl, rfl⟩
          case g20 => assumption
          (try simp only [Act.put, List.setIfInBounds_toArray, List.set_cons_zero, List.set_cons_succ])
          refine wpAnyH_done (by kernel_rfl) ?_ _
          refine NoPanic.normal ?_
          go_wp2_with fail
          go_roundw
          case rel => exact ⟨p + 1, r, by go_num, rfl, by have := hnaH.out; omega, by rw [hstH.out, ← hfH.out]; exact hrH.out.symm, hbn.out⟩
          case measure => simp [Go.RowKit.intOf]; omega
      · obtain rfl : p = na := by omega
        have his := Lib.hid (show f = upB (tmsD xs) ⟨ue, ul⟩ by rw [hfH.out, List.take_of_length_le (show (tmsD xs).length ≤ p by simp [tmsD]; have := hnaH.out; omega)])
        have hb_ := hbwH.out
        clear hfH hpn hlt hbwH
        have hc_ : Below w7.heap.size w7 wm := chainB (by first | exact Below.refl _ _ | go_grown) hb_ (by first | exact Nat.le_refl _ | (simp; done) | (simp; omega))
        replace hva := Lib.hid (hva.out.below hc_)
        replace hvb := Lib.hid (hvb.out.below hc_)
        replace hvu := Lib.hid (hvu.out.below hc_)
        replace hvs := Lib.hid (hvs.out.below hc_)
        replace hbu := Lib.hid (hbu.out.below hc_)
        replace hbs := Lib.hid (hbs.out.below hc_)
        replace hvo := Lib.hid (hvo.out.below hc_)
        replace hall := Lib.hid (chainB hall.out hc_ hall.out.size)
        clear hc_
        clear hb_
        have u0_ := hbu.out.cell 0 rfl; have u1_ := hbu.out.cell 1 rfl; have ul_ := hbu.out.lt
        have s0_ := hbs.out.cell 0 rfl; have s1_ := hbs.out.cell 1 rfl; have sl_ := hbs.out.lt
        go_wp2_with fail
        clear u0_ u1_ s0_ s1_ ul_ sl_
        go_loopw [12] (fun s12 wx => RelB2 no wm s12 wx) (fun s12 _ => no - (Go.RowKit.intOf s12).toNat)
        case atStart => exact ⟨0, rfl, Nat.zero_le _, Below.refl _ _⟩
        case round =>
         obtain ⟨wx, rfl⟩ : ∃ x, x = wr := ⟨_, rfl⟩
         unfold RelB2 at hrel
         obtain ⟨i, rfl, hin, hbx⟩ := hrel
         have hbxH := Lib.hid hbx
         clear hbx
         by_cases hlt : i < no
         · obtain ⟨x, hx⟩ : ∃ d, ro[i]? = some d := ⟨_, List.getElem?_eq_getElem (by have := hno.out; omega)⟩
           have hxH := Lib.hid hx
           clear hx
           go_wp2_with fail
           go_loopw [13] (fun s13 wy => RelB2 no wm s13 wy) (fun s13 _ => no - (Go.RowKit.intOf s13).toNat)
           case atStart => exact ⟨0, rfl, Nat.zero_le _, hbxH.out⟩
           case round =>
            obtain ⟨wy, rfl⟩ : ∃ x, x = wr := ⟨_, rfl⟩
            unfold RelB2 at hrel
            obtain ⟨k, rfl, hkn, hby⟩ := hrel
            have hbyH := Lib.hid hby
            clear hby
            by_cases hltk : k < no
            · obtain ⟨y, hy⟩ : ∃ d, ro[k]? = some d := ⟨_, List.getElem?_eq_getElem (by have := hno.out; omega)⟩
              obtain ⟨ad, rfl, hba, a0_, a1_⟩ := (hvo.out.below hbyH.out).at hxH.out
              obtain ⟨bd, e_, hbb, b0_, b1_⟩ := (hvo.out.below hbyH.out).at hy
              cases e_
              have hxr := Lib.hid ((hvo.out.2 x (List.mem_of_getElem? hxH.out)).below hbyH.out)
              have hyr := Lib.hid ((hvo.out.2 y (List.mem_of_getElem? hy)).below hbyH.out)
              by_cases hik : i = k
              · subst hik
                clear hy
                obtain ⟨xA, xc, ⟨xe, xl⟩⟩ := x
                obtain ⟨yA, yc, ⟨ye, yl⟩⟩ := y
                simp only at a0_ a1_ b0_ b1_
                go_wp2_with fail
                refine wp_region_noPanic ?_
                refine wp_region_held_drew (S := (fun w' => w'.cell? (ad.add (i * 2)) = some (.int .u64 xe) ∧ w'.cell? ⟨(ad.add (i * 2)).block, (ad.add (i * 2)).off + 1, none⟩ = some (.slice xA xl.length xc) ∧ w'.cell? (ad.add (i * 2)) = some (.int .u64 ye) ∧ w'.cell? ⟨(ad.add (i * 2)).block, (ad.add (i * 2)).off + 1, none⟩ = some (.slice yA yl.length yc))) (by kernel_rfl) (⟨a0_, a1_, b0_, b1_⟩) (fun hHeld => ?_)
                refine' wpAnyH_take (i := 0) (v := ?v21) ?a21 ?b21 ?c21 ?d21 ?e21 ?f21 ?g21 ?z21
                case a21 => (simp only [List.getElem?_toArray, List.getElem?_cons_succ, List.getElem?_cons_zero]; try rfl)
                case b21 | c21 | d21 => kernel_rfl
                case e21 => exact fun _ _ _ h => h
                case f21 => first | exact Or.inl ⟨by rfl, by (intro w hSw; (try dsimp only at hSw); go_simp; try rfl)⟩ | exact Or.inr ⟨by rfl, rfl⟩
                case g21 => assumption
                (try simp only [Act.put, List.setIfInBounds_toArray, List.set_cons_zero, List.set_cons_succ])
                refine' wpAnyH_take (i := 1) (v := ?v22) ?a22 ?b22 ?c22 ?d22 ?e22 ?f22 ?g22 ?z22
                case a22 => (simp only [List.getElem?_toArray, List.getElem?_cons_succ, List.getElem?_cons_zero]; try rfl)
                case b22 | c22 | d22 => kernel_rfl
                case e22 => exact fun _ _ _ h => h
                case f22 => first | exact Or.inl ⟨by rfl, by (intro w hSw; (try dsimp only at hSw); go_simp; try rfl)⟩ | exact Or.inr ⟨by rfl, rfl⟩
                case g22 => assumption
                (try simp only [Act.put, List.setIfInBounds_toArray, List.set_cons_zero, List.set_cons_succ])
                refine' wpAnyH_take (i := 2) (v := ?v23) ?a23 ?b23 ?c23 ?d23 ?e23 ?f23 ?g23 ?z23
                case a23 => (simp only [List.getElem?_toArray, List.getElem?_cons_succ, List.getElem?_cons_zero]; try rfl)
                case b23 | c23 | d23 => kernel_rfl
                case e23 => exact fun _ _ _ h => h
                case f23 => first | exact Or.inl ⟨by rfl, by (intro w hSw; (try dsimp only at hSw); go_simp; try rfl)⟩ | exact Or.inr ⟨by rfl, rfl⟩
                case g23 => assumption
                (try simp only [Act.put, List.setIfInBounds_toArray, List.set_cons_zero, List.set_cons_succ])
                refine' wpAnyH_take (i := 3) (v := ?v24) ?a24 ?b24 ?c24 ?d24 ?e24 ?f24 ?g24 ?z24
                case a24 => (simp only [List.getElem?_toArray, List.getElem?_cons_succ, List.getElem?_cons_zero]; try rfl)
                case b24 | c24 | d24 => kernel_rfl
                case e24 => exact fun _ _ _ h => h
                case f24 => first | exact Or.inl ⟨by rfl, by (intro w hSw; (try dsimp only at hSw); go_simp; try rfl)⟩ | exact Or.inr ⟨by rfl, rfl⟩
                case g24 => assumption
                (try simp only [Act.put, List.setIfInBounds_toArray, List.set_cons_zero, List.set_cons_succ])
                refine' wpAnyH_take (i := 4) (v := undef) ?a25 ?b25 ?c25 ?d25 ?e25 ?f25 ?g25 ?z25
                case a25 => (simp only [List.getElem?_toArray, List.getElem?_cons_succ, List.getElem?_cons_zero]; try rfl)
                case b25 | c25 | d25 => kernel_rfl
                case e25 => exact fun _ _ _ h => h
                case f25 => first | exact Or.inl ⟨by rfl, by (intro w hSw; (try dsimp only at hSw); go_simp; try rfl)⟩ | exact Or.inr ⟨by rfl, rfl⟩
                case g25 => assumption
                (try simp only [Act.put, List.setIfInBounds_toArray, List.set_cons_zero, List.set_cons_succ])
                refine' wpAnyH_take (i := 5) (v := undef) ?a26 ?b26 ?c26 ?d26 ?e26 ?f26 ?g26 ?z26
                case a26 => (simp only [List.getElem?_toArray, List.getElem?_cons_succ, List.getElem?_cons_zero]; try rfl)
                case b26 | c26 | d26 => kernel_rfl
                case e26 => exact fun _ _ _ h => h
                case f26 => first | exact Or.inl ⟨by rfl, by (intro w hSw; (try dsimp only at hSw); go_simp; try rfl)⟩ | exact Or.inr ⟨by rfl, rfl⟩
                case g26 => assumption
                (try simp only [Act.put, List.setIfInBounds_toArray, List.set_cons_zero, List.set_cons_succ])
                refine' wpAnyH_take (i := 6) (v := undef) ?a27 ?b27 ?c27 ?d27 ?e27 ?f27 ?g27 ?z27
                case a27 => (simp only [List.getElem?_toArray, List.getElem?_cons_succ, List.getElem?_cons_zero]; try rfl)
                case b27 | c27 | d27 => kernel_rfl
                case e27 => exact fun _ _ _ h => h
                case f27 => first | exact Or.inl ⟨by rfl, by (intro w hSw; (try dsimp only at hSw); go_simp; try rfl)⟩ | exact Or.inr ⟨by rfl, rfl⟩
                case g27 => assumption
                (try simp only [Act.put, List.setIfInBounds_toArray, List.set_cons_zero, List.set_cons_succ])
                refine' wpAnyH_take (i := 7) (v := undef) ?a28 ?b28 ?c28 ?d28 ?e28 ?f28 ?g28 ?z28
                case a28 => (simp only [List.getElem?_toArray, List.getElem?_cons_succ, List.getElem?_cons_zero]; try rfl)
                case b28 | c28 | d28 => kernel_rfl
                case e28 => exact fun _ _ _ h => h
                case f28 => first | exact Or.inl ⟨by rfl, by (intro w hSw; (try dsimp only at hSw); go_simp; try rfl)⟩ | exact Or.inr ⟨by rfl, rfl⟩
                case g28 => assumption
                (try simp only [Act.put, List.setIfInBounds_toArray, List.set_cons_zero, List.set_cons_succ])
                refine' wpAnyH_take (i := 8) (v := undef) ?a29 ?b29 ?c29 ?d29 ?e29 ?f29 ?g29 ?z29
                case a29 => (simp only [List.getElem?_toArray, List.getElem?_cons_succ, List.getElem?_cons_zero]; try rfl)
                case b29 | c29 | d29 => kernel_rfl
                case e29 => exact fun _ _ _ h => h
                case f29 => first | exact Or.inl ⟨by rfl, by (intro w hSw; (try dsimp only at hSw); go_simp; try rfl)⟩ | exact Or.inr ⟨by rfl, rfl⟩
                case g29 => assumption
                (try simp only [Act.put, List.setIfInBounds_toArray, List.set_cons_zero, List.set_cons_succ])
                refine' wpAnyH_take (i := 9) (v := undef) ?a30 ?b30 ?c30 ?d30 ?e30 ?f30 ?g30 ?z30
                case a30 => (simp only [List.getElem?_toArray, List.getElem?_cons_succ, List.getElem?_cons_zero]; try rfl)
                case b30 | c30 | d30 => kernel_rfl
                case e30 => exact fun _ _ _ h => h
                case f30 => first | exact Or.inl ⟨by rfl, by (intro w hSw; (try dsimp only at hSw); go_simp; try rfl)⟩ | exact Or.inr ⟨by rfl, rfl⟩
                case g30 => assumption
                (try simp only [Act.put, List.setIfInBounds_toArray, List.set_cons_zero, List.set_cons_succ])
                refine' wpAnyH_take (i := 10) (v := undef) ?a31 ?b31 ?c31 ?d31 ?e31 ?f31 ?g31 ?z31
                case a31 => (simp only [List.getElem?_toArray, List.getElem?_cons_succ, List.getElem?_cons_zero]; try rfl)
                case b31 | c31 | d31 => kernel_rfl
                case e31 => exact fun _ _ _ h => h
                case f31 => first | exact Or.inl ⟨by rfl, by (intro w hSw; (try dsimp only at hSw); go_simp; try rfl)⟩ | exact Or.inr ⟨by rfl, rfl⟩
                case g31 => assumption
                (try simp only [Act.put, List.setIfInBounds_toArray, List.set_cons_zero, List.set_cons_succ])
                refine' wpAnyH_take (i := 11) (v := undef) ?a32 ?b32 ?c32 ?d32 ?e32 ?f32 ?g32 ?z32
                case a32 => (simp only [List.getElem?_toArray, List.getElem?_cons_succ, List.getElem?_cons_zero]; try rfl)
                case b32 | c32 | d32 => kernel_rfl
                case e32 => exact fun _ _ _ h => h
                case f32 => first | exact Or.inl ⟨by rfl, by (intro w hSw; (try dsimp only at hSw); go_simp; try rfl)⟩ | exact Or.inr ⟨by rfl, rfl⟩
                case g32 => assumption
                (try simp only [Act.put, List.setIfInBounds_toArray, List.set_cons_zero, List.set_cons_succ])
                refine' wpAnyH_take (i := 12) (v := undef) ?a33 ?b33 ?c33 ?d33 ?e33 ?f33 ?g33 ?z33
                case a33 => (simp only [List.getElem?_toArray, List.getElem?_cons_succ, List.getElem?_cons_zero]; try rfl)
                case b33 | c33 | d33 => kernel_rfl
                case e33 => exact fun _ _ _ h => h
                case f33 => first | exact Or.inl ⟨by rfl, by (intro w hSw; (try dsimp only at hSw); go_simp; try rfl)⟩ | exact Or.inr ⟨by rfl, rfl⟩
                case g33 => assumption
                (try simp only [Act.put, List.setIfInBounds_toArray, List.set_cons_zero, List.set_cons_succ])
                refine' wpAnyH_take (i := 13) (v := ?v34) ?a34 ?b34 ?c34 ?d34 ?e34 ?f34 ?g34 ?z34
                case a34 => (simp only [List.getElem?_toArray, List.getElem?_cons_succ, List.getElem?_cons_zero]; try rfl)
                case b34 | c34 | d34 => kernel_rfl
                case e34 => exact fun _ _ _ h => h
                case f34 => first | exact Or.inl ⟨by rfl, by (intro w hSw; (try dsimp only at hSw); go_simp; try rfl)⟩ | exact Or.inr ⟨by rfl, rfl⟩
                case g34 => assumption
                (try simp only [Act.put, List.setIfInBounds_toArray, List.set_cons_zero, List.set_cons_succ])
                refine wpAnyH_done (by kernel_rfl) ?_ _
                refine NoPanic.normal ?_
                go_wp2_with fail
                go_roundw
                case rel => exact ⟨i + 1, by go_num, by omega, hbyH.out.drew⟩
                case measure => simp [Go.RowKit.intOf]; omega
              · have hnk : ((i : Int) != (k : Int)) = true := by simp only [bne_iff_ne, ne_eq]; omega
                have hnot := Lib.hid (anti_not haco.out hxH.out hy hik)
                clear hy
                obtain ⟨xA, xc, ⟨xe, xl⟩⟩ := x
                obtain ⟨yA, yc, ⟨ye, yl⟩⟩ := y
                simp only at a0_ a1_ b0_ b1_
                go_wp2_with fail
                refine wp_region_noPanic ?_
                refine wp_region_held_drew (S := (fun w' => w'.cell? (ad.add (i * 2)) = some (.int .u64 xe) ∧ w'.cell? ⟨(ad.add (i * 2)).block, (ad.add (i * 2)).off + 1, none⟩ = some (.slice xA xl.length xc) ∧ w'.cell? (ad.add (k * 2)) = some (.int .u64 ye) ∧ w'.cell? ⟨(ad.add (k * 2)).block, (ad.add (k * 2)).off + 1, none⟩ = some (.slice yA yl.length yc))) (by kernel_rfl) (⟨a0_, a1_, b0_, b1_⟩) (fun hHeld => ?_)
                refine' wpAnyH_take (i := 0) (v := ?v35) ?a35 ?b35 ?c35 ?d35 ?e35 ?f35 ?g35 ?z35
                case a35 => (simp only [List.getElem?_toArray, List.getElem?_cons_succ, List.getElem?_cons_zero]; try rfl)
                case b35 | c35 | d35 => kernel_rfl
                case e35 => exact fun _ _ _ h => h
                case f35 => first | exact Or.inl ⟨by rfl, by (intro w hSw; (try dsimp only at hSw); go_simp; try rfl)⟩ | exact Or.inr ⟨by rfl, rfl⟩
                case g35 => assumption
                (try simp only [Act.put, List.setIfInBounds_toArray, List.set_cons_zero, List.set_cons_succ])
                refine' wpAnyH_take (i := 1) (v := ?v36) ?a36 ?b36 ?c36 ?d36 ?e36 ?f36 ?g36 ?z36
                case a36 => (simp only [List.getElem?_toArray, List.getElem?_cons_succ, List.getElem?_cons_zero]; try rfl)
                case b36 | c36 | d36 => kernel_rfl
                case e36 => exact fun _ _ _ h => h
                case f36 => first | exact Or.inl ⟨by rfl, by (intro w hSw; (try dsimp only at hSw); go_simp; try rfl)⟩ | exact Or.inr ⟨by rfl, rfl⟩
                case g36 => assumption
                (try simp only [Act.put, List.setIfInBounds_toArray, List.set_cons_zero, List.set_cons_succ])
                refine' wpAnyH_take (i := 2) (v := ?v37) ?a37 ?b37 ?c37 ?d37 ?e37 ?f37 ?g37 ?z37
                case a37 => (simp only [List.getElem?_toArray, List.getElem?_cons_succ, List.getElem?_cons_zero]; try rfl)
                case b37 | c37 | d37 => kernel_rfl
                case e37 => exact fun _ _ _ h => h
                case f37 => first | exact Or.inl ⟨by rfl, by (intro w hSw; (try dsimp only at hSw); go_simp; try rfl)⟩ | exact Or.inr ⟨by rfl, rfl⟩
                case g37 => assumption
                (try simp only [Act.put, List.setIfInBounds_toArray, List.set_cons_zero, List.set_cons_succ])
                refine' wpAnyH_take (i := 3) (v := ?v38) ?a38 ?b38 ?c38 ?d38 ?e38 ?f38 ?g38 ?z38
                case a38 => (simp only [List.getElem?_toArray, List.getElem?_cons_succ, List.getElem?_cons_zero]; try rfl)
                case b38 | c38 | d38 => kernel_rfl
                case e38 => exact fun _ _ _ h => h
                case f38 => first | exact Or.inl ⟨by rfl, by (intro w hSw; (try dsimp only at hSw); go_simp; try rfl)⟩ | exact Or.inr ⟨by rfl, rfl⟩
                case g38 => assumption
                (try simp only [Act.put, List.setIfInBounds_toArray, List.set_cons_zero, List.set_cons_succ])
                refine' wpAnyH_take (i := 4) (v := ?v39) ?a39 ?b39 ?c39 ?d39 ?e39 ?f39 ?g39 ?z39
                case a39 => (simp only [List.getElem?_toArray, List.getElem?_cons_succ, List.getElem?_cons_zero]; try rfl)
                case b39 | c39 | d39 => kernel_rfl
                case e39 => exact fun _ _ _ h => h
                case f39 => first | exact Or.inl ⟨by rfl, by (intro w hSw; (try dsimp only at hSw); go_simp; try rfl)⟩ | exact Or.inr ⟨by rfl, rfl⟩
                case g39 => assumption
                (try simp only [Act.put, List.setIfInBounds_toArray, List.set_cons_zero, List.set_cons_succ])
                refine' wpAnyH_take (i := 5) (v := ?v40) ?a40 ?b40 ?c40 ?d40 ?e40 ?f40 ?g40 ?z40
                case a40 => (simp only [List.getElem?_toArray, List.getElem?_cons_succ, List.getElem?_cons_zero]; try rfl)
                case b40 | c40 | d40 => kernel_rfl
                case e40 => exact fun _ _ _ h => h
                case f40 => first | exact Or.inl ⟨by rfl, by (intro w hSw; (try dsimp only at hSw); go_simp; try rfl)⟩ | exact Or.inr ⟨by rfl, rfl⟩
                case g40 => assumption
                (try simp only [Act.put, List.setIfInBounds_toArray, List.set_cons_zero, List.set_cons_succ])
                refine' wpAnyH_take (i := 6) (v := ?v41) ?a41 ?b41 ?c41 ?d41 ?e41 ?f41 ?g41 ?z41
                case a41 => (simp only [List.getElem?_toArray, List.getElem?_cons_succ, List.getElem?_cons_zero]; try rfl)
                case b41 | c41 | d41 => kernel_rfl
                case e41 => exact fun _ _ _ h => h
                case f41 => first | exact Or.inl ⟨by rfl, by (intro w hSw; (try dsimp only at hSw); go_simp; try rfl)⟩ | exact Or.inr ⟨by rfl, rfl⟩
                case g41 => assumption
                (try simp only [Act.put, List.setIfInBounds_toArray, List.set_cons_zero, List.set_cons_succ])
                refine' wpAnyH_take (i := 7) (v := ?v42) ?a42 ?b42 ?c42 ?d42 ?e42 ?f42 ?g42 ?z42
                case a42 => (simp only [List.getElem?_toArray, List.getElem?_cons_succ, List.getElem?_cons_zero]; try rfl)
                case b42 | c42 | d42 => kernel_rfl
                case e42 => exact fun _ _ _ h => h
                case f42 => first | exact Or.inl ⟨by rfl, by (intro w hSw; (try dsimp only at hSw); go_simp; try rfl)⟩ | exact Or.inr ⟨by rfl, rfl⟩
                case g42 => assumption
                (try simp only [Act.put, List.setIfInBounds_toArray, List.set_cons_zero, List.set_cons_succ])
                refine' wpAnyH_take (i := 8) (v := ?v43) ?a43 ?b43 ?c43 ?d43 ?e43 ?f43 ?g43 ?z43
                case a43 => (simp only [List.getElem?_toArray, List.getElem?_cons_succ, List.getElem?_cons_zero]; try rfl)
                case b43 | c43 | d43 => kernel_rfl
                case e43 => exact fun _ _ _ h => h
                case f43 => first | exact Or.inl ⟨by rfl, by (intro w hSw; (try dsimp only at hSw); go_simp; try rfl)⟩ | exact Or.inr ⟨by rfl, rfl⟩
                case g43 => assumption
                (try simp only [Act.put, List.setIfInBounds_toArray, List.set_cons_zero, List.set_cons_succ])
                refine' wpAnyH_take (i := 9) (v := ?v44) ?a44 ?b44 ?c44 ?d44 ?e44 ?f44 ?g44 ?z44
                case a44 => (simp only [List.getElem?_toArray, List.getElem?_cons_succ, List.getElem?_cons_zero]; try rfl)
                case b44 | c44 | d44 => kernel_rfl
                case e44 => exact fun _ _ _ h => h
                case f44 => first | exact Or.inl ⟨by rfl, by (intro w hSw; (try dsimp only at hSw); go_simp; try rfl)⟩ | exact Or.inr ⟨by rfl, rfl⟩
                case g44 => assumption
                (try simp only [Act.put, List.setIfInBounds_toArray, List.set_cons_zero, List.set_cons_succ])
                refine' wpAnyH_take (i := 10) (v := ?v45) ?a45 ?b45 ?c45 ?d45 ?e45 ?f45 ?g45 ?z45
                case a45 => (simp only [List.getElem?_toArray, List.getElem?_cons_succ, List.getElem?_cons_zero]; try rfl)
                case b45 | c45 | d45 => kernel_rfl
                case e45 => exact fun _ _ _ h => h
                case f45 => first | exact Or.inl ⟨by rfl, by (intro w hSw; (try dsimp only at hSw); go_simp; try rfl)⟩ | exact Or.inr ⟨by rfl, rfl⟩
                case g45 => assumption
                (try simp only [Act.put, List.setIfInBounds_toArray, List.set_cons_zero, List.set_cons_succ])
                refine' wpAnyH_take (i := 11) (v := ?v46) ?a46 ?b46 ?c46 ?d46 ?e46 ?f46 ?g46 ?z46
                case a46 => (simp only [List.getElem?_toArray, List.getElem?_cons_succ, List.getElem?_cons_zero]; try rfl)
                case b46 | c46 | d46 => kernel_rfl
                case e46 => exact fun _ _ _ h => h
                case f46 => first | exact Or.inl ⟨by rfl, by (intro w hSw; (try dsimp only at hSw); go_simp; try rfl)⟩ | exact Or.inr ⟨by rfl, rfl⟩
                case g46 => assumption
                (try simp only [Act.put, List.setIfInBounds_toArray, List.set_cons_zero, List.set_cons_succ])
                refine wpAnyH_ready (rs := [12]) (by kernel_rfl) (by simp) ?_
                refine' (AllReadyH.cons (i := 12) ?ho12x47 (fun K hK => ?st12x47) AllReadyH.nil)
                case ho12x47 => (simp only [List.getElem?_toArray, List.getElem?_cons_succ, List.getElem?_cons_zero]; try rfl)
                case st12x47 =>
                 go_simp
                 refine (refLeq_any _ _ ⟨xe, xl⟩ ⟨ye, yl⟩ wy.drew ⟨_, rfl, hxr.out⟩ ⟨_, rfl, hyr.out⟩).mono ?_
                 rw [hnot.out]
                 rintro e_ w2 ⟨rfl, hb2⟩
                 have hq2 : Below wy.heap.size wy w2 := chainB (Below.refl _ _).drew hb2 (Nat.le_refl _)
                 have hbn := Lib.hid (chainB hbyH.out hq2 hbyH.out.size)
                 refine hK.out _ _ ?_ (fun hHeld => ?_)
                 · exact ⟨(hq2.cell (p := ad.add (i * 2)) hba).trans a0_, (hq2.cell (p := ⟨(ad.add (i * 2)).block, (ad.add (i * 2)).off + 1, none⟩) hba).trans a1_, (hq2.cell (p := ad.add (k * 2)) hbb).trans b0_, (hq2.cell (p := ⟨(ad.add (k * 2)).block, (ad.add (k * 2)).off + 1, none⟩) hbb).trans b1_⟩
                 clear hK K
                 (try simp only [Act.put, List.setIfInBounds_toArray, List.set_cons_zero, List.set_cons_succ])
                 refine' wpAnyH_take (i := 13) (v := ?v48) ?a48 ?b48 ?c48 ?d48 ?e48 ?f48 ?g48 ?z48
                 case a48 => (simp only [List.getElem?_toArray, List.getElem?_cons_succ, List.getElem?_cons_zero]; try rfl)
                 case b48 | c48 | d48 => kernel_rfl
                 case e48 => exact fun _ _ _ h => h
                 case f48 => first | exact Or.inl ⟨by rfl, by (intro w hSw; (try dsimp only at hSw); go_simp; try rfl)⟩ | exact Or.inr ⟨by rfl, rfl⟩
                 case g48 => assumption
                 (try simp only [Act.put, List.setIfInBounds_toArray, List.set_cons_zero, List.set_cons_succ])
                 refine wpAnyH_done (by kernel_rfl) ?_ _
                 refine NoPanic.normal ?_
                 go_wp2_with fail
                 go_roundw
                 case rel => exact ⟨k + 1, by go_num, by omega, hbn.out⟩
                 case measure => simp [Go.RowKit.intOf]; omega
            · obtain rfl : k = no := by omega
              go_wp2_with fail
              go_roundw
              case rel => exact ⟨i + 1, by go_num, by omega, hbyH.out⟩
              case measure => simp [Go.RowKit.intOf]; omega
         · obtain rfl : i = no := by omega
           have hb_ := hbxH.out
           clear hin hlt hbxH
           have hc_ : Below wm.heap.size wm wx := chainB (by first | exact Below.refl _ _ | go_grown) hb_ (by first | exact Nat.le_refl _ | (simp; done) | (simp; omega))
           replace hva := Lib.hid (hva.out.below hc_)
           replace hvb := Lib.hid (hvb.out.below hc_)
           replace hvu := Lib.hid (hvu.out.below hc_)
           replace hvs := Lib.hid (hvs.out.below hc_)
           replace hbu := Lib.hid (hbu.out.below hc_)
           replace hbs := Lib.hid (hbs.out.below hc_)
           replace hvo := Lib.hid (hvo.out.below hc_)
           replace hall := Lib.hid (chainB hall.out hc_ hall.out.size)
           clear hc_
           clear hb_
           obtain ⟨r2, hr2_⟩ : ∃ r, upB (tmsD ys) ⟨ue, ul⟩ = r := ⟨_, rfl⟩
           have hr2 := Lib.hid hr2_
           obtain ⟨V, hV_⟩ : ∃ x, advT (tmsD xs) (⟨se, sl⟩ : Tm) = x := ⟨_, rfl⟩
           have hV := Lib.hid hV_
           have hbo := Lib.hid (show upB (tmsD ro) ⟨ue, ul⟩ = f by rw [his.out]; exact upB_eq haco.out.up _)
           have hoa := Lib.hid (show ((tmsD xs).all fun t => upB (tmsD ro) t) = true by
             rw [List.all_eq_true]
             intro t ht
             rw [upB_iff, haco.out.up]
             exact upL_self ht)
           have hao := Lib.hid (show ((tmsD ro).all fun t => upB (tmsD xs) t) = true by
             rw [List.all_eq_true]
             intro t ht
             rw [upB_iff, ← haco.out.up]
             exact upL_self ht)
           have hsame := Lib.hid (show f = true → sl.length = ul.length → leqT (⟨se, sl⟩ : Tm) ⟨ue, ul⟩ = leqT V ⟨ue, ul⟩ from fun h1 h2 => by rw [← hV_]; exact advT_same (upB_iff.1 (his.out.symm.trans h1)) h2)
           clear hr2_ hV_
           cases f with
           | true =>
            have u0_ := hbu.out.cell 0 rfl; have u1_ := hbu.out.cell 1 rfl; have ul_ := hbu.out.lt
            have s0_ := hbs.out.cell 0 rfl; have s1_ := hbs.out.cell 1 rfl; have sl_ := hbs.out.lt
            go_wp2_with fail
            clear u0_ u1_ s0_ s1_ ul_ sl_
            refine (beyond_any _ xs ⟨uA, uc, ⟨ue, ul⟩⟩ _ (hva.out.below (by first | exact Below.refl _ _ | go_grown)) (hvu.out.below (by first | exact Below.refl _ _ | go_grown))).mono ?_
            rw [← his.out]
            rintro e_ w8 ⟨rfl, hb_⟩
            have hc_ : Below wx.heap.size wx w8 := chainB (by first | exact Below.refl _ _ | go_grown) hb_ (by first | exact Nat.le_refl _ | (simp; done) | (simp; omega))
            replace hva := Lib.hid (hva.out.below hc_)
            replace hvb := Lib.hid (hvb.out.below hc_)
            replace hvu := Lib.hid (hvu.out.below hc_)
            replace hvs := Lib.hid (hvs.out.below hc_)
            replace hbu := Lib.hid (hbu.out.below hc_)
            replace hbs := Lib.hid (hbs.out.below hc_)
            replace hvo := Lib.hid (hvo.out.below hc_)
            replace hall := Lib.hid (chainB hall.out hc_ hall.out.size)
            clear hc_
            clear hb_
            have u0_ := hbu.out.cell 0 rfl; have u1_ := hbu.out.cell 1 rfl; have ul_ := hbu.out.lt
            have s0_ := hbs.out.cell 0 rfl; have s1_ := hbs.out.cell 1 rfl; have sl_ := hbs.out.lt
            go_wp2_with fail
            clear u0_ u1_ s0_ s1_ ul_ sl_
            refine (beyond_any _ ys ⟨uA, uc, ⟨ue, ul⟩⟩ _ (hvb.out.below (by first | exact Below.refl _ _ | go_grown)) (hvu.out.below (by first | exact Below.refl _ _ | go_grown))).mono ?_
            rw [hr2.out]
            rintro e_ w9 ⟨rfl, hb_⟩
            have hc_ : Below w8.heap.size w8 w9 := chainB (by first | exact Below.refl _ _ | go_grown) hb_ (by first | exact Nat.le_refl _ | (simp; done) | (simp; omega))
            replace hva := Lib.hid (hva.out.below hc_)
            replace hvb := Lib.hid (hvb.out.below hc_)
            replace hvu := Lib.hid (hvu.out.below hc_)
            replace hvs := Lib.hid (hvs.out.below hc_)
            replace hbu := Lib.hid (hbu.out.below hc_)
            replace hbs := Lib.hid (hbs.out.below hc_)
            replace hvo := Lib.hid (hvo.out.below hc_)
            replace hall := Lib.hid (chainB hall.out hc_ hall.out.size)
            clear hc_
            clear hb_
            have u0_ := hbu.out.cell 0 rfl; have u1_ := hbu.out.cell 1 rfl; have ul_ := hbu.out.lt
            have s0_ := hbs.out.cell 0 rfl; have s1_ := hbs.out.cell 1 rfl; have sl_ := hbs.out.lt
            go_wp2_with fail
            have hb := Below.refl w9.heap.size w9
            refine wp_region_noPanic ?_
            refine wp_region_held_drew (S := (fun w' => w'.cell? ⟨w.heap.size, 0, none⟩ = some (.int .u64 ue) ∧ w'.cell? ⟨w.heap.size, 1, none⟩ = some (.slice uA ul.length uc))) (by kernel_rfl) (⟨u0_, u1_⟩) (fun hHeld => ?_)
            refine' wpAnyH_take (i := 0) (v := ?v49) ?a49 ?b49 ?c49 ?d49 ?e49 ?f49 ?g49 ?z49
            case a49 => (simp only [List.getElem?_toArray, List.getElem?_cons_succ, List.getElem?_cons_zero]; try rfl)
            case b49 | c49 | d49 => kernel_rfl
            case e49 => exact fun _ _ _ h => h
            case f49 => first | exact Or.inl ⟨by rfl, by (intro w hSw; (try dsimp only at hSw); go_simp; try rfl)⟩ | exact Or.inr ⟨by rfl, rfl⟩
            case g49 => assumption
            (try simp only [Act.put, List.setIfInBounds_toArray, List.set_cons_zero, List.set_cons_succ])
            refine' wpAnyH_take (i := 1) (v := ?v50) ?a50 ?b50 ?c50 ?d50 ?e50 ?f50 ?g50 ?z50
            case a50 => (simp only [List.getElem?_toArray, List.getElem?_cons_succ, List.getElem?_cons_zero]; try rfl)
            case b50 | c50 | d50 => kernel_rfl
            case e50 => exact fun _ _ _ h => h
            case f50 => first | exact Or.inl ⟨by rfl, by (intro w hSw; (try dsimp only at hSw); go_simp; try rfl)⟩ | exact Or.inr ⟨by rfl, rfl⟩
            case g50 => assumption
            (try simp only [Act.put, List.setIfInBounds_toArray, List.set_cons_zero, List.set_cons_succ])
            refine' wpAnyH_take (i := 3) (v := ?v51) ?a51 ?b51 ?c51 ?d51 ?e51 ?f51 ?g51 ?z51
            case a51 => (simp only [List.getElem?_toArray, List.getElem?_cons_succ, List.getElem?_cons_zero]; try rfl)
            case b51 | c51 | d51 => kernel_rfl
            case e51 => exact fun _ _ _ h => h
            case f51 => first | exact Or.inl ⟨by rfl, by (intro w hSw; (try dsimp only at hSw); go_simp; try rfl)⟩ | exact Or.inr ⟨by rfl, rfl⟩
            case g51 => assumption
            (try simp only [Act.put, List.setIfInBounds_toArray, List.set_cons_zero, List.set_cons_succ])
            refine wpAnyH_ready (rs := [2]) (by kernel_rfl) (by simp) ?_
            refine' (AllReadyH.cons (i := 2) ?ho2x52 (fun K hK => ?st2x52) AllReadyH.nil)
            case ho2x52 => (simp only [List.getElem?_toArray, List.getElem?_cons_succ, List.getElem?_cons_zero]; try rfl)
            case st2x52 =>
             go_simp
             refine (beyond_any _ ro ⟨uA, uc, ⟨ue, ul⟩⟩ _ (hvo.out.below (by first | exact hb | go_grown)) (hvu.out.below (by first | exact hb | go_grown))).mono ?_; rw [hbo.out]; rintro e_ w_ ⟨rfl, hb_⟩; replace hb := chainB (B := w9.heap.size) (a := w9) (by go_grown) hb_ (by have := hb.size; first | omega | (simp; done) | (simp; omega)); clear hb_
             refine hK.out _ _ ?_ (fun hHeld => ?_)
             · exact ⟨(hbu.out.below hb).cell 0 rfl, (hbu.out.below hb).cell 1 rfl⟩
             clear hK K
             (try simp only [Act.put, List.setIfInBounds_toArray, List.set_cons_zero, List.set_cons_succ])
             refine' wpAnyH_take (i := 4) (v := ?v53) ?a53 ?b53 ?c53 ?d53 ?e53 ?f53 ?g53 ?z53
             case a53 => (simp only [List.getElem?_toArray, List.getElem?_cons_succ, List.getElem?_cons_zero]; try rfl)
             case b53 | c53 | d53 => kernel_rfl
             case e53 => exact fun _ _ _ h => h
             case f53 => first | exact Or.inl ⟨by rfl, by (intro w hSw; (try dsimp only at hSw); go_simp; try rfl)⟩ | exact Or.inr ⟨by rfl, rfl⟩
             case g53 => assumption
             (try simp only [Act.put, List.setIfInBounds_toArray, List.set_cons_zero, List.set_cons_succ])
             refine' wpAnyH_take (i := 5) (v := ?v54) ?a54 ?b54 ?c54 ?d54 ?e54 ?f54 ?g54 ?z54
             case a54 => (simp only [List.getElem?_toArray, List.getElem?_cons_succ, List.getElem?_cons_zero]; try rfl)
             case b54 | c54 | d54 => kernel_rfl
             case e54 => exact fun _ _ _ h => h
             case f54 => first | exact Or.inl ⟨by rfl, by (intro w hSw; (try dsimp only at hSw); go_simp; try rfl)⟩ | exact Or.inr ⟨by rfl, rfl⟩
             case g54 => assumption
             (try simp only [Act.put, List.setIfInBounds_toArray, List.set_cons_zero, List.set_cons_succ])
             refine' wpAnyH_take (i := 6) (v := ?v55) ?a55 ?b55 ?c55 ?d55 ?e55 ?f55 ?g55 ?z55
             case a55 => (simp only [List.getElem?_toArray, List.getElem?_cons_succ, List.getElem?_cons_zero]; try rfl)
             case b55 | c55 | d55 => kernel_rfl
             case e55 => exact fun _ _ _ h => h
             case f55 => first | exact Or.inl ⟨by rfl, by (intro w hSw; (try dsimp only at hSw); go_simp; try rfl)⟩ | exact Or.inr ⟨by rfl, rfl⟩
             case g55 => assumption
             (try simp only [Act.put, List.setIfInBounds_toArray, List.set_cons_zero, List.set_cons_succ])
             refine' wpAnyH_take (i := 7) (v := ?v56) ?a56 ?b56 ?c56 ?d56 ?e56 ?f56 ?g56 ?z56
             case a56 => (simp only [List.getElem?_toArray, List.getElem?_cons_succ, List.getElem?_cons_zero]; try rfl)
             case b56 | c56 | d56 => kernel_rfl
             case e56 => exact fun _ _ _ h => h
             case f56 => first | exact Or.inl ⟨by rfl, by (intro w hSw; (try dsimp only at hSw); go_simp; try rfl)⟩ | exact Or.inr ⟨by rfl, rfl⟩
             case g56 => assumption
             (try simp only [Act.put, List.setIfInBounds_toArray, List.set_cons_zero, List.set_cons_succ])
             refine' wpAnyH_take (i := 9) (v := ?v57) ?a57 ?b57 ?c57 ?d57 ?e57 ?f57 ?g57 ?z57
             case a57 => (simp only [List.getElem?_toArray, List.getElem?_cons_succ, List.getElem?_cons_zero]; try rfl)
             case b57 | c57 | d57 => kernel_rfl
             case e57 => exact fun _ _ _ h => h
             case f57 => first | exact Or.inl ⟨by rfl, by (intro w hSw; (try dsimp only at hSw); go_simp; try rfl)⟩ | exact Or.inr ⟨by rfl, rfl⟩
             case g57 => assumption
             (try simp only [Act.put, List.setIfInBounds_toArray, List.set_cons_zero, List.set_cons_succ])
             refine' wpAnyH_take (i := 11) (v := ?v58) ?a58 ?b58 ?c58 ?d58 ?e58 ?f58 ?g58 ?z58
             case a58 => (simp only [List.getElem?_toArray, List.getElem?_cons_succ, List.getElem?_cons_zero]; try rfl)
             case b58 | c58 | d58 => kernel_rfl
             case e58 => exact fun _ _ _ h => h
             case f58 => first | exact Or.inl ⟨by rfl, by (intro w hSw; (try dsimp only at hSw); go_simp; try rfl)⟩ | exact Or.inr ⟨by rfl, rfl⟩
             case g58 => assumption
             (try simp only [Act.put, List.setIfInBounds_toArray, List.set_cons_zero, List.set_cons_succ])
             refine wpAnyH_ready (rs := [8]) (by kernel_rfl) (by simp) ?_
             refine' (AllReadyH.cons (i := 8) ?ho8x59 (fun K hK => ?st8x59) AllReadyH.nil)
             case ho8x59 => (simp only [List.getElem?_toArray, List.getElem?_cons_succ, List.getElem?_cons_zero]; try rfl)
             case st8x59 =>
              go_simp
              refine (join_all _ _ xs ys _ (hva.out.below (by first | exact hb | go_grown)) (hvb.out.below (by first | exact hb | go_grown)) ⟨by have := hla.out; omega, by have := hlb.out; omega⟩ (both_ofB ha1.out hb1.out)).mono ?_; rintro e_ w_ ⟨⟨_, vj, rj, rfl, hvj_, hacj_, _, _⟩, hb_⟩; replace hb := chainB (B := w9.heap.size) (a := w9) (by go_grown) hb_ (by have := hb.size; first | omega | (simp; done) | (simp; omega)); clear hb_
              have hvj := Lib.hid hvj_
              have hjb := Lib.hid (show upB (tmsD rj) ⟨ue, ul⟩ = r2 by
                rw [Bool.eq_iff_iff, upB_iff, hacj_.up, ← upB_iff, ← upB_iff, hr2.out, ← his.out]
                simp)
              clear hvj_ hacj_
              refine hK.out _ _ ?_ (fun hHeld => ?_)
              · exact ⟨(hbu.out.below hb).cell 0 rfl, (hbu.out.below hb).cell 1 rfl⟩
              clear hK K
              (try simp only [Act.put, List.setIfInBounds_toArray, List.set_cons_zero, List.set_cons_succ])
              refine wpAnyH_ready (rs := [10]) (by kernel_rfl) (by simp) ?_
              refine' (AllReadyH.cons (i := 10) ?ho10x60 (fun K hK => ?st10x60) AllReadyH.nil)
              case ho10x60 => (simp only [List.getElem?_toArray, List.getElem?_cons_succ, List.getElem?_cons_zero]; try rfl)
              case st10x60 =>
               go_simp
               refine (beyond_any vj rj ⟨uA, uc, ⟨ue, ul⟩⟩ _ (hvj.out.below (by first | exact Below.refl _ _ | go_grown)) (hvu.out.below (by first | exact hb | go_grown))).mono ?_; rw [hjb.out]; rintro e_ w_ ⟨rfl, hb_⟩; replace hb := chainB (B := w9.heap.size) (a := w9) (by go_grown) hb_ (by have := hb.size; first | omega | (simp; done) | (simp; omega)); clear hb_
               clear hvj hjb
               refine hK.out _ _ ?_ (fun hHeld => ?_)
               · exact ⟨(hbu.out.below hb).cell 0 rfl, (hbu.out.below hb).cell 1 rfl⟩
               clear hK K
               (try simp only [Act.put, List.setIfInBounds_toArray, List.set_cons_zero, List.set_cons_succ])
               refine' wpAnyH_take (i := 12) (v := ?v61) ?a61 ?b61 ?c61 ?d61 ?e61 ?f61 ?g61 ?z61
               case a61 => (simp only [List.getElem?_toArray, List.getElem?_cons_succ, List.getElem?_cons_zero]; try rfl)
               case b61 | c61 | d61 => kernel_rfl
               case e61 => exact fun _ _ _ h => h
               case f61 => first | exact Or.inl ⟨by rfl, by (intro w hSw; (try dsimp only at hSw); go_simp; try rfl)⟩ | exact Or.inr ⟨by rfl, rfl⟩
               case g61 => assumption
               (try simp only [Act.put, List.setIfInBounds_toArray, List.set_cons_zero, List.set_cons_succ])
               refine' wpAnyH_take (i := 13) (v := ?v62) ?a62 ?b62 ?c62 ?d62 ?e62 ?f62 ?g62 ?z62
               case a62 => (simp only [List.getElem?_toArray, List.getElem?_cons_succ, List.getElem?_cons_zero]; try rfl)
               case b62 | c62 | d62 => kernel_rfl
               case e62 => exact fun _ _ _ h => h
               case f62 => first | exact Or.inl ⟨by rfl, by (intro w hSw; (try dsimp only at hSw); go_simp; try rfl)⟩ | exact Or.inr ⟨by rfl, rfl⟩
               case g62 => assumption
               (try simp only [Act.put, List.setIfInBounds_toArray, List.set_cons_zero, List.set_cons_succ])
               refine' wpAnyH_take (i := 14) (v := ?v63) ?a63 ?b63 ?c63 ?d63 ?e63 ?f63 ?g63 ?z63
               case a63 => (simp only [List.getElem?_toArray, List.getElem?_cons_succ, List.getElem?_cons_zero]; try rfl)
               case b63 | c63 | d63 => kernel_rfl
               case e63 => exact fun _ _ _ h => h
               case f63 => first | exact Or.inl ⟨by rfl, by (intro w hSw; (try dsimp only at hSw); go_simp; try rfl)⟩ | exact Or.inr ⟨by rfl, rfl⟩
               case g63 => assumption
               (try simp only [Act.put, List.setIfInBounds_toArray, List.set_cons_zero, List.set_cons_succ])
               refine' wpAnyH_take (i := 15) (v := ?v64) ?a64 ?b64 ?c64 ?d64 ?e64 ?f64 ?g64 ?z64
               case a64 => (simp only [List.getElem?_toArray, List.getElem?_cons_succ, List.getElem?_cons_zero]; try rfl)
               case b64 | c64 | d64 => kernel_rfl
               case e64 => exact fun _ _ _ h => h
               case f64 => first | exact Or.inl ⟨by rfl, by (intro w hSw; (try dsimp only at hSw); go_simp; try rfl)⟩ | exact Or.inr ⟨by rfl, rfl⟩
               case g64 => assumption
               (try simp only [Act.put, List.setIfInBounds_toArray, List.set_cons_zero, List.set_cons_succ])
               refine' wpAnyH_take (i := 16) (v := ?v65) ?a65 ?b65 ?c65 ?d65 ?e65 ?f65 ?g65 ?z65
               case a65 => (simp only [List.getElem?_toArray, List.getElem?_cons_succ, List.getElem?_cons_zero]; try rfl)
               case b65 | c65 | d65 => kernel_rfl
               case e65 => exact fun _ _ _ h => h
               case f65 => first | exact Or.inl ⟨by rfl, by (intro w hSw; (try dsimp only at hSw); go_simp; try rfl)⟩ | exact Or.inr ⟨by rfl, rfl⟩
               case g65 => assumption
               (try simp only [Act.put, List.setIfInBounds_toArray, List.set_cons_zero, List.set_cons_succ])
               refine wpAnyH_ready (rs := [17]) (by kernel_rfl) (by simp) ?_
               refine' (AllReadyH.cons (i := 17) ?ho17x66 (fun K hK => ?st17x66) AllReadyH.nil)
               case ho17x66 => (simp only [List.getElem?_toArray, List.getElem?_cons_succ, List.getElem?_cons_zero]; try rfl)
               case st17x66 =>
                go_simp
                refine (leqA_any _ _ ro xs _ (hvo.out.below (by first | exact hb | go_grown)) (hva.out.below (by first | exact hb | go_grown))).mono ?_; rw [hoa.out]; rintro e_ w_ ⟨rfl, hb_⟩; replace hb := chainB (B := w9.heap.size) (a := w9) (by go_grown) hb_ (by have := hb.size; first | omega | (simp; done) | (simp; omega)); clear hb_
                refine hK.out _ _ ?_ (fun hHeld => ?_)
                · exact ⟨(hbu.out.below hb).cell 0 rfl, (hbu.out.below hb).cell 1 rfl⟩
                clear hK K
                (try simp only [Act.put, List.setIfInBounds_toArray, List.set_cons_zero, List.set_cons_succ])
                refine' wpAnyH_take (i := 18) (v := ?v67) ?a67 ?b67 ?c67 ?d67 ?e67 ?f67 ?g67 ?z67
                case a67 => (simp only [List.getElem?_toArray, List.getElem?_cons_succ, List.getElem?_cons_zero]; try rfl)
                case b67 | c67 | d67 => kernel_rfl
                case e67 => exact fun _ _ _ h => h
                case f67 => first | exact Or.inl ⟨by rfl, by (intro w hSw; (try dsimp only at hSw); go_simp; try rfl)⟩ | exact Or.inr ⟨by rfl, rfl⟩
                case g67 => assumption
                (try simp only [Act.put, List.setIfInBounds_toArray, List.set_cons_zero, List.set_cons_succ])
                refine' wpAnyH_take (i := 19) (v := ?v68) ?a68 ?b68 ?c68 ?d68 ?e68 ?f68 ?g68 ?z68
                case a68 => (simp only [List.getElem?_toArray, List.getElem?_cons_succ, List.getElem?_cons_zero]; try rfl)
                case b68 | c68 | d68 => kernel_rfl
                case e68 => exact fun _ _ _ h => h
                case f68 => first | exact Or.inl ⟨by rfl, by (intro w hSw; (try dsimp only at hSw); go_simp; try rfl)⟩ | exact Or.inr ⟨by rfl, rfl⟩
                case g68 => assumption
                (try simp only [Act.put, List.setIfInBounds_toArray, List.set_cons_zero, List.set_cons_succ])
                refine' wpAnyH_take (i := 20) (v := ?v69) ?a69 ?b69 ?c69 ?d69 ?e69 ?f69 ?g69 ?z69
                case a69 => (simp only [List.getElem?_toArray, List.getElem?_cons_succ, List.getElem?_cons_zero]; try rfl)
                case b69 | c69 | d69 => kernel_rfl
                case e69 => exact fun _ _ _ h => h
                case f69 => first | exact Or.inl ⟨by rfl, by (intro w hSw; (try dsimp only at hSw); go_simp; try rfl)⟩ | exact Or.inr ⟨by rfl, rfl⟩
                case g69 => assumption
                (try simp only [Act.put, List.setIfInBounds_toArray, List.set_cons_zero, List.set_cons_succ])
                refine' wpAnyH_take (i := 21) (v := ?v70) ?a70 ?b70 ?c70 ?d70 ?e70 ?f70 ?g70 ?z70
                case a70 => (simp only [List.getElem?_toArray, List.getElem?_cons_succ, List.getElem?_cons_zero]; try rfl)
                case b70 | c70 | d70 => kernel_rfl
                case e70 => exact fun _ _ _ h => h
                case f70 => first | exact Or.inl ⟨by rfl, by (intro w hSw; (try dsimp only at hSw); go_simp; try rfl)⟩ | exact Or.inr ⟨by rfl, rfl⟩
                case g70 => assumption
                (try simp only [Act.put, List.setIfInBounds_toArray, List.set_cons_zero, List.set_cons_succ])
                refine wpAnyH_ready (rs := [22]) (by kernel_rfl) (by simp) ?_
                refine' (AllReadyH.cons (i := 22) ?ho22x71 (fun K hK => ?st22x71) AllReadyH.nil)
                case ho22x71 => (simp only [List.getElem?_toArray, List.getElem?_cons_succ, List.getElem?_cons_zero]; try rfl)
                case st22x71 =>
                 go_simp
                 refine (leqA_any _ _ xs ro _ (hva.out.below (by first | exact hb | go_grown)) (hvo.out.below (by first | exact hb | go_grown))).mono ?_; rw [hao.out]; rintro e_ w_ ⟨rfl, hb_⟩; replace hb := chainB (B := w9.heap.size) (a := w9) (by go_grown) hb_ (by have := hb.size; first | omega | (simp; done) | (simp; omega)); clear hb_
                 refine hK.out _ _ ?_ (fun hHeld => ?_)
                 · exact ⟨(hbu.out.below hb).cell 0 rfl, (hbu.out.below hb).cell 1 rfl⟩
                 clear hK K
                 (try simp only [Act.put, List.setIfInBounds_toArray, List.set_cons_zero, List.set_cons_succ])
                 refine' wpAnyH_take (i := 23) (v := ?v72) ?a72 ?b72 ?c72 ?d72 ?e72 ?f72 ?g72 ?z72
                 case a72 => (simp only [List.getElem?_toArray, List.getElem?_cons_succ, List.getElem?_cons_zero]; try rfl)
                 case b72 | c72 | d72 => kernel_rfl
                 case e72 => exact fun _ _ _ h => h
                 case f72 => first | exact Or.inl ⟨by rfl, by (intro w hSw; (try dsimp only at hSw); go_simp; try rfl)⟩ | exact Or.inr ⟨by rfl, rfl⟩
                 case g72 => assumption
                 (try simp only [Act.put, List.setIfInBounds_toArray, List.set_cons_zero, List.set_cons_succ])
                 refine' wpAnyH_take (i := 24) (v := ?v73) ?a73 ?b73 ?c73 ?d73 ?e73 ?f73 ?g73 ?z73
                 case a73 => (simp only [List.getElem?_toArray, List.getElem?_cons_succ, List.getElem?_cons_zero]; try rfl)
                 case b73 | c73 | d73 => kernel_rfl
                 case e73 => exact fun _ _ _ h => h
                 case f73 => first | exact Or.inl ⟨by rfl, by (intro w hSw; (try dsimp only at hSw); go_simp; try rfl)⟩ | exact Or.inr ⟨by rfl, rfl⟩
                 case g73 => assumption
                 (try simp only [Act.put, List.setIfInBounds_toArray, List.set_cons_zero, List.set_cons_succ])
                 refine wpAnyH_done (by kernel_rfl) ?_ _
                 refine NoPanic.normal ?_
                 obtain ⟨we, hwe⟩ : ∃ x, w_ = x := ⟨_, rfl⟩
                 subst hwe
                 clear u0_ u1_ s0_ s1_ ul_ sl_
                 have hb_ := hb
                 clear hb
                 have hc_ : Below w9.heap.size w9 w_ := chainB (by first | exact Below.refl _ _ | go_grown) hb_ (by first | exact Nat.le_refl _ | (simp; done) | (simp; omega))
                 replace hva := Lib.hid (hva.out.below hc_)
                 replace hvb := Lib.hid (hvb.out.below hc_)
                 replace hvu := Lib.hid (hvu.out.below hc_)
                 replace hvs := Lib.hid (hvs.out.below hc_)
                 replace hbu := Lib.hid (hbu.out.below hc_)
                 replace hbs := Lib.hid (hbs.out.below hc_)
                 replace hvo := Lib.hid (hvo.out.below hc_)
                 replace hall := Lib.hid (chainB hall.out hc_ hall.out.size)
                 clear hc_
                 clear hb_
                 have u0_ := hbu.out.cell 0 rfl; have u1_ := hbu.out.cell 1 rfl; have ul_ := hbu.out.lt
                 have s0_ := hbs.out.cell 0 rfl; have s1_ := hbs.out.cell 1 rfl; have sl_ := hbs.out.lt
                 go_wp2_with fail
                 clear u0_ u1_ s0_ s1_ ul_ sl_
                 refine (advance_any _ _ xs ⟨se, sl⟩ _ (hva.out.below (by first | exact Below.refl _ _ | go_grown)) ⟨_, rfl, hvs.out.below (by first | exact Below.refl _ _ | go_grown)⟩ wsH.out (show sl.length ≤ 1099511627776 by omega) waH.out).mono ?_
                 rw [hV.out]
                 rintro e_ w10 ⟨sv, rfl, ho_, hb_⟩
                 have hc_ : Below w_.heap.size w_ w10 := chainB (by first | exact Below.refl _ _ | go_grown) hb_ (by first | exact Nat.le_refl _ | (simp; done) | (simp; omega))
                 replace hva := Lib.hid (hva.out.below hc_)
                 replace hvb := Lib.hid (hvb.out.below hc_)
                 replace hvu := Lib.hid (hvu.out.below hc_)
                 replace hvs := Lib.hid (hvs.out.below hc_)
                 replace hbu := Lib.hid (hbu.out.below hc_)
                 replace hbs := Lib.hid (hbs.out.below hc_)
                 replace hvo := Lib.hid (hvo.out.below hc_)
                 replace hall := Lib.hid (chainB hall.out hc_ hall.out.size)
                 obtain ⟨VA, nV, cV, rfl, hn_, hc1_, hd_⟩ := ho_.words.form
                 have hvV := Lib.hid (show TmV w10 (.agg #[.int .u64 V.e, .slice VA nV cV]) V from ⟨_, rfl, ho_.words⟩)
                 clear ho_ hn_ hc1_ hd_
                 clear hc_
                 clear hb_
                 have u0_ := hbu.out.cell 0 rfl; have u1_ := hbu.out.cell 1 rfl; have ul_ := hbu.out.lt
                 have s0_ := hbs.out.cell 0 rfl; have s1_ := hbs.out.cell 1 rfl; have sl_ := hbs.out.lt
                 go_wp2_with fail
                 clear u0_ u1_ s0_ s1_ ul_ sl_
                 obtain ⟨w11, hwn_⟩ : ∃ x, w10.alloc (.cells #[.int .u64 V.e, .slice VA nV cV] 26) = x := ⟨_, rfl⟩
                 have hbVx := Lib.hid (show HasC w11 w10.heap.size [.int .u64 V.e, .slice VA nV cV] 26 by rw [← hwn_]; exact has_at _ _ _ _ rfl)
                 have hb_ : Below w10.heap.size w10 w11 := by rw [← hwn_]; go_grown
                 try rw [hwn_]
                 clear hwn_
                 have hc_ : Below w10.heap.size w10 w11 := chainB (by first | exact Below.refl _ _ | go_grown) hb_ (by first | exact Nat.le_refl _ | (simp; done) | (simp; omega))
                 replace hva := Lib.hid (hva.out.below hc_)
                 replace hvb := Lib.hid (hvb.out.below hc_)
                 replace hvu := Lib.hid (hvu.out.below hc_)
                 replace hvs := Lib.hid (hvs.out.below hc_)
                 replace hbu := Lib.hid (hbu.out.below hc_)
                 replace hbs := Lib.hid (hbs.out.below hc_)
                 replace hvo := Lib.hid (hvo.out.below hc_)
                 replace hvV := Lib.hid (hvV.out.below hc_)
                 replace hall := Lib.hid (chainB hall.out hc_ hall.out.size)
                 clear hc_
                 clear hb_
                 by_cases hle : sl.length = ul.length
                 · have heq : ((sl.length : Int) == (ul.length : Int)) = true := by simp only [beq_iff_eq]; omega
                   obtain ⟨Lq, hL_⟩ : ∃ x, leqT V ⟨ue, ul⟩ = x := ⟨_, rfl⟩
                   have hL1 := Lib.hid (show leqT (⟨se, sl⟩ : Tm) ⟨ue, ul⟩ = Lq from (hsame.out (by trivial) hle).trans hL_)
                   have hL2 := Lib.hid hL_
                   clear hL_ hle
                   have u0_ := hbu.out.cell 0 rfl; have u1_ := hbu.out.cell 1 rfl; have ul_ := hbu.out.lt
                   have s0_ := hbs.out.cell 0 rfl; have s1_ := hbs.out.cell 1 rfl; have sl_ := hbs.out.lt
                   have V0_ := hbVx.out.cell 0 rfl; have V1_ := hbVx.out.cell 1 rfl; have Vl_ := hbVx.out.lt
                   have hb := Below.refl w11.heap.size w11
                   refine wp_region_noPanic ?_
                   refine wp_region_held_drew (S := (fun w' => w'.cell? ⟨w.heap.size, 0, none⟩ = some (.int .u64 ue) ∧ w'.cell? ⟨w.heap.size, 1, none⟩ = some (.slice uA ul.length uc) ∧ w'.cell? ⟨w.heap.size + 1, 0, none⟩ = some (.int .u64 se) ∧ w'.cell? ⟨w.heap.size + 1, 1, none⟩ = some (.slice sA sl.length sc) ∧ w'.cell? ⟨w10.heap.size, 0, none⟩ = some (.int .u64 V.e) ∧ w'.cell? ⟨w10.heap.size, 1, none⟩ = some (.slice VA nV cV))) (by kernel_rfl) (⟨u0_, u1_, s0_, s1_, V0_, V1_⟩) (fun hHeld => ?_)
                   refine' wpAnyH_take (i := 0) (v := ?v74) ?a74 ?b74 ?c74 ?d74 ?e74 ?f74 ?g74 ?z74
                   case a74 => (simp only [List.getElem?_toArray, List.getElem?_cons_succ, List.getElem?_cons_zero]; try rfl)
                   case b74 | c74 | d74 => kernel_rfl
                   case e74 => exact fun _ _ _ h => h
                   case f74 => first | exact Or.inl ⟨by rfl, by (intro w hSw; (try dsimp only at hSw); go_simp; try rfl)⟩ | exact Or.inr ⟨by rfl, rfl⟩
                   case g74 => assumption
                   (try simp only [Act.put, List.setIfInBounds_toArray, List.set_cons_zero, List.set_cons_succ])
                   refine' wpAnyH_take (i := 1) (v := ?v75) ?a75 ?b75 ?c75 ?d75 ?e75 ?f75 ?g75 ?z75
                   case a75 => (simp only [List.getElem?_toArray, List.getElem?_cons_succ, List.getElem?_cons_zero]; try rfl)
                   case b75 | c75 | d75 => kernel_rfl
                   case e75 => exact fun _ _ _ h => h
                   case f75 => first | exact Or.inl ⟨by rfl, by (intro w hSw; (try dsimp only at hSw); go_simp; try rfl)⟩ | exact Or.inr ⟨by rfl, rfl⟩
                   case g75 => assumption
                   (try simp only [Act.put, List.setIfInBounds_toArray, List.set_cons_zero, List.set_cons_succ])
                   refine wpAnyH_ready (rs := [2]) (by kernel_rfl) (by simp) ?_
                   refine' (AllReadyH.cons (i := 2) ?ho2x76 (fun K hK => ?st2x76) AllReadyH.nil)
                   case ho2x76 => (simp only [List.getElem?_toArray, List.getElem?_cons_succ, List.getElem?_cons_zero]; try rfl)
                   case st2x76 =>
                    go_simp
                    refine (beyond_any _ xs ⟨uA, uc, ⟨ue, ul⟩⟩ _ (hva.out.below (by first | exact hb | go_grown)) (hvu.out.below (by first | exact hb | go_grown))).mono ?_; rw [← his.out]; rintro e_ w_ ⟨rfl, hb_⟩; replace hb := chainB (B := w11.heap.size) (a := w11) (by go_grown) hb_ (by have := hb.size; first | omega | (simp; done) | (simp; omega)); clear hb_
                    refine hK.out _ _ ?_ (fun hHeld => ?_)
                    · exact ⟨(hbu.out.below hb).cell 0 rfl, (hbu.out.below hb).cell 1 rfl, (hbs.out.below hb).cell 0 rfl, (hbs.out.below hb).cell 1 rfl, (hbVx.out.below hb).cell 0 rfl, (hbVx.out.below hb).cell 1 rfl⟩
                    clear hK K
                    (try simp only [Act.put, List.setIfInBounds_toArray, List.set_cons_zero, List.set_cons_succ])
                    refine' wpAnyH_take (i := 3) (v := ?v77) ?a77 ?b77 ?c77 ?d77 ?e77 ?f77 ?g77 ?z77
                    case a77 => (simp only [List.getElem?_toArray, List.getElem?_cons_succ, List.getElem?_cons_zero]; try rfl)
                    case b77 | c77 | d77 => kernel_rfl
                    case e77 => exact fun _ _ _ h => h
                    case f77 => first | exact Or.inl ⟨by rfl, by (intro w hSw; (try dsimp only at hSw); go_simp; try rfl)⟩ | exact Or.inr ⟨by rfl, rfl⟩
                    case g77 => assumption
                    (try simp only [Act.put, List.setIfInBounds_toArray, List.set_cons_zero, List.set_cons_succ])
                    refine' wpAnyH_take (i := 4) (v := ?v78) ?a78 ?b78 ?c78 ?d78 ?e78 ?f78 ?g78 ?z78
                    case a78 => (simp only [List.getElem?_toArray, List.getElem?_cons_succ, List.getElem?_cons_zero]; try rfl)
                    case b78 | c78 | d78 => kernel_rfl
                    case e78 => exact fun _ _ _ h => h
                    case f78 => first | exact Or.inl ⟨by rfl, by (intro w hSw; (try dsimp only at hSw); go_simp; try rfl)⟩ | exact Or.inr ⟨by rfl, rfl⟩
                    case g78 => assumption
                    (try simp only [Act.put, List.setIfInBounds_toArray, List.set_cons_zero, List.set_cons_succ])
                    refine' wpAnyH_take (i := 5) (v := ?v79) ?a79 ?b79 ?c79 ?d79 ?e79 ?f79 ?g79 ?z79
                    case a79 => (simp only [List.getElem?_toArray, List.getElem?_cons_succ, List.getElem?_cons_zero]; try rfl)
                    case b79 | c79 | d79 => kernel_rfl
                    case e79 => exact fun _ _ _ h => h
                    case f79 => first | exact Or.inl ⟨by rfl, by (intro w hSw; (try dsimp only at hSw); go_simp; try rfl)⟩ | exact Or.inr ⟨by rfl, rfl⟩
                    case g79 => assumption
                    (try simp only [Act.put, List.setIfInBounds_toArray, List.set_cons_zero, List.set_cons_succ])
                    refine' wpAnyH_take (i := 6) (v := ?v80) ?a80 ?b80 ?c80 ?d80 ?e80 ?f80 ?g80 ?z80
                    case a80 => (simp only [List.getElem?_toArray, List.getElem?_cons_succ, List.getElem?_cons_zero]; try rfl)
                    case b80 | c80 | d80 => kernel_rfl
                    case e80 => exact fun _ _ _ h => h
                    case f80 => first | exact Or.inl ⟨by rfl, by (intro w hSw; (try dsimp only at hSw); go_simp; try rfl)⟩ | exact Or.inr ⟨by rfl, rfl⟩
                    case g80 => assumption
                    (try simp only [Act.put, List.setIfInBounds_toArray, List.set_cons_zero, List.set_cons_succ])
                    refine' wpAnyH_take (i := 7) (v := ?v81) ?a81 ?b81 ?c81 ?d81 ?e81 ?f81 ?g81 ?z81
                    case a81 => (simp only [List.getElem?_toArray, List.getElem?_cons_succ, List.getElem?_cons_zero]; try rfl)
                    case b81 | c81 | d81 => kernel_rfl
                    case e81 => exact fun _ _ _ h => h
                    case f81 => first | exact Or.inl ⟨by rfl, by (intro w hSw; (try dsimp only at hSw); go_simp; try rfl)⟩ | exact Or.inr ⟨by rfl, rfl⟩
                    case g81 => assumption
                    (try simp only [Act.put, List.setIfInBounds_toArray, List.set_cons_zero, List.set_cons_succ])
                    refine' wpAnyH_take (i := 8) (v := ?v82) ?a82 ?b82 ?c82 ?d82 ?e82 ?f82 ?g82 ?z82
                    case a82 => (simp only [List.getElem?_toArray, List.getElem?_cons_succ, List.getElem?_cons_zero]; try rfl)
                    case b82 | c82 | d82 => kernel_rfl
                    case e82 => exact fun _ _ _ h => h
                    case f82 => first | exact Or.inl ⟨by rfl, by (intro w hSw; (try dsimp only at hSw); go_simp; try rfl)⟩ | exact Or.inr ⟨by rfl, rfl⟩
                    case g82 => assumption
                    (try simp only [Act.put, List.setIfInBounds_toArray, List.set_cons_zero, List.set_cons_succ])
                    refine' wpAnyH_take (i := 9) (v := ?v83) ?a83 ?b83 ?c83 ?d83 ?e83 ?f83 ?g83 ?z83
                    case a83 => (simp only [List.getElem?_toArray, List.getElem?_cons_succ, List.getElem?_cons_zero]; try rfl)
                    case b83 | c83 | d83 => kernel_rfl
                    case e83 => exact fun _ _ _ h => h
                    case f83 => first | exact Or.inl ⟨by rfl, by (intro w hSw; (try dsimp only at hSw); go_simp; try rfl)⟩ | exact Or.inr ⟨by rfl, rfl⟩
                    case g83 => assumption
                    (try simp only [Act.put, List.setIfInBounds_toArray, List.set_cons_zero, List.set_cons_succ])
                    refine' wpAnyH_take (i := 10) (v := ?v84) ?a84 ?b84 ?c84 ?d84 ?e84 ?f84 ?g84 ?z84
                    case a84 => (simp only [List.getElem?_toArray, List.getElem?_cons_succ, List.getElem?_cons_zero]; try rfl)
                    case b84 | c84 | d84 => kernel_rfl
                    case e84 => exact fun _ _ _ h => h
                    case f84 => first | exact Or.inl ⟨by rfl, by (intro w hSw; (try dsimp only at hSw); go_simp; try rfl)⟩ | exact Or.inr ⟨by rfl, rfl⟩
                    case g84 => assumption
                    (try simp only [Act.put, List.setIfInBounds_toArray, List.set_cons_zero, List.set_cons_succ])
                    refine' wpAnyH_take (i := 11) (v := ?v85) ?a85 ?b85 ?c85 ?d85 ?e85 ?f85 ?g85 ?z85
                    case a85 => (simp only [List.getElem?_toArray, List.getElem?_cons_succ, List.getElem?_cons_zero]; try rfl)
                    case b85 | c85 | d85 => kernel_rfl
                    case e85 => exact fun _ _ _ h => h
                    case f85 => first | exact Or.inl ⟨by rfl, by (intro w hSw; (try dsimp only at hSw); go_simp; try rfl)⟩ | exact Or.inr ⟨by rfl, rfl⟩
                    case g85 => assumption
                    (try simp only [Act.put, List.setIfInBounds_toArray, List.set_cons_zero, List.set_cons_succ])
                    refine' wpAnyH_take (i := 12) (v := ?v86) ?a86 ?b86 ?c86 ?d86 ?e86 ?f86 ?g86 ?z86
                    case a86 => (simp only [List.getElem?_toArray, List.getElem?_cons_succ, List.getElem?_cons_zero]; try rfl)
                    case b86 | c86 | d86 => kernel_rfl
                    case e86 => exact fun _ _ _ h => h
                    case f86 => first | exact Or.inl ⟨by rfl, by (intro w hSw; (try dsimp only at hSw); go_simp; try rfl)⟩ | exact Or.inr ⟨by rfl, rfl⟩
                    case g86 => assumption
                    (try simp only [Act.put, List.setIfInBounds_toArray, List.set_cons_zero, List.set_cons_succ])
                    refine' wpAnyH_take (i := 13) (v := ?v87) ?a87 ?b87 ?c87 ?d87 ?e87 ?f87 ?g87 ?z87
                    case a87 => (simp only [List.getElem?_toArray, List.getElem?_cons_succ, List.getElem?_cons_zero]; try rfl)
                    case b87 | c87 | d87 => kernel_rfl
                    case e87 => exact fun _ _ _ h => h
                    case f87 => first | exact Or.inl ⟨by rfl, by (intro w hSw; (try dsimp only at hSw); go_simp; try rfl)⟩ | exact Or.inr ⟨by rfl, rfl⟩
                    case g87 => assumption
                    (try simp only [Act.put, List.setIfInBounds_toArray, List.set_cons_zero, List.set_cons_succ])
                    refine' wpAnyH_take (i := 14) (v := ?v88) ?a88 ?b88 ?c88 ?d88 ?e88 ?f88 ?g88 ?z88
                    case a88 => (simp only [List.getElem?_toArray, List.getElem?_cons_succ, List.getElem?_cons_zero]; try rfl)
                    case b88 | c88 | d88 => kernel_rfl
                    case e88 => exact fun _ _ _ h => h
                    case f88 => first | exact Or.inl ⟨by rfl, by (intro w hSw; (try dsimp only at hSw); go_simp; try rfl)⟩ | exact Or.inr ⟨by rfl, rfl⟩
                    case g88 => assumption
                    (try simp only [Act.put, List.setIfInBounds_toArray, List.set_cons_zero, List.set_cons_succ])
                    refine' wpAnyH_take (i := 16) (v := ?v89) ?a89 ?b89 ?c89 ?d89 ?e89 ?f89 ?g89 ?z89
                    case a89 => (simp only [List.getElem?_toArray, List.getElem?_cons_succ, List.getElem?_cons_zero]; try rfl)
                    case b89 | c89 | d89 => kernel_rfl
                    case e89 => exact fun _ _ _ h => h
                    case f89 => first | exact Or.inl ⟨by rfl, by (intro w hSw; (try dsimp only at hSw); go_simp; try rfl)⟩ | exact Or.inr ⟨by rfl, rfl⟩
                    case g89 => assumption
                    (try simp only [Act.put, List.setIfInBounds_toArray, List.set_cons_zero, List.set_cons_succ])
                    refine' wpAnyH_take (i := 17) (v := ?v90) ?a90 ?b90 ?c90 ?d90 ?e90 ?f90 ?g90 ?z90
                    case a90 => (simp only [List.getElem?_toArray, List.getElem?_cons_succ, List.getElem?_cons_zero]; try rfl)
                    case b90 | c90 | d90 => kernel_rfl
                    case e90 => exact fun _ _ _ h => h
                    case f90 => first | exact Or.inl ⟨by rfl, by (intro w hSw; (try dsimp only at hSw); go_simp; try rfl)⟩ | exact Or.inr ⟨by rfl, rfl⟩
                    case g90 => assumption
                    (try simp only [Act.put, List.setIfInBounds_toArray, List.set_cons_zero, List.set_cons_succ])
                    refine wpAnyH_ready (rs := [15]) (by kernel_rfl) (by simp) ?_
                    refine' (AllReadyH.cons (i := 15) ?ho15x91 (fun K hK => ?st15x91) AllReadyH.nil)
                    case ho15x91 => (simp only [List.getElem?_toArray, List.getElem?_cons_succ, List.getElem?_cons_zero]; try rfl)
                    case st15x91 =>
                     go_simp
                     refine (refLeq_any _ _ ⟨se, sl⟩ ⟨ue, ul⟩ _ ⟨_, rfl, hvs.out.below (by first | exact hb | go_grown)⟩ ⟨_, rfl, hvu.out.below (by first | exact hb | go_grown)⟩).mono ?_; rw [hL1.out]; rintro e_ w_ ⟨rfl, hb_⟩; replace hb := chainB (B := w11.heap.size) (a := w11) (by go_grown) hb_ (by have := hb.size; first | omega | (simp; done) | (simp; omega)); clear hb_
                     refine hK.out _ _ ?_ (fun hHeld => ?_)
                     · exact ⟨(hbu.out.below hb).cell 0 rfl, (hbu.out.below hb).cell 1 rfl, (hbs.out.below hb).cell 0 rfl, (hbs.out.below hb).cell 1 rfl, (hbVx.out.below hb).cell 0 rfl, (hbVx.out.below hb).cell 1 rfl⟩
                     clear hK K
                     (try simp only [Act.put, List.setIfInBounds_toArray, List.set_cons_zero, List.set_cons_succ])
                     refine wpAnyH_ready (rs := [18]) (by kernel_rfl) (by simp) ?_
                     refine' (AllReadyH.cons (i := 18) ?ho18x92 (fun K hK => ?st18x92) AllReadyH.nil)
                     case ho18x92 => (simp only [List.getElem?_toArray, List.getElem?_cons_succ, List.getElem?_cons_zero]; try rfl)
                     case st18x92 =>
                      go_simp
                      refine (refLeq_any _ _ V ⟨ue, ul⟩ _ (hvV.out.below (by first | exact hb | go_grown)) ⟨_, rfl, hvu.out.below (by first | exact hb | go_grown)⟩).mono ?_; rw [hL2.out]; rintro e_ w_ ⟨rfl, hb_⟩; replace hb := chainB (B := w11.heap.size) (a := w11) (by go_grown) hb_ (by have := hb.size; first | omega | (simp; done) | (simp; omega)); clear hb_
                      refine hK.out _ _ ?_ (fun hHeld => ?_)
                      · exact ⟨(hbu.out.below hb).cell 0 rfl, (hbu.out.below hb).cell 1 rfl, (hbs.out.below hb).cell 0 rfl, (hbs.out.below hb).cell 1 rfl, (hbVx.out.below hb).cell 0 rfl, (hbVx.out.below hb).cell 1 rfl⟩
                      clear hK K
                      (try simp only [Act.put, List.setIfInBounds_toArray, List.set_cons_zero, List.set_cons_succ])
                      refine' wpAnyH_take (i := 19) (v := ?v93) ?a93 ?b93 ?c93 ?d93 ?e93 ?f93 ?g93 ?z93
                      case a93 => (simp only [List.getElem?_toArray, List.getElem?_cons_succ, List.getElem?_cons_zero]; try rfl)
                      case b93 | c93 | d93 => kernel_rfl
                      case e93 => exact fun _ _ _ h => h
                      case f93 => first | exact Or.inl ⟨by rfl, by (intro w hSw; (try dsimp only at hSw); go_simp; try rfl)⟩ | exact Or.inr ⟨by rfl, rfl⟩
                      case g93 => assumption
                      (try simp only [Act.put, List.setIfInBounds_toArray, List.set_cons_zero, List.set_cons_succ])
                      refine' wpAnyH_take (i := 20) (v := ?v94) ?a94 ?b94 ?c94 ?d94 ?e94 ?f94 ?g94 ?z94
                      case a94 => (simp only [List.getElem?_toArray, List.getElem?_cons_succ, List.getElem?_cons_zero]; try rfl)
                      case b94 | c94 | d94 => kernel_rfl
                      case e94 => exact fun _ _ _ h => h
                      case f94 => first | exact Or.inl ⟨by rfl, by (intro w hSw; (try dsimp only at hSw); go_simp; try rfl)⟩ | exact Or.inr ⟨by rfl, rfl⟩
                      case g94 => assumption
                      (try simp only [Act.put, List.setIfInBounds_toArray, List.set_cons_zero, List.set_cons_succ])
                      refine wpAnyH_done (by kernel_rfl) ?_ _
                      refine NoPanic.normal ?_
                      go_wp2_with fail
                      go_ret
                      exact ⟨rfl, chainB hall.out hb hall.out.size⟩
                 · have hne : ((sl.length : Int) == (ul.length : Int)) = false := by simp only [beq_eq_false_iff_ne, ne_eq]; omega
                   have u0_ := hbu.out.cell 0 rfl; have u1_ := hbu.out.cell 1 rfl; have ul_ := hbu.out.lt
                   have s0_ := hbs.out.cell 0 rfl; have s1_ := hbs.out.cell 1 rfl; have sl_ := hbs.out.lt
                   have V0_ := hbVx.out.cell 0 rfl; have V1_ := hbVx.out.cell 1 rfl; have Vl_ := hbVx.out.lt
                   have hb := Below.refl w11.heap.size w11
                   refine wp_region_noPanic ?_
                   refine wp_region_held_drew (S := (fun w' => w'.cell? ⟨w.heap.size, 0, none⟩ = some (.int .u64 ue) ∧ w'.cell? ⟨w.heap.size, 1, none⟩ = some (.slice uA ul.length uc) ∧ w'.cell? ⟨w.heap.size + 1, 0, none⟩ = some (.int .u64 se) ∧ w'.cell? ⟨w.heap.size + 1, 1, none⟩ = some (.slice sA sl.length sc) ∧ w'.cell? ⟨w10.heap.size, 0, none⟩ = some (.int .u64 V.e) ∧ w'.cell? ⟨w10.heap.size, 1, none⟩ = some (.slice VA nV cV))) (by kernel_rfl) (⟨u0_, u1_, s0_, s1_, V0_, V1_⟩) (fun hHeld => ?_)
                   refine' wpAnyH_take (i := 0) (v := ?v95) ?a95 ?b95 ?c95 ?d95 ?e95 ?f95 ?g95 ?z95
                   case a95 => (simp only [List.getElem?_toArray, List.getElem?_cons_succ, List.getElem?_cons_zero]; try rfl)
                   case b95 | c95 | d95 => kernel_rfl
                   case e95 => exact fun _ _ _ h => h
                   case f95 => first | exact Or.inl ⟨by rfl, by (intro w hSw; (try dsimp only at hSw); go_simp; try rfl)⟩ | exact Or.inr ⟨by rfl, rfl⟩
                   case g95 => assumption
                   (try simp only [Act.put, List.setIfInBounds_toArray, List.set_cons_zero, List.set_cons_succ])
                   refine' wpAnyH_take (i := 1) (v := ?v96) ?a96 ?b96 ?c96 ?d96 ?e96 ?f96 ?g96 ?z96
                   case a96 => (simp only [List.getElem?_toArray, List.getElem?_cons_succ, List.getElem?_cons_zero]; try rfl)
                   case b96 | c96 | d96 => kernel_rfl
                   case e96 => exact fun _ _ _ h => h
                   case f96 => first | exact Or.inl ⟨by rfl, by (intro w hSw; (try dsimp only at hSw); go_simp; try rfl)⟩ | exact Or.inr ⟨by rfl, rfl⟩
                   case g96 => assumption
                   (try simp only [Act.put, List.setIfInBounds_toArray, List.set_cons_zero, List.set_cons_succ])
                   refine wpAnyH_ready (rs := [2]) (by kernel_rfl) (by simp) ?_
                   refine' (AllReadyH.cons (i := 2) ?ho2x97 (fun K hK => ?st2x97) AllReadyH.nil)
                   case ho2x97 => (simp only [List.getElem?_toArray, List.getElem?_cons_succ, List.getElem?_cons_zero]; try rfl)
                   case st2x97 =>
                    go_simp
                    refine (beyond_any _ xs ⟨uA, uc, ⟨ue, ul⟩⟩ _ (hva.out.below (by first | exact hb | go_grown)) (hvu.out.below (by first | exact hb | go_grown))).mono ?_; rw [← his.out]; rintro e_ w_ ⟨rfl, hb_⟩; replace hb := chainB (B := w11.heap.size) (a := w11) (by go_grown) hb_ (by have := hb.size; first | omega | (simp; done) | (simp; omega)); clear hb_
                    refine hK.out _ _ ?_ (fun hHeld => ?_)
                    · exact ⟨(hbu.out.below hb).cell 0 rfl, (hbu.out.below hb).cell 1 rfl, (hbs.out.below hb).cell 0 rfl, (hbs.out.below hb).cell 1 rfl, (hbVx.out.below hb).cell 0 rfl, (hbVx.out.below hb).cell 1 rfl⟩
                    clear hK K
                    (try simp only [Act.put, List.setIfInBounds_toArray, List.set_cons_zero, List.set_cons_succ])
                    refine' wpAnyH_take (i := 3) (v := ?v98) ?a98 ?b98 ?c98 ?d98 ?e98 ?f98 ?g98 ?z98
                    case a98 => (simp only [List.getElem?_toArray, List.getElem?_cons_succ, List.getElem?_cons_zero]; try rfl)
                    case b98 | c98 | d98 => kernel_rfl
                    case e98 => exact fun _ _ _ h => h
                    case f98 => first | exact Or.inl ⟨by rfl, by (intro w hSw; (try dsimp only at hSw); go_simp; try rfl)⟩ | exact Or.inr ⟨by rfl, rfl⟩
                    case g98 => assumption
                    (try simp only [Act.put, List.setIfInBounds_toArray, List.set_cons_zero, List.set_cons_succ])
                    refine' wpAnyH_take (i := 4) (v := ?v99) ?a99 ?b99 ?c99 ?d99 ?e99 ?f99 ?g99 ?z99
                    case a99 => (simp only [List.getElem?_toArray, List.getElem?_cons_succ, List.getElem?_cons_zero]; try rfl)
                    case b99 | c99 | d99 => kernel_rfl
                    case e99 => exact fun _ _ _ h => h
                    case f99 => first | exact Or.inl ⟨by rfl, by (intro w hSw; (try dsimp only at hSw); go_simp; try rfl)⟩ | exact Or.inr ⟨by rfl, rfl⟩
                    case g99 => assumption
                    (try simp only [Act.put, List.setIfInBounds_toArray, List.set_cons_zero, List.set_cons_succ])
                    refine' wpAnyH_take (i := 5) (v := ?v100) ?a100 ?b100 ?c100 ?d100 ?e100 ?f100 ?g100 ?z100
                    case a100 => (simp only [List.getElem?_toArray, List.getElem?_cons_succ, List.getElem?_cons_zero]; try rfl)
                    case b100 | c100 | d100 => kernel_rfl
                    case e100 => exact fun _ _ _ h => h
                    case f100 => first | exact Or.inl ⟨by rfl, by (intro w hSw; (try dsimp only at hSw); go_simp; try rfl)⟩ | exact Or.inr ⟨by rfl, rfl⟩
                    case g100 => assumption
                    (try simp only [Act.put, List.setIfInBounds_toArray, List.set_cons_zero, List.set_cons_succ])
                    refine' wpAnyH_take (i := 6) (v := ?v101) ?a101 ?b101 ?c101 ?d101 ?e101 ?f101 ?g101 ?z101
                    case a101 => (simp only [List.getElem?_toArray, List.getElem?_cons_succ, List.getElem?_cons_zero]; try rfl)
                    case b101 | c101 | d101 => kernel_rfl
                    case e101 => exact fun _ _ _ h => h
                    case f101 => first | exact Or.inl ⟨by rfl, by (intro w hSw; (try dsimp only at hSw); go_simp; try rfl)⟩ | exact Or.inr ⟨by rfl, rfl⟩
                    case g101 => assumption
                    (try simp only [Act.put, List.setIfInBounds_toArray, List.set_cons_zero, List.set_cons_succ])
                    refine' wpAnyH_take (i := 7) (v := ?v102) ?a102 ?b102 ?c102 ?d102 ?e102 ?f102 ?g102 ?z102
                    case a102 => (simp only [List.getElem?_toArray, List.getElem?_cons_succ, List.getElem?_cons_zero]; try rfl)
                    case b102 | c102 | d102 => kernel_rfl
                    case e102 => exact fun _ _ _ h => h
                    case f102 => first | exact Or.inl ⟨by rfl, by (intro w hSw; (try dsimp only at hSw); go_simp; try rfl)⟩ | exact Or.inr ⟨by rfl, rfl⟩
                    case g102 => assumption
                    (try simp only [Act.put, List.setIfInBounds_toArray, List.set_cons_zero, List.set_cons_succ])
                    refine' wpAnyH_take (i := 8) (v := ?v103) ?a103 ?b103 ?c103 ?d103 ?e103 ?f103 ?g103 ?z103
                    case a103 => (simp only [List.getElem?_toArray, List.getElem?_cons_succ, List.getElem?_cons_zero]; try rfl)
                    case b103 | c103 | d103 => kernel_rfl
                    case e103 => exact fun _ _ _ h => h
                    case f103 => first | exact Or.inl ⟨by rfl, by (intro w hSw; (try dsimp only at hSw); go_simp; try rfl)⟩ | exact Or.inr ⟨by rfl, rfl⟩
                    case g103 => assumption
                    (try simp only [Act.put, List.setIfInBounds_toArray, List.set_cons_zero, List.set_cons_succ])
                    refine' wpAnyH_take (i := 9) (v := ?v104) ?a104 ?b104 ?c104 ?d104 ?e104 ?f104 ?g104 ?z104
                    case a104 => (simp only [List.getElem?_toArray, List.getElem?_cons_succ, List.getElem?_cons_zero]; try rfl)
                    case b104 | c104 | d104 => kernel_rfl
                    case e104 => exact fun _ _ _ h => h
                    case f104 => first | exact Or.inl ⟨by rfl, by (intro w hSw; (try dsimp only at hSw); go_simp; try rfl)⟩ | exact Or.inr ⟨by rfl, rfl⟩
                    case g104 => assumption
                    (try simp only [Act.put, List.setIfInBounds_toArray, List.set_cons_zero, List.set_cons_succ])
                    refine' wpAnyH_take (i := 10) (v := ?v105) ?a105 ?b105 ?c105 ?d105 ?e105 ?f105 ?g105 ?z105
                    case a105 => (simp only [List.getElem?_toArray, List.getElem?_cons_succ, List.getElem?_cons_zero]; try rfl)
                    case b105 | c105 | d105 => kernel_rfl
                    case e105 => exact fun _ _ _ h => h
                    case f105 => first | exact Or.inl ⟨by rfl, by (intro w hSw; (try dsimp only at hSw); go_simp; try rfl)⟩ | exact Or.inr ⟨by rfl, rfl⟩
                    case g105 => assumption
                    (try simp only [Act.put, List.setIfInBounds_toArray, List.set_cons_zero, List.set_cons_succ])
                    refine' wpAnyH_take (i := 11) (v := ?v106) ?a106 ?b106 ?c106 ?d106 ?e106 ?f106 ?g106 ?z106
                    case a106 => (simp only [List.getElem?_toArray, List.getElem?_cons_succ, List.getElem?_cons_zero]; try rfl)
                    case b106 | c106 | d106 => kernel_rfl
                    case e106 => exact fun _ _ _ h => h
                    case f106 => first | exact Or.inl ⟨by rfl, by (intro w hSw; (try dsimp only at hSw); go_simp; try rfl)⟩ | exact Or.inr ⟨by rfl, rfl⟩
                    case g106 => assumption
                    (try simp only [Act.put, List.setIfInBounds_toArray, List.set_cons_zero, List.set_cons_succ])
                    refine' wpAnyH_take (i := 12) (v := ?v107) ?a107 ?b107 ?c107 ?d107 ?e107 ?f107 ?g107 ?z107
                    case a107 => (simp only [List.getElem?_toArray, List.getElem?_cons_succ, List.getElem?_cons_zero]; try rfl)
                    case b107 | c107 | d107 => kernel_rfl
                    case e107 => exact fun _ _ _ h => h
                    case f107 => first | exact Or.inl ⟨by rfl, by (intro w hSw; (try dsimp only at hSw); go_simp; try rfl)⟩ | exact Or.inr ⟨by rfl, rfl⟩
                    case g107 => assumption
                    (try simp only [Act.put, List.setIfInBounds_toArray, List.set_cons_zero, List.set_cons_succ])
                    refine' wpAnyH_take (i := 13) (v := undef) ?a108 ?b108 ?c108 ?d108 ?e108 ?f108 ?g108 ?z108
                    case a108 => (simp only [List.getElem?_toArray, List.getElem?_cons_succ, List.getElem?_cons_zero]; try rfl)
                    case b108 | c108 | d108 => kernel_rfl
                    case e108 => exact fun _ _ _ h => h
                    case f108 => first | exact Or.inl ⟨by rfl, by (intro w hSw; (try dsimp only at hSw); go_simp; try rfl)⟩ | exact Or.inr ⟨by rfl, rfl⟩
                    case g108 => assumption
                    (try simp only [Act.put, List.setIfInBounds_toArray, List.set_cons_zero, List.set_cons_succ])
                    refine' wpAnyH_take (i := 14) (v := undef) ?a109 ?b109 ?c109 ?d109 ?e109 ?f109 ?g109 ?z109
                    case a109 => (simp only [List.getElem?_toArray, List.getElem?_cons_succ, List.getElem?_cons_zero]; try rfl)
                    case b109 | c109 | d109 => kernel_rfl
                    case e109 => exact fun _ _ _ h => h
                    case f109 => first | exact Or.inl ⟨by rfl, by (intro w hSw; (try dsimp only at hSw); go_simp; try rfl)⟩ | exact Or.inr ⟨by rfl, rfl⟩
                    case g109 => assumption
                    (try simp only [Act.put, List.setIfInBounds_toArray, List.set_cons_zero, List.set_cons_succ])
                    refine' wpAnyH_take (i := 15) (v := undef) ?a110 ?b110 ?c110 ?d110 ?e110 ?f110 ?g110 ?z110
                    case a110 => (simp only [List.getElem?_toArray, List.getElem?_cons_succ, List.getElem?_cons_zero]; try rfl)
                    case b110 | c110 | d110 => kernel_rfl
                    case e110 => exact fun _ _ _ h => h
                    case f110 => first | exact Or.inl ⟨by rfl, by (intro w hSw; (try dsimp only at hSw); go_simp; try rfl)⟩ | exact Or.inr ⟨by rfl, rfl⟩
                    case g110 => assumption
                    (try simp only [Act.put, List.setIfInBounds_toArray, List.set_cons_zero, List.set_cons_succ])
                    refine' wpAnyH_take (i := 16) (v := undef) ?a111 ?b111 ?c111 ?d111 ?e111 ?f111 ?g111 ?z111
                    case a111 => (simp only [List.getElem?_toArray, List.getElem?_cons_succ, List.getElem?_cons_zero]; try rfl)
                    case b111 | c111 | d111 => kernel_rfl
                    case e111 => exact fun _ _ _ h => h
                    case f111 => first | exact Or.inl ⟨by rfl, by (intro w hSw; (try dsimp only at hSw); go_simp; try rfl)⟩ | exact Or.inr ⟨by rfl, rfl⟩
                    case g111 => assumption
                    (try simp only [Act.put, List.setIfInBounds_toArray, List.set_cons_zero, List.set_cons_succ])
                    refine' wpAnyH_take (i := 17) (v := undef) ?a112 ?b112 ?c112 ?d112 ?e112 ?f112 ?g112 ?z112
                    case a112 => (simp only [List.getElem?_toArray, List.getElem?_cons_succ, List.getElem?_cons_zero]; try rfl)
                    case b112 | c112 | d112 => kernel_rfl
                    case e112 => exact fun _ _ _ h => h
                    case f112 => first | exact Or.inl ⟨by rfl, by (intro w hSw; (try dsimp only at hSw); go_simp; try rfl)⟩ | exact Or.inr ⟨by rfl, rfl⟩
                    case g112 => assumption
                    (try simp only [Act.put, List.setIfInBounds_toArray, List.set_cons_zero, List.set_cons_succ])
                    refine' wpAnyH_take (i := 18) (v := undef) ?a113 ?b113 ?c113 ?d113 ?e113 ?f113 ?g113 ?z113
                    case a113 => (simp only [List.getElem?_toArray, List.getElem?_cons_succ, List.getElem?_cons_zero]; try rfl)
                    case b113 | c113 | d113 => kernel_rfl
                    case e113 => exact fun _ _ _ h => h
                    case f113 => first | exact Or.inl ⟨by rfl, by (intro w hSw; (try dsimp only at hSw); go_simp; try rfl)⟩ | exact Or.inr ⟨by rfl, rfl⟩
                    case g113 => assumption
                    (try simp only [Act.put, List.setIfInBounds_toArray, List.set_cons_zero, List.set_cons_succ])
                    refine' wpAnyH_take (i := 19) (v := undef) ?a114 ?b114 ?c114 ?d114 ?e114 ?f114 ?g114 ?z114
                    case a114 => (simp only [List.getElem?_toArray, List.getElem?_cons_succ, List.getElem?_cons_zero]; try rfl)
                    case b114 | c114 | d114 => kernel_rfl
                    case e114 => exact fun _ _ _ h => h
                    case f114 => first | exact Or.inl ⟨by rfl, by (intro w hSw; (try dsimp only at hSw); go_simp; try rfl)⟩ | exact Or.inr ⟨by rfl, rfl⟩
                    case g114 => assumption
                    (try simp only [Act.put, List.setIfInBounds_toArray, List.set_cons_zero, List.set_cons_succ])
                    refine' wpAnyH_take (i := 20) (v := ?v115) ?a115 ?b115 ?c115 ?d115 ?e115 ?f115 ?g115 ?z115
                    case a115 => (simp only [List.getElem?_toArray, List.getElem?_cons_succ, List.getElem?_cons_zero]; try rfl)
                    case b115 | c115 | d115 => kernel_rfl
                    case e115 => exact fun _ _ _ h => h
                    case f115 => first | exact Or.inl ⟨by rfl, by (intro w hSw; (try dsimp only at hSw); go_simp; try rfl)⟩ | exact Or.inr ⟨by rfl, rfl⟩
                    case g115 => assumption
                    (try simp only [Act.put, List.setIfInBounds_toArray, List.set_cons_zero, List.set_cons_succ])
                    refine wpAnyH_done (by kernel_rfl) ?_ _
                    refine NoPanic.normal ?_
                    go_wp2_with fail
                    go_ret
                    exact ⟨rfl, chainB hall.out hb hall.out.size⟩
           | false =>
            have u0_ := hbu.out.cell 0 rfl; have u1_ := hbu.out.cell 1 rfl; have ul_ := hbu.out.lt
            have s0_ := hbs.out.cell 0 rfl; have s1_ := hbs.out.cell 1 rfl; have sl_ := hbs.out.lt
            go_wp2_with fail
            clear u0_ u1_ s0_ s1_ ul_ sl_
            refine (beyond_any _ xs ⟨uA, uc, ⟨ue, ul⟩⟩ _ (hva.out.below (by first | exact Below.refl _ _ | go_grown)) (hvu.out.below (by first | exact Below.refl _ _ | go_grown))).mono ?_
            rw [← his.out]
            rintro e_ w10 ⟨rfl, hb_⟩
            have hc_ : Below wx.heap.size wx w10 := chainB (by first | exact Below.refl _ _ | go_grown) hb_ (by first | exact Nat.le_refl _ | (simp; done) | (simp; omega))
            replace hva := Lib.hid (hva.out.below hc_)
            replace hvb := Lib.hid (hvb.out.below hc_)
            replace hvu := Lib.hid (hvu.out.below hc_)
            replace hvs := Lib.hid (hvs.out.below hc_)
            replace hbu := Lib.hid (hbu.out.below hc_)
            replace hbs := Lib.hid (hbs.out.below hc_)
            replace hvo := Lib.hid (hvo.out.below hc_)
            replace hall := Lib.hid (chainB hall.out hc_ hall.out.size)
            clear hc_
            clear hb_
            have u0_ := hbu.out.cell 0 rfl; have u1_ := hbu.out.cell 1 rfl; have ul_ := hbu.out.lt
            have s0_ := hbs.out.cell 0 rfl; have s1_ := hbs.out.cell 1 rfl; have sl_ := hbs.out.lt
            go_wp2_with fail
            have hb := Below.refl w10.heap.size w10
            refine wp_region_noPanic ?_
            refine wp_region_held_drew (S := (fun w' => w'.cell? ⟨w.heap.size, 0, none⟩ = some (.int .u64 ue) ∧ w'.cell? ⟨w.heap.size, 1, none⟩ = some (.slice uA ul.length uc))) (by kernel_rfl) (⟨u0_, u1_⟩) (fun hHeld => ?_)
            refine' wpAnyH_take (i := 0) (v := ?v116) ?a116 ?b116 ?c116 ?d116 ?e116 ?f116 ?g116 ?z116
            case a116 => (simp only [List.getElem?_toArray, List.getElem?_cons_succ, List.getElem?_cons_zero]; try rfl)
            case b116 | c116 | d116 => kernel_rfl
            case e116 => exact fun _ _ _ h => h
            case f116 => first | exact Or.inl ⟨by rfl, by (intro w hSw; (try dsimp only at hSw); go_simp; try rfl)⟩ | exact Or.inr ⟨by rfl, rfl⟩
            case g116 => assumption
            (try simp only [Act.put, List.setIfInBounds_toArray, List.set_cons_zero, List.set_cons_succ])
            refine' wpAnyH_take (i := 1) (v := ?v117) ?a117 ?b117 ?c117 ?d117 ?e117 ?f117 ?g117 ?z117
            case a117 => (simp only [List.getElem?_toArray, List.getElem?_cons_succ, List.getElem?_cons_zero]; try rfl)
            case b117 | c117 | d117 => kernel_rfl
            case e117 => exact fun _ _ _ h => h
            case f117 => first | exact Or.inl ⟨by rfl, by (intro w hSw; (try dsimp only at hSw); go_simp; try rfl)⟩ | exact Or.inr ⟨by rfl, rfl⟩
            case g117 => assumption
            (try simp only [Act.put, List.setIfInBounds_toArray, List.set_cons_zero, List.set_cons_succ])
            refine' wpAnyH_take (i := 3) (v := ?v118) ?a118 ?b118 ?c118 ?d118 ?e118 ?f118 ?g118 ?z118
            case a118 => (simp only [List.getElem?_toArray, List.getElem?_cons_succ, List.getElem?_cons_zero]; try rfl)
            case b118 | c118 | d118 => kernel_rfl
            case e118 => exact fun _ _ _ h => h
            case f118 => first | exact Or.inl ⟨by rfl, by (intro w hSw; (try dsimp only at hSw); go_simp; try rfl)⟩ | exact Or.inr ⟨by rfl, rfl⟩
            case g118 => assumption
            (try simp only [Act.put, List.setIfInBounds_toArray, List.set_cons_zero, List.set_cons_succ])
            refine wpAnyH_ready (rs := [2]) (by kernel_rfl) (by simp) ?_
            refine' (AllReadyH.cons (i := 2) ?ho2x119 (fun K hK => ?st2x119) AllReadyH.nil)
            case ho2x119 => (simp only [List.getElem?_toArray, List.getElem?_cons_succ, List.getElem?_cons_zero]; try rfl)
            case st2x119 =>
             go_simp
             refine (beyond_any _ ro ⟨uA, uc, ⟨ue, ul⟩⟩ _ (hvo.out.below (by first | exact hb | go_grown)) (hvu.out.below (by first | exact hb | go_grown))).mono ?_; rw [hbo.out]; rintro e_ w_ ⟨rfl, hb_⟩; replace hb := chainB (B := w10.heap.size) (a := w10) (by go_grown) hb_ (by have := hb.size; first | omega | (simp; done) | (simp; omega)); clear hb_
             refine hK.out _ _ ?_ (fun hHeld => ?_)
             · exact ⟨(hbu.out.below hb).cell 0 rfl, (hbu.out.below hb).cell 1 rfl⟩
             clear hK K
             (try simp only [Act.put, List.setIfInBounds_toArray, List.set_cons_zero, List.set_cons_succ])
             refine' wpAnyH_take (i := 4) (v := ?v120) ?a120 ?b120 ?c120 ?d120 ?e120 ?f120 ?g120 ?z120
             case a120 => (simp only [List.getElem?_toArray, List.getElem?_cons_succ, List.getElem?_cons_zero]; try rfl)
             case b120 | c120 | d120 => kernel_rfl
             case e120 => exact fun _ _ _ h => h
             case f120 => first | exact Or.inl ⟨by rfl, by (intro w hSw; (try dsimp only at hSw); go_simp; try rfl)⟩ | exact Or.inr ⟨by rfl, rfl⟩
             case g120 => assumption
             (try simp only [Act.put, List.setIfInBounds_toArray, List.set_cons_zero, List.set_cons_succ])
             refine' wpAnyH_take (i := 5) (v := ?v121) ?a121 ?b121 ?c121 ?d121 ?e121 ?f121 ?g121 ?z121
             case a121 => (simp only [List.getElem?_toArray, List.getElem?_cons_succ, List.getElem?_cons_zero]; try rfl)
             case b121 | c121 | d121 => kernel_rfl
             case e121 => exact fun _ _ _ h => h
             case f121 => first | exact Or.inl ⟨by rfl, by (intro w hSw; (try dsimp only at hSw); go_simp; try rfl)⟩ | exact Or.inr ⟨by rfl, rfl⟩
             case g121 => assumption
             (try simp only [Act.put, List.setIfInBounds_toArray, List.set_cons_zero, List.set_cons_succ])
             refine' wpAnyH_take (i := 6) (v := ?v122) ?a122 ?b122 ?c122 ?d122 ?e122 ?f122 ?g122 ?z122
             case a122 => (simp only [List.getElem?_toArray, List.getElem?_cons_succ, List.getElem?_cons_zero]; try rfl)
             case b122 | c122 | d122 => kernel_rfl
             case e122 => exact fun _ _ _ h => h
             case f122 => first | exact Or.inl ⟨by rfl, by (intro w hSw; (try dsimp only at hSw); go_simp; try rfl)⟩ | exact Or.inr ⟨by rfl, rfl⟩
             case g122 => assumption
             (try simp only [Act.put, List.setIfInBounds_toArray, List.set_cons_zero, List.set_cons_succ])
             refine' wpAnyH_take (i := 7) (v := ?v123) ?a123 ?b123 ?c123 ?d123 ?e123 ?f123 ?g123 ?z123
             case a123 => (simp only [List.getElem?_toArray, List.getElem?_cons_succ, List.getElem?_cons_zero]; try rfl)
             case b123 | c123 | d123 => kernel_rfl
             case e123 => exact fun _ _ _ h => h
             case f123 => first | exact Or.inl ⟨by rfl, by (intro w hSw; (try dsimp only at hSw); go_simp; try rfl)⟩ | exact Or.inr ⟨by rfl, rfl⟩
             case g123 => assumption
             (try simp only [Act.put, List.setIfInBounds_toArray, List.set_cons_zero, List.set_cons_succ])
             refine' wpAnyH_take (i := 9) (v := ?v124) ?a124 ?b124 ?c124 ?d124 ?e124 ?f124 ?g124 ?z124
             case a124 => (simp only [List.getElem?_toArray, List.getElem?_cons_succ, List.getElem?_cons_zero]; try rfl)
             case b124 | c124 | d124 => kernel_rfl
             case e124 => exact fun _ _ _ h => h
             case f124 => first | exact Or.inl ⟨by rfl, by (intro w hSw; (try dsimp only at hSw); go_simp; try rfl)⟩ | exact Or.inr ⟨by rfl, rfl⟩
             case g124 => assumption
             (try simp only [Act.put, List.setIfInBounds_toArray, List.set_cons_zero, List.set_cons_succ])
             refine' wpAnyH_take (i := 11) (v := ?v125) ?a125 ?b125 ?c125 ?d125 ?e125 ?f125 ?g125 ?z125
             case a125 => (simp only [List.getElem?_toArray, List.getElem?_cons_succ, List.getElem?_cons_zero]; try rfl)
             case b125 | c125 | d125 => kernel_rfl
             case e125 => exact fun _ _ _ h => h
             case f125 => first | exact Or.inl ⟨by rfl, by (intro w hSw; (try dsimp only at hSw); go_simp; try rfl)⟩ | exact Or.inr ⟨by rfl, rfl⟩
             case g125 => assumption
             (try simp only [Act.put, List.setIfInBounds_toArray, List.set_cons_zero, List.set_cons_succ])
             refine wpAnyH_ready (rs := [8]) (by kernel_rfl) (by simp) ?_
             refine' (AllReadyH.cons (i := 8) ?ho8x126 (fun K hK => ?st8x126) AllReadyH.nil)
             case ho8x126 => (simp only [List.getElem?_toArray, List.getElem?_cons_succ, List.getElem?_cons_zero]; try rfl)
             case st8x126 =>
              go_simp
              refine (join_all _ _ xs ys _ (hva.out.below (by first | exact hb | go_grown)) (hvb.out.below (by first | exact hb | go_grown)) ⟨by have := hla.out; omega, by have := hlb.out; omega⟩ (both_ofB ha1.out hb1.out)).mono ?_; rintro e_ w_ ⟨⟨_, vj, rj, rfl, hvj_, hacj_, _, _⟩, hb_⟩; replace hb := chainB (B := w10.heap.size) (a := w10) (by go_grown) hb_ (by have := hb.size; first | omega | (simp; done) | (simp; omega)); clear hb_
              have hvj := Lib.hid hvj_
              have hjb := Lib.hid (show upB (tmsD rj) ⟨ue, ul⟩ = false by
                rw [Bool.eq_iff_iff, upB_iff, hacj_.up, ← upB_iff, ← upB_iff, hr2.out, ← his.out]
                simp)
              clear hvj_ hacj_
              refine hK.out _ _ ?_ (fun hHeld => ?_)
              · exact ⟨(hbu.out.below hb).cell 0 rfl, (hbu.out.below hb).cell 1 rfl⟩
              clear hK K
              (try simp only [Act.put, List.setIfInBounds_toArray, List.set_cons_zero, List.set_cons_succ])
              refine wpAnyH_ready (rs := [10]) (by kernel_rfl) (by simp) ?_
              refine' (AllReadyH.cons (i := 10) ?ho10x127 (fun K hK => ?st10x127) AllReadyH.nil)
              case ho10x127 => (simp only [List.getElem?_toArray, List.getElem?_cons_succ, List.getElem?_cons_zero]; try rfl)
              case st10x127 =>
               go_simp
               refine (beyond_any vj rj ⟨uA, uc, ⟨ue, ul⟩⟩ _ (hvj.out.below (by first | exact Below.refl _ _ | go_grown)) (hvu.out.below (by first | exact hb | go_grown))).mono ?_; rw [hjb.out]; rintro e_ w_ ⟨rfl, hb_⟩; replace hb := chainB (B := w10.heap.size) (a := w10) (by go_grown) hb_ (by have := hb.size; first | omega | (simp; done) | (simp; omega)); clear hb_
               clear hvj hjb
               refine hK.out _ _ ?_ (fun hHeld => ?_)
               · exact ⟨(hbu.out.below hb).cell 0 rfl, (hbu.out.below hb).cell 1 rfl⟩
               clear hK K
               (try simp only [Act.put, List.setIfInBounds_toArray, List.set_cons_zero, List.set_cons_succ])
               refine' wpAnyH_take (i := 12) (v := ?v128) ?a128 ?b128 ?c128 ?d128 ?e128 ?f128 ?g128 ?z128
               case a128 => (simp only [List.getElem?_toArray, List.getElem?_cons_succ, List.getElem?_cons_zero]; try rfl)
               case b128 | c128 | d128 => kernel_rfl
               case e128 => exact fun _ _ _ h => h
               case f128 => first | exact Or.inl ⟨by rfl, by (intro w hSw; (try dsimp only at hSw); go_simp; try rfl)⟩ | exact Or.inr ⟨by rfl, rfl⟩
               case g128 => assumption
               (try simp only [Act.put, List.setIfInBounds_toArray, List.set_cons_zero, List.set_cons_succ])
               refine' wpAnyH_take (i := 13) (v := ?v129) ?a129 ?b129 ?c129 ?d129 ?e129 ?f129 ?g129 ?z129
               case a129 => (simp only [List.getElem?_toArray, List.getElem?_cons_succ, List.getElem?_cons_zero]; try rfl)
               case b129 | c129 | d129 => kernel_rfl
               case e129 => exact fun _ _ _ h => h
               case f129 => first | exact Or.inl ⟨by rfl, by (intro w hSw; (try dsimp only at hSw); go_simp; try rfl)⟩ | exact Or.inr ⟨by rfl, rfl⟩
               case g129 => assumption
               (try simp only [Act.put, List.setIfInBounds_toArray, List.set_cons_zero, List.set_cons_succ])
               refine' wpAnyH_take (i := 14) (v := ?v130) ?a130 ?b130 ?c130 ?d130 ?e130 ?f130 ?g130 ?z130
               case a130 => (simp only [List.getElem?_toArray, List.getElem?_cons_succ, List.getElem?_cons_zero]; try rfl)
               case b130 | c130 | d130 => kernel_rfl
               case e130 => exact fun _ _ _ h => h
               case f130 => first | exact Or.inl ⟨by rfl, by (intro w hSw; (try dsimp only at hSw); go_simp; try rfl)⟩ | exact Or.inr ⟨by rfl, rfl⟩
               case g130 => assumption
               (try simp only [Act.put, List.setIfInBounds_toArray, List.set_cons_zero, List.set_cons_succ])
               refine' wpAnyH_take (i := 15) (v := ?v131) ?a131 ?b131 ?c131 ?d131 ?e131 ?f131 ?g131 ?z131
               case a131 => (simp only [List.getElem?_toArray, List.getElem?_cons_succ, List.getElem?_cons_zero]; try rfl)
               case b131 | c131 | d131 => kernel_rfl
               case e131 => exact fun _ _ _ h => h
               case f131 => first | exact Or.inl ⟨by rfl, by (intro w hSw; (try dsimp only at hSw); go_simp; try rfl)⟩ | exact Or.inr ⟨by rfl, rfl⟩
               case g131 => assumption
               (try simp only [Act.put, List.setIfInBounds_toArray, List.set_cons_zero, List.set_cons_succ])
               refine' wpAnyH_take (i := 16) (v := ?v132) ?a132 ?b132 ?c132 ?d132 ?e132 ?f132 ?g132 ?z132
               case a132 => (simp only [List.getElem?_toArray, List.getElem?_cons_succ, List.getElem?_cons_zero]; try rfl)
               case b132 | c132 | d132 => kernel_rfl
               case e132 => exact fun _ _ _ h => h
               case f132 => first | exact Or.inl ⟨by rfl, by (intro w hSw; (try dsimp only at hSw); go_simp; try rfl)⟩ | exact Or.inr ⟨by rfl, rfl⟩
               case g132 => assumption
               (try simp only [Act.put, List.setIfInBounds_toArray, List.set_cons_zero, List.set_cons_succ])
               refine wpAnyH_ready (rs := [17]) (by kernel_rfl) (by simp) ?_
               refine' (AllReadyH.cons (i := 17) ?ho17x133 (fun K hK => ?st17x133) AllReadyH.nil)
               case ho17x133 => (simp only [List.getElem?_toArray, List.getElem?_cons_succ, List.getElem?_cons_zero]; try rfl)
               case st17x133 =>
                go_simp
                refine (leqA_any _ _ ro xs _ (hvo.out.below (by first | exact hb | go_grown)) (hva.out.below (by first | exact hb | go_grown))).mono ?_; rw [hoa.out]; rintro e_ w_ ⟨rfl, hb_⟩; replace hb := chainB (B := w10.heap.size) (a := w10) (by go_grown) hb_ (by have := hb.size; first | omega | (simp; done) | (simp; omega)); clear hb_
                refine hK.out _ _ ?_ (fun hHeld => ?_)
                · exact ⟨(hbu.out.below hb).cell 0 rfl, (hbu.out.below hb).cell 1 rfl⟩
                clear hK K
                (try simp only [Act.put, List.setIfInBounds_toArray, List.set_cons_zero, List.set_cons_succ])
                refine' wpAnyH_take (i := 18) (v := ?v134) ?a134 ?b134 ?c134 ?d134 ?e134 ?f134 ?g134 ?z134
                case a134 => (simp only [List.getElem?_toArray, List.getElem?_cons_succ, List.getElem?_cons_zero]; try rfl)
                case b134 | c134 | d134 => kernel_rfl
                case e134 => exact fun _ _ _ h => h
                case f134 => first | exact Or.inl ⟨by rfl, by (intro w hSw; (try dsimp only at hSw); go_simp; try rfl)⟩ | exact Or.inr ⟨by rfl, rfl⟩
                case g134 => assumption
                (try simp only [Act.put, List.setIfInBounds_toArray, List.set_cons_zero, List.set_cons_succ])
                refine' wpAnyH_take (i := 19) (v := ?v135) ?a135 ?b135 ?c135 ?d135 ?e135 ?f135 ?g135 ?z135
                case a135 => (simp only [List.getElem?_toArray, List.getElem?_cons_succ, List.getElem?_cons_zero]; try rfl)
                case b135 | c135 | d135 => kernel_rfl
                case e135 => exact fun _ _ _ h => h
                case f135 => first | exact Or.inl ⟨by rfl, by (intro w hSw; (try dsimp only at hSw); go_simp; try rfl)⟩ | exact Or.inr ⟨by rfl, rfl⟩
                case g135 => assumption
                (try simp only [Act.put, List.setIfInBounds_toArray, List.set_cons_zero, List.set_cons_succ])
                refine' wpAnyH_take (i := 20) (v := ?v136) ?a136 ?b136 ?c136 ?d136 ?e136 ?f136 ?g136 ?z136
                case a136 => (simp only [List.getElem?_toArray, List.getElem?_cons_succ, List.getElem?_cons_zero]; try rfl)
                case b136 | c136 | d136 => kernel_rfl
                case e136 => exact fun _ _ _ h => h
                case f136 => first | exact Or.inl ⟨by rfl, by (intro w hSw; (try dsimp only at hSw); go_simp; try rfl)⟩ | exact Or.inr ⟨by rfl, rfl⟩
                case g136 => assumption
                (try simp only [Act.put, List.setIfInBounds_toArray, List.set_cons_zero, List.set_cons_succ])
                refine' wpAnyH_take (i := 21) (v := ?v137) ?a137 ?b137 ?c137 ?d137 ?e137 ?f137 ?g137 ?z137
                case a137 => (simp only [List.getElem?_toArray, List.getElem?_cons_succ, List.getElem?_cons_zero]; try rfl)
                case b137 | c137 | d137 => kernel_rfl
                case e137 => exact fun _ _ _ h => h
                case f137 => first | exact Or.inl ⟨by rfl, by (intro w hSw; (try dsimp only at hSw); go_simp; try rfl)⟩ | exact Or.inr ⟨by rfl, rfl⟩
                case g137 => assumption
                (try simp only [Act.put, List.setIfInBounds_toArray, List.set_cons_zero, List.set_cons_succ])
                refine wpAnyH_ready (rs := [22]) (by kernel_rfl) (by simp) ?_
                refine' (AllReadyH.cons (i := 22) ?ho22x138 (fun K hK => ?st22x138) AllReadyH.nil)
                case ho22x138 => (simp only [List.getElem?_toArray, List.getElem?_cons_succ, List.getElem?_cons_zero]; try rfl)
                case st22x138 =>
                 go_simp
                 refine (leqA_any _ _ xs ro _ (hva.out.below (by first | exact hb | go_grown)) (hvo.out.below (by first | exact hb | go_grown))).mono ?_; rw [hao.out]; rintro e_ w_ ⟨rfl, hb_⟩; replace hb := chainB (B := w10.heap.size) (a := w10) (by go_grown) hb_ (by have := hb.size; first | omega | (simp; done) | (simp; omega)); clear hb_
                 refine hK.out _ _ ?_ (fun hHeld => ?_)
                 · exact ⟨(hbu.out.below hb).cell 0 rfl, (hbu.out.below hb).cell 1 rfl⟩
                 clear hK K
                 (try simp only [Act.put, List.setIfInBounds_toArray, List.set_cons_zero, List.set_cons_succ])
                 refine' wpAnyH_take (i := 23) (v := ?v139) ?a139 ?b139 ?c139 ?d139 ?e139 ?f139 ?g139 ?z139
                 case a139 => (simp only [List.getElem?_toArray, List.getElem?_cons_succ, List.getElem?_cons_zero]; try rfl)
                 case b139 | c139 | d139 => kernel_rfl
                 case e139 => exact fun _ _ _ h => h
                 case f139 => first | exact Or.inl ⟨by rfl, by (intro w hSw; (try dsimp only at hSw); go_simp; try rfl)⟩ | exact Or.inr ⟨by rfl, rfl⟩
                 case g139 => assumption
                 (try simp only [Act.put, List.setIfInBounds_toArray, List.set_cons_zero, List.set_cons_succ])
                 refine' wpAnyH_take (i := 24) (v := ?v140) ?a140 ?b140 ?c140 ?d140 ?e140 ?f140 ?g140 ?z140
                 case a140 => (simp only [List.getElem?_toArray, List.getElem?_cons_succ, List.getElem?_cons_zero]; try rfl)
                 case b140 | c140 | d140 => kernel_rfl
                 case e140 => exact fun _ _ _ h => h
                 case f140 => first | exact Or.inl ⟨by rfl, by (intro w hSw; (try dsimp only at hSw); go_simp; try rfl)⟩ | exact Or.inr ⟨by rfl, rfl⟩
                 case g140 => assumption
                 (try simp only [Act.put, List.setIfInBounds_toArray, List.set_cons_zero, List.set_cons_succ])
                 refine wpAnyH_done (by kernel_rfl) ?_ _
                 refine NoPanic.normal ?_
                 obtain ⟨we, hwe⟩ : ∃ x, w_ = x := ⟨_, rfl⟩
                 subst hwe
                 clear u0_ u1_ s0_ s1_ ul_ sl_
                 have hb_ := hb
                 clear hb
                 have hc_ : Below w10.heap.size w10 w_ := chainB (by first | exact Below.refl _ _ | go_grown) hb_ (by first | exact Nat.le_refl _ | (simp; done) | (simp; omega))
                 replace hva := Lib.hid (hva.out.below hc_)
                 replace hvb := Lib.hid (hvb.out.below hc_)
                 replace hvu := Lib.hid (hvu.out.below hc_)
                 replace hvs := Lib.hid (hvs.out.below hc_)
                 replace hbu := Lib.hid (hbu.out.below hc_)
                 replace hbs := Lib.hid (hbs.out.below hc_)
                 replace hvo := Lib.hid (hvo.out.below hc_)
                 replace hall := Lib.hid (chainB hall.out hc_ hall.out.size)
                 clear hc_
                 clear hb_
                 have u0_ := hbu.out.cell 0 rfl; have u1_ := hbu.out.cell 1 rfl; have ul_ := hbu.out.lt
                 have s0_ := hbs.out.cell 0 rfl; have s1_ := hbs.out.cell 1 rfl; have sl_ := hbs.out.lt
                 go_wp2_with fail
                 clear u0_ u1_ s0_ s1_ ul_ sl_
                 refine (advance_any _ _ xs ⟨se, sl⟩ _ (hva.out.below (by first | exact Below.refl _ _ | go_grown)) ⟨_, rfl, hvs.out.below (by first | exact Below.refl _ _ | go_grown)⟩ wsH.out (show sl.length ≤ 1099511627776 by omega) waH.out).mono ?_
                 rw [hV.out]
                 rintro e_ w11 ⟨sv, rfl, ho_, hb_⟩
                 have hc_ : Below w_.heap.size w_ w11 := chainB (by first | exact Below.refl _ _ | go_grown) hb_ (by first | exact Nat.le_refl _ | (simp; done) | (simp; omega))
                 replace hva := Lib.hid (hva.out.below hc_)
                 replace hvb := Lib.hid (hvb.out.below hc_)
                 replace hvu := Lib.hid (hvu.out.below hc_)
                 replace hvs := Lib.hid (hvs.out.below hc_)
                 replace hbu := Lib.hid (hbu.out.below hc_)
                 replace hbs := Lib.hid (hbs.out.below hc_)
                 replace hvo := Lib.hid (hvo.out.below hc_)
                 replace hall := Lib.hid (chainB hall.out hc_ hall.out.size)
                 obtain ⟨VA, nV, cV, rfl, hn_, hc1_, hd_⟩ := ho_.words.form
                 have hvV := Lib.hid (show TmV w11 (.agg #[.int .u64 V.e, .slice VA nV cV]) V from ⟨_, rfl, ho_.words⟩)
                 clear ho_ hn_ hc1_ hd_
                 clear hc_
                 clear hb_
                 have u0_ := hbu.out.cell 0 rfl; have u1_ := hbu.out.cell 1 rfl; have ul_ := hbu.out.lt
                 have s0_ := hbs.out.cell 0 rfl; have s1_ := hbs.out.cell 1 rfl; have sl_ := hbs.out.lt
                 go_wp2_with fail
                 clear u0_ u1_ s0_ s1_ ul_ sl_
                 obtain ⟨w12, hwn_⟩ : ∃ x, w11.alloc (.cells #[.int .u64 V.e, .slice VA nV cV] 26) = x := ⟨_, rfl⟩
                 have hbVx := Lib.hid (show HasC w12 w11.heap.size [.int .u64 V.e, .slice VA nV cV] 26 by rw [← hwn_]; exact has_at _ _ _ _ rfl)
                 have hb_ : Below w11.heap.size w11 w12 := by rw [← hwn_]; go_grown
                 try rw [hwn_]
                 clear hwn_
                 have hc_ : Below w11.heap.size w11 w12 := chainB (by first | exact Below.refl _ _ | go_grown) hb_ (by first | exact Nat.le_refl _ | (simp; done) | (simp; omega))
                 replace hva := Lib.hid (hva.out.below hc_)
                 replace hvb := Lib.hid (hvb.out.below hc_)
                 replace hvu := Lib.hid (hvu.out.below hc_)
                 replace hvs := Lib.hid (hvs.out.below hc_)
                 replace hbu := Lib.hid (hbu.out.below hc_)
                 replace hbs := Lib.hid (hbs.out.below hc_)
                 replace hvo := Lib.hid (hvo.out.below hc_)
                 replace hvV := Lib.hid (hvV.out.below hc_)
                 replace hall := Lib.hid (chainB hall.out hc_ hall.out.size)
                 clear hc_
                 clear hb_
                 have u0_ := hbu.out.cell 0 rfl; have u1_ := hbu.out.cell 1 rfl; have ul_ := hbu.out.lt
                 have s0_ := hbs.out.cell 0 rfl; have s1_ := hbs.out.cell 1 rfl; have sl_ := hbs.out.lt
                 have V0_ := hbVx.out.cell 0 rfl; have V1_ := hbVx.out.cell 1 rfl; have Vl_ := hbVx.out.lt
                 have hb := Below.refl w12.heap.size w12
                 refine wp_region_noPanic ?_
                 refine wp_region_held_drew (S := (fun w' => w'.cell? ⟨w.heap.size, 0, none⟩ = some (.int .u64 ue) ∧ w'.cell? ⟨w.heap.size, 1, none⟩ = some (.slice uA ul.length uc) ∧ w'.cell? ⟨w.heap.size + 1, 0, none⟩ = some (.int .u64 se) ∧ w'.cell? ⟨w.heap.size + 1, 1, none⟩ = some (.slice sA sl.length sc) ∧ w'.cell? ⟨w11.heap.size, 0, none⟩ = some (.int .u64 V.e) ∧ w'.cell? ⟨w11.heap.size, 1, none⟩ = some (.slice VA nV cV))) (by kernel_rfl) (⟨u0_, u1_, s0_, s1_, V0_, V1_⟩) (fun hHeld => ?_)
                 refine' wpAnyH_take (i := 0) (v := ?v141) ?a141 ?b141 ?c141 ?d141 ?e141 ?f141 ?g141 ?z141
                 case a141 => (simp only [List.getElem?_toArray, List.getElem?_cons_succ, List.getElem?_cons_zero]; try rfl)
                 case b141 | c141 | d141 => kernel_rfl
                 case e141 => exact fun _ _ _ h => h
                 case f141 => first | exact Or.inl ⟨by rfl, by (intro w hSw; (try dsimp only at hSw); go_simp; try rfl)⟩ | exact Or.inr ⟨by rfl, rfl⟩
                 case g141 => assumption
                 (try simp only [Act.put, List.setIfInBounds_toArray, List.set_cons_zero, List.set_cons_succ])
                 refine' wpAnyH_take (i := 1) (v := ?v142) ?a142 ?b142 ?c142 ?d142 ?e142 ?f142 ?g142 ?z142
                 case a142 => (simp only [List.getElem?_toArray, List.getElem?_cons_succ, List.getElem?_cons_zero]; try rfl)
                 case b142 | c142 | d142 => kernel_rfl
                 case e142 => exact fun _ _ _ h => h
                 case f142 => first | exact Or.inl ⟨by rfl, by (intro w hSw; (try dsimp only at hSw); go_simp; try rfl)⟩ | exact Or.inr ⟨by rfl, rfl⟩
                 case g142 => assumption
                 (try simp only [Act.put, List.setIfInBounds_toArray, List.set_cons_zero, List.set_cons_succ])
                 refine wpAnyH_ready (rs := [2]) (by kernel_rfl) (by simp) ?_
                 refine' (AllReadyH.cons (i := 2) ?ho2x143 (fun K hK => ?st2x143) AllReadyH.nil)
                 case ho2x143 => (simp only [List.getElem?_toArray, List.getElem?_cons_succ, List.getElem?_cons_zero]; try rfl)
                 case st2x143 =>
                  go_simp
                  refine (beyond_any _ xs ⟨uA, uc, ⟨ue, ul⟩⟩ _ (hva.out.below (by first | exact hb | go_grown)) (hvu.out.below (by first | exact hb | go_grown))).mono ?_; rw [← his.out]; rintro e_ w_ ⟨rfl, hb_⟩; replace hb := chainB (B := w12.heap.size) (a := w12) (by go_grown) hb_ (by have := hb.size; first | omega | (simp; done) | (simp; omega)); clear hb_
                  refine hK.out _ _ ?_ (fun hHeld => ?_)
                  · exact ⟨(hbu.out.below hb).cell 0 rfl, (hbu.out.below hb).cell 1 rfl, (hbs.out.below hb).cell 0 rfl, (hbs.out.below hb).cell 1 rfl, (hbVx.out.below hb).cell 0 rfl, (hbVx.out.below hb).cell 1 rfl⟩
                  clear hK K
                  (try simp only [Act.put, List.setIfInBounds_toArray, List.set_cons_zero, List.set_cons_succ])
                  refine' wpAnyH_take (i := 3) (v := ?v144) ?a144 ?b144 ?c144 ?d144 ?e144 ?f144 ?g144 ?z144
                  case a144 => (simp only [List.getElem?_toArray, List.getElem?_cons_succ, List.getElem?_cons_zero]; try rfl)
                  case b144 | c144 | d144 => kernel_rfl
                  case e144 => exact fun _ _ _ h => h
                  case f144 => first | exact Or.inl ⟨by rfl, by (intro w hSw; (try dsimp only at hSw); go_simp; try rfl)⟩ | exact Or.inr ⟨by rfl, rfl⟩
                  case g144 => assumption
                  (try simp only [Act.put, List.setIfInBounds_toArray, List.set_cons_zero, List.set_cons_succ])
                  refine' wpAnyH_take (i := 4) (v := undef) ?a145 ?b145 ?c145 ?d145 ?e145 ?f145 ?g145 ?z145
                  case a145 => (simp only [List.getElem?_toArray, List.getElem?_cons_succ, List.getElem?_cons_zero]; try rfl)
                  case b145 | c145 | d145 => kernel_rfl
                  case e145 => exact fun _ _ _ h => h
                  case f145 => first | exact Or.inl ⟨by rfl, by (intro w hSw; (try dsimp only at hSw); go_simp; try rfl)⟩ | exact Or.inr ⟨by rfl, rfl⟩
                  case g145 => assumption
                  (try simp only [Act.put, List.setIfInBounds_toArray, List.set_cons_zero, List.set_cons_succ])
                  refine' wpAnyH_take (i := 5) (v := undef) ?a146 ?b146 ?c146 ?d146 ?e146 ?f146 ?g146 ?z146
                  case a146 => (simp only [List.getElem?_toArray, List.getElem?_cons_succ, List.getElem?_cons_zero]; try rfl)
                  case b146 | c146 | d146 => kernel_rfl
                  case e146 => exact fun _ _ _ h => h
                  case f146 => first | exact Or.inl ⟨by rfl, by (intro w hSw; (try dsimp only at hSw); go_simp; try rfl)⟩ | exact Or.inr ⟨by rfl, rfl⟩
                  case g146 => assumption
                  (try simp only [Act.put, List.setIfInBounds_toArray, List.set_cons_zero, List.set_cons_succ])
                  refine' wpAnyH_take (i := 6) (v := undef) ?a147 ?b147 ?c147 ?d147 ?e147 ?f147 ?g147 ?z147
                  case a147 => (simp only [List.getElem?_toArray, List.getElem?_cons_succ, List.getElem?_cons_zero]; try rfl)
                  case b147 | c147 | d147 => kernel_rfl
                  case e147 => exact fun _ _ _ h => h
                  case f147 => first | exact Or.inl ⟨by rfl, by (intro w hSw; (try dsimp only at hSw); go_simp; try rfl)⟩ | exact Or.inr ⟨by rfl, rfl⟩
                  case g147 => assumption
                  (try simp only [Act.put, List.setIfInBounds_toArray, List.set_cons_zero, List.set_cons_succ])
                  refine' wpAnyH_take (i := 7) (v := undef) ?a148 ?b148 ?c148 ?d148 ?e148 ?f148 ?g148 ?z148
                  case a148 => (simp only [List.getElem?_toArray, List.getElem?_cons_succ, List.getElem?_cons_zero]; try rfl)
                  case b148 | c148 | d148 => kernel_rfl
                  case e148 => exact fun _ _ _ h => h
                  case f148 => first | exact Or.inl ⟨by rfl, by (intro w hSw; (try dsimp only at hSw); go_simp; try rfl)⟩ | exact Or.inr ⟨by rfl, rfl⟩
                  case g148 => assumption
                  (try simp only [Act.put, List.setIfInBounds_toArray, List.set_cons_zero, List.set_cons_succ])
                  refine' wpAnyH_take (i := 8) (v := undef) ?a149 ?b149 ?c149 ?d149 ?e149 ?f149 ?g149 ?z149
                  case a149 => (simp only [List.getElem?_toArray, List.getElem?_cons_succ, List.getElem?_cons_zero]; try rfl)
                  case b149 | c149 | d149 => kernel_rfl
                  case e149 => exact fun _ _ _ h => h
                  case f149 => first | exact Or.inl ⟨by rfl, by (intro w hSw; (try dsimp only at hSw); go_simp; try rfl)⟩ | exact Or.inr ⟨by rfl, rfl⟩
                  case g149 => assumption
                  (try simp only [Act.put, List.setIfInBounds_toArray, List.set_cons_zero, List.set_cons_succ])
                  refine' wpAnyH_take (i := 9) (v := undef) ?a150 ?b150 ?c150 ?d150 ?e150 ?f150 ?g150 ?z150
                  case a150 => (simp only [List.getElem?_toArray, List.getElem?_cons_succ, List.getElem?_cons_zero]; try rfl)
                  case b150 | c150 | d150 => kernel_rfl
                  case e150 => exact fun _ _ _ h => h
                  case f150 => first | exact Or.inl ⟨by rfl, by (intro w hSw; (try dsimp only at hSw); go_simp; try rfl)⟩ | exact Or.inr ⟨by rfl, rfl⟩
                  case g150 => assumption
                  (try simp only [Act.put, List.setIfInBounds_toArray, List.set_cons_zero, List.set_cons_succ])
                  refine' wpAnyH_take (i := 10) (v := undef) ?a151 ?b151 ?c151 ?d151 ?e151 ?f151 ?g151 ?z151
                  case a151 => (simp only [List.getElem?_toArray, List.getElem?_cons_succ, List.getElem?_cons_zero]; try rfl)
                  case b151 | c151 | d151 => kernel_rfl
                  case e151 => exact fun _ _ _ h => h
                  case f151 => first | exact Or.inl ⟨by rfl, by (intro w hSw; (try dsimp only at hSw); go_simp; try rfl)⟩ | exact Or.inr ⟨by rfl, rfl⟩
                  case g151 => assumption
                  (try simp only [Act.put, List.setIfInBounds_toArray, List.set_cons_zero, List.set_cons_succ])
                  refine' wpAnyH_take (i := 11) (v := ?v152) ?a152 ?b152 ?c152 ?d152 ?e152 ?f152 ?g152 ?z152
                  case a152 => (simp only [List.getElem?_toArray, List.getElem?_cons_succ, List.getElem?_cons_zero]; try rfl)
                  case b152 | c152 | d152 => kernel_rfl
                  case e152 => exact fun _ _ _ h => h
                  case f152 => first | exact Or.inl ⟨by rfl, by (intro w hSw; (try dsimp only at hSw); go_simp; try rfl)⟩ | exact Or.inr ⟨by rfl, rfl⟩
                  case g152 => assumption
                  (try simp only [Act.put, List.setIfInBounds_toArray, List.set_cons_zero, List.set_cons_succ])
                  refine' wpAnyH_take (i := 12) (v := ?v153) ?a153 ?b153 ?c153 ?d153 ?e153 ?f153 ?g153 ?z153
                  case a153 => (simp only [List.getElem?_toArray, List.getElem?_cons_succ, List.getElem?_cons_zero]; try rfl)
                  case b153 | c153 | d153 => kernel_rfl
                  case e153 => exact fun _ _ _ h => h
                  case f153 => first | exact Or.inl ⟨by rfl, by (intro w hSw; (try dsimp only at hSw); go_simp; try rfl)⟩ | exact Or.inr ⟨by rfl, rfl⟩
                  case g153 => assumption
                  (try simp only [Act.put, List.setIfInBounds_toArray, List.set_cons_zero, List.set_cons_succ])
                  refine' wpAnyH_take (i := 13) (v := undef) ?a154 ?b154 ?c154 ?d154 ?e154 ?f154 ?g154 ?z154
                  case a154 => (simp only [List.getElem?_toArray, List.getElem?_cons_succ, List.getElem?_cons_zero]; try rfl)
                  case b154 | c154 | d154 => kernel_rfl
                  case e154 => exact fun _ _ _ h => h
                  case f154 => first | exact Or.inl ⟨by rfl, by (intro w hSw; (try dsimp only at hSw); go_simp; try rfl)⟩ | exact Or.inr ⟨by rfl, rfl⟩
                  case g154 => assumption
                  (try simp only [Act.put, List.setIfInBounds_toArray, List.set_cons_zero, List.set_cons_succ])
                  refine' wpAnyH_take (i := 14) (v := undef) ?a155 ?b155 ?c155 ?d155 ?e155 ?f155 ?g155 ?z155
                  case a155 => (simp only [List.getElem?_toArray, List.getElem?_cons_succ, List.getElem?_cons_zero]; try rfl)
                  case b155 | c155 | d155 => kernel_rfl
                  case e155 => exact fun _ _ _ h => h
                  case f155 => first | exact Or.inl ⟨by rfl, by (intro w hSw; (try dsimp only at hSw); go_simp; try rfl)⟩ | exact Or.inr ⟨by rfl, rfl⟩
                  case g155 => assumption
                  (try simp only [Act.put, List.setIfInBounds_toArray, List.set_cons_zero, List.set_cons_succ])
                  refine' wpAnyH_take (i := 15) (v := undef) ?a156 ?b156 ?c156 ?d156 ?e156 ?f156 ?g156 ?z156
                  case a156 => (simp only [List.getElem?_toArray, List.getElem?_cons_succ, List.getElem?_cons_zero]; try rfl)
                  case b156 | c156 | d156 => kernel_rfl
                  case e156 => exact fun _ _ _ h => h
                  case f156 => first | exact Or.inl ⟨by rfl, by (intro w hSw; (try dsimp only at hSw); go_simp; try rfl)⟩ | exact Or.inr ⟨by rfl, rfl⟩
                  case g156 => assumption
                  (try simp only [Act.put, List.setIfInBounds_toArray, List.set_cons_zero, List.set_cons_succ])
                  refine' wpAnyH_take (i := 16) (v := undef) ?a157 ?b157 ?c157 ?d157 ?e157 ?f157 ?g157 ?z157
                  case a157 => (simp only [List.getElem?_toArray, List.getElem?_cons_succ, List.getElem?_cons_zero]; try rfl)
                  case b157 | c157 | d157 => kernel_rfl
                  case e157 => exact fun _ _ _ h => h
                  case f157 => first | exact Or.inl ⟨by rfl, by (intro w hSw; (try dsimp only at hSw); go_simp; try rfl)⟩ | exact Or.inr ⟨by rfl, rfl⟩
                  case g157 => assumption
                  (try simp only [Act.put, List.setIfInBounds_toArray, List.set_cons_zero, List.set_cons_succ])
                  refine' wpAnyH_take (i := 17) (v := undef) ?a158 ?b158 ?c158 ?d158 ?e158 ?f158 ?g158 ?z158
                  case a158 => (simp only [List.getElem?_toArray, List.getElem?_cons_succ, List.getElem?_cons_zero]; try rfl)
                  case b158 | c158 | d158 => kernel_rfl
                  case e158 => exact fun _ _ _ h => h
                  case f158 => first | exact Or.inl ⟨by rfl, by (intro w hSw; (try dsimp only at hSw); go_simp; try rfl)⟩ | exact Or.inr ⟨by rfl, rfl⟩
                  case g158 => assumption
                  (try simp only [Act.put, List.setIfInBounds_toArray, List.set_cons_zero, List.set_cons_succ])
                  refine' wpAnyH_take (i := 18) (v := undef) ?a159 ?b159 ?c159 ?d159 ?e159 ?f159 ?g159 ?z159
                  case a159 => (simp only [List.getElem?_toArray, List.getElem?_cons_succ, List.getElem?_cons_zero]; try rfl)
                  case b159 | c159 | d159 => kernel_rfl
                  case e159 => exact fun _ _ _ h => h
                  case f159 => first | exact Or.inl ⟨by rfl, by (intro w hSw; (try dsimp only at hSw); go_simp; try rfl)⟩ | exact Or.inr ⟨by rfl, rfl⟩
                  case g159 => assumption
                  (try simp only [Act.put, List.setIfInBounds_toArray, List.set_cons_zero, List.set_cons_succ])
                  refine' wpAnyH_take (i := 19) (v := undef) ?a160 ?b160 ?c160 ?d160 ?e160 ?f160 ?g160 ?z160
                  case a160 => (simp only [List.getElem?_toArray, List.getElem?_cons_succ, List.getElem?_cons_zero]; try rfl)
                  case b160 | c160 | d160 => kernel_rfl
                  case e160 => exact fun _ _ _ h => h
                  case f160 => first | exact Or.inl ⟨by rfl, by (intro w hSw; (try dsimp only at hSw); go_simp; try rfl)⟩ | exact Or.inr ⟨by rfl, rfl⟩
                  case g160 => assumption
                  (try simp only [Act.put, List.setIfInBounds_toArray, List.set_cons_zero, List.set_cons_succ])
                  refine' wpAnyH_take (i := 20) (v := ?v161) ?a161 ?b161 ?c161 ?d161 ?e161 ?f161 ?g161 ?z161
                  case a161 => (simp only [List.getElem?_toArray, List.getElem?_cons_succ, List.getElem?_cons_zero]; try rfl)
                  case b161 | c161 | d161 => kernel_rfl
                  case e161 => exact fun _ _ _ h => h
                  case f161 => first | exact Or.inl ⟨by rfl, by (intro w hSw; (try dsimp only at hSw); go_simp; try rfl)⟩ | exact Or.inr ⟨by rfl, rfl⟩
                  case g161 => assumption
                  (try simp only [Act.put, List.setIfInBounds_toArray, List.set_cons_zero, List.set_cons_succ])
                  refine wpAnyH_done (by kernel_rfl) ?_ _
                  refine NoPanic.normal ?_
                  go_wp2_with fail
                  go_ret
                  exact ⟨rfl, chainB hall.out hb hall.out.size⟩
end Go.Proofs.YtdfhchpimpbgfaaGreatDoor
