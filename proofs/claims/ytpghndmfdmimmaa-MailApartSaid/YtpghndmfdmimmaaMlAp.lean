/-
  The law MailApart answers true, at this program, where the list has an address. Numbers of their kinds; no further condition.
-/
import Derived.Test.YtpghndmfdmimmaaMlA
import Derived.Deep.LoopGhost
set_option linter.unusedVariables false
set_option linter.unusedSimpArgs false
namespace Go.Proofs.Ytpghndmfdmimmaa
open Go.RowKit Go.Lib

def RelMA (w0 : World) (B1 b1 B2 b2 n len : Nat) (S1 S2 : Nat → Nat) (i : Value) (wr : World) : Prop :=
  ∃ (k : Nat) (st1 st2 : Nat → Nat → Ch), i = .int .i64 (k : Nat) ∧ k ≤ len ∧ BoxI wr B1 b1 3 n S1 st1 ∧ BoxI wr B2 b2 3 n S2 st2 ∧ Hi 3 B2 S1 st1 ∧ (st1 1 2).q = (st2 1 2).q ∧ Below w0.heap.size w0 wr ∧ B2 ≤ wr.heap.size
set_option maxRecDepth 100000 in
set_option maxHeartbeats 16000000 in
theorem mailApart_some (ad : Addr) (c : Nat) (r : Int) (l : List Nat) (w0 : World) (hv : ∀ i x, l[i]? = some x → ad.block < w0.heap.size ∧ w0.cell? (ad.add i) = some (.int .u16 (x : Nat))) (hlc : l.length ≤ c) (hcm : c ≤ 9223372036854775807) (hr : 0 ≤ r ∧ r ≤ 255) (hl : ∀ (i x : Nat), l[i]? = some x → x ≤ 65535) :
    Calls Try.prog 5 #[.int .u8 r, .slice (some ad) l.length c] w0 (KnownPost w0) := by
  have hvH := Lib.hid hv
  have hlH := Lib.hid hl
  have hr0 := hr.1; have hr1 := hr.2
  clear hv hl hr
  by_cases hlen : 400 < l.length
  · have hd : decide ((400 : Int) < (l.length : Int)) = true := by simpa using (show (400 : Int) < (l.length : Int) by omega)
    go_enter Try.func5, Try.ntmps5
    go_wp2_with (go_at_call 8; refine (known_any _).mono ?_; rintro e w1 ⟨rfl, hb_⟩)
    go_ret
    exact ⟨rfl, hb_⟩
  · have hd : decide ((400 : Int) < (l.length : Int)) = false := by simpa using (show ¬ (400 : Int) < (l.length : Int) by omega)
    have hlen5 : l.length ≤ 400 := by omega
    clear hlen
    obtain ⟨n, hnd⟩ : ∃ n : Nat, r % 4 + 1 = (n : Int) := ⟨(r % 4 + 1).toNat, by omega⟩
    have hn1 : 1 ≤ n := by omega
    have hn5 : n ≤ 4 := by omega
    have r50 : 0 ≤ r % 4 := by omega
    have r54 : r % 4 ≤ 3 := by omega
    go_enter Try.func5, Try.ntmps5
    go_wp2_with (go_at_call 8; refine (known_any _).mono ?_; rintro e w1 ⟨rfl, hb_⟩)
    have hb1 := Lib.hid hb_
    clear hb_
    refine (new_any 3 n _ (by decide) (by decide) hn1 (by omega)).mono ?_
    rintro e w2 ⟨b1, S1, T1, rfl, hI_, hb_⟩
    obtain ⟨B1, hBd⟩ : ∃ B, w1.heap.size = B := ⟨_, rfl⟩
    have P2 := Lib.hid hI_; have hb2 := Lib.hid (chainB hb1.out hb_ hb1.out.size)
    have hB1 := Lib.hid (show B1 ≤ w2.heap.size by rw [← hBd]; exact hb_.size)
    have hB0 := Lib.hid (show w0.heap.size ≤ B1 by rw [← hBd]; exact hb1.out.size)
    rw [hBd] at P2
    have hHi2 := Lib.hid P2.out.hi
    clear hI_ hb_ hb1 hBd
    go_wp2_with fail
    refine (new_any 3 n _ (by decide) (by decide) hn1 (by omega)).mono ?_
    rintro e w3 ⟨b2, S2, T2, rfl, hI_, hb_⟩
    obtain ⟨B2, hBd⟩ : ∃ B, w2.heap.size = B := ⟨_, rfl⟩
    have P3 := Lib.hid (P2.out.below hb_); have Q3 := Lib.hid hI_; have hb3 := Lib.hid (chainB hb2.out hb_ hb2.out.size)
    have hB3 := Lib.hid (show B2 ≤ w3.heap.size by rw [← hBd]; exact hb_.size)
    have hBB := Lib.hid (show B1 ≤ B2 by rw [← hBd]; exact hB1.out)
    rw [hBd] at Q3 hHi2
    clear hI_ hb_ P2 hb2 hB1 hBd
    go_wp2_with fail
    go_loopw [10] (fun i wr => RelMA w0 B1 b1 B2 b2 n l.length S1 S2 i wr) (fun i _ => l.length - (Go.RowKit.intOf i).toNat)
    case atStart => exact ⟨0, _, _, rfl, Nat.zero_le _, P3.out, Q3.out, hHi2.out, rfl, hb3.out, hB3.out⟩
    case round =>
      obtain ⟨w3, rfl⟩ : ∃ w3 : World, w3 = wr := ⟨_, rfl⟩
      unfold RelMA at hrel
      clear P3 Q3 hHi2 hb3 hB3
      obtain ⟨k, st1, st2, rfl, hkl, hP_, hQ_, hH_, hE_, hb_, hB_⟩ := hrel
      have P3 := Lib.hid hP_; have Q3 := Lib.hid hQ_; have hHi := Lib.hid hH_; have hEq := Lib.hid hE_; have hb3 := Lib.hid hb_; have hB3 := Lib.hid hB_
      clear hP_ hQ_ hH_ hE_ hb_ hB_
      by_cases hk : k < l.length
      · obtain ⟨x, hx⟩ : ∃ x, l[k]? = some x := ⟨_, List.getElem?_eq_getElem hk⟩
        have hx16 := hlH.out k x hx
        obtain ⟨f, hfd⟩ : ∃ f : Nat, (x : Int) / 2 % 3 = (f : Int) := ⟨((x : Int) / 2 % 3).toNat, by omega⟩
        obtain ⟨t, htd⟩ : ∃ t : Nat, (x : Int) / 8 % 3 = (t : Int) := ⟨((x : Int) / 8 % 3).toNat, by omega⟩
        have hfW : f < 3 := by omega
        have htW : t < 3 := by omega
        have hc_ := (hb3.out.cell (p := ad.add k) (by rw [addr_add_block]; exact (hvH.out k x hx).1)).trans (hvH.out k x hx).2
        clear hx
        by_cases hf1 : f = 1
        · have hf1b : ((f : Int) == 1) = true := by simpa using (show (f : Int) = 1 by omega)
          by_cases ht2 : t = 2
          · have ht2b : ((t : Int) == 2) = true := by simpa using (show (t : Int) = 2 by omega)
            have hm_ := Lib.hid (show 1 = f ∧ 2 = t from ⟨hf1.symm, ht2.symm⟩)
            have hqe := Lib.hid (show (st1 f t).q = (st2 f t).q by rw [hf1, ht2]; exact hEq.out)
            clear hf1 ht2
            rcases Nat.eq_zero_or_pos (x % 2) with hpar | hpar
            · have hparb : (((x : Nat) : Int) % 2 == 0) = true := by simpa using (show ((x : Nat) : Int) % 2 = 0 by omega)
              go_wp2_with fail
              refine (message_any _ _).mono ?_
              rintro e w4 ⟨u, rfl, hu_, hb_⟩
              have hu4 := Lib.hid hu_
              obtain ⟨A1, c1, rfl, -, -⟩ := hu_.form
              clear hu_ hc_ hparb
              have P4 := Lib.hid (P3.out.below hb_); have Q4 := Lib.hid (Q3.out.below hb_); have hb4 := Lib.hid (chainB hb3.out hb_ hb3.out.size); have hB4 := Lib.hid (Nat.le_trans hB3.out hb_.size)
              clear P3 Q3 hb3 hB3
              clear hb_
              go_wp2_with fail
              obtain ⟨M, hM⟩ : ∃ M, M = w4.heap.size := ⟨_, rfl⟩
              rw [← hM]
              obtain ⟨w5, hw_⟩ : ∃ x, w4.alloc (.cells #[.int .i64 0, .bool false, .int .i64 0, .int .u64 0, .slice none 0 0, .slice (some A1) 1 c1, .slice none 0 0] 31) = x := ⟨_, rfl⟩
              have hd_ : Below w4.heap.size w4 w5 := by rw [← hw_]; go_grown
              simp only [hw_]
              have P5 := Lib.hid (P4.out.below hd_); have Q5 := Lib.hid (Q4.out.below hd_); have hb5 := Lib.hid (chainB hb4.out hd_ hb4.out.size); have hB5 := Lib.hid (Nat.le_trans hB4.out hd_.size)
              have hu5 := Lib.hid (hu4.out.below hd_)
              have hm5 := Lib.hid (show HasC w5 M [.int .i64 0, .bool false, .int .i64 0, .int .u64 0, .slice none 0 0, .slice (some A1) 1 c1, .slice none 0 0] 31 by rw [← hw_, hM]; exact HasC.new _ _ _)
              have hMi := Lib.hid (show w4.heap.size ≤ M by rw [hM]; exact Nat.le_refl _)
              have hB4_ := Lib.hid hB4.out
              have hQT := Lib.hid (show ∀ g u, g < 3 → u < 3 → (st2 g u).T < w4.heap.size from fun g u hg hu => (Q4.out.hi g hg).2 u hu)
              clear hM hu4
              clear P4 Q4 hb4 hB4
              clear hd_ hw_
              rcases Nat.lt_or_ge (st1 f t).q.length n with hqn | hqn
              · refine (P5.out.send hfW htW hqn _ k hu5.out).mono ?_
                rintro e w6 ⟨rfl, hI_, ht_⟩
                obtain ⟨st3, hst, hI_⟩ := name_st hI_
                have P6 := Lib.hid hI_; have Q6 := Lib.hid (P5.out.second Q5.out hHi.out (Nat.le_refl _) hfW htW ht_); have hb6 := Lib.hid (hb5.out.trans (Below.mono (P5.out.low2 hfW htW ht_ (Nat.le_trans hBB.out hB5.out)) hB0.out)); have hB6 := Lib.hid (Nat.le_trans hB5.out ht_.size)
                have hHi3 := Lib.hid (show Hi 3 B2 S1 st3 by rw [hst]; exact hHi.out.upd hfW htW rfl)
                have hq3 := Lib.hid (show (st3 f t).q = (st1 f t).q ++ [(k : Int)] by rw [hst, upd_same])
                have hq4 := Lib.hid (show ∀ g u, ¬ (g = f ∧ u = t) → (st3 g u).q = (st1 g u).q from fun g u e => by rw [hst, upd_other _ _ _ _ e])
                have hm6 := Lib.hid (P5.out.var hfW htW ht_ hm5.out (by have h1 := (hHi.out f hfW).2 t htW; have h2 := hMi.out; have h3 := hB4_.out; omega)); have hu6 := Lib.hid (P5.out.message hfW htW ht_ hu5.out)
                clear hI_ ht_ hst P5 Q5 hb5 hB5 hm5 hu5
                have m0 := hm6.out.cell 0 rfl; have m1 := hm6.out.cell 1 rfl; have m2 := hm6.out.cell 2 rfl; have m3 := hm6.out.cell 3 rfl; have m4 := hm6.out.cell 4 rfl; have m5 := hm6.out.cell 5 rfl; have m6 := hm6.out.cell 6 rfl
                go_wp2_with fail
                refine (Q6.out.send hfW htW (by rw [← hqe.out]; exact hqn) _ k hu6.out).mono ?_
                rintro e w7 ⟨rfl, hI_, ht_⟩
                obtain ⟨st4, hst, hI_⟩ := name_st hI_
                have Q7 := Lib.hid hI_; have P7 := Lib.hid (P6.out.first Q6.out hHi3.out (Nat.le_refl _) hfW htW ht_); have hb7 := Lib.hid (hb6.out.trans (Below.mono (Q6.out.low2 hfW htW ht_ hB6.out) (Nat.le_trans hB0.out hBB.out))); have hB7 := Lib.hid (Nat.le_trans hB6.out ht_.size)
                have hq5 := Lib.hid (show (st4 f t).q = (st2 f t).q ++ [(k : Int)] by rw [hst, upd_same])
                clear hI_ ht_ hst P6 Q6 hb6 hB6 m0 m1 m2 m3 m4 m5 m6 hm6 hu6
                go_wp2_with fail
                obtain ⟨LL, hLL⟩ : ∃ LL : Int, ((st3 1 2).q.length : Int) = LL := ⟨_, rfl⟩
                have heqH := Lib.hid (show (st3 1 2).q = (st4 1 2).q from (by have e1 := hm_.out.1; have e2 := hm_.out.2; subst e1 e2; rw [hq3.out, hq5.out, hqe.out]))
                have hLH := Lib.hid hLL
                clear hLL
                refine (P7.out.lenAt (f := 1) (t := 2) (by decide) (by decide) LL hLH.out).mono ?_
                rintro e w_ ⟨rfl, rfl⟩
                go_wp2_with fail
                refine (Q7.out.lenAt (f := 1) (t := 2) (by decide) (by decide) LL (by rw [← heqH.out]; exact hLH.out)).mono ?_
                rintro e w_ ⟨rfl, rfl⟩
                go_wp2_with fail
                go_roundw
                case rel => exact ⟨k + 1, _, _, by go_num, by omega, P7.out, Q7.out, hHi3.out, heqH.out, hb7.out, hB7.out⟩
                case measure => simp [Go.RowKit.intOf]; omega
              · have hfull : (st1 f t).q.length = n := by have := (P5.out.small f t hfW htW).2; omega
                refine (P5.out.sendFull hfW htW hfull _).mono ?_
                rintro e w6 ⟨rfl, hb_⟩
                have hm6 := Lib.hid (hm5.out.below hb_)
                clear hm5 hu5
                have P6 := Lib.hid (P5.out.below hb_); have Q6 := Lib.hid (Q5.out.below hb_); have hb6 := Lib.hid (chainB hb5.out hb_ hb5.out.size); have hB6 := Lib.hid (Nat.le_trans hB5.out hb_.size)
                clear P5 Q5 hb5 hB5
                clear hb_
                have m0 := hm6.out.cell 0 rfl; have m1 := hm6.out.cell 1 rfl; have m2 := hm6.out.cell 2 rfl; have m3 := hm6.out.cell 3 rfl; have m4 := hm6.out.cell 4 rfl; have m5 := hm6.out.cell 5 rfl; have m6 := hm6.out.cell 6 rfl
                go_wp2_with fail
                refine (Q6.out.sendFull hfW htW (by rw [← hqe.out]; exact hfull) _).mono ?_
                rintro e w7 ⟨rfl, hb_⟩
                clear m0 m1 m2 m3 m4 m5 m6 hm6
                have P7 := Lib.hid (P6.out.below hb_); have Q7 := Lib.hid (Q6.out.below hb_); have hb7 := Lib.hid (chainB hb6.out hb_ hb6.out.size); have hB7 := Lib.hid (Nat.le_trans hB6.out hb_.size)
                clear P6 Q6 hb6 hB6
                clear hb_
                go_wp2_with fail
                obtain ⟨LL, hLL⟩ : ∃ LL : Int, ((st1 1 2).q.length : Int) = LL := ⟨_, rfl⟩
                have heqH := Lib.hid (show (st1 1 2).q = (st2 1 2).q from hEq.out)
                have hLH := Lib.hid hLL
                clear hLL
                refine (P7.out.lenAt (f := 1) (t := 2) (by decide) (by decide) LL hLH.out).mono ?_
                rintro e w_ ⟨rfl, rfl⟩
                go_wp2_with fail
                refine (Q7.out.lenAt (f := 1) (t := 2) (by decide) (by decide) LL (by rw [← heqH.out]; exact hLH.out)).mono ?_
                rintro e w_ ⟨rfl, rfl⟩
                go_wp2_with fail
                go_roundw
                case rel => exact ⟨k + 1, _, _, by go_num, by omega, P7.out, Q7.out, hHi.out, heqH.out, hb7.out, hB7.out⟩
                case measure => simp [Go.RowKit.intOf]; omega
            · have hparb : (((x : Nat) : Int) % 2 == 0) = false := by simpa using (show ¬ ((x : Nat) : Int) % 2 = 0 by omega)
              go_wp2_with fail
              clear hc_ hparb
              rcases hqq : (st1 f t).q with _ | ⟨z, q'⟩
              · refine (P3.out.takeNone hfW htW hqq).mono ?_
                rintro e w4 ⟨rfl, hb_⟩
                have P4 := Lib.hid (P3.out.below hb_); have Q4 := Lib.hid (Q3.out.below hb_); have hb4 := Lib.hid (chainB hb3.out hb_ hb3.out.size); have hB4 := Lib.hid (Nat.le_trans hB3.out hb_.size)
                clear P3 Q3 hb3 hB3
                clear hb_
                have hqH := Lib.hid hqq
                clear hqq
                go_wp2_with fail
                obtain ⟨M, hM⟩ : ∃ M, M = w4.heap.size := ⟨_, rfl⟩
                try rw [← hM]
                obtain ⟨w5, hw_⟩ : ∃ x, w4.alloc (.cells #[.int .i64 0, .bool false, .int .i64 0, .int .u64 0, .slice none 0 0, .slice none 0 0, .slice none 0 0] 31) = x := ⟨_, rfl⟩
                have hd_ : Below w4.heap.size w4 w5 := by rw [← hw_]; go_grown
                simp only [hw_]
                have P5 := Lib.hid (P4.out.below hd_); have Q5 := Lib.hid (Q4.out.below hd_); have hb5 := Lib.hid (chainB hb4.out hd_ hb4.out.size); have hB5 := Lib.hid (Nat.le_trans hB4.out hd_.size)
                have hm5 := Lib.hid (show HasC w5 M [.int .i64 0, .bool false, .int .i64 0, .int .u64 0, .slice none 0 0, .slice none 0 0, .slice none 0 0] 31 by rw [← hw_, hM]; exact HasC.new _ _ _)
                clear hM
                clear P4 Q4 hb4 hB4
                clear hd_ hw_
                refine (Q5.out.takeNone hfW htW (by rw [← hqe.out]; exact hqH.out)).mono ?_
                rintro e w6 ⟨rfl, hb_⟩
                have hm6 := Lib.hid (hm5.out.below hb_)
                clear hm5
                have P6 := Lib.hid (P5.out.below hb_); have Q6 := Lib.hid (Q5.out.below hb_); have hb6 := Lib.hid (chainB hb5.out hb_ hb5.out.size); have hB6 := Lib.hid (Nat.le_trans hB5.out hb_.size)
                clear P5 Q5 hb5 hB5
                clear hb_
                have m0 := hm6.out.cell 0 rfl; have m1 := hm6.out.cell 1 rfl; have m2 := hm6.out.cell 2 rfl; have m3 := hm6.out.cell 3 rfl; have m4 := hm6.out.cell 4 rfl; have m5 := hm6.out.cell 5 rfl; have m6 := hm6.out.cell 6 rfl
                have ml := hm6.out.lt
                go_wp2_with fail
                refine (sameNone_any _).mono ?_
                rintro e w8 ⟨rfl, hb_⟩
                have hd_ := chainB (B := w6.heap.size) (a := w6) ((Below.refl _ _).alloc (Nat.le_refl _) _) hb_ (by simp)
                clear m0 m1 m2 m3 m4 m5 m6 ml hm6 hb_
                have P8 := Lib.hid (P6.out.below hd_); have Q8 := Lib.hid (Q6.out.below hd_); have hb8 := Lib.hid (chainB hb6.out hd_ hb6.out.size); have hB8 := Lib.hid (Nat.le_trans hB6.out hd_.size)
                clear P6 Q6 hb6 hB6
                clear hd_
                go_wp2_with fail
                obtain ⟨LL, hLL⟩ : ∃ LL : Int, ((st1 1 2).q.length : Int) = LL := ⟨_, rfl⟩
                have heqH := Lib.hid (show (st1 1 2).q = (st2 1 2).q from hEq.out)
                have hLH := Lib.hid hLL
                clear hLL
                refine (P8.out.lenAt (f := 1) (t := 2) (by decide) (by decide) LL hLH.out).mono ?_
                rintro e w_ ⟨rfl, rfl⟩
                go_wp2_with fail
                refine (Q8.out.lenAt (f := 1) (t := 2) (by decide) (by decide) LL (by rw [← heqH.out]; exact hLH.out)).mono ?_
                rintro e w_ ⟨rfl, rfl⟩
                go_wp2_with fail
                go_roundw
                case rel => exact ⟨k + 1, _, _, by go_num, by omega, P8.out, Q8.out, hHi.out, heqH.out, hb8.out, hB8.out⟩
                case measure => simp [Go.RowKit.intOf]; omega
              · refine (P3.out.take hfW htW z q' hqq).mono ?_
                rintro e w4 ⟨u, rfl, hu_, hI_, ht_⟩
                obtain ⟨st3, hst, hI_⟩ := name_st hI_
                obtain ⟨A1, c1, rfl, -, -⟩ := hu_.form
                have P4 := Lib.hid hI_; have Q4 := Lib.hid (P3.out.second Q3.out hHi.out (Nat.le_refl _) hfW htW ht_); have hb4 := Lib.hid (hb3.out.trans (Below.mono (P3.out.low2 hfW htW ht_ (Nat.le_trans hBB.out hB3.out)) hB0.out)); have hB4 := Lib.hid (Nat.le_trans hB3.out ht_.size)
                have hHi3 := Lib.hid (show Hi 3 B2 S1 st3 by rw [hst]; exact hHi.out.upd hfW htW rfl)
                have hq3 := Lib.hid (show (st3 f t).q = q' by rw [hst, upd_same])
                have hq4 := Lib.hid (show ∀ g u, ¬ (g = f ∧ u = t) → (st3 g u).q = (st1 g u).q from fun g u e => by rw [hst, upd_other _ _ _ _ e])
                have hu4 := Lib.hid hu_; have hqH := Lib.hid hqq
                clear hI_ ht_ hst P3 Q3 hb3 hB3 hu_ hqq
                go_wp2_with fail
                obtain ⟨M, hM⟩ : ∃ M, M = w4.heap.size := ⟨_, rfl⟩
                try rw [← hM]
                obtain ⟨w5, hw_⟩ : ∃ x, w4.alloc (.cells #[.int .i64 0, .bool false, .int .i64 0, .int .u64 0, .slice none 0 0, .slice (some A1) 1 c1, .slice none 0 0] 31) = x := ⟨_, rfl⟩
                have hd_ : Below w4.heap.size w4 w5 := by rw [← hw_]; go_grown
                simp only [hw_]
                have P5 := Lib.hid (P4.out.below hd_); have Q5 := Lib.hid (Q4.out.below hd_); have hb5 := Lib.hid (chainB hb4.out hd_ hb4.out.size); have hB5 := Lib.hid (Nat.le_trans hB4.out hd_.size)
                have hm5 := Lib.hid (show HasC w5 M [.int .i64 0, .bool false, .int .i64 0, .int .u64 0, .slice none 0 0, .slice (some A1) 1 c1, .slice none 0 0] 31 by rw [← hw_, hM]; exact HasC.new _ _ _)
                have hu5 := Lib.hid (hu4.out.below hd_)
                have hMi := Lib.hid (show w4.heap.size ≤ M by rw [hM]; exact Nat.le_refl _)
                have hQT := Lib.hid (show ∀ g u, g < 3 → u < 3 → (st2 g u).T < w4.heap.size from fun g u hg hu => (Q4.out.hi g hg).2 u hu)
                clear hM hu4
                clear P4 Q4 hb4 hB4
                clear hd_ hw_
                refine (Q5.out.take hfW htW z q' (by rw [← hqe.out]; exact hqH.out)).mono ?_
                rintro e w6 ⟨u, rfl, hu_, hI_, ht_⟩
                obtain ⟨st4, hst, hI_⟩ := name_st hI_
                obtain ⟨A2, c2, rfl, -, -⟩ := hu_.form
                have Q6 := Lib.hid hI_; have P6 := Lib.hid (P5.out.first Q5.out hHi3.out (Nat.le_refl _) hfW htW ht_); have hb6 := Lib.hid (hb5.out.trans (Below.mono (Q5.out.low2 hfW htW ht_ hB5.out) (Nat.le_trans hB0.out hBB.out))); have hB6 := Lib.hid (Nat.le_trans hB5.out ht_.size)
                have hq5 := Lib.hid (show (st4 f t).q = q' by rw [hst, upd_same])
                have hm6 := Lib.hid (Q5.out.var hfW htW ht_ hm5.out (by have h1 := hQT.out f t hfW htW; have h2 := hMi.out; omega)); have hu6 := Lib.hid (Q5.out.message hfW htW ht_ hu5.out); have hv6 := Lib.hid hu_
                clear hI_ ht_ hst P5 Q5 hb5 hB5 hm5 hu5 hu_
                have m0 := hm6.out.cell 0 rfl; have m1 := hm6.out.cell 1 rfl; have m2 := hm6.out.cell 2 rfl; have m3 := hm6.out.cell 3 rfl; have m4 := hm6.out.cell 4 rfl; have m5 := hm6.out.cell 5 rfl; have m6 := hm6.out.cell 6 rfl
                have ml := hm6.out.lt
                go_wp2_with fail
                have hba_ : Below w6.heap.size w6 (w6.alloc (.cells #[.int .i64 0, .bool false, .int .i64 0, .int .u64 0, .slice none 0 0, .slice (some A2) 1 c2, .slice none 0 0] 31)) := by go_grown
                refine (same_any A1 A2 c1 c2 z _ (hu6.out.below hba_) (hv6.out.below hba_)).mono ?_
                rintro e w8 ⟨rfl, hb_⟩
                have hd_ := chainB (B := w6.heap.size) (a := w6) hba_ hb_ hba_.size
                clear m0 m1 m2 m3 m4 m5 m6 ml hm6 hu6 hv6 hb_ hba_
                have P8 := Lib.hid (P6.out.below hd_); have Q8 := Lib.hid (Q6.out.below hd_); have hb8 := Lib.hid (chainB hb6.out hd_ hb6.out.size); have hB8 := Lib.hid (Nat.le_trans hB6.out hd_.size)
                clear P6 Q6 hb6 hB6
                clear hd_
                go_wp2_with fail
                obtain ⟨LL, hLL⟩ : ∃ LL : Int, ((st3 1 2).q.length : Int) = LL := ⟨_, rfl⟩
                have heqH := Lib.hid (show (st3 1 2).q = (st4 1 2).q from (by have e1 := hm_.out.1; have e2 := hm_.out.2; subst e1 e2; rw [hq3.out, hq5.out]))
                have hLH := Lib.hid hLL
                clear hLL
                refine (P8.out.lenAt (f := 1) (t := 2) (by decide) (by decide) LL hLH.out).mono ?_
                rintro e w_ ⟨rfl, rfl⟩
                go_wp2_with fail
                refine (Q8.out.lenAt (f := 1) (t := 2) (by decide) (by decide) LL (by rw [← heqH.out]; exact hLH.out)).mono ?_
                rintro e w_ ⟨rfl, rfl⟩
                go_wp2_with fail
                go_roundw
                case rel => exact ⟨k + 1, _, _, by go_num, by omega, P8.out, Q8.out, hHi3.out, heqH.out, hb8.out, hB8.out⟩
                case measure => simp [Go.RowKit.intOf]; omega

          · have ht2b : ((t : Int) == 2) = false := by simpa using (show ¬ (t : Int) = 2 by omega)
            have hm_ := Lib.hid (show ¬ (1 = f ∧ 2 = t) from fun e => ht2 e.2.symm)
            clear hf1 ht2
            rcases Nat.eq_zero_or_pos (x % 2) with hpar | hpar
            · have hparb : (((x : Nat) : Int) % 2 == 0) = true := by simpa using (show ((x : Nat) : Int) % 2 = 0 by omega)
              go_wp2_with fail
              refine (message_any _ _).mono ?_
              rintro e w4 ⟨u, rfl, hu_, hb_⟩
              have hu4 := Lib.hid hu_
              obtain ⟨A1, c1, rfl, -, -⟩ := hu_.form
              clear hu_ hc_ hparb
              have P4 := Lib.hid (P3.out.below hb_); have Q4 := Lib.hid (Q3.out.below hb_); have hb4 := Lib.hid (chainB hb3.out hb_ hb3.out.size); have hB4 := Lib.hid (Nat.le_trans hB3.out hb_.size)
              clear P3 Q3 hb3 hB3
              clear hb_
              go_wp2_with fail
              obtain ⟨M, hM⟩ : ∃ M, M = w4.heap.size := ⟨_, rfl⟩
              rw [← hM]
              obtain ⟨w5, hw_⟩ : ∃ x, w4.alloc (.cells #[.int .i64 0, .bool false, .int .i64 0, .int .u64 0, .slice none 0 0, .slice (some A1) 1 c1, .slice none 0 0] 31) = x := ⟨_, rfl⟩
              have hd_ : Below w4.heap.size w4 w5 := by rw [← hw_]; go_grown
              simp only [hw_]
              have P5 := Lib.hid (P4.out.below hd_); have Q5 := Lib.hid (Q4.out.below hd_); have hb5 := Lib.hid (chainB hb4.out hd_ hb4.out.size); have hB5 := Lib.hid (Nat.le_trans hB4.out hd_.size)
              have hu5 := Lib.hid (hu4.out.below hd_)
              have hm5 := Lib.hid (show HasC w5 M [.int .i64 0, .bool false, .int .i64 0, .int .u64 0, .slice none 0 0, .slice (some A1) 1 c1, .slice none 0 0] 31 by rw [← hw_, hM]; exact HasC.new _ _ _)
              have hMi := Lib.hid (show w4.heap.size ≤ M by rw [hM]; exact Nat.le_refl _)
              have hB4_ := Lib.hid hB4.out
              have hQT := Lib.hid (show ∀ g u, g < 3 → u < 3 → (st2 g u).T < w4.heap.size from fun g u hg hu => (Q4.out.hi g hg).2 u hu)
              clear hM hu4
              clear P4 Q4 hb4 hB4
              clear hd_ hw_
              rcases Nat.lt_or_ge (st1 f t).q.length n with hqn | hqn
              · refine (P5.out.send hfW htW hqn _ k hu5.out).mono ?_
                rintro e w6 ⟨rfl, hI_, ht_⟩
                obtain ⟨st3, hst, hI_⟩ := name_st hI_
                have P6 := Lib.hid hI_; have Q6 := Lib.hid (P5.out.second Q5.out hHi.out (Nat.le_refl _) hfW htW ht_); have hb6 := Lib.hid (hb5.out.trans (Below.mono (P5.out.low2 hfW htW ht_ (Nat.le_trans hBB.out hB5.out)) hB0.out)); have hB6 := Lib.hid (Nat.le_trans hB5.out ht_.size)
                have hHi3 := Lib.hid (show Hi 3 B2 S1 st3 by rw [hst]; exact hHi.out.upd hfW htW rfl)
                have hq3 := Lib.hid (show (st3 f t).q = (st1 f t).q ++ [(k : Int)] by rw [hst, upd_same])
                have hq4 := Lib.hid (show ∀ g u, ¬ (g = f ∧ u = t) → (st3 g u).q = (st1 g u).q from fun g u e => by rw [hst, upd_other _ _ _ _ e])
                have hm6 := Lib.hid (P5.out.var hfW htW ht_ hm5.out (by have h1 := (hHi.out f hfW).2 t htW; have h2 := hMi.out; have h3 := hB4_.out; omega)); have hu6 := Lib.hid (P5.out.message hfW htW ht_ hu5.out)
                clear hI_ ht_ hst P5 Q5 hb5 hB5 hm5 hu5
                go_wp2_with fail
                obtain ⟨LL, hLL⟩ : ∃ LL : Int, ((st3 1 2).q.length : Int) = LL := ⟨_, rfl⟩
                have heqH := Lib.hid (show (st3 1 2).q = (st2 1 2).q from (by rw [hq4.out 1 2 hm_.out]; exact hEq.out))
                have hLH := Lib.hid hLL
                clear hLL
                refine (P6.out.lenAt (f := 1) (t := 2) (by decide) (by decide) LL hLH.out).mono ?_
                rintro e w_ ⟨rfl, rfl⟩
                go_wp2_with fail
                refine (Q6.out.lenAt (f := 1) (t := 2) (by decide) (by decide) LL (by rw [← heqH.out]; exact hLH.out)).mono ?_
                rintro e w_ ⟨rfl, rfl⟩
                go_wp2_with fail
                go_roundw
                case rel => exact ⟨k + 1, _, _, by go_num, by omega, P6.out, Q6.out, hHi3.out, heqH.out, hb6.out, hB6.out⟩
                case measure => simp [Go.RowKit.intOf]; omega
              · have hfull : (st1 f t).q.length = n := by have := (P5.out.small f t hfW htW).2; omega
                refine (P5.out.sendFull hfW htW hfull _).mono ?_
                rintro e w6 ⟨rfl, hb_⟩
                have hm6 := Lib.hid (hm5.out.below hb_)
                clear hm5 hu5
                have P6 := Lib.hid (P5.out.below hb_); have Q6 := Lib.hid (Q5.out.below hb_); have hb6 := Lib.hid (chainB hb5.out hb_ hb5.out.size); have hB6 := Lib.hid (Nat.le_trans hB5.out hb_.size)
                clear P5 Q5 hb5 hB5
                clear hb_
                go_wp2_with fail
                obtain ⟨LL, hLL⟩ : ∃ LL : Int, ((st1 1 2).q.length : Int) = LL := ⟨_, rfl⟩
                have heqH := Lib.hid (show (st1 1 2).q = (st2 1 2).q from hEq.out)
                have hLH := Lib.hid hLL
                clear hLL
                refine (P6.out.lenAt (f := 1) (t := 2) (by decide) (by decide) LL hLH.out).mono ?_
                rintro e w_ ⟨rfl, rfl⟩
                go_wp2_with fail
                refine (Q6.out.lenAt (f := 1) (t := 2) (by decide) (by decide) LL (by rw [← heqH.out]; exact hLH.out)).mono ?_
                rintro e w_ ⟨rfl, rfl⟩
                go_wp2_with fail
                go_roundw
                case rel => exact ⟨k + 1, _, _, by go_num, by omega, P6.out, Q6.out, hHi.out, heqH.out, hb6.out, hB6.out⟩
                case measure => simp [Go.RowKit.intOf]; omega
            · have hparb : (((x : Nat) : Int) % 2 == 0) = false := by simpa using (show ¬ ((x : Nat) : Int) % 2 = 0 by omega)
              go_wp2_with fail
              clear hc_ hparb
              rcases hqq : (st1 f t).q with _ | ⟨z, q'⟩
              · refine (P3.out.takeNone hfW htW hqq).mono ?_
                rintro e w4 ⟨rfl, hb_⟩
                have P4 := Lib.hid (P3.out.below hb_); have Q4 := Lib.hid (Q3.out.below hb_); have hb4 := Lib.hid (chainB hb3.out hb_ hb3.out.size); have hB4 := Lib.hid (Nat.le_trans hB3.out hb_.size)
                clear P3 Q3 hb3 hB3
                clear hb_
                have hqH := Lib.hid hqq
                clear hqq
                go_wp2_with fail
                obtain ⟨M, hM⟩ : ∃ M, M = w4.heap.size := ⟨_, rfl⟩
                try rw [← hM]
                obtain ⟨w5, hw_⟩ : ∃ x, w4.alloc (.cells #[.int .i64 0, .bool false, .int .i64 0, .int .u64 0, .slice none 0 0, .slice none 0 0, .slice none 0 0] 31) = x := ⟨_, rfl⟩
                have hd_ : Below w4.heap.size w4 w5 := by rw [← hw_]; go_grown
                simp only [hw_]
                have P5 := Lib.hid (P4.out.below hd_); have Q5 := Lib.hid (Q4.out.below hd_); have hb5 := Lib.hid (chainB hb4.out hd_ hb4.out.size); have hB5 := Lib.hid (Nat.le_trans hB4.out hd_.size)
                have hm5 := Lib.hid (show HasC w5 M [.int .i64 0, .bool false, .int .i64 0, .int .u64 0, .slice none 0 0, .slice none 0 0, .slice none 0 0] 31 by rw [← hw_, hM]; exact HasC.new _ _ _)
                clear hM
                clear P4 Q4 hb4 hB4
                clear hd_ hw_
                have heqH := Lib.hid (show (st1 1 2).q = (st2 1 2).q from hEq.out)
                go_roundw
                case rel => exact ⟨k + 1, _, _, by go_num, by omega, P5.out, Q5.out, hHi.out, heqH.out, hb5.out, hB5.out⟩
                case measure => simp [Go.RowKit.intOf]; omega
              · refine (P3.out.take hfW htW z q' hqq).mono ?_
                rintro e w4 ⟨u, rfl, hu_, hI_, ht_⟩
                obtain ⟨st3, hst, hI_⟩ := name_st hI_
                obtain ⟨A1, c1, rfl, -, -⟩ := hu_.form
                have P4 := Lib.hid hI_; have Q4 := Lib.hid (P3.out.second Q3.out hHi.out (Nat.le_refl _) hfW htW ht_); have hb4 := Lib.hid (hb3.out.trans (Below.mono (P3.out.low2 hfW htW ht_ (Nat.le_trans hBB.out hB3.out)) hB0.out)); have hB4 := Lib.hid (Nat.le_trans hB3.out ht_.size)
                have hHi3 := Lib.hid (show Hi 3 B2 S1 st3 by rw [hst]; exact hHi.out.upd hfW htW rfl)
                have hq3 := Lib.hid (show (st3 f t).q = q' by rw [hst, upd_same])
                have hq4 := Lib.hid (show ∀ g u, ¬ (g = f ∧ u = t) → (st3 g u).q = (st1 g u).q from fun g u e => by rw [hst, upd_other _ _ _ _ e])
                have hu4 := Lib.hid hu_; have hqH := Lib.hid hqq
                clear hI_ ht_ hst P3 Q3 hb3 hB3 hu_ hqq
                go_wp2_with fail
                obtain ⟨M, hM⟩ : ∃ M, M = w4.heap.size := ⟨_, rfl⟩
                try rw [← hM]
                obtain ⟨w5, hw_⟩ : ∃ x, w4.alloc (.cells #[.int .i64 0, .bool false, .int .i64 0, .int .u64 0, .slice none 0 0, .slice (some A1) 1 c1, .slice none 0 0] 31) = x := ⟨_, rfl⟩
                have hd_ : Below w4.heap.size w4 w5 := by rw [← hw_]; go_grown
                simp only [hw_]
                have P5 := Lib.hid (P4.out.below hd_); have Q5 := Lib.hid (Q4.out.below hd_); have hb5 := Lib.hid (chainB hb4.out hd_ hb4.out.size); have hB5 := Lib.hid (Nat.le_trans hB4.out hd_.size)
                have hm5 := Lib.hid (show HasC w5 M [.int .i64 0, .bool false, .int .i64 0, .int .u64 0, .slice none 0 0, .slice (some A1) 1 c1, .slice none 0 0] 31 by rw [← hw_, hM]; exact HasC.new _ _ _)
                have hu5 := Lib.hid (hu4.out.below hd_)
                have hMi := Lib.hid (show w4.heap.size ≤ M by rw [hM]; exact Nat.le_refl _)
                have hQT := Lib.hid (show ∀ g u, g < 3 → u < 3 → (st2 g u).T < w4.heap.size from fun g u hg hu => (Q4.out.hi g hg).2 u hu)
                clear hM hu4
                clear P4 Q4 hb4 hB4
                clear hd_ hw_
                have heqH := Lib.hid (show (st3 1 2).q = (st2 1 2).q from (by rw [hq4.out 1 2 hm_.out]; exact hEq.out))
                go_roundw
                case rel => exact ⟨k + 1, _, _, by go_num, by omega, P5.out, Q5.out, hHi3.out, heqH.out, hb5.out, hB5.out⟩
                case measure => simp [Go.RowKit.intOf]; omega

        · have hf1b : ((f : Int) == 1) = false := by simpa using (show ¬ (f : Int) = 1 by omega)
          have hm_ := Lib.hid (show ¬ (1 = f ∧ 2 = t) from fun e => hf1 e.1.symm)
          clear hf1
          rcases Nat.eq_zero_or_pos (x % 2) with hpar | hpar
          · have hparb : (((x : Nat) : Int) % 2 == 0) = true := by simpa using (show ((x : Nat) : Int) % 2 = 0 by omega)
            go_wp2_with fail
            refine (message_any _ _).mono ?_
            rintro e w4 ⟨u, rfl, hu_, hb_⟩
            have hu4 := Lib.hid hu_
            obtain ⟨A1, c1, rfl, -, -⟩ := hu_.form
            clear hu_ hc_ hparb
            have P4 := Lib.hid (P3.out.below hb_); have Q4 := Lib.hid (Q3.out.below hb_); have hb4 := Lib.hid (chainB hb3.out hb_ hb3.out.size); have hB4 := Lib.hid (Nat.le_trans hB3.out hb_.size)
            clear P3 Q3 hb3 hB3
            clear hb_
            go_wp2_with fail
            obtain ⟨M, hM⟩ : ∃ M, M = w4.heap.size := ⟨_, rfl⟩
            rw [← hM]
            obtain ⟨w5, hw_⟩ : ∃ x, w4.alloc (.cells #[.int .i64 0, .bool false, .int .i64 0, .int .u64 0, .slice none 0 0, .slice (some A1) 1 c1, .slice none 0 0] 31) = x := ⟨_, rfl⟩
            have hd_ : Below w4.heap.size w4 w5 := by rw [← hw_]; go_grown
            simp only [hw_]
            have P5 := Lib.hid (P4.out.below hd_); have Q5 := Lib.hid (Q4.out.below hd_); have hb5 := Lib.hid (chainB hb4.out hd_ hb4.out.size); have hB5 := Lib.hid (Nat.le_trans hB4.out hd_.size)
            have hu5 := Lib.hid (hu4.out.below hd_)
            have hm5 := Lib.hid (show HasC w5 M [.int .i64 0, .bool false, .int .i64 0, .int .u64 0, .slice none 0 0, .slice (some A1) 1 c1, .slice none 0 0] 31 by rw [← hw_, hM]; exact HasC.new _ _ _)
            have hMi := Lib.hid (show w4.heap.size ≤ M by rw [hM]; exact Nat.le_refl _)
            have hB4_ := Lib.hid hB4.out
            have hQT := Lib.hid (show ∀ g u, g < 3 → u < 3 → (st2 g u).T < w4.heap.size from fun g u hg hu => (Q4.out.hi g hg).2 u hu)
            clear hM hu4
            clear P4 Q4 hb4 hB4
            clear hd_ hw_
            rcases Nat.lt_or_ge (st1 f t).q.length n with hqn | hqn
            · refine (P5.out.send hfW htW hqn _ k hu5.out).mono ?_
              rintro e w6 ⟨rfl, hI_, ht_⟩
              obtain ⟨st3, hst, hI_⟩ := name_st hI_
              have P6 := Lib.hid hI_; have Q6 := Lib.hid (P5.out.second Q5.out hHi.out (Nat.le_refl _) hfW htW ht_); have hb6 := Lib.hid (hb5.out.trans (Below.mono (P5.out.low2 hfW htW ht_ (Nat.le_trans hBB.out hB5.out)) hB0.out)); have hB6 := Lib.hid (Nat.le_trans hB5.out ht_.size)
              have hHi3 := Lib.hid (show Hi 3 B2 S1 st3 by rw [hst]; exact hHi.out.upd hfW htW rfl)
              have hq3 := Lib.hid (show (st3 f t).q = (st1 f t).q ++ [(k : Int)] by rw [hst, upd_same])
              have hq4 := Lib.hid (show ∀ g u, ¬ (g = f ∧ u = t) → (st3 g u).q = (st1 g u).q from fun g u e => by rw [hst, upd_other _ _ _ _ e])
              have hm6 := Lib.hid (P5.out.var hfW htW ht_ hm5.out (by have h1 := (hHi.out f hfW).2 t htW; have h2 := hMi.out; have h3 := hB4_.out; omega)); have hu6 := Lib.hid (P5.out.message hfW htW ht_ hu5.out)
              clear hI_ ht_ hst P5 Q5 hb5 hB5 hm5 hu5
              go_wp2_with fail
              obtain ⟨LL, hLL⟩ : ∃ LL : Int, ((st3 1 2).q.length : Int) = LL := ⟨_, rfl⟩
              have heqH := Lib.hid (show (st3 1 2).q = (st2 1 2).q from (by rw [hq4.out 1 2 hm_.out]; exact hEq.out))
              have hLH := Lib.hid hLL
              clear hLL
              refine (P6.out.lenAt (f := 1) (t := 2) (by decide) (by decide) LL hLH.out).mono ?_
              rintro e w_ ⟨rfl, rfl⟩
              go_wp2_with fail
              refine (Q6.out.lenAt (f := 1) (t := 2) (by decide) (by decide) LL (by rw [← heqH.out]; exact hLH.out)).mono ?_
              rintro e w_ ⟨rfl, rfl⟩
              go_wp2_with fail
              go_roundw
              case rel => exact ⟨k + 1, _, _, by go_num, by omega, P6.out, Q6.out, hHi3.out, heqH.out, hb6.out, hB6.out⟩
              case measure => simp [Go.RowKit.intOf]; omega
            · have hfull : (st1 f t).q.length = n := by have := (P5.out.small f t hfW htW).2; omega
              refine (P5.out.sendFull hfW htW hfull _).mono ?_
              rintro e w6 ⟨rfl, hb_⟩
              have hm6 := Lib.hid (hm5.out.below hb_)
              clear hm5 hu5
              have P6 := Lib.hid (P5.out.below hb_); have Q6 := Lib.hid (Q5.out.below hb_); have hb6 := Lib.hid (chainB hb5.out hb_ hb5.out.size); have hB6 := Lib.hid (Nat.le_trans hB5.out hb_.size)
              clear P5 Q5 hb5 hB5
              clear hb_
              go_wp2_with fail
              obtain ⟨LL, hLL⟩ : ∃ LL : Int, ((st1 1 2).q.length : Int) = LL := ⟨_, rfl⟩
              have heqH := Lib.hid (show (st1 1 2).q = (st2 1 2).q from hEq.out)
              have hLH := Lib.hid hLL
              clear hLL
              refine (P6.out.lenAt (f := 1) (t := 2) (by decide) (by decide) LL hLH.out).mono ?_
              rintro e w_ ⟨rfl, rfl⟩
              go_wp2_with fail
              refine (Q6.out.lenAt (f := 1) (t := 2) (by decide) (by decide) LL (by rw [← heqH.out]; exact hLH.out)).mono ?_
              rintro e w_ ⟨rfl, rfl⟩
              go_wp2_with fail
              go_roundw
              case rel => exact ⟨k + 1, _, _, by go_num, by omega, P6.out, Q6.out, hHi.out, heqH.out, hb6.out, hB6.out⟩
              case measure => simp [Go.RowKit.intOf]; omega
          · have hparb : (((x : Nat) : Int) % 2 == 0) = false := by simpa using (show ¬ ((x : Nat) : Int) % 2 = 0 by omega)
            go_wp2_with fail
            clear hc_ hparb
            rcases hqq : (st1 f t).q with _ | ⟨z, q'⟩
            · refine (P3.out.takeNone hfW htW hqq).mono ?_
              rintro e w4 ⟨rfl, hb_⟩
              have P4 := Lib.hid (P3.out.below hb_); have Q4 := Lib.hid (Q3.out.below hb_); have hb4 := Lib.hid (chainB hb3.out hb_ hb3.out.size); have hB4 := Lib.hid (Nat.le_trans hB3.out hb_.size)
              clear P3 Q3 hb3 hB3
              clear hb_
              have hqH := Lib.hid hqq
              clear hqq
              go_wp2_with fail
              obtain ⟨M, hM⟩ : ∃ M, M = w4.heap.size := ⟨_, rfl⟩
              try rw [← hM]
              obtain ⟨w5, hw_⟩ : ∃ x, w4.alloc (.cells #[.int .i64 0, .bool false, .int .i64 0, .int .u64 0, .slice none 0 0, .slice none 0 0, .slice none 0 0] 31) = x := ⟨_, rfl⟩
              have hd_ : Below w4.heap.size w4 w5 := by rw [← hw_]; go_grown
              simp only [hw_]
              have P5 := Lib.hid (P4.out.below hd_); have Q5 := Lib.hid (Q4.out.below hd_); have hb5 := Lib.hid (chainB hb4.out hd_ hb4.out.size); have hB5 := Lib.hid (Nat.le_trans hB4.out hd_.size)
              have hm5 := Lib.hid (show HasC w5 M [.int .i64 0, .bool false, .int .i64 0, .int .u64 0, .slice none 0 0, .slice none 0 0, .slice none 0 0] 31 by rw [← hw_, hM]; exact HasC.new _ _ _)
              clear hM
              clear P4 Q4 hb4 hB4
              clear hd_ hw_
              have heqH := Lib.hid (show (st1 1 2).q = (st2 1 2).q from hEq.out)
              go_roundw
              case rel => exact ⟨k + 1, _, _, by go_num, by omega, P5.out, Q5.out, hHi.out, heqH.out, hb5.out, hB5.out⟩
              case measure => simp [Go.RowKit.intOf]; omega
            · refine (P3.out.take hfW htW z q' hqq).mono ?_
              rintro e w4 ⟨u, rfl, hu_, hI_, ht_⟩
              obtain ⟨st3, hst, hI_⟩ := name_st hI_
              obtain ⟨A1, c1, rfl, -, -⟩ := hu_.form
              have P4 := Lib.hid hI_; have Q4 := Lib.hid (P3.out.second Q3.out hHi.out (Nat.le_refl _) hfW htW ht_); have hb4 := Lib.hid (hb3.out.trans (Below.mono (P3.out.low2 hfW htW ht_ (Nat.le_trans hBB.out hB3.out)) hB0.out)); have hB4 := Lib.hid (Nat.le_trans hB3.out ht_.size)
              have hHi3 := Lib.hid (show Hi 3 B2 S1 st3 by rw [hst]; exact hHi.out.upd hfW htW rfl)
              have hq3 := Lib.hid (show (st3 f t).q = q' by rw [hst, upd_same])
              have hq4 := Lib.hid (show ∀ g u, ¬ (g = f ∧ u = t) → (st3 g u).q = (st1 g u).q from fun g u e => by rw [hst, upd_other _ _ _ _ e])
              have hu4 := Lib.hid hu_; have hqH := Lib.hid hqq
              clear hI_ ht_ hst P3 Q3 hb3 hB3 hu_ hqq
              go_wp2_with fail
              obtain ⟨M, hM⟩ : ∃ M, M = w4.heap.size := ⟨_, rfl⟩
              try rw [← hM]
              obtain ⟨w5, hw_⟩ : ∃ x, w4.alloc (.cells #[.int .i64 0, .bool false, .int .i64 0, .int .u64 0, .slice none 0 0, .slice (some A1) 1 c1, .slice none 0 0] 31) = x := ⟨_, rfl⟩
              have hd_ : Below w4.heap.size w4 w5 := by rw [← hw_]; go_grown
              simp only [hw_]
              have P5 := Lib.hid (P4.out.below hd_); have Q5 := Lib.hid (Q4.out.below hd_); have hb5 := Lib.hid (chainB hb4.out hd_ hb4.out.size); have hB5 := Lib.hid (Nat.le_trans hB4.out hd_.size)
              have hm5 := Lib.hid (show HasC w5 M [.int .i64 0, .bool false, .int .i64 0, .int .u64 0, .slice none 0 0, .slice (some A1) 1 c1, .slice none 0 0] 31 by rw [← hw_, hM]; exact HasC.new _ _ _)
              have hu5 := Lib.hid (hu4.out.below hd_)
              have hMi := Lib.hid (show w4.heap.size ≤ M by rw [hM]; exact Nat.le_refl _)
              have hQT := Lib.hid (show ∀ g u, g < 3 → u < 3 → (st2 g u).T < w4.heap.size from fun g u hg hu => (Q4.out.hi g hg).2 u hu)
              clear hM hu4
              clear P4 Q4 hb4 hB4
              clear hd_ hw_
              have heqH := Lib.hid (show (st3 1 2).q = (st2 1 2).q from (by rw [hq4.out 1 2 hm_.out]; exact hEq.out))
              go_roundw
              case rel => exact ⟨k + 1, _, _, by go_num, by omega, P5.out, Q5.out, hHi3.out, heqH.out, hb5.out, hB5.out⟩
              case measure => simp [Go.RowKit.intOf]; omega

      · obtain rfl : k = l.length := by omega
        go_wp2_with fail
        go_ret
        exact ⟨rfl, hb3.out⟩
end Go.Proofs.Ytpghndmfdmimmaa
