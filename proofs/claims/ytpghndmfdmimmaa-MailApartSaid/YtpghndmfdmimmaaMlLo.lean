/-
  The law MailOrder answers true, at this program. Numbers of their kinds; no further condition.
-/
import Derived.Test.YtpghndmfdmimmaaMlL
import Derived.Deep.RegionHeld3
import Derived.Deep.LoopGhost
import Derived.IntWalk
set_option linter.unusedVariables false
set_option linter.unusedSimpArgs false
namespace Go.Proofs.Ytpghndmfdmimmaa
open Go.RowKit Go.Lib

def RelMO (w0 : World) (B b W n len Se Ta : Nat) (S : Nat → Nat) (i : Value) (wr : World) : Prop :=
  ∃ (k : Nat) (st : Nat → Nat → Ch) (sent taken : List Nat), i = .int .i64 (k : Nat) ∧ k ≤ len ∧ BoxI wr B b W n S st ∧ HasC wr Se (nums sent) 2 ∧ HasC wr Ta (nums taken) 2 ∧ Counts W st sent taken k ∧ Below w0.heap.size w0 wr ∧ B ≤ wr.heap.size
set_option maxRecDepth 100000 in
set_option maxHeartbeats 16000000 in
theorem mailOrder_some (ad : Addr) (c : Nat) (a r : Int) (l : List Nat) (w0 : World) (hv : ∀ i x, l[i]? = some x → ad.block < w0.heap.size ∧ w0.cell? (ad.add i) = some (.int .u16 (x : Nat))) (hlc : l.length ≤ c) (hcm : c ≤ 9223372036854775807) (ha : 0 ≤ a ∧ a ≤ 255) (hr : 0 ≤ r ∧ r ≤ 255) (hl : ∀ (i x : Nat), l[i]? = some x → x ≤ 65535) :
    Calls Try.prog 4 #[.int .u8 a, .int .u8 r, .slice (some ad) l.length c] w0 (KnownPost w0) := by
  have hvH := Lib.hid hv
  have hlH := Lib.hid hl
  have ha0 := ha.1; have ha1 := ha.2; have hr0 := hr.1; have hr1 := hr.2
  clear hv hl ha hr
  by_cases hlen : 500 < l.length
  · have hd : decide ((500 : Int) < (l.length : Int)) = true := by simpa using (show (500 : Int) < (l.length : Int) by omega)
    go_enter Try.func4, Try.ntmps4
    go_wp2_with (go_at_call 8; refine (known_any _).mono ?_; rintro e w1 ⟨rfl, hb_⟩)
    go_ret
    exact ⟨rfl, hb_⟩
  · have hd : decide ((500 : Int) < (l.length : Int)) = false := by simpa using (show ¬ (500 : Int) < (l.length : Int) by omega)
    have hlen5 : l.length ≤ 500 := by omega
    clear hlen
    obtain ⟨W, hWd⟩ : ∃ W : Nat, a % 4 + 1 = (W : Int) := ⟨(a % 4 + 1).toNat, by omega⟩
    obtain ⟨n, hnd⟩ : ∃ n : Nat, r % 5 + 1 = (n : Int) := ⟨(r % 5 + 1).toNat, by omega⟩
    have hW1 : 1 ≤ W := by omega
    have hW4 : W ≤ 4 := by omega
    have hn1 : 1 ≤ n := by omega
    have hn5 : n ≤ 5 := by omega
    have a40 : 0 ≤ a % 4 := by omega
    have a43 : a % 4 ≤ 3 := by omega
    have r50 : 0 ≤ r % 5 := by omega
    have r54 : r % 5 ≤ 4 := by omega
    obtain ⟨Q, hQd⟩ : ∃ Q : Nat, W * W = Q := ⟨_, rfl⟩
    have hQ : (W : Int) * (W : Int) = (Q : Int) := by rw [← hQd]; simp
    have hQ16 : Q ≤ 16 := by rw [← hQd]; exact Nat.mul_le_mul hW4 hW4
    have hQH := Lib.hid hQd
    clear hQd
    have hmk := make_ones 85 2 (.int .i64 0) 8 Try.underlying85 i64_info rfl (by decide) Q (by omega)
    go_enter Try.func4, Try.ntmps4
    go_wp2_with (go_at_call 8; refine (known_any _).mono ?_; rintro e w1 ⟨rfl, hb_⟩)
    have hb1 := Lib.hid hb_
    clear hb_
    refine (new_any W n _ hW1 (by omega) hn1 (by omega)).mono ?_
    rintro e w2 ⟨b, S, T, rfl, hI_, hb_⟩
    have h2 := Lib.hid hI_; have hb2 := Lib.hid (chainB hb1.out hb_ hb1.out.size); have hB2 := Lib.hid hb_.size
    obtain ⟨B, hBd⟩ : ∃ B, w1.heap.size = B := ⟨_, rfl⟩
    rw [hBd] at h2 hB2
    have hB0 := Lib.hid (show w0.heap.size ≤ B by rw [← hBd]; exact hb1.out.size)
    clear hI_ hb_ hb1 hBd
    go_wp2_with fail
    obtain ⟨w3, hw3, hb3_⟩ : ∃ w3, (w2.alloc (.cells (Array.replicate Q (.int .i64 0)) 2)).alloc (.cells (Array.replicate Q (.int .i64 0)) 2) = w3 ∧ Below w2.heap.size w2 w3 := ⟨_, rfl, by go_grown⟩
    have hSe := Lib.hid (show HasC w3 w2.heap.size (nums (List.replicate Q 0)) 2 by
      rw [← hw3]
      have := (HasC.new w2 (List.replicate Q (.int .i64 0)) 2).alloc (.cells (Array.replicate Q (.int .i64 0)) 2)
      simpa [nums] using this)
    have hTa := Lib.hid (show HasC w3 (w2.heap.size + 1) (nums (List.replicate Q 0)) 2 by
      rw [← hw3]
      have := has_at (w2.alloc (.cells (Array.replicate Q (.int .i64 0)) 2)) (w2.heap.size + 1) (List.replicate Q (.int .i64 0)) 2 (by simp)
      simpa [nums] using this)
    obtain ⟨Se, hSd⟩ : ∃ Se, Se = w2.heap.size := ⟨_, rfl⟩
    have hTd : w2.heap.size + 1 = Se + 1 := by rw [hSd]
    rw [← hSd] at hSe hTa
    have hB3 := Lib.hid (Nat.le_trans hB2.out hb3_.size)
    have hSB := Lib.hid (show B ≤ Se by rw [hSd]; exact hB2.out)
    have h3 := Lib.hid (h2.out.below hb3_)
    have hb3 := Lib.hid (chainB hb2.out hb3_ hb2.out.size)
    simp only [hw3]
    rw [← hSd]
    clear h2 hb2 hb3_ hw3 hmk hSd hTd hB2
    go_loopw [13] (fun i wr => RelMO w0 B b W n l.length Se (Se + 1) S i wr) (fun i _ => l.length - (Go.RowKit.intOf i).toNat)
    case atStart => exact ⟨0, _, _, _, rfl, Nat.zero_le _, h3.out, hSe.out, hTa.out, by rw [← hQH.out]; exact Counts.zero W T, hb3.out, hB3.out⟩
    case round =>
      unfold RelMO at hrel
      obtain ⟨k, st, sent, taken, rfl, hkl, hI_, hS_, hT_, hC_, hb_, hB_⟩ := hrel
      have hI := Lib.hid hI_; have hS := Lib.hid hS_; have hT := Lib.hid hT_; have hC := Lib.hid hC_; have hb := Lib.hid hb_; have hBw := Lib.hid hB_
      clear hI_ hS_ hT_ hC_ hb_ hB_ h3 hSe hTa hb3 hB3
      by_cases hk : k < l.length
      · obtain ⟨x, hx⟩ : ∃ x, l[k]? = some x := ⟨_, List.getElem?_eq_getElem hk⟩
        have hx16 := hlH.out k x hx
        obtain ⟨f, hfd⟩ : ∃ f : Nat, (x : Int) / 2 % (W : Int) = (f : Int) := ⟨((x : Int) / 2 % (W : Int)).toNat, by have := Int.emod_nonneg ((x : Int) / 2) (show (W : Int) ≠ 0 by omega); omega⟩
        obtain ⟨t, htd⟩ : ∃ t : Nat, (x : Int) / 16 % (W : Int) = (t : Int) := ⟨((x : Int) / 16 % (W : Int)).toNat, by have := Int.emod_nonneg ((x : Int) / 16) (show (W : Int) ≠ 0 by omega); omega⟩
        have hfW : f < W := by have := Int.emod_lt_of_pos ((x : Int) / 2) (show (0 : Int) < W by omega); omega
        have htW : t < W := by have := Int.emod_lt_of_pos ((x : Int) / 16) (show (0 : Int) < W by omega); omega
        obtain ⟨p, hpd⟩ : ∃ p : Nat, f * W = p := ⟨_, rfl⟩
        have hp16 : p ≤ 16 := by rw [← hpd]; exact Nat.mul_le_mul (show f ≤ 4 by omega) hW4
        have hpI : (f : Int) * (W : Int) = (p : Int) := by rw [← hpd]; simp
        obtain ⟨q, hqd⟩ : ∃ q : Nat, p + t = q := ⟨_, rfl⟩
        have hqI : (p : Int) + (t : Int) = (q : Int) := by omega
        have hq20 : q ≤ 20 := by omega
        obtain ⟨tk, sn, htk, hsn, hsk, hcnt⟩ := hC.out.2.2 f t hfW htW
        rw [hpd, hqd] at htk hsn
        have hqS : q < Q := by rw [← hQH.out, ← hqd, ← hpd]; exact place_lt hfW htW
        have hc_ := (hb.out.cell (p := ad.add k) (by rw [addr_add_block]; exact (hvH.out k x hx).1)).trans (hvH.out k x hx).2
        have hs_ := hS.out.cell q (nums_at hsn)
        have ht_ := hT.out.cell q (nums_at htk)
        have hpq := Lib.hid (show f * W + t = q by omega)
        have hsk_ := Lib.hid hsk; have hcH := Lib.hid hcnt; have htkH := Lib.hid htk; have hsnH := Lib.hid hsn
        clear hpd hqd hsk hcnt htk hsn hx
        by_cases hpar : x % 2 = 0
        · have hparb : (((x : Nat) : Int) % 2 == 0) = true := by simpa using (show ((x : Nat) : Int) % 2 = 0 by omega)
          clear hpar
          go_wp2_with fail
          refine (message_any _ _).mono ?_
          rintro e w4 ⟨u, rfl, hu_, hb_⟩
          have h4 := Lib.hid (hI.out.below hb_); have hS4 := Lib.hid (hS.out.below hb_); have hT4 := Lib.hid (hT.out.below hb_); have hb4 := Lib.hid (chainB hb.out hb_ hb.out.size); have hu4 := Lib.hid hu_; have hB4 := Lib.hid (Nat.le_trans hBw.out hb_.size)
          obtain ⟨A1, c1, rfl, -, -⟩ := hu_.form
          clear hu_ hb_ hI hS hT hb hBw hc_ hs_ ht_
          go_wp2_with fail
          have hlen_ := hcH.out.len
          have hle_ := hcH.out.1
          by_cases hfull : (st f t).q.length = n
          · have hw1 : IntKind.i64.wrap ((sn : Int) - (tk : Int)) = (sn : Int) - (tk : Int) := by have := hsk_.out; exact IntWalk.i64_in _ (by omega)
            have hlt : decide ((sn : Int) - (tk : Int) < (n : Int)) = false := by simp; omega
            clear hlen_ hle_
            refine (h4.out.sendFull hfW htW hfull _).mono ?_
            rintro e w5 ⟨rfl, hb_⟩
            have h5 := Lib.hid (h4.out.below hb_); have hS5 := Lib.hid (hS4.out.below hb_); have hT5 := Lib.hid (hT4.out.below hb_); have hb5 := Lib.hid (chainB hb4.out hb_ hb4.out.size); have hB5 := Lib.hid (Nat.le_trans hB4.out hb_.size)
            clear hb_ h4 hS4 hT4 hb4 hu4 hB4
            obtain ⟨sn', hsn'⟩ : ∃ y, y = sn := ⟨_, rfl⟩
            obtain ⟨tk', htk'⟩ : ∃ y, y = tk := ⟨_, rfl⟩
            have hsnE := Lib.hid (show sent[q]? = some sn' by rw [hsn']; exact hsnH.out)
            have htkE := Lib.hid (show taken[q]? = some tk' by rw [htk']; exact htkH.out)
            have hLE := Lib.hid (show (st f t).q.length = sn' - tk' by rw [hsn', htk']; exact hcH.out.len)
            have hbd1 : tk' ≤ sn' := by rw [hsn', htk']; exact hcH.out.1
            have hbd2 : sn' ≤ 1000 := by rw [hsn']; have := hsk_.out; omega
            clear hsn' htk'
            have hs_ := hS5.out.cell q (nums_at hsnH.out)
            have ht_ := hT5.out.cell q (nums_at htkH.out)
            go_wp2_with fail
            go_quiet (fail)
            go_wp2_with fail
            obtain ⟨w6, hw6⟩ : ∃ x, w5.drewN nq = x := ⟨_, rfl⟩
            have hd6 : Below w5.heap.size w5 w6 := by rw [← hw6]; exact ⟨rfl, rfl, rfl, Nat.le_refl _, fun _ _ => rfl⟩
            rw [hw6]
            clear hw6
            have h6 := Lib.hid (h5.out.below hd6); have hS6 := Lib.hid (hS5.out.below hd6); have hT6 := Lib.hid (hT5.out.below hd6); have hb6 := Lib.hid (chainB hb5.out hd6 hb5.out.size); have hB6 := Lib.hid (Nat.le_trans hB5.out hd6.size)
            clear hd6 hs_ ht_ h5 hS5 hT5 hb5 hB5
            have hLen := Lib.hid (fun w' (hw : Below w6.heap.size w6 w') => (h6.out.below hw).lenAt hfW htW ((sn' : Int) - (tk' : Int)) (by rw [hLE.out]; omega))
            have hs6_ := hS6.out.cell q (nums_at hsnE.out)
            have ht6_ := hT6.out.cell q (nums_at htkE.out)
            have hw6_ : IntKind.i64.wrap ((sn' : Int) - (tk' : Int)) = (sn' : Int) - (tk' : Int) := IntWalk.i64_in _ (by omega)
            refine wp_region_noPanic ?_
            refine wp_region_held_drew (S := (fun w' => w'.cell? ⟨Se, q, none⟩ = some (.int .i64 (sn' : Nat)) ∧ w'.cell? ⟨Se + 1, q, none⟩ = some (.int .i64 (tk' : Nat)))) (by kernel_rfl) (⟨hs6_, ht6_⟩) (fun hHeld => ?_)
            refine' wpAnyH_take (i := 0) (v := ?v0x1) ?hi0x1 ?hs0x1 ?hf0x1 ?hr0x1 ?hQ0x1 ?hy0x1 ?hS0x1 ?rest0x1
            case hi0x1 => (simp only [List.getElem?_toArray, List.getElem?_cons_succ, List.getElem?_cons_zero]; try rfl)
            case hs0x1 => kernel_rfl
            case hf0x1 => kernel_rfl
            case hr0x1 => kernel_rfl
            case hQ0x1 => exact fun _ _ _ h => h
            case hy0x1 => first | exact Or.inl ⟨by rfl, by (intro w hSw; (try dsimp only at hSw); go_simp; try rfl)⟩ | exact Or.inr ⟨by rfl, rfl⟩
            case hS0x1 => assumption
            (try simp only [Act.put, List.setIfInBounds_toArray, List.set_cons_zero, List.set_cons_succ])
            refine' wpAnyH_take (i := 1) (v := ?v1x2) ?hi1x2 ?hs1x2 ?hf1x2 ?hr1x2 ?hQ1x2 ?hy1x2 ?hS1x2 ?rest1x2
            case hi1x2 => (simp only [List.getElem?_toArray, List.getElem?_cons_succ, List.getElem?_cons_zero]; try rfl)
            case hs1x2 => kernel_rfl
            case hf1x2 => kernel_rfl
            case hr1x2 => kernel_rfl
            case hQ1x2 => exact fun _ _ _ h => h
            case hy1x2 => first | exact Or.inl ⟨by rfl, by (intro w hSw; (try dsimp only at hSw); go_simp; try rfl)⟩ | exact Or.inr ⟨by rfl, rfl⟩
            case hS1x2 => assumption
            (try simp only [Act.put, List.setIfInBounds_toArray, List.set_cons_zero, List.set_cons_succ])
            refine' wpAnyH_take (i := 2) (v := ?v2x3) ?hi2x3 ?hs2x3 ?hf2x3 ?hr2x3 ?hQ2x3 ?hy2x3 ?hS2x3 ?rest2x3
            case hi2x3 => (simp only [List.getElem?_toArray, List.getElem?_cons_succ, List.getElem?_cons_zero]; try rfl)
            case hs2x3 => kernel_rfl
            case hf2x3 => kernel_rfl
            case hr2x3 => kernel_rfl
            case hQ2x3 => exact fun _ _ _ h => h
            case hy2x3 => first | exact Or.inl ⟨by rfl, by (intro w hSw; (try dsimp only at hSw); go_simp; try rfl)⟩ | exact Or.inr ⟨by rfl, rfl⟩
            case hS2x3 => assumption
            (try simp only [Act.put, List.setIfInBounds_toArray, List.set_cons_zero, List.set_cons_succ])
            refine' wpAnyH_take (i := 4) (v := ?v4x4) ?hi4x4 ?hs4x4 ?hf4x4 ?hr4x4 ?hQ4x4 ?hy4x4 ?hS4x4 ?rest4x4
            case hi4x4 => (simp only [List.getElem?_toArray, List.getElem?_cons_succ, List.getElem?_cons_zero]; try rfl)
            case hs4x4 => kernel_rfl
            case hf4x4 => kernel_rfl
            case hr4x4 => kernel_rfl
            case hQ4x4 => exact fun _ _ _ h => h
            case hy4x4 => first | exact Or.inl ⟨by rfl, by (intro w hSw; (try dsimp only at hSw); go_simp; try rfl)⟩ | exact Or.inr ⟨by rfl, rfl⟩
            case hS4x4 => assumption
            (try simp only [Act.put, List.setIfInBounds_toArray, List.set_cons_zero, List.set_cons_succ])
            refine' wpAnyH_take (i := 5) (v := ?v5x5) ?hi5x5 ?hs5x5 ?hf5x5 ?hr5x5 ?hQ5x5 ?hy5x5 ?hS5x5 ?rest5x5
            case hi5x5 => (simp only [List.getElem?_toArray, List.getElem?_cons_succ, List.getElem?_cons_zero]; try rfl)
            case hs5x5 => kernel_rfl
            case hf5x5 => kernel_rfl
            case hr5x5 => kernel_rfl
            case hQ5x5 => exact fun _ _ _ h => h
            case hy5x5 => first | exact Or.inl ⟨by rfl, by (intro w hSw; (try dsimp only at hSw); go_simp; try rfl)⟩ | exact Or.inr ⟨by rfl, rfl⟩
            case hS5x5 => assumption
            (try simp only [Act.put, List.setIfInBounds_toArray, List.set_cons_zero, List.set_cons_succ])
            refine' wpAnyH_take (i := 6) (v := ?v6x6) ?hi6x6 ?hs6x6 ?hf6x6 ?hr6x6 ?hQ6x6 ?hy6x6 ?hS6x6 ?rest6x6
            case hi6x6 => (simp only [List.getElem?_toArray, List.getElem?_cons_succ, List.getElem?_cons_zero]; try rfl)
            case hs6x6 => kernel_rfl
            case hf6x6 => kernel_rfl
            case hr6x6 => kernel_rfl
            case hQ6x6 => exact fun _ _ _ h => h
            case hy6x6 => first | exact Or.inl ⟨by rfl, by (intro w hSw; (try dsimp only at hSw); go_simp; try rfl)⟩ | exact Or.inr ⟨by rfl, rfl⟩
            case hS6x6 => assumption
            (try simp only [Act.put, List.setIfInBounds_toArray, List.set_cons_zero, List.set_cons_succ])
            refine' wpAnyH_take (i := 7) (v := ?v7x7) ?hi7x7 ?hs7x7 ?hf7x7 ?hr7x7 ?hQ7x7 ?hy7x7 ?hS7x7 ?rest7x7
            case hi7x7 => (simp only [List.getElem?_toArray, List.getElem?_cons_succ, List.getElem?_cons_zero]; try rfl)
            case hs7x7 => kernel_rfl
            case hf7x7 => kernel_rfl
            case hr7x7 => kernel_rfl
            case hQ7x7 => exact fun _ _ _ h => h
            case hy7x7 => first | exact Or.inl ⟨by rfl, by (intro w hSw; (try dsimp only at hSw); go_simp; try rfl)⟩ | exact Or.inr ⟨by rfl, rfl⟩
            case hS7x7 => assumption
            (try simp only [Act.put, List.setIfInBounds_toArray, List.set_cons_zero, List.set_cons_succ])
            refine' wpAnyH_take (i := 8) (v := ?v8x8) ?hi8x8 ?hs8x8 ?hf8x8 ?hr8x8 ?hQ8x8 ?hy8x8 ?hS8x8 ?rest8x8
            case hi8x8 => (simp only [List.getElem?_toArray, List.getElem?_cons_succ, List.getElem?_cons_zero]; try rfl)
            case hs8x8 => kernel_rfl
            case hf8x8 => kernel_rfl
            case hr8x8 => kernel_rfl
            case hQ8x8 => exact fun _ _ _ h => h
            case hy8x8 => first | exact Or.inl ⟨by rfl, by (intro w hSw; (try dsimp only at hSw); go_simp; try rfl)⟩ | exact Or.inr ⟨by rfl, rfl⟩
            case hS8x8 => assumption
            (try simp only [Act.put, List.setIfInBounds_toArray, List.set_cons_zero, List.set_cons_succ])
            refine' wpAnyH_take (i := 9) (v := ?v9x9) ?hi9x9 ?hs9x9 ?hf9x9 ?hr9x9 ?hQ9x9 ?hy9x9 ?hS9x9 ?rest9x9
            case hi9x9 => (simp only [List.getElem?_toArray, List.getElem?_cons_succ, List.getElem?_cons_zero]; try rfl)
            case hs9x9 => kernel_rfl
            case hf9x9 => kernel_rfl
            case hr9x9 => kernel_rfl
            case hQ9x9 => exact fun _ _ _ h => h
            case hy9x9 => first | exact Or.inl ⟨by rfl, by (intro w hSw; (try dsimp only at hSw); go_simp; try rfl)⟩ | exact Or.inr ⟨by rfl, rfl⟩
            case hS9x9 => assumption
            (try simp only [Act.put, List.setIfInBounds_toArray, List.set_cons_zero, List.set_cons_succ])
            refine' wpAnyH_take (i := 10) (v := ?v10x10) ?hi10x10 ?hs10x10 ?hf10x10 ?hr10x10 ?hQ10x10 ?hy10x10 ?hS10x10 ?rest10x10
            case hi10x10 => (simp only [List.getElem?_toArray, List.getElem?_cons_succ, List.getElem?_cons_zero]; try rfl)
            case hs10x10 => kernel_rfl
            case hf10x10 => kernel_rfl
            case hr10x10 => kernel_rfl
            case hQ10x10 => exact fun _ _ _ h => h
            case hy10x10 => first | exact Or.inl ⟨by rfl, by (intro w hSw; (try dsimp only at hSw); go_simp; try rfl)⟩ | exact Or.inr ⟨by rfl, rfl⟩
            case hS10x10 => assumption
            (try simp only [Act.put, List.setIfInBounds_toArray, List.set_cons_zero, List.set_cons_succ])
            refine' wpAnyH_take (i := 11) (v := ?v11x11) ?hi11x11 ?hs11x11 ?hf11x11 ?hr11x11 ?hQ11x11 ?hy11x11 ?hS11x11 ?rest11x11
            case hi11x11 => (simp only [List.getElem?_toArray, List.getElem?_cons_succ, List.getElem?_cons_zero]; try rfl)
            case hs11x11 => kernel_rfl
            case hf11x11 => kernel_rfl
            case hr11x11 => kernel_rfl
            case hQ11x11 => exact fun _ _ _ h => h
            case hy11x11 => first | exact Or.inl ⟨by rfl, by (intro w hSw; (try dsimp only at hSw); go_simp; try rfl)⟩ | exact Or.inr ⟨by rfl, rfl⟩
            case hS11x11 => assumption
            (try simp only [Act.put, List.setIfInBounds_toArray, List.set_cons_zero, List.set_cons_succ])
            refine' wpAnyH_take (i := 12) (v := ?v12x12) ?hi12x12 ?hs12x12 ?hf12x12 ?hr12x12 ?hQ12x12 ?hy12x12 ?hS12x12 ?rest12x12
            case hi12x12 => (simp only [List.getElem?_toArray, List.getElem?_cons_succ, List.getElem?_cons_zero]; try rfl)
            case hs12x12 => kernel_rfl
            case hf12x12 => kernel_rfl
            case hr12x12 => kernel_rfl
            case hQ12x12 => exact fun _ _ _ h => h
            case hy12x12 => first | exact Or.inl ⟨by rfl, by (intro w hSw; (try dsimp only at hSw); go_simp; try rfl)⟩ | exact Or.inr ⟨by rfl, rfl⟩
            case hS12x12 => assumption
            (try simp only [Act.put, List.setIfInBounds_toArray, List.set_cons_zero, List.set_cons_succ])
            refine wpAnyH_ready (rs := [3]) (by kernel_rfl) (by simp) ?_
            refine' (AllReadyH.cons (i := 3) ?ho3x13 (fun K hK => ?st3x13) AllReadyH.nil)
            case ho3x13 => (simp only [List.getElem?_toArray, List.getElem?_cons_succ, List.getElem?_cons_zero]; try rfl)
            case st3x13 =>
              go_simp
              refine (hLen.out _ (Below.refl _ _).drew).mono ?_
              rintro e w7 ⟨rfl, rfl⟩
              refine hK.out _ _ ?_ (fun hHeld => ?_)
              · exact hHeld
              clear hK K
              (try simp only [Act.put, List.setIfInBounds_toArray, List.set_cons_zero, List.set_cons_succ])
              refine' wpAnyH_take (i := 13) (v := ?v13x14) ?hi13x14 ?hs13x14 ?hf13x14 ?hr13x14 ?hQ13x14 ?hy13x14 ?hS13x14 ?rest13x14
              case hi13x14 => (simp only [List.getElem?_toArray, List.getElem?_cons_succ, List.getElem?_cons_zero]; try rfl)
              case hs13x14 => kernel_rfl
              case hf13x14 => kernel_rfl
              case hr13x14 => kernel_rfl
              case hQ13x14 => exact fun _ _ _ h => h
              case hy13x14 => first | exact Or.inl ⟨by rfl, by (intro w hSw; (try dsimp only at hSw); go_simp; try rfl)⟩ | exact Or.inr ⟨by rfl, rfl⟩
              case hS13x14 => assumption
              (try simp only [Act.put, List.setIfInBounds_toArray, List.set_cons_zero, List.set_cons_succ])
              refine wpAnyH_done (by kernel_rfl) ?_ _
              refine NoPanic.normal ?_
              go_wp2_with fail
              go_roundw
              case rel => exact ⟨k + 1, _, _, _, by go_num, by omega, h6.out.below (Below.refl _ _).drew, hS6.out.drew, hT6.out.drew, hC.out.mono (Nat.le_succ _), hb6.out.drew, hB6.out⟩
              case measure => simp [Go.RowKit.intOf]; omega
          · have hw1 : IntKind.i64.wrap ((sn : Int) - (tk : Int)) = (sn : Int) - (tk : Int) := by have := hsk_.out; exact IntWalk.i64_in _ (by omega)
            have hqn : (st f t).q.length < n := by have := (h4.out.small f t hfW htW).2; omega
            have hlt : decide ((sn : Int) - (tk : Int) < (n : Int)) = true := by simp; omega
            have hsk1 : sn ≤ 500 := by have := hsk_.out; omega
            clear hlen_ hle_
            refine (h4.out.send hfW htW hqn _ sn hu4.out).mono ?_
            rintro e w5 ⟨rfl, hI_, ht_⟩
            have h5 := Lib.hid hI_; have hS5 := Lib.hid (h4.out.keeps hfW htW ht_ hS4.out (by decide) (by decide)); have hT5 := Lib.hid (h4.out.keeps hfW htW ht_ hT4.out (by decide) (by decide)); have hb5 := Lib.hid (hb4.out.trans (Below.mono (h4.out.low2 hfW htW ht_ hB4.out) hB0.out)); have hB5 := Lib.hid (Nat.le_trans hB4.out ht_.size)
            clear hI_ ht_ h4 hS4 hT4 hb4 hu4 hB4
            have hs_ := hS5.out.cell q (nums_at hsnH.out)
            have ht_ := hT5.out.cell q (nums_at htkH.out)
            go_wp2_with fail
            go_quiet (fail)
            obtain ⟨w7, hw_⟩ : ∃ x, w5.drewN nq = x := ⟨_, rfl⟩
            have hd_ : Below w5.heap.size w5 w7 := by rw [← hw_]; exact ⟨rfl, rfl, rfl, Nat.le_refl _, fun _ _ => rfl⟩
            simp only [hw_]
            have h7 := Lib.hid (h5.out.below hd_); have hS7 := Lib.hid (hS5.out.below hd_); have hT7 := Lib.hid (hT5.out.below hd_); have hb7 := Lib.hid (chainB hb5.out hd_ hb5.out.size); have hB7 := Lib.hid (Nat.le_trans hB5.out hd_.size)
            clear hd_ hw_ h5 hS5 hT5 hb5 hB5 hs_ ht_

            have hs_ := hS7.out.cell q (nums_at hsnH.out)
            have hsf_ := hS7.out.free q
            go_wp2_with fail
            clear hs_ hsf_
            obtain ⟨w8, hw_⟩ : ∃ x, w7.setCell ⟨Se, q, none⟩ (.int .i64 ((sn : Int) + 1)) = x := ⟨_, rfl⟩
            have h8 := Lib.hid (show BoxI w8 B b W n S _ by rw [← hw_]; exact h7.out.far hS7.out q (.int .i64 ((sn : Int) + 1)))
            have hS8 := Lib.hid (show HasC w8 (Se) (nums (sent.set q (sn + 1))) 2 by
              rw [← hw_, ← nums_set]
              exact hS7.out.set q (.int .i64 ((sn + 1 : Nat) : Int)))
            have hT8 := Lib.hid (show HasC w8 (Se + 1) _ 2 by rw [← hw_]; exact hT7.out.far (by simp) _)
            have hb8 := Lib.hid (show Below w0.heap.size w0 w8 by rw [← hw_]; exact hb7.out.setCell (by have := hSB.out; have := hB0.out; simp; omega) _)
            have hB8 := Lib.hid (show B ≤ w8.heap.size by rw [← hw_]; simpa using hB7.out)
            simp only [hw_]
            clear hw_ h7 hS7 hT7 hb7 hB7

            have hpos_ := Lib.hid (show True from trivial)
            obtain ⟨sn', hsn'⟩ : ∃ y, y = sn + 1 := ⟨_, rfl⟩
            obtain ⟨tk', htk'⟩ : ∃ y, y = tk := ⟨_, rfl⟩
            have hsnE := Lib.hid (show (sent.set q (sn + 1))[q]? = some sn' by rw [hsn']; exact List.getElem?_set_self (List.getElem?_eq_some_iff.1 hsnH.out).1)
            have htkE := Lib.hid (show taken[q]? = some tk' by rw [htk']; exact htkH.out)
            have hLE := Lib.hid (show (upd st f t ⟨(st f t).T, (st f t).f, (st f t).q ++ [(sn : Int)]⟩ f t).q.length = sn' - tk' by rw [hsn', htk']; rw [upd_same, List.length_append, hcH.out.len]; have := hcH.out.1; simp; omega)
            have hbd1 : tk' ≤ sn' := by rw [hsn', htk']; have := hcH.out.1; have := hpos_.out; omega
            have hbd2 : sn' ≤ 1000 := by rw [hsn']; have := hsk_.out; omega
            clear hsn' htk'

            have hLen := Lib.hid (fun w' (hw : Below w8.heap.size w8 w') => (h8.out.below hw).lenAt hfW htW ((sn' : Int) - (tk' : Int)) (by rw [hLE.out]; omega))
            have hs6_ := hS8.out.cell q (nums_at hsnE.out)
            have ht6_ := hT8.out.cell q (nums_at htkE.out)
            have hw6_ : IntKind.i64.wrap ((sn' : Int) - (tk' : Int)) = (sn' : Int) - (tk' : Int) := IntWalk.i64_in _ (by omega)
            refine wp_region_noPanic ?_
            refine wp_region_held_drew (S := (fun w' => w'.cell? ⟨Se, q, none⟩ = some (.int .i64 (sn' : Nat)) ∧ w'.cell? ⟨Se + 1, q, none⟩ = some (.int .i64 (tk' : Nat)))) (by kernel_rfl) (⟨hs6_, ht6_⟩) (fun hHeld => ?_)
            refine' wpAnyH_take (i := 0) (v := ?v0x15) ?hi0x15 ?hs0x15 ?hf0x15 ?hr0x15 ?hQ0x15 ?hy0x15 ?hS0x15 ?rest0x15
            case hi0x15 => (simp only [List.getElem?_toArray, List.getElem?_cons_succ, List.getElem?_cons_zero]; try rfl)
            case hs0x15 => kernel_rfl
            case hf0x15 => kernel_rfl
            case hr0x15 => kernel_rfl
            case hQ0x15 => exact fun _ _ _ h => h
            case hy0x15 => first | exact Or.inl ⟨by rfl, by (intro w hSw; (try dsimp only at hSw); go_simp; try rfl)⟩ | exact Or.inr ⟨by rfl, rfl⟩
            case hS0x15 => assumption
            (try simp only [Act.put, List.setIfInBounds_toArray, List.set_cons_zero, List.set_cons_succ])
            refine' wpAnyH_take (i := 1) (v := ?v1x16) ?hi1x16 ?hs1x16 ?hf1x16 ?hr1x16 ?hQ1x16 ?hy1x16 ?hS1x16 ?rest1x16
            case hi1x16 => (simp only [List.getElem?_toArray, List.getElem?_cons_succ, List.getElem?_cons_zero]; try rfl)
            case hs1x16 => kernel_rfl
            case hf1x16 => kernel_rfl
            case hr1x16 => kernel_rfl
            case hQ1x16 => exact fun _ _ _ h => h
            case hy1x16 => first | exact Or.inl ⟨by rfl, by (intro w hSw; (try dsimp only at hSw); go_simp; try rfl)⟩ | exact Or.inr ⟨by rfl, rfl⟩
            case hS1x16 => assumption
            (try simp only [Act.put, List.setIfInBounds_toArray, List.set_cons_zero, List.set_cons_succ])
            refine' wpAnyH_take (i := 2) (v := ?v2x17) ?hi2x17 ?hs2x17 ?hf2x17 ?hr2x17 ?hQ2x17 ?hy2x17 ?hS2x17 ?rest2x17
            case hi2x17 => (simp only [List.getElem?_toArray, List.getElem?_cons_succ, List.getElem?_cons_zero]; try rfl)
            case hs2x17 => kernel_rfl
            case hf2x17 => kernel_rfl
            case hr2x17 => kernel_rfl
            case hQ2x17 => exact fun _ _ _ h => h
            case hy2x17 => first | exact Or.inl ⟨by rfl, by (intro w hSw; (try dsimp only at hSw); go_simp; try rfl)⟩ | exact Or.inr ⟨by rfl, rfl⟩
            case hS2x17 => assumption
            (try simp only [Act.put, List.setIfInBounds_toArray, List.set_cons_zero, List.set_cons_succ])
            refine' wpAnyH_take (i := 4) (v := ?v4x18) ?hi4x18 ?hs4x18 ?hf4x18 ?hr4x18 ?hQ4x18 ?hy4x18 ?hS4x18 ?rest4x18
            case hi4x18 => (simp only [List.getElem?_toArray, List.getElem?_cons_succ, List.getElem?_cons_zero]; try rfl)
            case hs4x18 => kernel_rfl
            case hf4x18 => kernel_rfl
            case hr4x18 => kernel_rfl
            case hQ4x18 => exact fun _ _ _ h => h
            case hy4x18 => first | exact Or.inl ⟨by rfl, by (intro w hSw; (try dsimp only at hSw); go_simp; try rfl)⟩ | exact Or.inr ⟨by rfl, rfl⟩
            case hS4x18 => assumption
            (try simp only [Act.put, List.setIfInBounds_toArray, List.set_cons_zero, List.set_cons_succ])
            refine' wpAnyH_take (i := 5) (v := ?v5x19) ?hi5x19 ?hs5x19 ?hf5x19 ?hr5x19 ?hQ5x19 ?hy5x19 ?hS5x19 ?rest5x19
            case hi5x19 => (simp only [List.getElem?_toArray, List.getElem?_cons_succ, List.getElem?_cons_zero]; try rfl)
            case hs5x19 => kernel_rfl
            case hf5x19 => kernel_rfl
            case hr5x19 => kernel_rfl
            case hQ5x19 => exact fun _ _ _ h => h
            case hy5x19 => first | exact Or.inl ⟨by rfl, by (intro w hSw; (try dsimp only at hSw); go_simp; try rfl)⟩ | exact Or.inr ⟨by rfl, rfl⟩
            case hS5x19 => assumption
            (try simp only [Act.put, List.setIfInBounds_toArray, List.set_cons_zero, List.set_cons_succ])
            refine' wpAnyH_take (i := 6) (v := ?v6x20) ?hi6x20 ?hs6x20 ?hf6x20 ?hr6x20 ?hQ6x20 ?hy6x20 ?hS6x20 ?rest6x20
            case hi6x20 => (simp only [List.getElem?_toArray, List.getElem?_cons_succ, List.getElem?_cons_zero]; try rfl)
            case hs6x20 => kernel_rfl
            case hf6x20 => kernel_rfl
            case hr6x20 => kernel_rfl
            case hQ6x20 => exact fun _ _ _ h => h
            case hy6x20 => first | exact Or.inl ⟨by rfl, by (intro w hSw; (try dsimp only at hSw); go_simp; try rfl)⟩ | exact Or.inr ⟨by rfl, rfl⟩
            case hS6x20 => assumption
            (try simp only [Act.put, List.setIfInBounds_toArray, List.set_cons_zero, List.set_cons_succ])
            refine' wpAnyH_take (i := 7) (v := ?v7x21) ?hi7x21 ?hs7x21 ?hf7x21 ?hr7x21 ?hQ7x21 ?hy7x21 ?hS7x21 ?rest7x21
            case hi7x21 => (simp only [List.getElem?_toArray, List.getElem?_cons_succ, List.getElem?_cons_zero]; try rfl)
            case hs7x21 => kernel_rfl
            case hf7x21 => kernel_rfl
            case hr7x21 => kernel_rfl
            case hQ7x21 => exact fun _ _ _ h => h
            case hy7x21 => first | exact Or.inl ⟨by rfl, by (intro w hSw; (try dsimp only at hSw); go_simp; try rfl)⟩ | exact Or.inr ⟨by rfl, rfl⟩
            case hS7x21 => assumption
            (try simp only [Act.put, List.setIfInBounds_toArray, List.set_cons_zero, List.set_cons_succ])
            refine' wpAnyH_take (i := 8) (v := ?v8x22) ?hi8x22 ?hs8x22 ?hf8x22 ?hr8x22 ?hQ8x22 ?hy8x22 ?hS8x22 ?rest8x22
            case hi8x22 => (simp only [List.getElem?_toArray, List.getElem?_cons_succ, List.getElem?_cons_zero]; try rfl)
            case hs8x22 => kernel_rfl
            case hf8x22 => kernel_rfl
            case hr8x22 => kernel_rfl
            case hQ8x22 => exact fun _ _ _ h => h
            case hy8x22 => first | exact Or.inl ⟨by rfl, by (intro w hSw; (try dsimp only at hSw); go_simp; try rfl)⟩ | exact Or.inr ⟨by rfl, rfl⟩
            case hS8x22 => assumption
            (try simp only [Act.put, List.setIfInBounds_toArray, List.set_cons_zero, List.set_cons_succ])
            refine' wpAnyH_take (i := 9) (v := ?v9x23) ?hi9x23 ?hs9x23 ?hf9x23 ?hr9x23 ?hQ9x23 ?hy9x23 ?hS9x23 ?rest9x23
            case hi9x23 => (simp only [List.getElem?_toArray, List.getElem?_cons_succ, List.getElem?_cons_zero]; try rfl)
            case hs9x23 => kernel_rfl
            case hf9x23 => kernel_rfl
            case hr9x23 => kernel_rfl
            case hQ9x23 => exact fun _ _ _ h => h
            case hy9x23 => first | exact Or.inl ⟨by rfl, by (intro w hSw; (try dsimp only at hSw); go_simp; try rfl)⟩ | exact Or.inr ⟨by rfl, rfl⟩
            case hS9x23 => assumption
            (try simp only [Act.put, List.setIfInBounds_toArray, List.set_cons_zero, List.set_cons_succ])
            refine' wpAnyH_take (i := 10) (v := ?v10x24) ?hi10x24 ?hs10x24 ?hf10x24 ?hr10x24 ?hQ10x24 ?hy10x24 ?hS10x24 ?rest10x24
            case hi10x24 => (simp only [List.getElem?_toArray, List.getElem?_cons_succ, List.getElem?_cons_zero]; try rfl)
            case hs10x24 => kernel_rfl
            case hf10x24 => kernel_rfl
            case hr10x24 => kernel_rfl
            case hQ10x24 => exact fun _ _ _ h => h
            case hy10x24 => first | exact Or.inl ⟨by rfl, by (intro w hSw; (try dsimp only at hSw); go_simp; try rfl)⟩ | exact Or.inr ⟨by rfl, rfl⟩
            case hS10x24 => assumption
            (try simp only [Act.put, List.setIfInBounds_toArray, List.set_cons_zero, List.set_cons_succ])
            refine' wpAnyH_take (i := 11) (v := ?v11x25) ?hi11x25 ?hs11x25 ?hf11x25 ?hr11x25 ?hQ11x25 ?hy11x25 ?hS11x25 ?rest11x25
            case hi11x25 => (simp only [List.getElem?_toArray, List.getElem?_cons_succ, List.getElem?_cons_zero]; try rfl)
            case hs11x25 => kernel_rfl
            case hf11x25 => kernel_rfl
            case hr11x25 => kernel_rfl
            case hQ11x25 => exact fun _ _ _ h => h
            case hy11x25 => first | exact Or.inl ⟨by rfl, by (intro w hSw; (try dsimp only at hSw); go_simp; try rfl)⟩ | exact Or.inr ⟨by rfl, rfl⟩
            case hS11x25 => assumption
            (try simp only [Act.put, List.setIfInBounds_toArray, List.set_cons_zero, List.set_cons_succ])
            refine' wpAnyH_take (i := 12) (v := ?v12x26) ?hi12x26 ?hs12x26 ?hf12x26 ?hr12x26 ?hQ12x26 ?hy12x26 ?hS12x26 ?rest12x26
            case hi12x26 => (simp only [List.getElem?_toArray, List.getElem?_cons_succ, List.getElem?_cons_zero]; try rfl)
            case hs12x26 => kernel_rfl
            case hf12x26 => kernel_rfl
            case hr12x26 => kernel_rfl
            case hQ12x26 => exact fun _ _ _ h => h
            case hy12x26 => first | exact Or.inl ⟨by rfl, by (intro w hSw; (try dsimp only at hSw); go_simp; try rfl)⟩ | exact Or.inr ⟨by rfl, rfl⟩
            case hS12x26 => assumption
            (try simp only [Act.put, List.setIfInBounds_toArray, List.set_cons_zero, List.set_cons_succ])
            refine wpAnyH_ready (rs := [3]) (by kernel_rfl) (by simp) ?_
            refine' (AllReadyH.cons (i := 3) ?ho3x27 (fun K hK => ?st3x27) AllReadyH.nil)
            case ho3x27 => (simp only [List.getElem?_toArray, List.getElem?_cons_succ, List.getElem?_cons_zero]; try rfl)
            case st3x27 =>
              go_simp
              refine (hLen.out _ (Below.refl _ _).drew).mono ?_
              rintro e w7 ⟨rfl, rfl⟩
              refine hK.out _ _ ?_ (fun hHeld => ?_)
              · exact hHeld
              clear hK K
              (try simp only [Act.put, List.setIfInBounds_toArray, List.set_cons_zero, List.set_cons_succ])
              refine' wpAnyH_take (i := 13) (v := ?v13x28) ?hi13x28 ?hs13x28 ?hf13x28 ?hr13x28 ?hQ13x28 ?hy13x28 ?hS13x28 ?rest13x28
              case hi13x28 => (simp only [List.getElem?_toArray, List.getElem?_cons_succ, List.getElem?_cons_zero]; try rfl)
              case hs13x28 => kernel_rfl
              case hf13x28 => kernel_rfl
              case hr13x28 => kernel_rfl
              case hQ13x28 => exact fun _ _ _ h => h
              case hy13x28 => first | exact Or.inl ⟨by rfl, by (intro w hSw; (try dsimp only at hSw); go_simp; try rfl)⟩ | exact Or.inr ⟨by rfl, rfl⟩
              case hS13x28 => assumption
              (try simp only [Act.put, List.setIfInBounds_toArray, List.set_cons_zero, List.set_cons_succ])
              refine wpAnyH_done (by kernel_rfl) ?_ _
              refine NoPanic.normal ?_
              go_wp2_with fail
              go_roundw
              case rel => exact ⟨k + 1, _, _, _, by go_num, by omega, h8.out.below (Below.refl _ _).drew, hS8.out.drew, hT8.out.drew, (by have h := hC.out.push hfW htW (by rw [hpq.out]; exact htkH.out) (by rw [hpq.out]; exact hsnH.out) hcH.out hsk_.out; rw [hpq.out] at h; exact h), hb8.out.drew, hB8.out⟩
              case measure => simp [Go.RowKit.intOf]; omega

        · have hparb : (((x : Nat) : Int) % 2 == 0) = false := by simpa using (show ¬ ((x : Nat) : Int) % 2 = 0 by omega)
          clear hpar
          have hw1 : IntKind.i64.wrap ((sn : Int) - (tk : Int)) = (sn : Int) - (tk : Int) := by have := hsk_.out; exact IntWalk.i64_in _ (by have := hcH.out.1; omega)
          have hsk1 : sn ≤ 500 := by have := hsk_.out; omega
          have hle_ := hcH.out.1
          have h4 := Lib.hid hI.out; have hS4 := Lib.hid hS.out; have hT4 := Lib.hid hT.out; have hb4 := Lib.hid hb.out; have hB4 := Lib.hid hBw.out
          clear hI hS hT hb hBw
          go_wp2_with fail
          clear hc_ hs_ ht_
          rcases hqq : (st f t).q with _ | ⟨z, q'⟩
          · have hlt : decide ((tk : Int) < (sn : Int)) = false := by
              have h := hcH.out
              rw [hqq] at h
              have := h.nil
              simp
              omega
            have hle2 : sn ≤ tk := by
              have h := hcH.out
              rw [hqq] at h
              exact Nat.le_of_eq h.nil.symm
            refine (h4.out.takeNone hfW htW hqq).mono ?_
            rintro e w5 ⟨rfl, hb_⟩
            have h5 := Lib.hid (h4.out.below hb_); have hS5 := Lib.hid (hS4.out.below hb_); have hT5 := Lib.hid (hT4.out.below hb_); have hb5 := Lib.hid (chainB hb4.out hb_ hb4.out.size); have hB5 := Lib.hid (Nat.le_trans hB4.out hb_.size)
            have hqH := Lib.hid hqq
            clear hb_ h4 hS4 hT4 hb4 hB4 hqq
            go_wp2_with fail
            obtain ⟨w7, hw_⟩ : ∃ x, w5.alloc (.cells #[.int .i64 0, .bool false, .int .i64 0, .int .u64 0, .slice none 0 0, .slice none 0 0, .slice none 0 0] 31) = x := ⟨_, rfl⟩
            have hd_ : Below w5.heap.size w5 w7 := by rw [← hw_]; go_grown
            simp only [hw_]
            have h7 := Lib.hid (h5.out.below hd_); have hS7 := Lib.hid (hS5.out.below hd_); have hT7 := Lib.hid (hT5.out.below hd_); have hb7 := Lib.hid (chainB hb5.out hd_ hb5.out.size); have hB7 := Lib.hid (Nat.le_trans hB5.out hd_.size)
            clear hd_ hw_ h5 hS5 hT5 hb5 hB5 

            have hs_ := hS7.out.cell q (nums_at hsnH.out)
            have ht_ := hT7.out.cell q (nums_at htkH.out)
            refine wp_region_noPanic ?_
            refine wp_region_held_drew (S := (fun w' => w'.cell? ⟨Se, q, none⟩ = some (.int .i64 (sn : Nat)) ∧ w'.cell? ⟨Se + 1, q, none⟩ = some (.int .i64 (tk : Nat)))) (by kernel_rfl) (⟨hs_, ht_⟩) (fun hHeld => ?_)
            refine' wpAnyH_take (i := 0) (v := ?v0x29) ?hi0x29 ?hs0x29 ?hf0x29 ?hr0x29 ?hQ0x29 ?hy0x29 ?hS0x29 ?rest0x29
            case hi0x29 => (simp only [List.getElem?_toArray, List.getElem?_cons_succ, List.getElem?_cons_zero]; try rfl)
            case hs0x29 => kernel_rfl
            case hf0x29 => kernel_rfl
            case hr0x29 => kernel_rfl
            case hQ0x29 => exact fun _ _ _ h => h
            case hy0x29 => first | exact Or.inl ⟨by rfl, by (intro w hSw; (try dsimp only at hSw); go_simp; try rfl)⟩ | exact Or.inr ⟨by rfl, rfl⟩
            case hS0x29 => assumption
            (try simp only [Act.put, List.setIfInBounds_toArray, List.set_cons_zero, List.set_cons_succ])
            refine' wpAnyH_take (i := 1) (v := (.bool false)) ?hi1x30 ?hs1x30 ?hf1x30 ?hr1x30 ?hQ1x30 ?hy1x30 ?hS1x30 ?rest1x30
            case hi1x30 => (simp only [List.getElem?_toArray, List.getElem?_cons_succ, List.getElem?_cons_zero]; try rfl)
            case hs1x30 => kernel_rfl
            case hf1x30 => kernel_rfl
            case hr1x30 => kernel_rfl
            case hQ1x30 => exact fun _ _ _ h => h
            case hy1x30 => first | exact Or.inl ⟨by rfl, by (intro w hSw; (try dsimp only at hSw); go_simp; try rfl)⟩ | exact Or.inr ⟨by rfl, rfl⟩
            case hS1x30 => assumption
            (try simp only [Act.put, List.setIfInBounds_toArray, List.set_cons_zero, List.set_cons_succ])
            refine' wpAnyH_take (i := 2) (v := ?v2x31) ?hi2x31 ?hs2x31 ?hf2x31 ?hr2x31 ?hQ2x31 ?hy2x31 ?hS2x31 ?rest2x31
            case hi2x31 => (simp only [List.getElem?_toArray, List.getElem?_cons_succ, List.getElem?_cons_zero]; try rfl)
            case hs2x31 => kernel_rfl
            case hf2x31 => kernel_rfl
            case hr2x31 => kernel_rfl
            case hQ2x31 => exact fun _ _ _ h => h
            case hy2x31 => first | exact Or.inl ⟨by rfl, by (intro w hSw; (try dsimp only at hSw); go_simp; try rfl)⟩ | exact Or.inr ⟨by rfl, rfl⟩
            case hS2x31 => assumption
            (try simp only [Act.put, List.setIfInBounds_toArray, List.set_cons_zero, List.set_cons_succ])
            refine' wpAnyH_take (i := 3) (v := ?v3x32) ?hi3x32 ?hs3x32 ?hf3x32 ?hr3x32 ?hQ3x32 ?hy3x32 ?hS3x32 ?rest3x32
            case hi3x32 => (simp only [List.getElem?_toArray, List.getElem?_cons_succ, List.getElem?_cons_zero]; try rfl)
            case hs3x32 => kernel_rfl
            case hf3x32 => kernel_rfl
            case hr3x32 => kernel_rfl
            case hQ3x32 => exact fun _ _ _ h => h
            case hy3x32 => first | exact Or.inl ⟨by rfl, by (intro w hSw; (try dsimp only at hSw); go_simp; try rfl)⟩ | exact Or.inr ⟨by rfl, rfl⟩
            case hS3x32 => assumption
            (try simp only [Act.put, List.setIfInBounds_toArray, List.set_cons_zero, List.set_cons_succ])
            refine' wpAnyH_take (i := 4) (v := ?v4x33) ?hi4x33 ?hs4x33 ?hf4x33 ?hr4x33 ?hQ4x33 ?hy4x33 ?hS4x33 ?rest4x33
            case hi4x33 => (simp only [List.getElem?_toArray, List.getElem?_cons_succ, List.getElem?_cons_zero]; try rfl)
            case hs4x33 => kernel_rfl
            case hf4x33 => kernel_rfl
            case hr4x33 => kernel_rfl
            case hQ4x33 => exact fun _ _ _ h => h
            case hy4x33 => first | exact Or.inl ⟨by rfl, by (intro w hSw; (try dsimp only at hSw); go_simp; try rfl)⟩ | exact Or.inr ⟨by rfl, rfl⟩
            case hS4x33 => assumption
            (try simp only [Act.put, List.setIfInBounds_toArray, List.set_cons_zero, List.set_cons_succ])
            refine' wpAnyH_take (i := 5) (v := ?v5x34) ?hi5x34 ?hs5x34 ?hf5x34 ?hr5x34 ?hQ5x34 ?hy5x34 ?hS5x34 ?rest5x34
            case hi5x34 => (simp only [List.getElem?_toArray, List.getElem?_cons_succ, List.getElem?_cons_zero]; try rfl)
            case hs5x34 => kernel_rfl
            case hf5x34 => kernel_rfl
            case hr5x34 => kernel_rfl
            case hQ5x34 => exact fun _ _ _ h => h
            case hy5x34 => first | exact Or.inl ⟨by rfl, by (intro w hSw; (try dsimp only at hSw); go_simp; try rfl)⟩ | exact Or.inr ⟨by rfl, rfl⟩
            case hS5x34 => assumption
            (try simp only [Act.put, List.setIfInBounds_toArray, List.set_cons_zero, List.set_cons_succ])
            refine' wpAnyH_take (i := 6) (v := ?v6x35) ?hi6x35 ?hs6x35 ?hf6x35 ?hr6x35 ?hQ6x35 ?hy6x35 ?hS6x35 ?rest6x35
            case hi6x35 => (simp only [List.getElem?_toArray, List.getElem?_cons_succ, List.getElem?_cons_zero]; try rfl)
            case hs6x35 => kernel_rfl
            case hf6x35 => kernel_rfl
            case hr6x35 => kernel_rfl
            case hQ6x35 => exact fun _ _ _ h => h
            case hy6x35 => first | exact Or.inl ⟨by rfl, by (intro w hSw; (try dsimp only at hSw); go_simp; try rfl)⟩ | exact Or.inr ⟨by rfl, rfl⟩
            case hS6x35 => assumption
            (try simp only [Act.put, List.setIfInBounds_toArray, List.set_cons_zero, List.set_cons_succ])
            refine' wpAnyH_take (i := 7) (v := ?v7x36) ?hi7x36 ?hs7x36 ?hf7x36 ?hr7x36 ?hQ7x36 ?hy7x36 ?hS7x36 ?rest7x36
            case hi7x36 => (simp only [List.getElem?_toArray, List.getElem?_cons_succ, List.getElem?_cons_zero]; try rfl)
            case hs7x36 => kernel_rfl
            case hf7x36 => kernel_rfl
            case hr7x36 => kernel_rfl
            case hQ7x36 => exact fun _ _ _ h => h
            case hy7x36 => first | exact Or.inl ⟨by rfl, by (intro w hSw; (try dsimp only at hSw); go_simp; try rfl)⟩ | exact Or.inr ⟨by rfl, rfl⟩
            case hS7x36 => assumption
            (try simp only [Act.put, List.setIfInBounds_toArray, List.set_cons_zero, List.set_cons_succ])
            refine' wpAnyH_take (i := 8) (v := ?v8x37) ?hi8x37 ?hs8x37 ?hf8x37 ?hr8x37 ?hQ8x37 ?hy8x37 ?hS8x37 ?rest8x37
            case hi8x37 => (simp only [List.getElem?_toArray, List.getElem?_cons_succ, List.getElem?_cons_zero]; try rfl)
            case hs8x37 => kernel_rfl
            case hf8x37 => kernel_rfl
            case hr8x37 => kernel_rfl
            case hQ8x37 => exact fun _ _ _ h => h
            case hy8x37 => first | exact Or.inl ⟨by rfl, by (intro w hSw; (try dsimp only at hSw); go_simp; try rfl)⟩ | exact Or.inr ⟨by rfl, rfl⟩
            case hS8x37 => assumption
            (try simp only [Act.put, List.setIfInBounds_toArray, List.set_cons_zero, List.set_cons_succ])
            refine' wpAnyH_take (i := 9) (v := ?v9x38) ?hi9x38 ?hs9x38 ?hf9x38 ?hr9x38 ?hQ9x38 ?hy9x38 ?hS9x38 ?rest9x38
            case hi9x38 => (simp only [List.getElem?_toArray, List.getElem?_cons_succ, List.getElem?_cons_zero]; try rfl)
            case hs9x38 => kernel_rfl
            case hf9x38 => kernel_rfl
            case hr9x38 => kernel_rfl
            case hQ9x38 => exact fun _ _ _ h => h
            case hy9x38 => first | exact Or.inl ⟨by rfl, by (intro w hSw; (try dsimp only at hSw); go_simp; try rfl)⟩ | exact Or.inr ⟨by rfl, rfl⟩
            case hS9x38 => assumption
            (try simp only [Act.put, List.setIfInBounds_toArray, List.set_cons_zero, List.set_cons_succ])
            refine' wpAnyH_take (i := 10) (v := (.bool false)) ?hi10x39 ?hs10x39 ?hf10x39 ?hr10x39 ?hQ10x39 ?hy10x39 ?hS10x39 ?rest10x39
            case hi10x39 => (simp only [List.getElem?_toArray, List.getElem?_cons_succ, List.getElem?_cons_zero]; try rfl)
            case hs10x39 => kernel_rfl
            case hf10x39 => kernel_rfl
            case hr10x39 => kernel_rfl
            case hQ10x39 => exact fun _ _ _ h => h
            case hy10x39 => first | exact Or.inl ⟨by rfl, by (intro w hSw; (try dsimp only at hSw); go_simp; try rfl)⟩ | exact Or.inr ⟨by rfl, rfl⟩
            case hS10x39 => assumption
            (try simp only [Act.put, List.setIfInBounds_toArray, List.set_cons_zero, List.set_cons_succ])
            refine' wpAnyH_take (i := 11) (v := (.bool false)) ?hi11x40 ?hs11x40 ?hf11x40 ?hr11x40 ?hQ11x40 ?hy11x40 ?hS11x40 ?rest11x40
            case hi11x40 => (simp only [List.getElem?_toArray, List.getElem?_cons_succ, List.getElem?_cons_zero]; try rfl)
            case hs11x40 => kernel_rfl
            case hf11x40 => kernel_rfl
            case hr11x40 => kernel_rfl
            case hQ11x40 => exact fun _ _ _ h => h
            case hy11x40 => first | exact Or.inl ⟨by rfl, by (intro w hSw; (try dsimp only at hSw); go_simp; try rfl)⟩ | exact Or.inr ⟨by rfl, rfl⟩
            case hS11x40 => assumption
            (try simp only [Act.put, List.setIfInBounds_toArray, List.set_cons_zero, List.set_cons_succ])
            refine' wpAnyH_take (i := 12) (v := ?v12x41) ?hi12x41 ?hs12x41 ?hf12x41 ?hr12x41 ?hQ12x41 ?hy12x41 ?hS12x41 ?rest12x41
            case hi12x41 => (simp only [List.getElem?_toArray, List.getElem?_cons_succ, List.getElem?_cons_zero]; try rfl)
            case hs12x41 => kernel_rfl
            case hf12x41 => kernel_rfl
            case hr12x41 => kernel_rfl
            case hQ12x41 => exact fun _ _ _ h => h
            case hy12x41 => first | exact Or.inl ⟨by rfl, by (intro w hSw; (try dsimp only at hSw); go_simp; try rfl)⟩ | exact Or.inr ⟨by rfl, rfl⟩
            case hS12x41 => assumption
            (try simp only [Act.put, List.setIfInBounds_toArray, List.set_cons_zero, List.set_cons_succ])
            refine' wpAnyH_take (i := 13) (v := ?v13x42) ?hi13x42 ?hs13x42 ?hf13x42 ?hr13x42 ?hQ13x42 ?hy13x42 ?hS13x42 ?rest13x42
            case hi13x42 => (simp only [List.getElem?_toArray, List.getElem?_cons_succ, List.getElem?_cons_zero]; try rfl)
            case hs13x42 => kernel_rfl
            case hf13x42 => kernel_rfl
            case hr13x42 => kernel_rfl
            case hQ13x42 => exact fun _ _ _ h => h
            case hy13x42 => first | exact Or.inl ⟨by rfl, by (intro w hSw; (try dsimp only at hSw); go_simp; try rfl)⟩ | exact Or.inr ⟨by rfl, rfl⟩
            case hS13x42 => assumption
            (try simp only [Act.put, List.setIfInBounds_toArray, List.set_cons_zero, List.set_cons_succ])
            refine' wpAnyH_take (i := 14) (v := (.bool false)) ?hi14x43 ?hs14x43 ?hf14x43 ?hr14x43 ?hQ14x43 ?hy14x43 ?hS14x43 ?rest14x43
            case hi14x43 => (simp only [List.getElem?_toArray, List.getElem?_cons_succ, List.getElem?_cons_zero]; try rfl)
            case hs14x43 => kernel_rfl
            case hf14x43 => kernel_rfl
            case hr14x43 => kernel_rfl
            case hQ14x43 => exact fun _ _ _ h => h
            case hy14x43 => first | exact Or.inl ⟨by rfl, by (intro w hSw; (try dsimp only at hSw); go_simp; try rfl)⟩ | exact Or.inr ⟨by rfl, rfl⟩
            case hS14x43 => assumption
            (try simp only [Act.put, List.setIfInBounds_toArray, List.set_cons_zero, List.set_cons_succ])
            refine' wpAnyH_take (i := 15) (v := ?v15x44) ?hi15x44 ?hs15x44 ?hf15x44 ?hr15x44 ?hQ15x44 ?hy15x44 ?hS15x44 ?rest15x44
            case hi15x44 => (simp only [List.getElem?_toArray, List.getElem?_cons_succ, List.getElem?_cons_zero]; try rfl)
            case hs15x44 => kernel_rfl
            case hf15x44 => kernel_rfl
            case hr15x44 => kernel_rfl
            case hQ15x44 => exact fun _ _ _ h => h
            case hy15x44 => first | exact Or.inl ⟨by rfl, by (intro w hSw; (try dsimp only at hSw); go_simp; try rfl)⟩ | exact Or.inr ⟨by rfl, rfl⟩
            case hS15x44 => assumption
            (try simp only [Act.put, List.setIfInBounds_toArray, List.set_cons_zero, List.set_cons_succ])
            refine' wpAnyH_take (i := 16) (v := undef) ?hi16x45 ?hs16x45 ?hf16x45 ?hr16x45 ?hQ16x45 ?hy16x45 ?hS16x45 ?rest16x45
            case hi16x45 => (simp only [List.getElem?_toArray, List.getElem?_cons_succ, List.getElem?_cons_zero]; try rfl)
            case hs16x45 => kernel_rfl
            case hf16x45 => kernel_rfl
            case hr16x45 => kernel_rfl
            case hQ16x45 => exact fun _ _ _ h => h
            case hy16x45 => first | exact Or.inl ⟨by rfl, by (intro w hSw; (try dsimp only at hSw); go_simp; try rfl)⟩ | exact Or.inr ⟨by rfl, rfl⟩
            case hS16x45 => assumption
            (try simp only [Act.put, List.setIfInBounds_toArray, List.set_cons_zero, List.set_cons_succ])
            refine' wpAnyH_take (i := 17) (v := undef) ?hi17x46 ?hs17x46 ?hf17x46 ?hr17x46 ?hQ17x46 ?hy17x46 ?hS17x46 ?rest17x46
            case hi17x46 => (simp only [List.getElem?_toArray, List.getElem?_cons_succ, List.getElem?_cons_zero]; try rfl)
            case hs17x46 => kernel_rfl
            case hf17x46 => kernel_rfl
            case hr17x46 => kernel_rfl
            case hQ17x46 => exact fun _ _ _ h => h
            case hy17x46 => first | exact Or.inl ⟨by rfl, by (intro w hSw; (try dsimp only at hSw); go_simp; try rfl)⟩ | exact Or.inr ⟨by rfl, rfl⟩
            case hS17x46 => assumption
            (try simp only [Act.put, List.setIfInBounds_toArray, List.set_cons_zero, List.set_cons_succ])
            refine' wpAnyH_take (i := 18) (v := undef) ?hi18x47 ?hs18x47 ?hf18x47 ?hr18x47 ?hQ18x47 ?hy18x47 ?hS18x47 ?rest18x47
            case hi18x47 => (simp only [List.getElem?_toArray, List.getElem?_cons_succ, List.getElem?_cons_zero]; try rfl)
            case hs18x47 => kernel_rfl
            case hf18x47 => kernel_rfl
            case hr18x47 => kernel_rfl
            case hQ18x47 => exact fun _ _ _ h => h
            case hy18x47 => first | exact Or.inl ⟨by rfl, by (intro w hSw; (try dsimp only at hSw); go_simp; try rfl)⟩ | exact Or.inr ⟨by rfl, rfl⟩
            case hS18x47 => assumption
            (try simp only [Act.put, List.setIfInBounds_toArray, List.set_cons_zero, List.set_cons_succ])
            refine' wpAnyH_take (i := 19) (v := undef) ?hi19x48 ?hs19x48 ?hf19x48 ?hr19x48 ?hQ19x48 ?hy19x48 ?hS19x48 ?rest19x48
            case hi19x48 => (simp only [List.getElem?_toArray, List.getElem?_cons_succ, List.getElem?_cons_zero]; try rfl)
            case hs19x48 => kernel_rfl
            case hf19x48 => kernel_rfl
            case hr19x48 => kernel_rfl
            case hQ19x48 => exact fun _ _ _ h => h
            case hy19x48 => first | exact Or.inl ⟨by rfl, by (intro w hSw; (try dsimp only at hSw); go_simp; try rfl)⟩ | exact Or.inr ⟨by rfl, rfl⟩
            case hS19x48 => assumption
            (try simp only [Act.put, List.setIfInBounds_toArray, List.set_cons_zero, List.set_cons_succ])
            refine' wpAnyH_take (i := 20) (v := undef) ?hi20x49 ?hs20x49 ?hf20x49 ?hr20x49 ?hQ20x49 ?hy20x49 ?hS20x49 ?rest20x49
            case hi20x49 => (simp only [List.getElem?_toArray, List.getElem?_cons_succ, List.getElem?_cons_zero]; try rfl)
            case hs20x49 => kernel_rfl
            case hf20x49 => kernel_rfl
            case hr20x49 => kernel_rfl
            case hQ20x49 => exact fun _ _ _ h => h
            case hy20x49 => first | exact Or.inl ⟨by rfl, by (intro w hSw; (try dsimp only at hSw); go_simp; try rfl)⟩ | exact Or.inr ⟨by rfl, rfl⟩
            case hS20x49 => assumption
            (try simp only [Act.put, List.setIfInBounds_toArray, List.set_cons_zero, List.set_cons_succ])
            refine' wpAnyH_take (i := 21) (v := undef) ?hi21x50 ?hs21x50 ?hf21x50 ?hr21x50 ?hQ21x50 ?hy21x50 ?hS21x50 ?rest21x50
            case hi21x50 => (simp only [List.getElem?_toArray, List.getElem?_cons_succ, List.getElem?_cons_zero]; try rfl)
            case hs21x50 => kernel_rfl
            case hf21x50 => kernel_rfl
            case hr21x50 => kernel_rfl
            case hQ21x50 => exact fun _ _ _ h => h
            case hy21x50 => first | exact Or.inl ⟨by rfl, by (intro w hSw; (try dsimp only at hSw); go_simp; try rfl)⟩ | exact Or.inr ⟨by rfl, rfl⟩
            case hS21x50 => assumption
            (try simp only [Act.put, List.setIfInBounds_toArray, List.set_cons_zero, List.set_cons_succ])
            refine' wpAnyH_take (i := 22) (v := undef) ?hi22x51 ?hs22x51 ?hf22x51 ?hr22x51 ?hQ22x51 ?hy22x51 ?hS22x51 ?rest22x51
            case hi22x51 => (simp only [List.getElem?_toArray, List.getElem?_cons_succ, List.getElem?_cons_zero]; try rfl)
            case hs22x51 => kernel_rfl
            case hf22x51 => kernel_rfl
            case hr22x51 => kernel_rfl
            case hQ22x51 => exact fun _ _ _ h => h
            case hy22x51 => first | exact Or.inl ⟨by rfl, by (intro w hSw; (try dsimp only at hSw); go_simp; try rfl)⟩ | exact Or.inr ⟨by rfl, rfl⟩
            case hS22x51 => assumption
            (try simp only [Act.put, List.setIfInBounds_toArray, List.set_cons_zero, List.set_cons_succ])
            refine' wpAnyH_take (i := 23) (v := undef) ?hi23x52 ?hs23x52 ?hf23x52 ?hr23x52 ?hQ23x52 ?hy23x52 ?hS23x52 ?rest23x52
            case hi23x52 => (simp only [List.getElem?_toArray, List.getElem?_cons_succ, List.getElem?_cons_zero]; try rfl)
            case hs23x52 => kernel_rfl
            case hf23x52 => kernel_rfl
            case hr23x52 => kernel_rfl
            case hQ23x52 => exact fun _ _ _ h => h
            case hy23x52 => first | exact Or.inl ⟨by rfl, by (intro w hSw; (try dsimp only at hSw); go_simp; try rfl)⟩ | exact Or.inr ⟨by rfl, rfl⟩
            case hS23x52 => assumption
            (try simp only [Act.put, List.setIfInBounds_toArray, List.set_cons_zero, List.set_cons_succ])
            refine' wpAnyH_take (i := 24) (v := undef) ?hi24x53 ?hs24x53 ?hf24x53 ?hr24x53 ?hQ24x53 ?hy24x53 ?hS24x53 ?rest24x53
            case hi24x53 => (simp only [List.getElem?_toArray, List.getElem?_cons_succ, List.getElem?_cons_zero]; try rfl)
            case hs24x53 => kernel_rfl
            case hf24x53 => kernel_rfl
            case hr24x53 => kernel_rfl
            case hQ24x53 => exact fun _ _ _ h => h
            case hy24x53 => first | exact Or.inl ⟨by rfl, by (intro w hSw; (try dsimp only at hSw); go_simp; try rfl)⟩ | exact Or.inr ⟨by rfl, rfl⟩
            case hS24x53 => assumption
            (try simp only [Act.put, List.setIfInBounds_toArray, List.set_cons_zero, List.set_cons_succ])
            refine' wpAnyH_take (i := 25) (v := undef) ?hi25x54 ?hs25x54 ?hf25x54 ?hr25x54 ?hQ25x54 ?hy25x54 ?hS25x54 ?rest25x54
            case hi25x54 => (simp only [List.getElem?_toArray, List.getElem?_cons_succ, List.getElem?_cons_zero]; try rfl)
            case hs25x54 => kernel_rfl
            case hf25x54 => kernel_rfl
            case hr25x54 => kernel_rfl
            case hQ25x54 => exact fun _ _ _ h => h
            case hy25x54 => first | exact Or.inl ⟨by rfl, by (intro w hSw; (try dsimp only at hSw); go_simp; try rfl)⟩ | exact Or.inr ⟨by rfl, rfl⟩
            case hS25x54 => assumption
            (try simp only [Act.put, List.setIfInBounds_toArray, List.set_cons_zero, List.set_cons_succ])
            refine' wpAnyH_take (i := 26) (v := undef) ?hi26x55 ?hs26x55 ?hf26x55 ?hr26x55 ?hQ26x55 ?hy26x55 ?hS26x55 ?rest26x55
            case hi26x55 => (simp only [List.getElem?_toArray, List.getElem?_cons_succ, List.getElem?_cons_zero]; try rfl)
            case hs26x55 => kernel_rfl
            case hf26x55 => kernel_rfl
            case hr26x55 => kernel_rfl
            case hQ26x55 => exact fun _ _ _ h => h
            case hy26x55 => first | exact Or.inl ⟨by rfl, by (intro w hSw; (try dsimp only at hSw); go_simp; try rfl)⟩ | exact Or.inr ⟨by rfl, rfl⟩
            case hS26x55 => assumption
            (try simp only [Act.put, List.setIfInBounds_toArray, List.set_cons_zero, List.set_cons_succ])
            refine' wpAnyH_take (i := 27) (v := undef) ?hi27x56 ?hs27x56 ?hf27x56 ?hr27x56 ?hQ27x56 ?hy27x56 ?hS27x56 ?rest27x56
            case hi27x56 => (simp only [List.getElem?_toArray, List.getElem?_cons_succ, List.getElem?_cons_zero]; try rfl)
            case hs27x56 => kernel_rfl
            case hf27x56 => kernel_rfl
            case hr27x56 => kernel_rfl
            case hQ27x56 => exact fun _ _ _ h => h
            case hy27x56 => first | exact Or.inl ⟨by rfl, by (intro w hSw; (try dsimp only at hSw); go_simp; try rfl)⟩ | exact Or.inr ⟨by rfl, rfl⟩
            case hS27x56 => assumption
            (try simp only [Act.put, List.setIfInBounds_toArray, List.set_cons_zero, List.set_cons_succ])
            refine' wpAnyH_take (i := 28) (v := undef) ?hi28x57 ?hs28x57 ?hf28x57 ?hr28x57 ?hQ28x57 ?hy28x57 ?hS28x57 ?rest28x57
            case hi28x57 => (simp only [List.getElem?_toArray, List.getElem?_cons_succ, List.getElem?_cons_zero]; try rfl)
            case hs28x57 => kernel_rfl
            case hf28x57 => kernel_rfl
            case hr28x57 => kernel_rfl
            case hQ28x57 => exact fun _ _ _ h => h
            case hy28x57 => first | exact Or.inl ⟨by rfl, by (intro w hSw; (try dsimp only at hSw); go_simp; try rfl)⟩ | exact Or.inr ⟨by rfl, rfl⟩
            case hS28x57 => assumption
            (try simp only [Act.put, List.setIfInBounds_toArray, List.set_cons_zero, List.set_cons_succ])
            refine' wpAnyH_take (i := 29) (v := undef) ?hi29x58 ?hs29x58 ?hf29x58 ?hr29x58 ?hQ29x58 ?hy29x58 ?hS29x58 ?rest29x58
            case hi29x58 => (simp only [List.getElem?_toArray, List.getElem?_cons_succ, List.getElem?_cons_zero]; try rfl)
            case hs29x58 => kernel_rfl
            case hf29x58 => kernel_rfl
            case hr29x58 => kernel_rfl
            case hQ29x58 => exact fun _ _ _ h => h
            case hy29x58 => first | exact Or.inl ⟨by rfl, by (intro w hSw; (try dsimp only at hSw); go_simp; try rfl)⟩ | exact Or.inr ⟨by rfl, rfl⟩
            case hS29x58 => assumption
            (try simp only [Act.put, List.setIfInBounds_toArray, List.set_cons_zero, List.set_cons_succ])
            refine' wpAnyH_take (i := 30) (v := undef) ?hi30x59 ?hs30x59 ?hf30x59 ?hr30x59 ?hQ30x59 ?hy30x59 ?hS30x59 ?rest30x59
            case hi30x59 => (simp only [List.getElem?_toArray, List.getElem?_cons_succ, List.getElem?_cons_zero]; try rfl)
            case hs30x59 => kernel_rfl
            case hf30x59 => kernel_rfl
            case hr30x59 => kernel_rfl
            case hQ30x59 => exact fun _ _ _ h => h
            case hy30x59 => first | exact Or.inl ⟨by rfl, by (intro w hSw; (try dsimp only at hSw); go_simp; try rfl)⟩ | exact Or.inr ⟨by rfl, rfl⟩
            case hS30x59 => assumption
            (try simp only [Act.put, List.setIfInBounds_toArray, List.set_cons_zero, List.set_cons_succ])
            refine' wpAnyH_take (i := 31) (v := undef) ?hi31x60 ?hs31x60 ?hf31x60 ?hr31x60 ?hQ31x60 ?hy31x60 ?hS31x60 ?rest31x60
            case hi31x60 => (simp only [List.getElem?_toArray, List.getElem?_cons_succ, List.getElem?_cons_zero]; try rfl)
            case hs31x60 => kernel_rfl
            case hf31x60 => kernel_rfl
            case hr31x60 => kernel_rfl
            case hQ31x60 => exact fun _ _ _ h => h
            case hy31x60 => first | exact Or.inl ⟨by rfl, by (intro w hSw; (try dsimp only at hSw); go_simp; try rfl)⟩ | exact Or.inr ⟨by rfl, rfl⟩
            case hS31x60 => assumption
            (try simp only [Act.put, List.setIfInBounds_toArray, List.set_cons_zero, List.set_cons_succ])
            refine' wpAnyH_take (i := 32) (v := undef) ?hi32x61 ?hs32x61 ?hf32x61 ?hr32x61 ?hQ32x61 ?hy32x61 ?hS32x61 ?rest32x61
            case hi32x61 => (simp only [List.getElem?_toArray, List.getElem?_cons_succ, List.getElem?_cons_zero]; try rfl)
            case hs32x61 => kernel_rfl
            case hf32x61 => kernel_rfl
            case hr32x61 => kernel_rfl
            case hQ32x61 => exact fun _ _ _ h => h
            case hy32x61 => first | exact Or.inl ⟨by rfl, by (intro w hSw; (try dsimp only at hSw); go_simp; try rfl)⟩ | exact Or.inr ⟨by rfl, rfl⟩
            case hS32x61 => assumption
            (try simp only [Act.put, List.setIfInBounds_toArray, List.set_cons_zero, List.set_cons_succ])
            refine' wpAnyH_take (i := 33) (v := undef) ?hi33x62 ?hs33x62 ?hf33x62 ?hr33x62 ?hQ33x62 ?hy33x62 ?hS33x62 ?rest33x62
            case hi33x62 => (simp only [List.getElem?_toArray, List.getElem?_cons_succ, List.getElem?_cons_zero]; try rfl)
            case hs33x62 => kernel_rfl
            case hf33x62 => kernel_rfl
            case hr33x62 => kernel_rfl
            case hQ33x62 => exact fun _ _ _ h => h
            case hy33x62 => first | exact Or.inl ⟨by rfl, by (intro w hSw; (try dsimp only at hSw); go_simp; try rfl)⟩ | exact Or.inr ⟨by rfl, rfl⟩
            case hS33x62 => assumption
            (try simp only [Act.put, List.setIfInBounds_toArray, List.set_cons_zero, List.set_cons_succ])
            refine' wpAnyH_take (i := 34) (v := undef) ?hi34x63 ?hs34x63 ?hf34x63 ?hr34x63 ?hQ34x63 ?hy34x63 ?hS34x63 ?rest34x63
            case hi34x63 => (simp only [List.getElem?_toArray, List.getElem?_cons_succ, List.getElem?_cons_zero]; try rfl)
            case hs34x63 => kernel_rfl
            case hf34x63 => kernel_rfl
            case hr34x63 => kernel_rfl
            case hQ34x63 => exact fun _ _ _ h => h
            case hy34x63 => first | exact Or.inl ⟨by rfl, by (intro w hSw; (try dsimp only at hSw); go_simp; try rfl)⟩ | exact Or.inr ⟨by rfl, rfl⟩
            case hS34x63 => assumption
            (try simp only [Act.put, List.setIfInBounds_toArray, List.set_cons_zero, List.set_cons_succ])
            refine' wpAnyH_take (i := 35) (v := undef) ?hi35x64 ?hs35x64 ?hf35x64 ?hr35x64 ?hQ35x64 ?hy35x64 ?hS35x64 ?rest35x64
            case hi35x64 => (simp only [List.getElem?_toArray, List.getElem?_cons_succ, List.getElem?_cons_zero]; try rfl)
            case hs35x64 => kernel_rfl
            case hf35x64 => kernel_rfl
            case hr35x64 => kernel_rfl
            case hQ35x64 => exact fun _ _ _ h => h
            case hy35x64 => first | exact Or.inl ⟨by rfl, by (intro w hSw; (try dsimp only at hSw); go_simp; try rfl)⟩ | exact Or.inr ⟨by rfl, rfl⟩
            case hS35x64 => assumption
            (try simp only [Act.put, List.setIfInBounds_toArray, List.set_cons_zero, List.set_cons_succ])
            refine' wpAnyH_take (i := 36) (v := undef) ?hi36x65 ?hs36x65 ?hf36x65 ?hr36x65 ?hQ36x65 ?hy36x65 ?hS36x65 ?rest36x65
            case hi36x65 => (simp only [List.getElem?_toArray, List.getElem?_cons_succ, List.getElem?_cons_zero]; try rfl)
            case hs36x65 => kernel_rfl
            case hf36x65 => kernel_rfl
            case hr36x65 => kernel_rfl
            case hQ36x65 => exact fun _ _ _ h => h
            case hy36x65 => first | exact Or.inl ⟨by rfl, by (intro w hSw; (try dsimp only at hSw); go_simp; try rfl)⟩ | exact Or.inr ⟨by rfl, rfl⟩
            case hS36x65 => assumption
            (try simp only [Act.put, List.setIfInBounds_toArray, List.set_cons_zero, List.set_cons_succ])
            refine' wpAnyH_take (i := 37) (v := undef) ?hi37x66 ?hs37x66 ?hf37x66 ?hr37x66 ?hQ37x66 ?hy37x66 ?hS37x66 ?rest37x66
            case hi37x66 => (simp only [List.getElem?_toArray, List.getElem?_cons_succ, List.getElem?_cons_zero]; try rfl)
            case hs37x66 => kernel_rfl
            case hf37x66 => kernel_rfl
            case hr37x66 => kernel_rfl
            case hQ37x66 => exact fun _ _ _ h => h
            case hy37x66 => first | exact Or.inl ⟨by rfl, by (intro w hSw; (try dsimp only at hSw); go_simp; try rfl)⟩ | exact Or.inr ⟨by rfl, rfl⟩
            case hS37x66 => assumption
            (try simp only [Act.put, List.setIfInBounds_toArray, List.set_cons_zero, List.set_cons_succ])
            refine' wpAnyH_take (i := 38) (v := undef) ?hi38x67 ?hs38x67 ?hf38x67 ?hr38x67 ?hQ38x67 ?hy38x67 ?hS38x67 ?rest38x67
            case hi38x67 => (simp only [List.getElem?_toArray, List.getElem?_cons_succ, List.getElem?_cons_zero]; try rfl)
            case hs38x67 => kernel_rfl
            case hf38x67 => kernel_rfl
            case hr38x67 => kernel_rfl
            case hQ38x67 => exact fun _ _ _ h => h
            case hy38x67 => first | exact Or.inl ⟨by rfl, by (intro w hSw; (try dsimp only at hSw); go_simp; try rfl)⟩ | exact Or.inr ⟨by rfl, rfl⟩
            case hS38x67 => assumption
            (try simp only [Act.put, List.setIfInBounds_toArray, List.set_cons_zero, List.set_cons_succ])
            refine' wpAnyH_take (i := 39) (v := undef) ?hi39x68 ?hs39x68 ?hf39x68 ?hr39x68 ?hQ39x68 ?hy39x68 ?hS39x68 ?rest39x68
            case hi39x68 => (simp only [List.getElem?_toArray, List.getElem?_cons_succ, List.getElem?_cons_zero]; try rfl)
            case hs39x68 => kernel_rfl
            case hf39x68 => kernel_rfl
            case hr39x68 => kernel_rfl
            case hQ39x68 => exact fun _ _ _ h => h
            case hy39x68 => first | exact Or.inl ⟨by rfl, by (intro w hSw; (try dsimp only at hSw); go_simp; try rfl)⟩ | exact Or.inr ⟨by rfl, rfl⟩
            case hS39x68 => assumption
            (try simp only [Act.put, List.setIfInBounds_toArray, List.set_cons_zero, List.set_cons_succ])
            refine' wpAnyH_take (i := 40) (v := undef) ?hi40x69 ?hs40x69 ?hf40x69 ?hr40x69 ?hQ40x69 ?hy40x69 ?hS40x69 ?rest40x69
            case hi40x69 => (simp only [List.getElem?_toArray, List.getElem?_cons_succ, List.getElem?_cons_zero]; try rfl)
            case hs40x69 => kernel_rfl
            case hf40x69 => kernel_rfl
            case hr40x69 => kernel_rfl
            case hQ40x69 => exact fun _ _ _ h => h
            case hy40x69 => first | exact Or.inl ⟨by rfl, by (intro w hSw; (try dsimp only at hSw); go_simp; try rfl)⟩ | exact Or.inr ⟨by rfl, rfl⟩
            case hS40x69 => assumption
            (try simp only [Act.put, List.setIfInBounds_toArray, List.set_cons_zero, List.set_cons_succ])
            refine' wpAnyH_take (i := 41) (v := undef) ?hi41x70 ?hs41x70 ?hf41x70 ?hr41x70 ?hQ41x70 ?hy41x70 ?hS41x70 ?rest41x70
            case hi41x70 => (simp only [List.getElem?_toArray, List.getElem?_cons_succ, List.getElem?_cons_zero]; try rfl)
            case hs41x70 => kernel_rfl
            case hf41x70 => kernel_rfl
            case hr41x70 => kernel_rfl
            case hQ41x70 => exact fun _ _ _ h => h
            case hy41x70 => first | exact Or.inl ⟨by rfl, by (intro w hSw; (try dsimp only at hSw); go_simp; try rfl)⟩ | exact Or.inr ⟨by rfl, rfl⟩
            case hS41x70 => assumption
            (try simp only [Act.put, List.setIfInBounds_toArray, List.set_cons_zero, List.set_cons_succ])
            refine' wpAnyH_take (i := 42) (v := undef) ?hi42x71 ?hs42x71 ?hf42x71 ?hr42x71 ?hQ42x71 ?hy42x71 ?hS42x71 ?rest42x71
            case hi42x71 => (simp only [List.getElem?_toArray, List.getElem?_cons_succ, List.getElem?_cons_zero]; try rfl)
            case hs42x71 => kernel_rfl
            case hf42x71 => kernel_rfl
            case hr42x71 => kernel_rfl
            case hQ42x71 => exact fun _ _ _ h => h
            case hy42x71 => first | exact Or.inl ⟨by rfl, by (intro w hSw; (try dsimp only at hSw); go_simp; try rfl)⟩ | exact Or.inr ⟨by rfl, rfl⟩
            case hS42x71 => assumption
            (try simp only [Act.put, List.setIfInBounds_toArray, List.set_cons_zero, List.set_cons_succ])
            refine' wpAnyH_take (i := 43) (v := undef) ?hi43x72 ?hs43x72 ?hf43x72 ?hr43x72 ?hQ43x72 ?hy43x72 ?hS43x72 ?rest43x72
            case hi43x72 => (simp only [List.getElem?_toArray, List.getElem?_cons_succ, List.getElem?_cons_zero]; try rfl)
            case hs43x72 => kernel_rfl
            case hf43x72 => kernel_rfl
            case hr43x72 => kernel_rfl
            case hQ43x72 => exact fun _ _ _ h => h
            case hy43x72 => first | exact Or.inl ⟨by rfl, by (intro w hSw; (try dsimp only at hSw); go_simp; try rfl)⟩ | exact Or.inr ⟨by rfl, rfl⟩
            case hS43x72 => assumption
            (try simp only [Act.put, List.setIfInBounds_toArray, List.set_cons_zero, List.set_cons_succ])
            refine' wpAnyH_take (i := 44) (v := ?v44x73) ?hi44x73 ?hs44x73 ?hf44x73 ?hr44x73 ?hQ44x73 ?hy44x73 ?hS44x73 ?rest44x73
            case hi44x73 => (simp only [List.getElem?_toArray, List.getElem?_cons_succ, List.getElem?_cons_zero]; try rfl)
            case hs44x73 => kernel_rfl
            case hf44x73 => kernel_rfl
            case hr44x73 => kernel_rfl
            case hQ44x73 => exact fun _ _ _ h => h
            case hy44x73 => first | exact Or.inl ⟨by rfl, by (intro w hSw; (try dsimp only at hSw); go_simp; try rfl)⟩ | exact Or.inr ⟨by rfl, rfl⟩
            case hS44x73 => assumption
            (try simp only [Act.put, List.setIfInBounds_toArray, List.set_cons_zero, List.set_cons_succ])
            refine' wpAnyH_take (i := 45) (v := ?v45x74) ?hi45x74 ?hs45x74 ?hf45x74 ?hr45x74 ?hQ45x74 ?hy45x74 ?hS45x74 ?rest45x74
            case hi45x74 => (simp only [List.getElem?_toArray, List.getElem?_cons_succ, List.getElem?_cons_zero]; try rfl)
            case hs45x74 => kernel_rfl
            case hf45x74 => kernel_rfl
            case hr45x74 => kernel_rfl
            case hQ45x74 => exact fun _ _ _ h => h
            case hy45x74 => first | exact Or.inl ⟨by rfl, by (intro w hSw; (try dsimp only at hSw); go_simp; try rfl)⟩ | exact Or.inr ⟨by rfl, rfl⟩
            case hS45x74 => assumption
            (try simp only [Act.put, List.setIfInBounds_toArray, List.set_cons_zero, List.set_cons_succ])
            refine wpAnyH_done (by kernel_rfl) ?_ _
            refine NoPanic.normal ?_
            obtain ⟨w9, hw_⟩ : ∃ x, w7.drew = x := ⟨_, rfl⟩
            have hd_ : Below w7.heap.size w7 w9 := by rw [← hw_]; exact (Below.refl _ _).drew
            simp only [hw_]
            have h9 := Lib.hid (h7.out.below hd_); have hS9 := Lib.hid (hS7.out.below hd_); have hT9 := Lib.hid (hT7.out.below hd_); have hb9 := Lib.hid (chainB hb7.out hd_ hb7.out.size); have hB9 := Lib.hid (Nat.le_trans hB7.out hd_.size)
            clear hd_ hw_ h7 hS7 hT7 hb7 hB7 hs_ ht_
            go_wp2_with fail
            have hpos_ := Lib.hid (show True from trivial)
            obtain ⟨sn', hsn'⟩ : ∃ y, y = sn := ⟨_, rfl⟩
            obtain ⟨tk', htk'⟩ : ∃ y, y = tk := ⟨_, rfl⟩
            have hsnE := Lib.hid (show sent[q]? = some sn' by rw [hsn']; exact hsnH.out)
            have htkE := Lib.hid (show taken[q]? = some tk' by rw [htk']; exact htkH.out)
            have hLE := Lib.hid (show (st f t).q.length = sn' - tk' by rw [hsn', htk']; exact hcH.out.len)
            have hbd1 : tk' ≤ sn' := by rw [hsn', htk']; have := hcH.out.1; have := hpos_.out; omega
            have hbd2 : sn' ≤ 1000 := by rw [hsn']; have := hsk_.out; omega
            clear hsn' htk'
            have hLen := Lib.hid (fun w' (hw : Below w9.heap.size w9 w') => (h9.out.below hw).lenAt hfW htW ((sn' : Int) - (tk' : Int)) (by rw [hLE.out]; omega))
            have hs6_ := hS9.out.cell q (nums_at hsnE.out)
            have ht6_ := hT9.out.cell q (nums_at htkE.out)
            have hw6_ : IntKind.i64.wrap ((sn' : Int) - (tk' : Int)) = (sn' : Int) - (tk' : Int) := IntWalk.i64_in _ (by omega)
            refine wp_region_noPanic ?_
            refine wp_region_held_drew (S := (fun w' => w'.cell? ⟨Se, q, none⟩ = some (.int .i64 (sn' : Nat)) ∧ w'.cell? ⟨Se + 1, q, none⟩ = some (.int .i64 (tk' : Nat)))) (by kernel_rfl) (⟨hs6_, ht6_⟩) (fun hHeld => ?_)
            refine' wpAnyH_take (i := 0) (v := ?v0x75) ?hi0x75 ?hs0x75 ?hf0x75 ?hr0x75 ?hQ0x75 ?hy0x75 ?hS0x75 ?rest0x75
            case hi0x75 => (simp only [List.getElem?_toArray, List.getElem?_cons_succ, List.getElem?_cons_zero]; try rfl)
            case hs0x75 => kernel_rfl
            case hf0x75 => kernel_rfl
            case hr0x75 => kernel_rfl
            case hQ0x75 => exact fun _ _ _ h => h
            case hy0x75 => first | exact Or.inl ⟨by rfl, by (intro w hSw; (try dsimp only at hSw); go_simp; try rfl)⟩ | exact Or.inr ⟨by rfl, rfl⟩
            case hS0x75 => assumption
            (try simp only [Act.put, List.setIfInBounds_toArray, List.set_cons_zero, List.set_cons_succ])
            refine' wpAnyH_take (i := 1) (v := ?v1x76) ?hi1x76 ?hs1x76 ?hf1x76 ?hr1x76 ?hQ1x76 ?hy1x76 ?hS1x76 ?rest1x76
            case hi1x76 => (simp only [List.getElem?_toArray, List.getElem?_cons_succ, List.getElem?_cons_zero]; try rfl)
            case hs1x76 => kernel_rfl
            case hf1x76 => kernel_rfl
            case hr1x76 => kernel_rfl
            case hQ1x76 => exact fun _ _ _ h => h
            case hy1x76 => first | exact Or.inl ⟨by rfl, by (intro w hSw; (try dsimp only at hSw); go_simp; try rfl)⟩ | exact Or.inr ⟨by rfl, rfl⟩
            case hS1x76 => assumption
            (try simp only [Act.put, List.setIfInBounds_toArray, List.set_cons_zero, List.set_cons_succ])
            refine' wpAnyH_take (i := 2) (v := ?v2x77) ?hi2x77 ?hs2x77 ?hf2x77 ?hr2x77 ?hQ2x77 ?hy2x77 ?hS2x77 ?rest2x77
            case hi2x77 => (simp only [List.getElem?_toArray, List.getElem?_cons_succ, List.getElem?_cons_zero]; try rfl)
            case hs2x77 => kernel_rfl
            case hf2x77 => kernel_rfl
            case hr2x77 => kernel_rfl
            case hQ2x77 => exact fun _ _ _ h => h
            case hy2x77 => first | exact Or.inl ⟨by rfl, by (intro w hSw; (try dsimp only at hSw); go_simp; try rfl)⟩ | exact Or.inr ⟨by rfl, rfl⟩
            case hS2x77 => assumption
            (try simp only [Act.put, List.setIfInBounds_toArray, List.set_cons_zero, List.set_cons_succ])
            refine' wpAnyH_take (i := 4) (v := ?v4x78) ?hi4x78 ?hs4x78 ?hf4x78 ?hr4x78 ?hQ4x78 ?hy4x78 ?hS4x78 ?rest4x78
            case hi4x78 => (simp only [List.getElem?_toArray, List.getElem?_cons_succ, List.getElem?_cons_zero]; try rfl)
            case hs4x78 => kernel_rfl
            case hf4x78 => kernel_rfl
            case hr4x78 => kernel_rfl
            case hQ4x78 => exact fun _ _ _ h => h
            case hy4x78 => first | exact Or.inl ⟨by rfl, by (intro w hSw; (try dsimp only at hSw); go_simp; try rfl)⟩ | exact Or.inr ⟨by rfl, rfl⟩
            case hS4x78 => assumption
            (try simp only [Act.put, List.setIfInBounds_toArray, List.set_cons_zero, List.set_cons_succ])
            refine' wpAnyH_take (i := 5) (v := ?v5x79) ?hi5x79 ?hs5x79 ?hf5x79 ?hr5x79 ?hQ5x79 ?hy5x79 ?hS5x79 ?rest5x79
            case hi5x79 => (simp only [List.getElem?_toArray, List.getElem?_cons_succ, List.getElem?_cons_zero]; try rfl)
            case hs5x79 => kernel_rfl
            case hf5x79 => kernel_rfl
            case hr5x79 => kernel_rfl
            case hQ5x79 => exact fun _ _ _ h => h
            case hy5x79 => first | exact Or.inl ⟨by rfl, by (intro w hSw; (try dsimp only at hSw); go_simp; try rfl)⟩ | exact Or.inr ⟨by rfl, rfl⟩
            case hS5x79 => assumption
            (try simp only [Act.put, List.setIfInBounds_toArray, List.set_cons_zero, List.set_cons_succ])
            refine' wpAnyH_take (i := 6) (v := ?v6x80) ?hi6x80 ?hs6x80 ?hf6x80 ?hr6x80 ?hQ6x80 ?hy6x80 ?hS6x80 ?rest6x80
            case hi6x80 => (simp only [List.getElem?_toArray, List.getElem?_cons_succ, List.getElem?_cons_zero]; try rfl)
            case hs6x80 => kernel_rfl
            case hf6x80 => kernel_rfl
            case hr6x80 => kernel_rfl
            case hQ6x80 => exact fun _ _ _ h => h
            case hy6x80 => first | exact Or.inl ⟨by rfl, by (intro w hSw; (try dsimp only at hSw); go_simp; try rfl)⟩ | exact Or.inr ⟨by rfl, rfl⟩
            case hS6x80 => assumption
            (try simp only [Act.put, List.setIfInBounds_toArray, List.set_cons_zero, List.set_cons_succ])
            refine' wpAnyH_take (i := 7) (v := ?v7x81) ?hi7x81 ?hs7x81 ?hf7x81 ?hr7x81 ?hQ7x81 ?hy7x81 ?hS7x81 ?rest7x81
            case hi7x81 => (simp only [List.getElem?_toArray, List.getElem?_cons_succ, List.getElem?_cons_zero]; try rfl)
            case hs7x81 => kernel_rfl
            case hf7x81 => kernel_rfl
            case hr7x81 => kernel_rfl
            case hQ7x81 => exact fun _ _ _ h => h
            case hy7x81 => first | exact Or.inl ⟨by rfl, by (intro w hSw; (try dsimp only at hSw); go_simp; try rfl)⟩ | exact Or.inr ⟨by rfl, rfl⟩
            case hS7x81 => assumption
            (try simp only [Act.put, List.setIfInBounds_toArray, List.set_cons_zero, List.set_cons_succ])
            refine' wpAnyH_take (i := 8) (v := ?v8x82) ?hi8x82 ?hs8x82 ?hf8x82 ?hr8x82 ?hQ8x82 ?hy8x82 ?hS8x82 ?rest8x82
            case hi8x82 => (simp only [List.getElem?_toArray, List.getElem?_cons_succ, List.getElem?_cons_zero]; try rfl)
            case hs8x82 => kernel_rfl
            case hf8x82 => kernel_rfl
            case hr8x82 => kernel_rfl
            case hQ8x82 => exact fun _ _ _ h => h
            case hy8x82 => first | exact Or.inl ⟨by rfl, by (intro w hSw; (try dsimp only at hSw); go_simp; try rfl)⟩ | exact Or.inr ⟨by rfl, rfl⟩
            case hS8x82 => assumption
            (try simp only [Act.put, List.setIfInBounds_toArray, List.set_cons_zero, List.set_cons_succ])
            refine' wpAnyH_take (i := 9) (v := ?v9x83) ?hi9x83 ?hs9x83 ?hf9x83 ?hr9x83 ?hQ9x83 ?hy9x83 ?hS9x83 ?rest9x83
            case hi9x83 => (simp only [List.getElem?_toArray, List.getElem?_cons_succ, List.getElem?_cons_zero]; try rfl)
            case hs9x83 => kernel_rfl
            case hf9x83 => kernel_rfl
            case hr9x83 => kernel_rfl
            case hQ9x83 => exact fun _ _ _ h => h
            case hy9x83 => first | exact Or.inl ⟨by rfl, by (intro w hSw; (try dsimp only at hSw); go_simp; try rfl)⟩ | exact Or.inr ⟨by rfl, rfl⟩
            case hS9x83 => assumption
            (try simp only [Act.put, List.setIfInBounds_toArray, List.set_cons_zero, List.set_cons_succ])
            refine' wpAnyH_take (i := 10) (v := ?v10x84) ?hi10x84 ?hs10x84 ?hf10x84 ?hr10x84 ?hQ10x84 ?hy10x84 ?hS10x84 ?rest10x84
            case hi10x84 => (simp only [List.getElem?_toArray, List.getElem?_cons_succ, List.getElem?_cons_zero]; try rfl)
            case hs10x84 => kernel_rfl
            case hf10x84 => kernel_rfl
            case hr10x84 => kernel_rfl
            case hQ10x84 => exact fun _ _ _ h => h
            case hy10x84 => first | exact Or.inl ⟨by rfl, by (intro w hSw; (try dsimp only at hSw); go_simp; try rfl)⟩ | exact Or.inr ⟨by rfl, rfl⟩
            case hS10x84 => assumption
            (try simp only [Act.put, List.setIfInBounds_toArray, List.set_cons_zero, List.set_cons_succ])
            refine' wpAnyH_take (i := 11) (v := ?v11x85) ?hi11x85 ?hs11x85 ?hf11x85 ?hr11x85 ?hQ11x85 ?hy11x85 ?hS11x85 ?rest11x85
            case hi11x85 => (simp only [List.getElem?_toArray, List.getElem?_cons_succ, List.getElem?_cons_zero]; try rfl)
            case hs11x85 => kernel_rfl
            case hf11x85 => kernel_rfl
            case hr11x85 => kernel_rfl
            case hQ11x85 => exact fun _ _ _ h => h
            case hy11x85 => first | exact Or.inl ⟨by rfl, by (intro w hSw; (try dsimp only at hSw); go_simp; try rfl)⟩ | exact Or.inr ⟨by rfl, rfl⟩
            case hS11x85 => assumption
            (try simp only [Act.put, List.setIfInBounds_toArray, List.set_cons_zero, List.set_cons_succ])
            refine' wpAnyH_take (i := 12) (v := ?v12x86) ?hi12x86 ?hs12x86 ?hf12x86 ?hr12x86 ?hQ12x86 ?hy12x86 ?hS12x86 ?rest12x86
            case hi12x86 => (simp only [List.getElem?_toArray, List.getElem?_cons_succ, List.getElem?_cons_zero]; try rfl)
            case hs12x86 => kernel_rfl
            case hf12x86 => kernel_rfl
            case hr12x86 => kernel_rfl
            case hQ12x86 => exact fun _ _ _ h => h
            case hy12x86 => first | exact Or.inl ⟨by rfl, by (intro w hSw; (try dsimp only at hSw); go_simp; try rfl)⟩ | exact Or.inr ⟨by rfl, rfl⟩
            case hS12x86 => assumption
            (try simp only [Act.put, List.setIfInBounds_toArray, List.set_cons_zero, List.set_cons_succ])
            refine wpAnyH_ready (rs := [3]) (by kernel_rfl) (by simp) ?_
            refine' (AllReadyH.cons (i := 3) ?ho3x87 (fun K hK => ?st3x87) AllReadyH.nil)
            case ho3x87 => (simp only [List.getElem?_toArray, List.getElem?_cons_succ, List.getElem?_cons_zero]; try rfl)
            case st3x87 =>
              go_simp
              refine (hLen.out _ (Below.refl _ _).drew).mono ?_
              rintro e w7 ⟨rfl, rfl⟩
              refine hK.out _ _ ?_ (fun hHeld => ?_)
              · exact hHeld
              clear hK K
              (try simp only [Act.put, List.setIfInBounds_toArray, List.set_cons_zero, List.set_cons_succ])
              refine' wpAnyH_take (i := 13) (v := ?v13x88) ?hi13x88 ?hs13x88 ?hf13x88 ?hr13x88 ?hQ13x88 ?hy13x88 ?hS13x88 ?rest13x88
              case hi13x88 => (simp only [List.getElem?_toArray, List.getElem?_cons_succ, List.getElem?_cons_zero]; try rfl)
              case hs13x88 => kernel_rfl
              case hf13x88 => kernel_rfl
              case hr13x88 => kernel_rfl
              case hQ13x88 => exact fun _ _ _ h => h
              case hy13x88 => first | exact Or.inl ⟨by rfl, by (intro w hSw; (try dsimp only at hSw); go_simp; try rfl)⟩ | exact Or.inr ⟨by rfl, rfl⟩
              case hS13x88 => assumption
              (try simp only [Act.put, List.setIfInBounds_toArray, List.set_cons_zero, List.set_cons_succ])
              refine wpAnyH_done (by kernel_rfl) ?_ _
              refine NoPanic.normal ?_
              go_wp2_with fail
              go_roundw
              case rel => exact ⟨k + 1, _, _, _, by go_num, by omega, h9.out.below (Below.refl _ _).drew, hS9.out.drew, hT9.out.drew, hC.out.mono (Nat.le_succ _), hb9.out.drew, hB9.out⟩
              case measure => simp [Go.RowKit.intOf]; omega

          · have hc2 := hcH.out
            rw [hqq] at hc2
            obtain ⟨rfl, hlt0, hcnt'⟩ := hc2.pop
            have hlt : decide ((tk : Int) < (sn : Int)) = true := by simp; omega
            have hlt2 : tk < sn := hlt0
            have hlt0H := Lib.hid hlt0; have hcnH := Lib.hid hcnt'
            clear hc2 hlt0 hcnt'
            refine (h4.out.take hfW htW (tk : Int) q' hqq).mono ?_
            rintro e w5 ⟨u, rfl, hu_, hI_, ht_⟩
            have h5 := Lib.hid hI_; have hS5 := Lib.hid (h4.out.keeps hfW htW ht_ hS4.out (by decide) (by decide)); have hT5 := Lib.hid (h4.out.keeps hfW htW ht_ hT4.out (by decide) (by decide)); have hb5 := Lib.hid (hb4.out.trans (Below.mono (h4.out.low2 hfW htW ht_ hB4.out) hB0.out)); have hB5 := Lib.hid (Nat.le_trans hB4.out ht_.size)
            have hu5 := Lib.hid hu_
            obtain ⟨X, cX, _, _, rfl, -, -⟩ := hu_.cells
            have hqH := Lib.hid hqq
            clear hu_ hI_ ht_ h4 hS4 hT4 hb4 hB4 hqq
            go_wp2_with fail
            obtain ⟨M, hM⟩ : ∃ M, M = w5.heap.size := ⟨_, rfl⟩
            rw [← hM]
            obtain ⟨w7, hw_⟩ : ∃ x, w5.alloc (.cells #[.int .i64 0, .bool false, .int .i64 0, .int .u64 0, .slice none 0 0, .slice (some ⟨X, 0, none⟩) 1 cX, .slice none 0 0] 31) = x := ⟨_, rfl⟩
            have hd_ : Below w5.heap.size w5 w7 := by rw [← hw_]; go_grown
            have hu7 := Lib.hid (hu5.out.below hd_)
            have hm7 := Lib.hid (show HasC w7 M [.int .i64 0, .bool false, .int .i64 0, .int .u64 0, .slice none 0 0, .slice (some ⟨X, 0, none⟩) 1 cX, .slice none 0 0] 31 by rw [← hw_, hM]; exact HasC.new _ _ _)
            simp only [hw_]
            have h7 := Lib.hid (h5.out.below hd_); have hS7 := Lib.hid (hS5.out.below hd_); have hT7 := Lib.hid (hT5.out.below hd_); have hb7 := Lib.hid (chainB hb5.out hd_ hb5.out.size); have hB7 := Lib.hid (Nat.le_trans hB5.out hd_.size)
            clear hd_ hw_ h5 hS5 hT5 hb5 hB5 hM hu5

            obtain ⟨X', c', Y, dY, ex, x0_, y2_⟩ := hu7.out.cells
            obtain ⟨rfl, rfl⟩ : X = X' ∧ cX = c' := by simpa using ex
            have m5_ := hm7.out.cell 5 rfl
            have hs_ := hS7.out.cell q (nums_at hsnH.out)
            have ht_ := hT7.out.cell q (nums_at htkH.out)
            clear ex hu7
            refine wp_region_noPanic ?_
            refine wp_region_held_drew (S := (fun w' => w'.cell? ⟨Se, q, none⟩ = some (.int .i64 (sn : Nat)) ∧ w'.cell? ⟨Se + 1, q, none⟩ = some (.int .i64 (tk : Nat)) ∧ w'.cell? ⟨M, 5, none⟩ = some (.slice (some ⟨X, 0, none⟩) 1 cX) ∧ w'.cell? ⟨X, 0, none⟩ = some (.slice (some ⟨Y, 0, none⟩) 1 dY) ∧ w'.cell? ⟨Y, 2, none⟩ = some (.int .i64 (tk : Nat)))) (by kernel_rfl) (⟨hs_, ht_, m5_, x0_, y2_⟩) (fun hHeld => ?_)
            refine' wpAnyH_take (i := 0) (v := ?v0x89) ?hi0x89 ?hs0x89 ?hf0x89 ?hr0x89 ?hQ0x89 ?hy0x89 ?hS0x89 ?rest0x89
            case hi0x89 => (simp only [List.getElem?_toArray, List.getElem?_cons_succ, List.getElem?_cons_zero]; try rfl)
            case hs0x89 => kernel_rfl
            case hf0x89 => kernel_rfl
            case hr0x89 => kernel_rfl
            case hQ0x89 => exact fun _ _ _ h => h
            case hy0x89 => first | exact Or.inl ⟨by rfl, by (intro w hSw; (try dsimp only at hSw); go_simp; try rfl)⟩ | exact Or.inr ⟨by rfl, rfl⟩
            case hS0x89 => assumption
            (try simp only [Act.put, List.setIfInBounds_toArray, List.set_cons_zero, List.set_cons_succ])
            refine' wpAnyH_take (i := 1) (v := (.bool true)) ?hi1x90 ?hs1x90 ?hf1x90 ?hr1x90 ?hQ1x90 ?hy1x90 ?hS1x90 ?rest1x90
            case hi1x90 => (simp only [List.getElem?_toArray, List.getElem?_cons_succ, List.getElem?_cons_zero]; try rfl)
            case hs1x90 => kernel_rfl
            case hf1x90 => kernel_rfl
            case hr1x90 => kernel_rfl
            case hQ1x90 => exact fun _ _ _ h => h
            case hy1x90 => first | exact Or.inl ⟨by rfl, by (intro w hSw; (try dsimp only at hSw); go_simp; try rfl)⟩ | exact Or.inr ⟨by rfl, rfl⟩
            case hS1x90 => assumption
            (try simp only [Act.put, List.setIfInBounds_toArray, List.set_cons_zero, List.set_cons_succ])
            refine' wpAnyH_take (i := 2) (v := ?v2x91) ?hi2x91 ?hs2x91 ?hf2x91 ?hr2x91 ?hQ2x91 ?hy2x91 ?hS2x91 ?rest2x91
            case hi2x91 => (simp only [List.getElem?_toArray, List.getElem?_cons_succ, List.getElem?_cons_zero]; try rfl)
            case hs2x91 => kernel_rfl
            case hf2x91 => kernel_rfl
            case hr2x91 => kernel_rfl
            case hQ2x91 => exact fun _ _ _ h => h
            case hy2x91 => first | exact Or.inl ⟨by rfl, by (intro w hSw; (try dsimp only at hSw); go_simp; try rfl)⟩ | exact Or.inr ⟨by rfl, rfl⟩
            case hS2x91 => assumption
            (try simp only [Act.put, List.setIfInBounds_toArray, List.set_cons_zero, List.set_cons_succ])
            refine' wpAnyH_take (i := 3) (v := ?v3x92) ?hi3x92 ?hs3x92 ?hf3x92 ?hr3x92 ?hQ3x92 ?hy3x92 ?hS3x92 ?rest3x92
            case hi3x92 => (simp only [List.getElem?_toArray, List.getElem?_cons_succ, List.getElem?_cons_zero]; try rfl)
            case hs3x92 => kernel_rfl
            case hf3x92 => kernel_rfl
            case hr3x92 => kernel_rfl
            case hQ3x92 => exact fun _ _ _ h => h
            case hy3x92 => first | exact Or.inl ⟨by rfl, by (intro w hSw; (try dsimp only at hSw); go_simp; try rfl)⟩ | exact Or.inr ⟨by rfl, rfl⟩
            case hS3x92 => assumption
            (try simp only [Act.put, List.setIfInBounds_toArray, List.set_cons_zero, List.set_cons_succ])
            refine' wpAnyH_take (i := 4) (v := ?v4x93) ?hi4x93 ?hs4x93 ?hf4x93 ?hr4x93 ?hQ4x93 ?hy4x93 ?hS4x93 ?rest4x93
            case hi4x93 => (simp only [List.getElem?_toArray, List.getElem?_cons_succ, List.getElem?_cons_zero]; try rfl)
            case hs4x93 => kernel_rfl
            case hf4x93 => kernel_rfl
            case hr4x93 => kernel_rfl
            case hQ4x93 => exact fun _ _ _ h => h
            case hy4x93 => first | exact Or.inl ⟨by rfl, by (intro w hSw; (try dsimp only at hSw); go_simp; try rfl)⟩ | exact Or.inr ⟨by rfl, rfl⟩
            case hS4x93 => assumption
            (try simp only [Act.put, List.setIfInBounds_toArray, List.set_cons_zero, List.set_cons_succ])
            refine' wpAnyH_take (i := 5) (v := ?v5x94) ?hi5x94 ?hs5x94 ?hf5x94 ?hr5x94 ?hQ5x94 ?hy5x94 ?hS5x94 ?rest5x94
            case hi5x94 => (simp only [List.getElem?_toArray, List.getElem?_cons_succ, List.getElem?_cons_zero]; try rfl)
            case hs5x94 => kernel_rfl
            case hf5x94 => kernel_rfl
            case hr5x94 => kernel_rfl
            case hQ5x94 => exact fun _ _ _ h => h
            case hy5x94 => first | exact Or.inl ⟨by rfl, by (intro w hSw; (try dsimp only at hSw); go_simp; try rfl)⟩ | exact Or.inr ⟨by rfl, rfl⟩
            case hS5x94 => assumption
            (try simp only [Act.put, List.setIfInBounds_toArray, List.set_cons_zero, List.set_cons_succ])
            refine' wpAnyH_take (i := 6) (v := ?v6x95) ?hi6x95 ?hs6x95 ?hf6x95 ?hr6x95 ?hQ6x95 ?hy6x95 ?hS6x95 ?rest6x95
            case hi6x95 => (simp only [List.getElem?_toArray, List.getElem?_cons_succ, List.getElem?_cons_zero]; try rfl)
            case hs6x95 => kernel_rfl
            case hf6x95 => kernel_rfl
            case hr6x95 => kernel_rfl
            case hQ6x95 => exact fun _ _ _ h => h
            case hy6x95 => first | exact Or.inl ⟨by rfl, by (intro w hSw; (try dsimp only at hSw); go_simp; try rfl)⟩ | exact Or.inr ⟨by rfl, rfl⟩
            case hS6x95 => assumption
            (try simp only [Act.put, List.setIfInBounds_toArray, List.set_cons_zero, List.set_cons_succ])
            refine' wpAnyH_take (i := 7) (v := ?v7x96) ?hi7x96 ?hs7x96 ?hf7x96 ?hr7x96 ?hQ7x96 ?hy7x96 ?hS7x96 ?rest7x96
            case hi7x96 => (simp only [List.getElem?_toArray, List.getElem?_cons_succ, List.getElem?_cons_zero]; try rfl)
            case hs7x96 => kernel_rfl
            case hf7x96 => kernel_rfl
            case hr7x96 => kernel_rfl
            case hQ7x96 => exact fun _ _ _ h => h
            case hy7x96 => first | exact Or.inl ⟨by rfl, by (intro w hSw; (try dsimp only at hSw); go_simp; try rfl)⟩ | exact Or.inr ⟨by rfl, rfl⟩
            case hS7x96 => assumption
            (try simp only [Act.put, List.setIfInBounds_toArray, List.set_cons_zero, List.set_cons_succ])
            refine' wpAnyH_take (i := 8) (v := ?v8x97) ?hi8x97 ?hs8x97 ?hf8x97 ?hr8x97 ?hQ8x97 ?hy8x97 ?hS8x97 ?rest8x97
            case hi8x97 => (simp only [List.getElem?_toArray, List.getElem?_cons_succ, List.getElem?_cons_zero]; try rfl)
            case hs8x97 => kernel_rfl
            case hf8x97 => kernel_rfl
            case hr8x97 => kernel_rfl
            case hQ8x97 => exact fun _ _ _ h => h
            case hy8x97 => first | exact Or.inl ⟨by rfl, by (intro w hSw; (try dsimp only at hSw); go_simp; try rfl)⟩ | exact Or.inr ⟨by rfl, rfl⟩
            case hS8x97 => assumption
            (try simp only [Act.put, List.setIfInBounds_toArray, List.set_cons_zero, List.set_cons_succ])
            refine' wpAnyH_take (i := 9) (v := ?v9x98) ?hi9x98 ?hs9x98 ?hf9x98 ?hr9x98 ?hQ9x98 ?hy9x98 ?hS9x98 ?rest9x98
            case hi9x98 => (simp only [List.getElem?_toArray, List.getElem?_cons_succ, List.getElem?_cons_zero]; try rfl)
            case hs9x98 => kernel_rfl
            case hf9x98 => kernel_rfl
            case hr9x98 => kernel_rfl
            case hQ9x98 => exact fun _ _ _ h => h
            case hy9x98 => first | exact Or.inl ⟨by rfl, by (intro w hSw; (try dsimp only at hSw); go_simp; try rfl)⟩ | exact Or.inr ⟨by rfl, rfl⟩
            case hS9x98 => assumption
            (try simp only [Act.put, List.setIfInBounds_toArray, List.set_cons_zero, List.set_cons_succ])
            refine' wpAnyH_take (i := 10) (v := (.bool true)) ?hi10x99 ?hs10x99 ?hf10x99 ?hr10x99 ?hQ10x99 ?hy10x99 ?hS10x99 ?rest10x99
            case hi10x99 => (simp only [List.getElem?_toArray, List.getElem?_cons_succ, List.getElem?_cons_zero]; try rfl)
            case hs10x99 => kernel_rfl
            case hf10x99 => kernel_rfl
            case hr10x99 => kernel_rfl
            case hQ10x99 => exact fun _ _ _ h => h
            case hy10x99 => first | exact Or.inl ⟨by rfl, by (intro w hSw; (try dsimp only at hSw); go_simp; try rfl)⟩ | exact Or.inr ⟨by rfl, rfl⟩
            case hS10x99 => assumption
            (try simp only [Act.put, List.setIfInBounds_toArray, List.set_cons_zero, List.set_cons_succ])
            refine' wpAnyH_take (i := 11) (v := (.bool false)) ?hi11x100 ?hs11x100 ?hf11x100 ?hr11x100 ?hQ11x100 ?hy11x100 ?hS11x100 ?rest11x100
            case hi11x100 => (simp only [List.getElem?_toArray, List.getElem?_cons_succ, List.getElem?_cons_zero]; try rfl)
            case hs11x100 => kernel_rfl
            case hf11x100 => kernel_rfl
            case hr11x100 => kernel_rfl
            case hQ11x100 => exact fun _ _ _ h => h
            case hy11x100 => first | exact Or.inl ⟨by rfl, by (intro w hSw; (try dsimp only at hSw); go_simp; try rfl)⟩ | exact Or.inr ⟨by rfl, rfl⟩
            case hS11x100 => assumption
            (try simp only [Act.put, List.setIfInBounds_toArray, List.set_cons_zero, List.set_cons_succ])
            refine' wpAnyH_take (i := 12) (v := ?v12x101) ?hi12x101 ?hs12x101 ?hf12x101 ?hr12x101 ?hQ12x101 ?hy12x101 ?hS12x101 ?rest12x101
            case hi12x101 => (simp only [List.getElem?_toArray, List.getElem?_cons_succ, List.getElem?_cons_zero]; try rfl)
            case hs12x101 => kernel_rfl
            case hf12x101 => kernel_rfl
            case hr12x101 => kernel_rfl
            case hQ12x101 => exact fun _ _ _ h => h
            case hy12x101 => first | exact Or.inl ⟨by rfl, by (intro w hSw; (try dsimp only at hSw); go_simp; try rfl)⟩ | exact Or.inr ⟨by rfl, rfl⟩
            case hS12x101 => assumption
            (try simp only [Act.put, List.setIfInBounds_toArray, List.set_cons_zero, List.set_cons_succ])
            refine' wpAnyH_take (i := 13) (v := ?v13x102) ?hi13x102 ?hs13x102 ?hf13x102 ?hr13x102 ?hQ13x102 ?hy13x102 ?hS13x102 ?rest13x102
            case hi13x102 => (simp only [List.getElem?_toArray, List.getElem?_cons_succ, List.getElem?_cons_zero]; try rfl)
            case hs13x102 => kernel_rfl
            case hf13x102 => kernel_rfl
            case hr13x102 => kernel_rfl
            case hQ13x102 => exact fun _ _ _ h => h
            case hy13x102 => first | exact Or.inl ⟨by rfl, by (intro w hSw; (try dsimp only at hSw); go_simp; try rfl)⟩ | exact Or.inr ⟨by rfl, rfl⟩
            case hS13x102 => assumption
            (try simp only [Act.put, List.setIfInBounds_toArray, List.set_cons_zero, List.set_cons_succ])
            refine' wpAnyH_take (i := 14) (v := (.bool true)) ?hi14x103 ?hs14x103 ?hf14x103 ?hr14x103 ?hQ14x103 ?hy14x103 ?hS14x103 ?rest14x103
            case hi14x103 => (simp only [List.getElem?_toArray, List.getElem?_cons_succ, List.getElem?_cons_zero]; try rfl)
            case hs14x103 => kernel_rfl
            case hf14x103 => kernel_rfl
            case hr14x103 => kernel_rfl
            case hQ14x103 => exact fun _ _ _ h => h
            case hy14x103 => first | exact Or.inl ⟨by rfl, by (intro w hSw; (try dsimp only at hSw); go_simp; try rfl)⟩ | exact Or.inr ⟨by rfl, rfl⟩
            case hS14x103 => assumption
            (try simp only [Act.put, List.setIfInBounds_toArray, List.set_cons_zero, List.set_cons_succ])
            refine' wpAnyH_take (i := 15) (v := ?v15x104) ?hi15x104 ?hs15x104 ?hf15x104 ?hr15x104 ?hQ15x104 ?hy15x104 ?hS15x104 ?rest15x104
            case hi15x104 => (simp only [List.getElem?_toArray, List.getElem?_cons_succ, List.getElem?_cons_zero]; try rfl)
            case hs15x104 => kernel_rfl
            case hf15x104 => kernel_rfl
            case hr15x104 => kernel_rfl
            case hQ15x104 => exact fun _ _ _ h => h
            case hy15x104 => first | exact Or.inl ⟨by rfl, by (intro w hSw; (try dsimp only at hSw); go_simp; try rfl)⟩ | exact Or.inr ⟨by rfl, rfl⟩
            case hS15x104 => assumption
            (try simp only [Act.put, List.setIfInBounds_toArray, List.set_cons_zero, List.set_cons_succ])
            refine' wpAnyH_take (i := 16) (v := ?v16x105) ?hi16x105 ?hs16x105 ?hf16x105 ?hr16x105 ?hQ16x105 ?hy16x105 ?hS16x105 ?rest16x105
            case hi16x105 => (simp only [List.getElem?_toArray, List.getElem?_cons_succ, List.getElem?_cons_zero]; try rfl)
            case hs16x105 => kernel_rfl
            case hf16x105 => kernel_rfl
            case hr16x105 => kernel_rfl
            case hQ16x105 => exact fun _ _ _ h => h
            case hy16x105 => first | exact Or.inl ⟨by rfl, by (intro w hSw; (try dsimp only at hSw); go_simp; try rfl)⟩ | exact Or.inr ⟨by rfl, rfl⟩
            case hS16x105 => assumption
            (try simp only [Act.put, List.setIfInBounds_toArray, List.set_cons_zero, List.set_cons_succ])
            refine' wpAnyH_take (i := 17) (v := ?v17x106) ?hi17x106 ?hs17x106 ?hf17x106 ?hr17x106 ?hQ17x106 ?hy17x106 ?hS17x106 ?rest17x106
            case hi17x106 => (simp only [List.getElem?_toArray, List.getElem?_cons_succ, List.getElem?_cons_zero]; try rfl)
            case hs17x106 => kernel_rfl
            case hf17x106 => kernel_rfl
            case hr17x106 => kernel_rfl
            case hQ17x106 => exact fun _ _ _ h => h
            case hy17x106 => first | exact Or.inl ⟨by rfl, by (intro w hSw; (try dsimp only at hSw); go_simp; try rfl)⟩ | exact Or.inr ⟨by rfl, rfl⟩
            case hS17x106 => assumption
            (try simp only [Act.put, List.setIfInBounds_toArray, List.set_cons_zero, List.set_cons_succ])
            refine' wpAnyH_take (i := 18) (v := ?v18x107) ?hi18x107 ?hs18x107 ?hf18x107 ?hr18x107 ?hQ18x107 ?hy18x107 ?hS18x107 ?rest18x107
            case hi18x107 => (simp only [List.getElem?_toArray, List.getElem?_cons_succ, List.getElem?_cons_zero]; try rfl)
            case hs18x107 => kernel_rfl
            case hf18x107 => kernel_rfl
            case hr18x107 => kernel_rfl
            case hQ18x107 => exact fun _ _ _ h => h
            case hy18x107 => first | exact Or.inl ⟨by rfl, by (intro w hSw; (try dsimp only at hSw); go_simp; try rfl)⟩ | exact Or.inr ⟨by rfl, rfl⟩
            case hS18x107 => assumption
            (try simp only [Act.put, List.setIfInBounds_toArray, List.set_cons_zero, List.set_cons_succ])
            refine' wpAnyH_take (i := 19) (v := (.bool false)) ?hi19x108 ?hs19x108 ?hf19x108 ?hr19x108 ?hQ19x108 ?hy19x108 ?hS19x108 ?rest19x108
            case hi19x108 => (simp only [List.getElem?_toArray, List.getElem?_cons_succ, List.getElem?_cons_zero]; try rfl)
            case hs19x108 => kernel_rfl
            case hf19x108 => kernel_rfl
            case hr19x108 => kernel_rfl
            case hQ19x108 => exact fun _ _ _ h => h
            case hy19x108 => first | exact Or.inl ⟨by rfl, by (intro w hSw; (try dsimp only at hSw); go_simp; try rfl)⟩ | exact Or.inr ⟨by rfl, rfl⟩
            case hS19x108 => assumption
            (try simp only [Act.put, List.setIfInBounds_toArray, List.set_cons_zero, List.set_cons_succ])
            refine' wpAnyH_take (i := 20) (v := ?v20x109) ?hi20x109 ?hs20x109 ?hf20x109 ?hr20x109 ?hQ20x109 ?hy20x109 ?hS20x109 ?rest20x109
            case hi20x109 => (simp only [List.getElem?_toArray, List.getElem?_cons_succ, List.getElem?_cons_zero]; try rfl)
            case hs20x109 => kernel_rfl
            case hf20x109 => kernel_rfl
            case hr20x109 => kernel_rfl
            case hQ20x109 => exact fun _ _ _ h => h
            case hy20x109 => first | exact Or.inl ⟨by rfl, by (intro w hSw; (try dsimp only at hSw); go_simp; try rfl)⟩ | exact Or.inr ⟨by rfl, rfl⟩
            case hS20x109 => assumption
            (try simp only [Act.put, List.setIfInBounds_toArray, List.set_cons_zero, List.set_cons_succ])
            refine' wpAnyH_take (i := 21) (v := ?v21x110) ?hi21x110 ?hs21x110 ?hf21x110 ?hr21x110 ?hQ21x110 ?hy21x110 ?hS21x110 ?rest21x110
            case hi21x110 => (simp only [List.getElem?_toArray, List.getElem?_cons_succ, List.getElem?_cons_zero]; try rfl)
            case hs21x110 => kernel_rfl
            case hf21x110 => kernel_rfl
            case hr21x110 => kernel_rfl
            case hQ21x110 => exact fun _ _ _ h => h
            case hy21x110 => first | exact Or.inl ⟨by rfl, by (intro w hSw; (try dsimp only at hSw); go_simp; try rfl)⟩ | exact Or.inr ⟨by rfl, rfl⟩
            case hS21x110 => assumption
            (try simp only [Act.put, List.setIfInBounds_toArray, List.set_cons_zero, List.set_cons_succ])
            refine' wpAnyH_take (i := 22) (v := ?v22x111) ?hi22x111 ?hs22x111 ?hf22x111 ?hr22x111 ?hQ22x111 ?hy22x111 ?hS22x111 ?rest22x111
            case hi22x111 => (simp only [List.getElem?_toArray, List.getElem?_cons_succ, List.getElem?_cons_zero]; try rfl)
            case hs22x111 => kernel_rfl
            case hf22x111 => kernel_rfl
            case hr22x111 => kernel_rfl
            case hQ22x111 => exact fun _ _ _ h => h
            case hy22x111 => first | exact Or.inl ⟨by rfl, by (intro w hSw; (try dsimp only at hSw); go_simp; try rfl)⟩ | exact Or.inr ⟨by rfl, rfl⟩
            case hS22x111 => assumption
            (try simp only [Act.put, List.setIfInBounds_toArray, List.set_cons_zero, List.set_cons_succ])
            refine' wpAnyH_take (i := 23) (v := ?v23x112) ?hi23x112 ?hs23x112 ?hf23x112 ?hr23x112 ?hQ23x112 ?hy23x112 ?hS23x112 ?rest23x112
            case hi23x112 => (simp only [List.getElem?_toArray, List.getElem?_cons_succ, List.getElem?_cons_zero]; try rfl)
            case hs23x112 => kernel_rfl
            case hf23x112 => kernel_rfl
            case hr23x112 => kernel_rfl
            case hQ23x112 => exact fun _ _ _ h => h
            case hy23x112 => first | exact Or.inl ⟨by rfl, by (intro w hSw; (try dsimp only at hSw); go_simp; try rfl)⟩ | exact Or.inr ⟨by rfl, rfl⟩
            case hS23x112 => assumption
            (try simp only [Act.put, List.setIfInBounds_toArray, List.set_cons_zero, List.set_cons_succ])
            refine' wpAnyH_take (i := 24) (v := ?v24x113) ?hi24x113 ?hs24x113 ?hf24x113 ?hr24x113 ?hQ24x113 ?hy24x113 ?hS24x113 ?rest24x113
            case hi24x113 => (simp only [List.getElem?_toArray, List.getElem?_cons_succ, List.getElem?_cons_zero]; try rfl)
            case hs24x113 => kernel_rfl
            case hf24x113 => kernel_rfl
            case hr24x113 => kernel_rfl
            case hQ24x113 => exact fun _ _ _ h => h
            case hy24x113 => first | exact Or.inl ⟨by rfl, by (intro w hSw; (try dsimp only at hSw); go_simp; try rfl)⟩ | exact Or.inr ⟨by rfl, rfl⟩
            case hS24x113 => assumption
            (try simp only [Act.put, List.setIfInBounds_toArray, List.set_cons_zero, List.set_cons_succ])
            refine' wpAnyH_take (i := 25) (v := ?v25x114) ?hi25x114 ?hs25x114 ?hf25x114 ?hr25x114 ?hQ25x114 ?hy25x114 ?hS25x114 ?rest25x114
            case hi25x114 => (simp only [List.getElem?_toArray, List.getElem?_cons_succ, List.getElem?_cons_zero]; try rfl)
            case hs25x114 => kernel_rfl
            case hf25x114 => kernel_rfl
            case hr25x114 => kernel_rfl
            case hQ25x114 => exact fun _ _ _ h => h
            case hy25x114 => first | exact Or.inl ⟨by rfl, by (intro w hSw; (try dsimp only at hSw); go_simp; try rfl)⟩ | exact Or.inr ⟨by rfl, rfl⟩
            case hS25x114 => assumption
            (try simp only [Act.put, List.setIfInBounds_toArray, List.set_cons_zero, List.set_cons_succ])
            refine' wpAnyH_take (i := 26) (v := ?v26x115) ?hi26x115 ?hs26x115 ?hf26x115 ?hr26x115 ?hQ26x115 ?hy26x115 ?hS26x115 ?rest26x115
            case hi26x115 => (simp only [List.getElem?_toArray, List.getElem?_cons_succ, List.getElem?_cons_zero]; try rfl)
            case hs26x115 => kernel_rfl
            case hf26x115 => kernel_rfl
            case hr26x115 => kernel_rfl
            case hQ26x115 => exact fun _ _ _ h => h
            case hy26x115 => first | exact Or.inl ⟨by rfl, by (intro w hSw; (try dsimp only at hSw); go_simp; try rfl)⟩ | exact Or.inr ⟨by rfl, rfl⟩
            case hS26x115 => assumption
            (try simp only [Act.put, List.setIfInBounds_toArray, List.set_cons_zero, List.set_cons_succ])
            refine' wpAnyH_take (i := 27) (v := (.bool false)) ?hi27x116 ?hs27x116 ?hf27x116 ?hr27x116 ?hQ27x116 ?hy27x116 ?hS27x116 ?rest27x116
            case hi27x116 => (simp only [List.getElem?_toArray, List.getElem?_cons_succ, List.getElem?_cons_zero]; try rfl)
            case hs27x116 => kernel_rfl
            case hf27x116 => kernel_rfl
            case hr27x116 => kernel_rfl
            case hQ27x116 => exact fun _ _ _ h => h
            case hy27x116 => first | exact Or.inl ⟨by rfl, by (intro w hSw; (try dsimp only at hSw); go_simp; try rfl)⟩ | exact Or.inr ⟨by rfl, rfl⟩
            case hS27x116 => assumption
            (try simp only [Act.put, List.setIfInBounds_toArray, List.set_cons_zero, List.set_cons_succ])
            refine' wpAnyH_take (i := 28) (v := ?v28x117) ?hi28x117 ?hs28x117 ?hf28x117 ?hr28x117 ?hQ28x117 ?hy28x117 ?hS28x117 ?rest28x117
            case hi28x117 => (simp only [List.getElem?_toArray, List.getElem?_cons_succ, List.getElem?_cons_zero]; try rfl)
            case hs28x117 => kernel_rfl
            case hf28x117 => kernel_rfl
            case hr28x117 => kernel_rfl
            case hQ28x117 => exact fun _ _ _ h => h
            case hy28x117 => first | exact Or.inl ⟨by rfl, by (intro w hSw; (try dsimp only at hSw); go_simp; try rfl)⟩ | exact Or.inr ⟨by rfl, rfl⟩
            case hS28x117 => assumption
            (try simp only [Act.put, List.setIfInBounds_toArray, List.set_cons_zero, List.set_cons_succ])
            refine' wpAnyH_take (i := 29) (v := ?v29x118) ?hi29x118 ?hs29x118 ?hf29x118 ?hr29x118 ?hQ29x118 ?hy29x118 ?hS29x118 ?rest29x118
            case hi29x118 => (simp only [List.getElem?_toArray, List.getElem?_cons_succ, List.getElem?_cons_zero]; try rfl)
            case hs29x118 => kernel_rfl
            case hf29x118 => kernel_rfl
            case hr29x118 => kernel_rfl
            case hQ29x118 => exact fun _ _ _ h => h
            case hy29x118 => first | exact Or.inl ⟨by rfl, by (intro w hSw; (try dsimp only at hSw); go_simp; try rfl)⟩ | exact Or.inr ⟨by rfl, rfl⟩
            case hS29x118 => assumption
            (try simp only [Act.put, List.setIfInBounds_toArray, List.set_cons_zero, List.set_cons_succ])
            refine' wpAnyH_take (i := 30) (v := ?v30x119) ?hi30x119 ?hs30x119 ?hf30x119 ?hr30x119 ?hQ30x119 ?hy30x119 ?hS30x119 ?rest30x119
            case hi30x119 => (simp only [List.getElem?_toArray, List.getElem?_cons_succ, List.getElem?_cons_zero]; try rfl)
            case hs30x119 => kernel_rfl
            case hf30x119 => kernel_rfl
            case hr30x119 => kernel_rfl
            case hQ30x119 => exact fun _ _ _ h => h
            case hy30x119 => first | exact Or.inl ⟨by rfl, by (intro w hSw; (try dsimp only at hSw); go_simp; try rfl)⟩ | exact Or.inr ⟨by rfl, rfl⟩
            case hS30x119 => assumption
            (try simp only [Act.put, List.setIfInBounds_toArray, List.set_cons_zero, List.set_cons_succ])
            refine' wpAnyH_take (i := 31) (v := ?v31x120) ?hi31x120 ?hs31x120 ?hf31x120 ?hr31x120 ?hQ31x120 ?hy31x120 ?hS31x120 ?rest31x120
            case hi31x120 => (simp only [List.getElem?_toArray, List.getElem?_cons_succ, List.getElem?_cons_zero]; try rfl)
            case hs31x120 => kernel_rfl
            case hf31x120 => kernel_rfl
            case hr31x120 => kernel_rfl
            case hQ31x120 => exact fun _ _ _ h => h
            case hy31x120 => first | exact Or.inl ⟨by rfl, by (intro w hSw; (try dsimp only at hSw); go_simp; try rfl)⟩ | exact Or.inr ⟨by rfl, rfl⟩
            case hS31x120 => assumption
            (try simp only [Act.put, List.setIfInBounds_toArray, List.set_cons_zero, List.set_cons_succ])
            refine' wpAnyH_take (i := 32) (v := ?v32x121) ?hi32x121 ?hs32x121 ?hf32x121 ?hr32x121 ?hQ32x121 ?hy32x121 ?hS32x121 ?rest32x121
            case hi32x121 => (simp only [List.getElem?_toArray, List.getElem?_cons_succ, List.getElem?_cons_zero]; try rfl)
            case hs32x121 => kernel_rfl
            case hf32x121 => kernel_rfl
            case hr32x121 => kernel_rfl
            case hQ32x121 => exact fun _ _ _ h => h
            case hy32x121 => first | exact Or.inl ⟨by rfl, by (intro w hSw; (try dsimp only at hSw); go_simp; try rfl)⟩ | exact Or.inr ⟨by rfl, rfl⟩
            case hS32x121 => assumption
            (try simp only [Act.put, List.setIfInBounds_toArray, List.set_cons_zero, List.set_cons_succ])
            refine' wpAnyH_take (i := 33) (v := ?v33x122) ?hi33x122 ?hs33x122 ?hf33x122 ?hr33x122 ?hQ33x122 ?hy33x122 ?hS33x122 ?rest33x122
            case hi33x122 => (simp only [List.getElem?_toArray, List.getElem?_cons_succ, List.getElem?_cons_zero]; try rfl)
            case hs33x122 => kernel_rfl
            case hf33x122 => kernel_rfl
            case hr33x122 => kernel_rfl
            case hQ33x122 => exact fun _ _ _ h => h
            case hy33x122 => first | exact Or.inl ⟨by rfl, by (intro w hSw; (try dsimp only at hSw); go_simp; try rfl)⟩ | exact Or.inr ⟨by rfl, rfl⟩
            case hS33x122 => assumption
            (try simp only [Act.put, List.setIfInBounds_toArray, List.set_cons_zero, List.set_cons_succ])
            refine' wpAnyH_take (i := 34) (v := ?v34x123) ?hi34x123 ?hs34x123 ?hf34x123 ?hr34x123 ?hQ34x123 ?hy34x123 ?hS34x123 ?rest34x123
            case hi34x123 => (simp only [List.getElem?_toArray, List.getElem?_cons_succ, List.getElem?_cons_zero]; try rfl)
            case hs34x123 => kernel_rfl
            case hf34x123 => kernel_rfl
            case hr34x123 => kernel_rfl
            case hQ34x123 => exact fun _ _ _ h => h
            case hy34x123 => first | exact Or.inl ⟨by rfl, by (intro w hSw; (try dsimp only at hSw); go_simp; try rfl)⟩ | exact Or.inr ⟨by rfl, rfl⟩
            case hS34x123 => assumption
            (try simp only [Act.put, List.setIfInBounds_toArray, List.set_cons_zero, List.set_cons_succ])
            refine' wpAnyH_take (i := 35) (v := ?v35x124) ?hi35x124 ?hs35x124 ?hf35x124 ?hr35x124 ?hQ35x124 ?hy35x124 ?hS35x124 ?rest35x124
            case hi35x124 => (simp only [List.getElem?_toArray, List.getElem?_cons_succ, List.getElem?_cons_zero]; try rfl)
            case hs35x124 => kernel_rfl
            case hf35x124 => kernel_rfl
            case hr35x124 => kernel_rfl
            case hQ35x124 => exact fun _ _ _ h => h
            case hy35x124 => first | exact Or.inl ⟨by rfl, by (intro w hSw; (try dsimp only at hSw); go_simp; try rfl)⟩ | exact Or.inr ⟨by rfl, rfl⟩
            case hS35x124 => assumption
            (try simp only [Act.put, List.setIfInBounds_toArray, List.set_cons_zero, List.set_cons_succ])
            refine' wpAnyH_take (i := 36) (v := ?v36x125) ?hi36x125 ?hs36x125 ?hf36x125 ?hr36x125 ?hQ36x125 ?hy36x125 ?hS36x125 ?rest36x125
            case hi36x125 => (simp only [List.getElem?_toArray, List.getElem?_cons_succ, List.getElem?_cons_zero]; try rfl)
            case hs36x125 => kernel_rfl
            case hf36x125 => kernel_rfl
            case hr36x125 => kernel_rfl
            case hQ36x125 => exact fun _ _ _ h => h
            case hy36x125 => first | exact Or.inl ⟨by rfl, by (intro w hSw; (try dsimp only at hSw); go_simp; try rfl)⟩ | exact Or.inr ⟨by rfl, rfl⟩
            case hS36x125 => assumption
            (try simp only [Act.put, List.setIfInBounds_toArray, List.set_cons_zero, List.set_cons_succ])
            refine' wpAnyH_take (i := 37) (v := ?v37x126) ?hi37x126 ?hs37x126 ?hf37x126 ?hr37x126 ?hQ37x126 ?hy37x126 ?hS37x126 ?rest37x126
            case hi37x126 => (simp only [List.getElem?_toArray, List.getElem?_cons_succ, List.getElem?_cons_zero]; try rfl)
            case hs37x126 => kernel_rfl
            case hf37x126 => kernel_rfl
            case hr37x126 => kernel_rfl
            case hQ37x126 => exact fun _ _ _ h => h
            case hy37x126 => first | exact Or.inl ⟨by rfl, by (intro w hSw; (try dsimp only at hSw); go_simp; try rfl)⟩ | exact Or.inr ⟨by rfl, rfl⟩
            case hS37x126 => assumption
            (try simp only [Act.put, List.setIfInBounds_toArray, List.set_cons_zero, List.set_cons_succ])
            refine' wpAnyH_take (i := 38) (v := ?v38x127) ?hi38x127 ?hs38x127 ?hf38x127 ?hr38x127 ?hQ38x127 ?hy38x127 ?hS38x127 ?rest38x127
            case hi38x127 => (simp only [List.getElem?_toArray, List.getElem?_cons_succ, List.getElem?_cons_zero]; try rfl)
            case hs38x127 => kernel_rfl
            case hf38x127 => kernel_rfl
            case hr38x127 => kernel_rfl
            case hQ38x127 => exact fun _ _ _ h => h
            case hy38x127 => first | exact Or.inl ⟨by rfl, by (intro w hSw; (try dsimp only at hSw); go_simp; try rfl)⟩ | exact Or.inr ⟨by rfl, rfl⟩
            case hS38x127 => assumption
            (try simp only [Act.put, List.setIfInBounds_toArray, List.set_cons_zero, List.set_cons_succ])
            refine' wpAnyH_take (i := 39) (v := ?v39x128) ?hi39x128 ?hs39x128 ?hf39x128 ?hr39x128 ?hQ39x128 ?hy39x128 ?hS39x128 ?rest39x128
            case hi39x128 => (simp only [List.getElem?_toArray, List.getElem?_cons_succ, List.getElem?_cons_zero]; try rfl)
            case hs39x128 => kernel_rfl
            case hf39x128 => kernel_rfl
            case hr39x128 => kernel_rfl
            case hQ39x128 => exact fun _ _ _ h => h
            case hy39x128 => first | exact Or.inl ⟨by rfl, by (intro w hSw; (try dsimp only at hSw); go_simp; try rfl)⟩ | exact Or.inr ⟨by rfl, rfl⟩
            case hS39x128 => assumption
            (try simp only [Act.put, List.setIfInBounds_toArray, List.set_cons_zero, List.set_cons_succ])
            refine' wpAnyH_take (i := 40) (v := ?v40x129) ?hi40x129 ?hs40x129 ?hf40x129 ?hr40x129 ?hQ40x129 ?hy40x129 ?hS40x129 ?rest40x129
            case hi40x129 => (simp only [List.getElem?_toArray, List.getElem?_cons_succ, List.getElem?_cons_zero]; try rfl)
            case hs40x129 => kernel_rfl
            case hf40x129 => kernel_rfl
            case hr40x129 => kernel_rfl
            case hQ40x129 => exact fun _ _ _ h => h
            case hy40x129 => first | exact Or.inl ⟨by rfl, by (intro w hSw; (try dsimp only at hSw); go_simp; try rfl)⟩ | exact Or.inr ⟨by rfl, rfl⟩
            case hS40x129 => assumption
            (try simp only [Act.put, List.setIfInBounds_toArray, List.set_cons_zero, List.set_cons_succ])
            refine' wpAnyH_take (i := 41) (v := ?v41x130) ?hi41x130 ?hs41x130 ?hf41x130 ?hr41x130 ?hQ41x130 ?hy41x130 ?hS41x130 ?rest41x130
            case hi41x130 => (simp only [List.getElem?_toArray, List.getElem?_cons_succ, List.getElem?_cons_zero]; try rfl)
            case hs41x130 => kernel_rfl
            case hf41x130 => kernel_rfl
            case hr41x130 => kernel_rfl
            case hQ41x130 => exact fun _ _ _ h => h
            case hy41x130 => first | exact Or.inl ⟨by rfl, by (intro w hSw; (try dsimp only at hSw); go_simp; try rfl)⟩ | exact Or.inr ⟨by rfl, rfl⟩
            case hS41x130 => assumption
            (try simp only [Act.put, List.setIfInBounds_toArray, List.set_cons_zero, List.set_cons_succ])
            refine' wpAnyH_take (i := 42) (v := (.bool false)) ?hi42x131 ?hs42x131 ?hf42x131 ?hr42x131 ?hQ42x131 ?hy42x131 ?hS42x131 ?rest42x131
            case hi42x131 => (simp only [List.getElem?_toArray, List.getElem?_cons_succ, List.getElem?_cons_zero]; try rfl)
            case hs42x131 => kernel_rfl
            case hf42x131 => kernel_rfl
            case hr42x131 => kernel_rfl
            case hQ42x131 => exact fun _ _ _ h => h
            case hy42x131 => first | exact Or.inl ⟨by rfl, by (intro w hSw; (try dsimp only at hSw); go_simp; try rfl)⟩ | exact Or.inr ⟨by rfl, rfl⟩
            case hS42x131 => assumption
            (try simp only [Act.put, List.setIfInBounds_toArray, List.set_cons_zero, List.set_cons_succ])
            refine' wpAnyH_take (i := 43) (v := ?v43x132) ?hi43x132 ?hs43x132 ?hf43x132 ?hr43x132 ?hQ43x132 ?hy43x132 ?hS43x132 ?rest43x132
            case hi43x132 => (simp only [List.getElem?_toArray, List.getElem?_cons_succ, List.getElem?_cons_zero]; try rfl)
            case hs43x132 => kernel_rfl
            case hf43x132 => kernel_rfl
            case hr43x132 => kernel_rfl
            case hQ43x132 => exact fun _ _ _ h => h
            case hy43x132 => first | exact Or.inl ⟨by rfl, by (intro w hSw; (try dsimp only at hSw); go_simp; try rfl)⟩ | exact Or.inr ⟨by rfl, rfl⟩
            case hS43x132 => assumption
            (try simp only [Act.put, List.setIfInBounds_toArray, List.set_cons_zero, List.set_cons_succ])
            refine' wpAnyH_take (i := 44) (v := ?v44x133) ?hi44x133 ?hs44x133 ?hf44x133 ?hr44x133 ?hQ44x133 ?hy44x133 ?hS44x133 ?rest44x133
            case hi44x133 => (simp only [List.getElem?_toArray, List.getElem?_cons_succ, List.getElem?_cons_zero]; try rfl)
            case hs44x133 => kernel_rfl
            case hf44x133 => kernel_rfl
            case hr44x133 => kernel_rfl
            case hQ44x133 => exact fun _ _ _ h => h
            case hy44x133 => first | exact Or.inl ⟨by rfl, by (intro w hSw; (try dsimp only at hSw); go_simp; try rfl)⟩ | exact Or.inr ⟨by rfl, rfl⟩
            case hS44x133 => assumption
            (try simp only [Act.put, List.setIfInBounds_toArray, List.set_cons_zero, List.set_cons_succ])
            refine' wpAnyH_take (i := 45) (v := ?v45x134) ?hi45x134 ?hs45x134 ?hf45x134 ?hr45x134 ?hQ45x134 ?hy45x134 ?hS45x134 ?rest45x134
            case hi45x134 => (simp only [List.getElem?_toArray, List.getElem?_cons_succ, List.getElem?_cons_zero]; try rfl)
            case hs45x134 => kernel_rfl
            case hf45x134 => kernel_rfl
            case hr45x134 => kernel_rfl
            case hQ45x134 => exact fun _ _ _ h => h
            case hy45x134 => first | exact Or.inl ⟨by rfl, by (intro w hSw; (try dsimp only at hSw); go_simp; try rfl)⟩ | exact Or.inr ⟨by rfl, rfl⟩
            case hS45x134 => assumption
            (try simp only [Act.put, List.setIfInBounds_toArray, List.set_cons_zero, List.set_cons_succ])
            refine wpAnyH_done (by kernel_rfl) ?_ _
            refine NoPanic.normal ?_
            obtain ⟨w9, hw_⟩ : ∃ x, w7.drew = x := ⟨_, rfl⟩
            have hd_ : Below w7.heap.size w7 w9 := by rw [← hw_]; exact (Below.refl _ _).drew
            simp only [hw_]
            have h9 := Lib.hid (h7.out.below hd_); have hS9 := Lib.hid (hS7.out.below hd_); have hT9 := Lib.hid (hT7.out.below hd_); have hb9 := Lib.hid (chainB hb7.out hd_ hb7.out.size); have hB9 := Lib.hid (Nat.le_trans hB7.out hd_.size)
            clear hd_ hw_ h7 hS7 hT7 hb7 hB7 hs_ ht_ m5_ x0_ y2_
            have ht_ := hT9.out.cell q (nums_at htkH.out)
            have htf_ := hT9.out.free q
            go_wp2_with fail
            clear ht_ htf_
            obtain ⟨w10, hw_⟩ : ∃ x, w9.setCell ⟨Se + 1, q, none⟩ (.int .i64 ((tk : Int) + 1)) = x := ⟨_, rfl⟩
            have h10 := Lib.hid (show BoxI w10 B b W n S _ by rw [← hw_]; exact h9.out.far hT9.out q (.int .i64 ((tk : Int) + 1)))
            have hT10 := Lib.hid (show HasC w10 (Se + 1) (nums (taken.set q (tk + 1))) 2 by
              rw [← hw_, ← nums_set]
              exact hT9.out.set q (.int .i64 ((tk + 1 : Nat) : Int)))
            have hS10 := Lib.hid (show HasC w10 (Se) _ 2 by rw [← hw_]; exact hS9.out.far (by simp) _)
            have hb10 := Lib.hid (show Below w0.heap.size w0 w10 by rw [← hw_]; exact hb9.out.setCell (by have := hSB.out; have := hB0.out; simp; omega) _)
            have hB10 := Lib.hid (show B ≤ w10.heap.size by rw [← hw_]; simpa using hB9.out)
            simp only [hw_]
            clear hw_ h9 hS9 hT9 hb9 hB9
            have hpos_ := Lib.hid hlt2
            obtain ⟨sn', hsn'⟩ : ∃ y, y = sn := ⟨_, rfl⟩
            obtain ⟨tk', htk'⟩ : ∃ y, y = (tk + 1) := ⟨_, rfl⟩
            have hsnE := Lib.hid (show sent[q]? = some sn' by rw [hsn']; exact hsnH.out)
            have htkE := Lib.hid (show (taken.set q (tk + 1))[q]? = some tk' by rw [htk']; exact List.getElem?_set_self (List.getElem?_eq_some_iff.1 htkH.out).1)
            have hLE := Lib.hid (show (upd st f t ⟨(st f t).T, ((st f t).f + 1) % n, q'⟩ f t).q.length = sn' - tk' by rw [hsn', htk']; rw [upd_same]; exact hcnH.out.len)
            have hbd1 : tk' ≤ sn' := by rw [hsn', htk']; have := hcH.out.1; have := hpos_.out; omega
            have hbd2 : sn' ≤ 1000 := by rw [hsn']; have := hsk_.out; omega
            clear hsn' htk'
            have hLen := Lib.hid (fun w' (hw : Below w10.heap.size w10 w') => (h10.out.below hw).lenAt hfW htW ((sn' : Int) - (tk' : Int)) (by rw [hLE.out]; omega))
            have hs6_ := hS10.out.cell q (nums_at hsnE.out)
            have ht6_ := hT10.out.cell q (nums_at htkE.out)
            have hw6_ : IntKind.i64.wrap ((sn' : Int) - (tk' : Int)) = (sn' : Int) - (tk' : Int) := IntWalk.i64_in _ (by omega)
            refine wp_region_noPanic ?_
            refine wp_region_held_drew (S := (fun w' => w'.cell? ⟨Se, q, none⟩ = some (.int .i64 (sn' : Nat)) ∧ w'.cell? ⟨Se + 1, q, none⟩ = some (.int .i64 (tk' : Nat)))) (by kernel_rfl) (⟨hs6_, ht6_⟩) (fun hHeld => ?_)
            refine' wpAnyH_take (i := 0) (v := ?v0x135) ?hi0x135 ?hs0x135 ?hf0x135 ?hr0x135 ?hQ0x135 ?hy0x135 ?hS0x135 ?rest0x135
            case hi0x135 => (simp only [List.getElem?_toArray, List.getElem?_cons_succ, List.getElem?_cons_zero]; try rfl)
            case hs0x135 => kernel_rfl
            case hf0x135 => kernel_rfl
            case hr0x135 => kernel_rfl
            case hQ0x135 => exact fun _ _ _ h => h
            case hy0x135 => first | exact Or.inl ⟨by rfl, by (intro w hSw; (try dsimp only at hSw); go_simp; try rfl)⟩ | exact Or.inr ⟨by rfl, rfl⟩
            case hS0x135 => assumption
            (try simp only [Act.put, List.setIfInBounds_toArray, List.set_cons_zero, List.set_cons_succ])
            refine' wpAnyH_take (i := 1) (v := ?v1x136) ?hi1x136 ?hs1x136 ?hf1x136 ?hr1x136 ?hQ1x136 ?hy1x136 ?hS1x136 ?rest1x136
            case hi1x136 => (simp only [List.getElem?_toArray, List.getElem?_cons_succ, List.getElem?_cons_zero]; try rfl)
            case hs1x136 => kernel_rfl
            case hf1x136 => kernel_rfl
            case hr1x136 => kernel_rfl
            case hQ1x136 => exact fun _ _ _ h => h
            case hy1x136 => first | exact Or.inl ⟨by rfl, by (intro w hSw; (try dsimp only at hSw); go_simp; try rfl)⟩ | exact Or.inr ⟨by rfl, rfl⟩
            case hS1x136 => assumption
            (try simp only [Act.put, List.setIfInBounds_toArray, List.set_cons_zero, List.set_cons_succ])
            refine' wpAnyH_take (i := 2) (v := ?v2x137) ?hi2x137 ?hs2x137 ?hf2x137 ?hr2x137 ?hQ2x137 ?hy2x137 ?hS2x137 ?rest2x137
            case hi2x137 => (simp only [List.getElem?_toArray, List.getElem?_cons_succ, List.getElem?_cons_zero]; try rfl)
            case hs2x137 => kernel_rfl
            case hf2x137 => kernel_rfl
            case hr2x137 => kernel_rfl
            case hQ2x137 => exact fun _ _ _ h => h
            case hy2x137 => first | exact Or.inl ⟨by rfl, by (intro w hSw; (try dsimp only at hSw); go_simp; try rfl)⟩ | exact Or.inr ⟨by rfl, rfl⟩
            case hS2x137 => assumption
            (try simp only [Act.put, List.setIfInBounds_toArray, List.set_cons_zero, List.set_cons_succ])
            refine' wpAnyH_take (i := 4) (v := ?v4x138) ?hi4x138 ?hs4x138 ?hf4x138 ?hr4x138 ?hQ4x138 ?hy4x138 ?hS4x138 ?rest4x138
            case hi4x138 => (simp only [List.getElem?_toArray, List.getElem?_cons_succ, List.getElem?_cons_zero]; try rfl)
            case hs4x138 => kernel_rfl
            case hf4x138 => kernel_rfl
            case hr4x138 => kernel_rfl
            case hQ4x138 => exact fun _ _ _ h => h
            case hy4x138 => first | exact Or.inl ⟨by rfl, by (intro w hSw; (try dsimp only at hSw); go_simp; try rfl)⟩ | exact Or.inr ⟨by rfl, rfl⟩
            case hS4x138 => assumption
            (try simp only [Act.put, List.setIfInBounds_toArray, List.set_cons_zero, List.set_cons_succ])
            refine' wpAnyH_take (i := 5) (v := ?v5x139) ?hi5x139 ?hs5x139 ?hf5x139 ?hr5x139 ?hQ5x139 ?hy5x139 ?hS5x139 ?rest5x139
            case hi5x139 => (simp only [List.getElem?_toArray, List.getElem?_cons_succ, List.getElem?_cons_zero]; try rfl)
            case hs5x139 => kernel_rfl
            case hf5x139 => kernel_rfl
            case hr5x139 => kernel_rfl
            case hQ5x139 => exact fun _ _ _ h => h
            case hy5x139 => first | exact Or.inl ⟨by rfl, by (intro w hSw; (try dsimp only at hSw); go_simp; try rfl)⟩ | exact Or.inr ⟨by rfl, rfl⟩
            case hS5x139 => assumption
            (try simp only [Act.put, List.setIfInBounds_toArray, List.set_cons_zero, List.set_cons_succ])
            refine' wpAnyH_take (i := 6) (v := ?v6x140) ?hi6x140 ?hs6x140 ?hf6x140 ?hr6x140 ?hQ6x140 ?hy6x140 ?hS6x140 ?rest6x140
            case hi6x140 => (simp only [List.getElem?_toArray, List.getElem?_cons_succ, List.getElem?_cons_zero]; try rfl)
            case hs6x140 => kernel_rfl
            case hf6x140 => kernel_rfl
            case hr6x140 => kernel_rfl
            case hQ6x140 => exact fun _ _ _ h => h
            case hy6x140 => first | exact Or.inl ⟨by rfl, by (intro w hSw; (try dsimp only at hSw); go_simp; try rfl)⟩ | exact Or.inr ⟨by rfl, rfl⟩
            case hS6x140 => assumption
            (try simp only [Act.put, List.setIfInBounds_toArray, List.set_cons_zero, List.set_cons_succ])
            refine' wpAnyH_take (i := 7) (v := ?v7x141) ?hi7x141 ?hs7x141 ?hf7x141 ?hr7x141 ?hQ7x141 ?hy7x141 ?hS7x141 ?rest7x141
            case hi7x141 => (simp only [List.getElem?_toArray, List.getElem?_cons_succ, List.getElem?_cons_zero]; try rfl)
            case hs7x141 => kernel_rfl
            case hf7x141 => kernel_rfl
            case hr7x141 => kernel_rfl
            case hQ7x141 => exact fun _ _ _ h => h
            case hy7x141 => first | exact Or.inl ⟨by rfl, by (intro w hSw; (try dsimp only at hSw); go_simp; try rfl)⟩ | exact Or.inr ⟨by rfl, rfl⟩
            case hS7x141 => assumption
            (try simp only [Act.put, List.setIfInBounds_toArray, List.set_cons_zero, List.set_cons_succ])
            refine' wpAnyH_take (i := 8) (v := ?v8x142) ?hi8x142 ?hs8x142 ?hf8x142 ?hr8x142 ?hQ8x142 ?hy8x142 ?hS8x142 ?rest8x142
            case hi8x142 => (simp only [List.getElem?_toArray, List.getElem?_cons_succ, List.getElem?_cons_zero]; try rfl)
            case hs8x142 => kernel_rfl
            case hf8x142 => kernel_rfl
            case hr8x142 => kernel_rfl
            case hQ8x142 => exact fun _ _ _ h => h
            case hy8x142 => first | exact Or.inl ⟨by rfl, by (intro w hSw; (try dsimp only at hSw); go_simp; try rfl)⟩ | exact Or.inr ⟨by rfl, rfl⟩
            case hS8x142 => assumption
            (try simp only [Act.put, List.setIfInBounds_toArray, List.set_cons_zero, List.set_cons_succ])
            refine' wpAnyH_take (i := 9) (v := ?v9x143) ?hi9x143 ?hs9x143 ?hf9x143 ?hr9x143 ?hQ9x143 ?hy9x143 ?hS9x143 ?rest9x143
            case hi9x143 => (simp only [List.getElem?_toArray, List.getElem?_cons_succ, List.getElem?_cons_zero]; try rfl)
            case hs9x143 => kernel_rfl
            case hf9x143 => kernel_rfl
            case hr9x143 => kernel_rfl
            case hQ9x143 => exact fun _ _ _ h => h
            case hy9x143 => first | exact Or.inl ⟨by rfl, by (intro w hSw; (try dsimp only at hSw); go_simp; try rfl)⟩ | exact Or.inr ⟨by rfl, rfl⟩
            case hS9x143 => assumption
            (try simp only [Act.put, List.setIfInBounds_toArray, List.set_cons_zero, List.set_cons_succ])
            refine' wpAnyH_take (i := 10) (v := ?v10x144) ?hi10x144 ?hs10x144 ?hf10x144 ?hr10x144 ?hQ10x144 ?hy10x144 ?hS10x144 ?rest10x144
            case hi10x144 => (simp only [List.getElem?_toArray, List.getElem?_cons_succ, List.getElem?_cons_zero]; try rfl)
            case hs10x144 => kernel_rfl
            case hf10x144 => kernel_rfl
            case hr10x144 => kernel_rfl
            case hQ10x144 => exact fun _ _ _ h => h
            case hy10x144 => first | exact Or.inl ⟨by rfl, by (intro w hSw; (try dsimp only at hSw); go_simp; try rfl)⟩ | exact Or.inr ⟨by rfl, rfl⟩
            case hS10x144 => assumption
            (try simp only [Act.put, List.setIfInBounds_toArray, List.set_cons_zero, List.set_cons_succ])
            refine' wpAnyH_take (i := 11) (v := ?v11x145) ?hi11x145 ?hs11x145 ?hf11x145 ?hr11x145 ?hQ11x145 ?hy11x145 ?hS11x145 ?rest11x145
            case hi11x145 => (simp only [List.getElem?_toArray, List.getElem?_cons_succ, List.getElem?_cons_zero]; try rfl)
            case hs11x145 => kernel_rfl
            case hf11x145 => kernel_rfl
            case hr11x145 => kernel_rfl
            case hQ11x145 => exact fun _ _ _ h => h
            case hy11x145 => first | exact Or.inl ⟨by rfl, by (intro w hSw; (try dsimp only at hSw); go_simp; try rfl)⟩ | exact Or.inr ⟨by rfl, rfl⟩
            case hS11x145 => assumption
            (try simp only [Act.put, List.setIfInBounds_toArray, List.set_cons_zero, List.set_cons_succ])
            refine' wpAnyH_take (i := 12) (v := ?v12x146) ?hi12x146 ?hs12x146 ?hf12x146 ?hr12x146 ?hQ12x146 ?hy12x146 ?hS12x146 ?rest12x146
            case hi12x146 => (simp only [List.getElem?_toArray, List.getElem?_cons_succ, List.getElem?_cons_zero]; try rfl)
            case hs12x146 => kernel_rfl
            case hf12x146 => kernel_rfl
            case hr12x146 => kernel_rfl
            case hQ12x146 => exact fun _ _ _ h => h
            case hy12x146 => first | exact Or.inl ⟨by rfl, by (intro w hSw; (try dsimp only at hSw); go_simp; try rfl)⟩ | exact Or.inr ⟨by rfl, rfl⟩
            case hS12x146 => assumption
            (try simp only [Act.put, List.setIfInBounds_toArray, List.set_cons_zero, List.set_cons_succ])
            refine wpAnyH_ready (rs := [3]) (by kernel_rfl) (by simp) ?_
            refine' (AllReadyH.cons (i := 3) ?ho3x147 (fun K hK => ?st3x147) AllReadyH.nil)
            case ho3x147 => (simp only [List.getElem?_toArray, List.getElem?_cons_succ, List.getElem?_cons_zero]; try rfl)
            case st3x147 =>
              go_simp
              refine (hLen.out _ (Below.refl _ _).drew).mono ?_
              rintro e w7 ⟨rfl, rfl⟩
              refine hK.out _ _ ?_ (fun hHeld => ?_)
              · exact hHeld
              clear hK K
              (try simp only [Act.put, List.setIfInBounds_toArray, List.set_cons_zero, List.set_cons_succ])
              refine' wpAnyH_take (i := 13) (v := ?v13x148) ?hi13x148 ?hs13x148 ?hf13x148 ?hr13x148 ?hQ13x148 ?hy13x148 ?hS13x148 ?rest13x148
              case hi13x148 => (simp only [List.getElem?_toArray, List.getElem?_cons_succ, List.getElem?_cons_zero]; try rfl)
              case hs13x148 => kernel_rfl
              case hf13x148 => kernel_rfl
              case hr13x148 => kernel_rfl
              case hQ13x148 => exact fun _ _ _ h => h
              case hy13x148 => first | exact Or.inl ⟨by rfl, by (intro w hSw; (try dsimp only at hSw); go_simp; try rfl)⟩ | exact Or.inr ⟨by rfl, rfl⟩
              case hS13x148 => assumption
              (try simp only [Act.put, List.setIfInBounds_toArray, List.set_cons_zero, List.set_cons_succ])
              refine wpAnyH_done (by kernel_rfl) ?_ _
              refine NoPanic.normal ?_
              go_wp2_with fail
              go_roundw
              case rel => exact ⟨k + 1, _, _, _, by go_num, by omega, h10.out.below (Below.refl _ _).drew, hS10.out.drew, hT10.out.drew, (by have h := hC.out.pop (n := n) hfW htW (by rw [hpq.out]; exact htkH.out) (by rw [hpq.out]; exact hsnH.out) hcH.out hqH.out hsk_.out; rw [hpq.out] at h; exact h), hb10.out.drew, hB10.out⟩
              case measure => simp [Go.RowKit.intOf]; omega

      · obtain rfl : k = l.length := by omega
        go_wp2_with fail
        go_ret
        exact ⟨rfl, hb.out⟩
end Go.Proofs.Ytpghndmfdmimmaa
