/-
  What stamp.Join answers, at this program: of any two times. Condition: no more than 2^40 counters, of 32 bits.
-/
import Derived.Test.YtdfhchpimpbgfaaGreatDoorStChW
set_option linter.unusedVariables false
set_option linter.unusedSimpArgs false
namespace Go.Proofs.YtdfhchpimpbgfaaGreatDoor
open Go.RowKit Go.Lib

set_option maxHeartbeats 2000000 in
set_option maxRecDepth 1000000 in
theorem cl_max (x y : Int) (w : World) : Calls Tryz.prog 87 #[.int .u64 x, .int .u64 y] w fun e w' => e = .returned (.int .u64 (max x y)) ∧ w = w' := by
  go_enter Tryz.func87, Tryz.ntmps87
  go_wp2_with fail
  go_ret
  exact ⟨rfl, rfl⟩
set_option maxHeartbeats 2000000 in
set_option maxRecDepth 1000000 in
theorem chosen_join_bad (va vb : Value) (a b : Tm) (w : World) (ha : TmV w va a) (hb : TmV w vb b) (wa : TmW a) (wb : TmW b) (hsm : a.l.length ≤ 1099511627776) (hl : ¬ a.l.length = b.l.length) :
    Calls Tryz.prog 86 #[va, vb, .func (.func 87) #[] #[]] w (OutT (chosenT max a b) (chosenE a b) w) := by
  obtain ⟨ea, l⟩ := a
  obtain ⟨eb, m⟩ := b
  obtain ⟨sa, rfl, ha⟩ := ha
  obtain ⟨sb, rfl, hbE⟩ := hb
  obtain ⟨_, wl⟩ := wa
  obtain ⟨_, wm⟩ := wb
  simp only at ha hbE hl hsm wl wm ⊢
  obtain ⟨A, n, ca, rfl, hn, hla, hca⟩ := ha.form
  obtain ⟨B, k, cb, rfl, hk, hlb, hcb⟩ := hbE.form
  rw [show chosenT max ⟨ea, l⟩ ⟨eb, m⟩ = ⟨0, []⟩ by unfold chosenT; rw [if_neg hl], show chosenE ⟨ea, l⟩ ⟨eb, m⟩ = 40 by unfold chosenE; rw [if_neg hl]]
  have hnk : ¬ (n : Int) = (k : Int) := by omega
  have hnk2 : ((n : Int) == (k : Int)) = false := by simp; omega
  have hnk3 : ((n : Int) != (k : Int)) = true := by simp; omega
  clear hl
  obtain ⟨W0, hW0, hwW, hA, hB, hR, hzz⟩ := boxes3 w [.int .u64 ea, .slice A n ca] [.int .u64 eb, .slice B k cb] [.int .u64 0, .slice none 0 0] 26 26 26
  have haH := Lib.hid (ha.below hwW); have hbH := Lib.hid (hbE.below hwW)
  have hAH := Lib.hid hA; have hBH := Lib.hid hB; have hRH := Lib.hid hR; have hwWH := Lib.hid hwW
  have hnH := Lib.hid hn; have hkH := Lib.hid hk; have hsH := Lib.hid hsm; have wlH := Lib.hid wl; have wmH := Lib.hid wm
  have a0_ := hA.cell 0 rfl; have a1_ := hA.cell 1 rfl; have b0_ := hB.cell 0 rfl; have b1_ := hB.cell 1 rfl; have r0_ := hR.cell 0 rfl; have r1_ := hR.cell 1 rfl; have rf0_ := hR.free 0; have rf1_ := hR.free 1
  clear ha hbE hA hB hR hwW hn hk hsm wl wm
  have hb := Below.refl W0.heap.size W0
  go_enter Tryz.func86, Tryz.ntmps86
  go_wp2_with fail
  refine bodyPost_ret (v := .tuple #[.agg #[.int .u64 0, .slice none 0 0], .int .u16 40]) (by simp [results, Tryz.results86, go_sem, r0_, r1_, hzz]) rfl ⟨_, rfl, OwnW.nil _ _, ?_⟩
  have hbw := hwWH.out
  first | exact (hbw.setCell (by simp; omega) _).setCell (by simp; omega) _ | go_grown
set_option maxHeartbeats 2000000 in
set_option maxRecDepth 1000000 in
theorem chosen_join_ok (va vb : Value) (a b : Tm) (w : World) (ha : TmV w va a) (hb : TmV w vb b) (wa : TmW a) (wb : TmW b) (hsm : a.l.length ≤ 1099511627776) (hl : a.l.length = b.l.length) :
    Calls Tryz.prog 86 #[va, vb, .func (.func 87) #[] #[]] w (OutT (chosenT max a b) (chosenE a b) w) := by
  obtain ⟨ea, l⟩ := a
  obtain ⟨eb, m⟩ := b
  obtain ⟨sa, rfl, ha⟩ := ha
  obtain ⟨sb, rfl, hbE⟩ := hb
  obtain ⟨_, wl⟩ := wa
  obtain ⟨_, wm⟩ := wb
  simp only at ha hbE hl hsm wl wm ⊢
  obtain ⟨A, n, ca, rfl, hn, hla, hca⟩ := ha.form
  obtain ⟨B, k, cb, rfl, hk, hlb, hcb⟩ := hbE.form
  rw [show chosenT max ⟨ea, l⟩ ⟨eb, m⟩ = ⟨max ea eb, zipL max l m⟩ by unfold chosenT; rw [if_pos hl], show chosenE ⟨ea, l⟩ ⟨eb, m⟩ = 0 by unfold chosenE; rw [if_pos hl]]
  obtain rfl : n = k := by omega
  have hlH := Lib.hid hl
  clear hl
  obtain ⟨W0, hW0, hwW, hA, hB, hR, hzz⟩ := boxes3 w [.int .u64 ea, .slice A n ca] [.int .u64 eb, .slice B n cb] [.int .u64 0, .slice none 0 0] 26 26 26
  have haH := Lib.hid (ha.below hwW); have hbH := Lib.hid (hbE.below hwW)
  have hAH := Lib.hid hA; have hBH := Lib.hid hB; have hRH := Lib.hid hR; have hwWH := Lib.hid hwW
  have hnH := Lib.hid hn; have hkH := Lib.hid hk; have hsH := Lib.hid hsm; have wlH := Lib.hid wl; have wmH := Lib.hid wm
  have a0_ := hA.cell 0 rfl; have a1_ := hA.cell 1 rfl; have b0_ := hB.cell 0 rfl; have b1_ := hB.cell 1 rfl; have r0_ := hR.cell 0 rfl; have r1_ := hR.cell 1 rfl; have rf0_ := hR.free 0; have rf1_ := hR.free 1
  clear ha hbE hA hB hR hwW hn hk hsm wl wm
  have hb := Below.refl W0.heap.size W0
  have hz := hzz; have hs := hb.size; have hz0 := Lib.hid hzz
  obtain ⟨mx, hmx⟩ : ∃ x, max ea eb = x := ⟨_, rfl⟩
  have hmH := Lib.hid hmx
  rw [hmx]
  clear hmx
  go_enter Tryz.func86, Tryz.ntmps86
  go_wp2_with fail
  go_cut [8] (fun s wx => RelN mx l W0.heap.size W0 s wx)
  case first =>
    refine wp_region_noPanic ?_
    refine wp_region_held_drew (S := (fun w' => w'.cell? ⟨w.heap.size, 0, none⟩ = some (.int .u64 ea) ∧ w'.cell? ⟨w.heap.size, 1, none⟩ = some (.slice A n ca) ∧ w'.cell? ⟨w.heap.size + 1, 0, none⟩ = some (.int .u64 eb) ∧ w'.cell? ⟨w.heap.size + 1, 1, none⟩ = some (.slice B n cb))) (by kernel_rfl) (⟨a0_, a1_, b0_, b1_⟩) (fun hHeld => ?_)
    refine' wpAnyH_take (i := 0) (v := .func (.func 87) #[] #[]) ?hi0x1 ?hs0x1 ?hf0x1 ?hr0x1 ?hQ0x1 ?hy0x1 ?hS0x1 ?rest0x1
    case hi0x1 => (simp only [List.getElem?_toArray, List.getElem?_cons_succ, List.getElem?_cons_zero]; try rfl)
    case hs0x1 => kernel_rfl
    case hf0x1 => kernel_rfl
    case hr0x1 => kernel_rfl
    case hQ0x1 => exact fun _ _ _ h => h
    case hy0x1 => exact Or.inl ⟨by rfl, by (intro w hSw; (try dsimp only at hSw); go_simp)⟩
    case hS0x1 => assumption
    (try simp only [Act.put, List.setIfInBounds_toArray, List.set_cons_zero, List.set_cons_succ])
    refine' wpAnyH_take (i := 1) (v := .pointer (some ⟨w.heap.size, 0, none⟩)) ?hi1x2 ?hs1x2 ?hf1x2 ?hr1x2 ?hQ1x2 ?hy1x2 ?hS1x2 ?rest1x2
    case hi1x2 => (simp only [List.getElem?_toArray, List.getElem?_cons_succ, List.getElem?_cons_zero]; try rfl)
    case hs1x2 => kernel_rfl
    case hf1x2 => kernel_rfl
    case hr1x2 => kernel_rfl
    case hQ1x2 => exact fun _ _ _ h => h
    case hy1x2 => exact Or.inl ⟨by rfl, by (intro w hSw; (try dsimp only at hSw); go_simp)⟩
    case hS1x2 => assumption
    (try simp only [Act.put, List.setIfInBounds_toArray, List.set_cons_zero, List.set_cons_succ])
    refine' wpAnyH_take (i := 2) (v := .int .u64 ea) ?hi2x3 ?hs2x3 ?hf2x3 ?hr2x3 ?hQ2x3 ?hy2x3 ?hS2x3 ?rest2x3
    case hi2x3 => (simp only [List.getElem?_toArray, List.getElem?_cons_succ, List.getElem?_cons_zero]; try rfl)
    case hs2x3 => kernel_rfl
    case hf2x3 => kernel_rfl
    case hr2x3 => kernel_rfl
    case hQ2x3 => exact fun _ _ _ h => h
    case hy2x3 => exact Or.inl ⟨by rfl, by (intro w hSw; (try dsimp only at hSw); go_simp)⟩
    case hS2x3 => assumption
    (try simp only [Act.put, List.setIfInBounds_toArray, List.set_cons_zero, List.set_cons_succ])
    refine' wpAnyH_take (i := 3) (v := .pointer (some ⟨w.heap.size + 1, 0, none⟩)) ?hi3x4 ?hs3x4 ?hf3x4 ?hr3x4 ?hQ3x4 ?hy3x4 ?hS3x4 ?rest3x4
    case hi3x4 => (simp only [List.getElem?_toArray, List.getElem?_cons_succ, List.getElem?_cons_zero]; try rfl)
    case hs3x4 => kernel_rfl
    case hf3x4 => kernel_rfl
    case hr3x4 => kernel_rfl
    case hQ3x4 => exact fun _ _ _ h => h
    case hy3x4 => exact Or.inl ⟨by rfl, by (intro w hSw; (try dsimp only at hSw); go_simp)⟩
    case hS3x4 => assumption
    (try simp only [Act.put, List.setIfInBounds_toArray, List.set_cons_zero, List.set_cons_succ])
    refine' wpAnyH_take (i := 4) (v := .int .u64 eb) ?hi4x5 ?hs4x5 ?hf4x5 ?hr4x5 ?hQ4x5 ?hy4x5 ?hS4x5 ?rest4x5
    case hi4x5 => (simp only [List.getElem?_toArray, List.getElem?_cons_succ, List.getElem?_cons_zero]; try rfl)
    case hs4x5 => kernel_rfl
    case hf4x5 => kernel_rfl
    case hr4x5 => kernel_rfl
    case hQ4x5 => exact fun _ _ _ h => h
    case hy4x5 => exact Or.inl ⟨by rfl, by (intro w hSw; (try dsimp only at hSw); go_simp)⟩
    case hS4x5 => assumption
    (try simp only [Act.put, List.setIfInBounds_toArray, List.set_cons_zero, List.set_cons_succ])
    refine' wpAnyH_take (i := 6) (v := .pointer (some ⟨w.heap.size, 1, none⟩)) ?hi6x6 ?hs6x6 ?hf6x6 ?hr6x6 ?hQ6x6 ?hy6x6 ?hS6x6 ?rest6x6
    case hi6x6 => (simp only [List.getElem?_toArray, List.getElem?_cons_succ, List.getElem?_cons_zero]; try rfl)
    case hs6x6 => kernel_rfl
    case hf6x6 => kernel_rfl
    case hr6x6 => kernel_rfl
    case hQ6x6 => exact fun _ _ _ h => h
    case hy6x6 => exact Or.inl ⟨by rfl, by (intro w hSw; (try dsimp only at hSw); go_simp)⟩
    case hS6x6 => assumption
    (try simp only [Act.put, List.setIfInBounds_toArray, List.set_cons_zero, List.set_cons_succ])
    refine' wpAnyH_take (i := 7) (v := .slice A n ca) ?hi7x7 ?hs7x7 ?hf7x7 ?hr7x7 ?hQ7x7 ?hy7x7 ?hS7x7 ?rest7x7
    case hi7x7 => (simp only [List.getElem?_toArray, List.getElem?_cons_succ, List.getElem?_cons_zero]; try rfl)
    case hs7x7 => kernel_rfl
    case hf7x7 => kernel_rfl
    case hr7x7 => kernel_rfl
    case hQ7x7 => exact fun _ _ _ h => h
    case hy7x7 => exact Or.inl ⟨by rfl, by (intro w hSw; (try dsimp only at hSw); go_simp)⟩
    case hS7x7 => assumption
    (try simp only [Act.put, List.setIfInBounds_toArray, List.set_cons_zero, List.set_cons_succ])
    refine wpAnyH_ready (rs := [5, 8, 11]) (by kernel_rfl) (by simp) ?_
    refine' (AllReadyH.cons (i := 5) ?ho5x8 (fun K hK => ?st5x8) (AllReadyH.cons (i := 8) ?ho8x9 (fun K hK => ?st8x9) (AllReadyH.cons (i := 11) ?ho11x10 (fun K hK => ?st11x10) AllReadyH.nil)))
    case ho5x8 => (simp only [List.getElem?_toArray, List.getElem?_cons_succ, List.getElem?_cons_zero]; try rfl)
    case ho8x9 => (simp only [List.getElem?_toArray, List.getElem?_cons_succ, List.getElem?_cons_zero]; try rfl)
    case ho11x10 => (simp only [List.getElem?_toArray, List.getElem?_cons_succ, List.getElem?_cons_zero]; try rfl)
    case st5x8 =>
      go_simp
      refine (cl_max _ _ _).mono ?_; rw [hmH.out]; rintro e w' ⟨rfl, rfl⟩
      refine hK.out _ _ ?_ (fun hHeld => ?_)
      · exact keepS hAH.out hBH.out (by go_grown)
      clear hK K
      (try simp only [Act.put, List.setIfInBounds_toArray, List.set_cons_zero, List.set_cons_succ])
      refine wpAnyH_ready (rs := [8, 11]) (by kernel_rfl) (by simp) ?_
      refine' (AllReadyH.cons (i := 8) ?ho8x11 (fun K hK => ?st8x11) (AllReadyH.cons (i := 11) ?ho11x12 (fun K hK => ?st11x12) AllReadyH.nil))
      case ho8x11 => (simp only [List.getElem?_toArray, List.getElem?_cons_succ, List.getElem?_cons_zero]; try rfl)
      case ho11x12 => (simp only [List.getElem?_toArray, List.getElem?_cons_succ, List.getElem?_cons_zero]; try rfl)
      case st8x11 =>
        go_simp
        refine hK.out _ _ ?_ (fun hHeld => ?_)
        · exact keepS hAH.out hBH.out (by go_grown)
        clear hK K
        (try simp only [Act.put, List.setIfInBounds_toArray, List.set_cons_zero, List.set_cons_succ])
        refine wpAnyH_ready (rs := [9, 11]) (by kernel_rfl) (by simp) ?_
        refine' (AllReadyH.cons (i := 9) ?ho9x13 (fun K hK => ?st9x13) (AllReadyH.cons (i := 11) ?ho11x14 (fun K hK => ?st11x14) AllReadyH.nil))
        case ho9x13 => (simp only [List.getElem?_toArray, List.getElem?_cons_succ, List.getElem?_cons_zero]; try rfl)
        case ho11x14 => (simp only [List.getElem?_toArray, List.getElem?_cons_succ, List.getElem?_cons_zero]; try rfl)
        case st9x13 =>
          go_simp
          refine (concat1_any _ _ l _ ((SlsV.one haH.out _).drew) (by have := hsH.out; omega)).mono ?_; rintro e w' ⟨v', rfl, ho', hb'⟩; obtain ⟨A', n', c', rfl, hn', hc1', hc2'⟩ := ho'.words.form; have hoH := Lib.hid (ho'.low (B' := W0.heap.size) (by first | (simp; done) | (simp; omega))); replace hb := chainB (B := W0.heap.size) (a := W0) (by go_grown) hb' (by first | (simp; done) | (simp; omega)); clear ho' hn' hb'
          refine hK.out _ _ ?_ (fun hHeld => ?_)
          · exact keepS hAH.out hBH.out hb
          clear hK K
          (try simp only [Act.put, List.setIfInBounds_toArray, List.set_cons_zero, List.set_cons_succ])
          refine' wpAnyH_take (i := 10) (v := .agg #[.int .u64 mx, .slice A' n' c']) ?hi10x15 ?hs10x15 ?hf10x15 ?hr10x15 ?hQ10x15 ?hy10x15 ?hS10x15 ?rest10x15
          case hi10x15 => (simp only [List.getElem?_toArray, List.getElem?_cons_succ, List.getElem?_cons_zero]; try rfl)
          case hs10x15 => kernel_rfl
          case hf10x15 => kernel_rfl
          case hr10x15 => kernel_rfl
          case hQ10x15 => exact fun _ _ _ h => h
          case hy10x15 => exact Or.inl ⟨by rfl, by (intro w hSw; (try dsimp only at hSw); go_simp)⟩
          case hS10x15 => assumption
          (try simp only [Act.put, List.setIfInBounds_toArray, List.set_cons_zero, List.set_cons_succ])
          refine wpAnyH_ready (rs := [11]) (by kernel_rfl) (by simp) ?_
          refine' (AllReadyH.cons (i := 11) ?ho11x16 (fun K hK => ?st11x16) AllReadyH.nil)
          case ho11x16 => (simp only [List.getElem?_toArray, List.getElem?_cons_succ, List.getElem?_cons_zero]; try rfl)
          case st11x16 =>
            go_simp
            refine hK.out _ _ ?_ (fun hHeld => ?_)
            · exact keepS hAH.out hBH.out (hb.alloc hb.size _)
            clear hK K
            (try simp only [Act.put, List.setIfInBounds_toArray, List.set_cons_zero, List.set_cons_succ])
            refine wpAnyH_ready (rs := [12]) (by kernel_rfl) (by simp) ?_
            refine' (AllReadyH.cons (i := 12) ?ho12x17 (fun K hK => ?st12x17) AllReadyH.nil)
            case ho12x17 => (simp only [List.getElem?_toArray, List.getElem?_cons_succ, List.getElem?_cons_zero]; try rfl)
            case st12x17 =>
              go_simp
              refine hK.out _ _ ?_ (fun hHeld => ?_)
              · exact keepS hAH.out hBH.out (hb.alloc hb.size _)
              clear hK K
              (try simp only [Act.put, List.setIfInBounds_toArray, List.set_cons_zero, List.set_cons_succ])
              refine wpAnyH_done (by kernel_rfl) ?_ _
              refine NoPanic.normal ?_
              go_wp2_with fail
              go_meet
              exact relN_new hoH.out hb hb.size
        case st11x14 =>
          go_simp
          refine hK.out _ _ ?_ (fun hHeld => ?_)
          · exact keepS hAH.out hBH.out (by go_grown)
          clear hK K
          (try simp only [Act.put, List.setIfInBounds_toArray, List.set_cons_zero, List.set_cons_succ])
          refine wpAnyH_ready (rs := [9]) (by kernel_rfl) (by simp) ?_
          refine' (AllReadyH.cons (i := 9) ?ho9x18 (fun K hK => ?st9x18) AllReadyH.nil)
          case ho9x18 => (simp only [List.getElem?_toArray, List.getElem?_cons_succ, List.getElem?_cons_zero]; try rfl)
          case st9x18 =>
            go_simp
            refine (concat1_any _ _ l _ (((SlsV.one haH.out _).alloc _).drew) (by have := hsH.out; omega)).mono ?_; rintro e w' ⟨v', rfl, ho', hb'⟩; obtain ⟨A', n', c', rfl, hn', hc1', hc2'⟩ := ho'.words.form; have hoH := Lib.hid (ho'.low (B' := W0.heap.size) (by first | (simp; done) | (simp; omega))); have hO := Lib.hid (show HasC w' (W0.heap.size + 1) [.int .u64 0, .slice none 0 0] 26 by simpa only [World.size_alloc] using (HasC.new (W0.alloc (.cells #[.slice A n ca] 24)) [.int .u64 0, .slice none 0 0] 26).drew.below hb'); replace hb := chainB (B := W0.heap.size) (a := W0) (by go_grown) hb' (by first | (simp; done) | (simp; omega)); clear ho' hn' hb'; have o0_ := hO.out.cell 0 rfl; have o1_ := hO.out.cell 1 rfl; have of0_ := hO.out.free 0; have of1_ := hO.out.free 1; have ol_ := hO.out.lt
            refine hK.out _ _ ?_ (fun hHeld => ?_)
            · exact keepS hAH.out hBH.out hb
            clear hK K
            (try simp only [Act.put, List.setIfInBounds_toArray, List.set_cons_zero, List.set_cons_succ])
            refine' wpAnyH_take (i := 10) (v := .agg #[.int .u64 mx, .slice A' n' c']) ?hi10x19 ?hs10x19 ?hf10x19 ?hr10x19 ?hQ10x19 ?hy10x19 ?hS10x19 ?rest10x19
            case hi10x19 => (simp only [List.getElem?_toArray, List.getElem?_cons_succ, List.getElem?_cons_zero]; try rfl)
            case hs10x19 => kernel_rfl
            case hf10x19 => kernel_rfl
            case hr10x19 => kernel_rfl
            case hQ10x19 => exact fun _ _ _ h => h
            case hy10x19 => exact Or.inl ⟨by rfl, by (intro w hSw; (try dsimp only at hSw); go_simp)⟩
            case hS10x19 => assumption
            (try simp only [Act.put, List.setIfInBounds_toArray, List.set_cons_zero, List.set_cons_succ])
            refine wpAnyH_ready (rs := [12]) (by kernel_rfl) (by simp) ?_
            refine' (AllReadyH.cons (i := 12) ?ho12x20 (fun K hK => ?st12x20) AllReadyH.nil)
            case ho12x20 => (simp only [List.getElem?_toArray, List.getElem?_cons_succ, List.getElem?_cons_zero]; try rfl)
            case st12x20 =>
              go_simp
              refine hK.out _ _ ?_ (fun hHeld => ?_)
              · exact keepS hAH.out hBH.out ((hb.setCell (by simp) _).setCell (by simp) _)
              clear hK K
              (try simp only [Act.put, List.setIfInBounds_toArray, List.set_cons_zero, List.set_cons_succ])
              refine wpAnyH_done (by kernel_rfl) ?_ _
              refine NoPanic.normal ?_
              go_wp2_with fail
              go_meet
              exact relN_set hoH.out hb hO.out (by simp)
      case st11x12 =>
        go_simp
        refine hK.out _ _ ?_ (fun hHeld => ?_)
        · exact keepS hAH.out hBH.out (by go_grown)
        clear hK K
        (try simp only [Act.put, List.setIfInBounds_toArray, List.set_cons_zero, List.set_cons_succ])
        refine wpAnyH_ready (rs := [8]) (by kernel_rfl) (by simp) ?_
        refine' (AllReadyH.cons (i := 8) ?ho8x21 (fun K hK => ?st8x21) AllReadyH.nil)
        case ho8x21 => (simp only [List.getElem?_toArray, List.getElem?_cons_succ, List.getElem?_cons_zero]; try rfl)
        case st8x21 =>
          go_simp
          refine hK.out _ _ ?_ (fun hHeld => ?_)
          · exact keepS hAH.out hBH.out (by go_grown)
          clear hK K
          (try simp only [Act.put, List.setIfInBounds_toArray, List.set_cons_zero, List.set_cons_succ])
          refine wpAnyH_ready (rs := [9]) (by kernel_rfl) (by simp) ?_
          refine' (AllReadyH.cons (i := 9) ?ho9x22 (fun K hK => ?st9x22) AllReadyH.nil)
          case ho9x22 => (simp only [List.getElem?_toArray, List.getElem?_cons_succ, List.getElem?_cons_zero]; try rfl)
          case st9x22 =>
            go_simp
            refine (concat1_any _ _ l _ ((SlsV.one_at (haH.out.alloc _) _ (by simp)).drew) (by have := hsH.out; omega)).mono ?_; rintro e w' ⟨v', rfl, ho', hb'⟩; obtain ⟨A', n', c', rfl, hn', hc1', hc2'⟩ := ho'.words.form; have hoH := Lib.hid (ho'.low (B' := W0.heap.size) (by first | (simp; done) | (simp; omega))); have hO := Lib.hid ((((HasC.new W0 [.int .u64 0, .slice none 0 0] 26).alloc (.cells #[.slice A n ca] 24)).drew).below hb'); replace hb := chainB (B := W0.heap.size) (a := W0) (by go_grown) hb' (by first | (simp; done) | (simp; omega)); clear ho' hn' hb'; have o0_ := hO.out.cell 0 rfl; have o1_ := hO.out.cell 1 rfl; have of0_ := hO.out.free 0; have of1_ := hO.out.free 1; have ol_ := hO.out.lt
            refine hK.out _ _ ?_ (fun hHeld => ?_)
            · exact keepS hAH.out hBH.out hb
            clear hK K
            (try simp only [Act.put, List.setIfInBounds_toArray, List.set_cons_zero, List.set_cons_succ])
            refine' wpAnyH_take (i := 10) (v := .agg #[.int .u64 mx, .slice A' n' c']) ?hi10x23 ?hs10x23 ?hf10x23 ?hr10x23 ?hQ10x23 ?hy10x23 ?hS10x23 ?rest10x23
            case hi10x23 => (simp only [List.getElem?_toArray, List.getElem?_cons_succ, List.getElem?_cons_zero]; try rfl)
            case hs10x23 => kernel_rfl
            case hf10x23 => kernel_rfl
            case hr10x23 => kernel_rfl
            case hQ10x23 => exact fun _ _ _ h => h
            case hy10x23 => exact Or.inl ⟨by rfl, by (intro w hSw; (try dsimp only at hSw); go_simp)⟩
            case hS10x23 => assumption
            (try simp only [Act.put, List.setIfInBounds_toArray, List.set_cons_zero, List.set_cons_succ])
            refine wpAnyH_ready (rs := [12]) (by kernel_rfl) (by simp) ?_
            refine' (AllReadyH.cons (i := 12) ?ho12x24 (fun K hK => ?st12x24) AllReadyH.nil)
            case ho12x24 => (simp only [List.getElem?_toArray, List.getElem?_cons_succ, List.getElem?_cons_zero]; try rfl)
            case st12x24 =>
              go_simp
              refine hK.out _ _ ?_ (fun hHeld => ?_)
              · exact keepS hAH.out hBH.out ((hb.setCell (by simp) _).setCell (by simp) _)
              clear hK K
              (try simp only [Act.put, List.setIfInBounds_toArray, List.set_cons_zero, List.set_cons_succ])
              refine wpAnyH_done (by kernel_rfl) ?_ _
              refine NoPanic.normal ?_
              go_wp2_with fail
              go_meet
              exact relN_set hoH.out hb hO.out (by simp)
    case st8x9 =>
      go_simp
      refine hK.out _ _ ?_ (fun hHeld => ?_)
      · exact keepS hAH.out hBH.out (by go_grown)
      clear hK K
      (try simp only [Act.put, List.setIfInBounds_toArray, List.set_cons_zero, List.set_cons_succ])
      refine wpAnyH_ready (rs := [5, 11]) (by kernel_rfl) (by simp) ?_
      refine' (AllReadyH.cons (i := 5) ?ho5x25 (fun K hK => ?st5x25) (AllReadyH.cons (i := 11) ?ho11x26 (fun K hK => ?st11x26) AllReadyH.nil))
      case ho5x25 => (simp only [List.getElem?_toArray, List.getElem?_cons_succ, List.getElem?_cons_zero]; try rfl)
      case ho11x26 => (simp only [List.getElem?_toArray, List.getElem?_cons_succ, List.getElem?_cons_zero]; try rfl)
      case st5x25 =>
        go_simp
        refine (cl_max _ _ _).mono ?_; rw [hmH.out]; rintro e w' ⟨rfl, rfl⟩
        refine hK.out _ _ ?_ (fun hHeld => ?_)
        · exact keepS hAH.out hBH.out (by go_grown)
        clear hK K
        (try simp only [Act.put, List.setIfInBounds_toArray, List.set_cons_zero, List.set_cons_succ])
        refine wpAnyH_ready (rs := [9, 11]) (by kernel_rfl) (by simp) ?_
        refine' (AllReadyH.cons (i := 9) ?ho9x27 (fun K hK => ?st9x27) (AllReadyH.cons (i := 11) ?ho11x28 (fun K hK => ?st11x28) AllReadyH.nil))
        case ho9x27 => (simp only [List.getElem?_toArray, List.getElem?_cons_succ, List.getElem?_cons_zero]; try rfl)
        case ho11x28 => (simp only [List.getElem?_toArray, List.getElem?_cons_succ, List.getElem?_cons_zero]; try rfl)
        case st9x27 =>
          go_simp
          refine (concat1_any _ _ l _ ((SlsV.one haH.out _).drew) (by have := hsH.out; omega)).mono ?_; rintro e w' ⟨v', rfl, ho', hb'⟩; obtain ⟨A', n', c', rfl, hn', hc1', hc2'⟩ := ho'.words.form; have hoH := Lib.hid (ho'.low (B' := W0.heap.size) (by first | (simp; done) | (simp; omega))); replace hb := chainB (B := W0.heap.size) (a := W0) (by go_grown) hb' (by first | (simp; done) | (simp; omega)); clear ho' hn' hb'
          refine hK.out _ _ ?_ (fun hHeld => ?_)
          · exact keepS hAH.out hBH.out hb
          clear hK K
          (try simp only [Act.put, List.setIfInBounds_toArray, List.set_cons_zero, List.set_cons_succ])
          refine' wpAnyH_take (i := 10) (v := .agg #[.int .u64 mx, .slice A' n' c']) ?hi10x29 ?hs10x29 ?hf10x29 ?hr10x29 ?hQ10x29 ?hy10x29 ?hS10x29 ?rest10x29
          case hi10x29 => (simp only [List.getElem?_toArray, List.getElem?_cons_succ, List.getElem?_cons_zero]; try rfl)
          case hs10x29 => kernel_rfl
          case hf10x29 => kernel_rfl
          case hr10x29 => kernel_rfl
          case hQ10x29 => exact fun _ _ _ h => h
          case hy10x29 => exact Or.inl ⟨by rfl, by (intro w hSw; (try dsimp only at hSw); go_simp)⟩
          case hS10x29 => assumption
          (try simp only [Act.put, List.setIfInBounds_toArray, List.set_cons_zero, List.set_cons_succ])
          refine wpAnyH_ready (rs := [11]) (by kernel_rfl) (by simp) ?_
          refine' (AllReadyH.cons (i := 11) ?ho11x30 (fun K hK => ?st11x30) AllReadyH.nil)
          case ho11x30 => (simp only [List.getElem?_toArray, List.getElem?_cons_succ, List.getElem?_cons_zero]; try rfl)
          case st11x30 =>
            go_simp
            refine hK.out _ _ ?_ (fun hHeld => ?_)
            · exact keepS hAH.out hBH.out (hb.alloc hb.size _)
            clear hK K
            (try simp only [Act.put, List.setIfInBounds_toArray, List.set_cons_zero, List.set_cons_succ])
            refine wpAnyH_ready (rs := [12]) (by kernel_rfl) (by simp) ?_
            refine' (AllReadyH.cons (i := 12) ?ho12x31 (fun K hK => ?st12x31) AllReadyH.nil)
            case ho12x31 => (simp only [List.getElem?_toArray, List.getElem?_cons_succ, List.getElem?_cons_zero]; try rfl)
            case st12x31 =>
              go_simp
              refine hK.out _ _ ?_ (fun hHeld => ?_)
              · exact keepS hAH.out hBH.out (hb.alloc hb.size _)
              clear hK K
              (try simp only [Act.put, List.setIfInBounds_toArray, List.set_cons_zero, List.set_cons_succ])
              refine wpAnyH_done (by kernel_rfl) ?_ _
              refine NoPanic.normal ?_
              go_wp2_with fail
              go_meet
              exact relN_new hoH.out hb hb.size
        case st11x28 =>
          go_simp
          refine hK.out _ _ ?_ (fun hHeld => ?_)
          · exact keepS hAH.out hBH.out (by go_grown)
          clear hK K
          (try simp only [Act.put, List.setIfInBounds_toArray, List.set_cons_zero, List.set_cons_succ])
          refine wpAnyH_ready (rs := [9]) (by kernel_rfl) (by simp) ?_
          refine' (AllReadyH.cons (i := 9) ?ho9x32 (fun K hK => ?st9x32) AllReadyH.nil)
          case ho9x32 => (simp only [List.getElem?_toArray, List.getElem?_cons_succ, List.getElem?_cons_zero]; try rfl)
          case st9x32 =>
            go_simp
            refine (concat1_any _ _ l _ (((SlsV.one haH.out _).alloc _).drew) (by have := hsH.out; omega)).mono ?_; rintro e w' ⟨v', rfl, ho', hb'⟩; obtain ⟨A', n', c', rfl, hn', hc1', hc2'⟩ := ho'.words.form; have hoH := Lib.hid (ho'.low (B' := W0.heap.size) (by first | (simp; done) | (simp; omega))); have hO := Lib.hid (show HasC w' (W0.heap.size + 1) [.int .u64 0, .slice none 0 0] 26 by simpa only [World.size_alloc] using (HasC.new (W0.alloc (.cells #[.slice A n ca] 24)) [.int .u64 0, .slice none 0 0] 26).drew.below hb'); replace hb := chainB (B := W0.heap.size) (a := W0) (by go_grown) hb' (by first | (simp; done) | (simp; omega)); clear ho' hn' hb'; have o0_ := hO.out.cell 0 rfl; have o1_ := hO.out.cell 1 rfl; have of0_ := hO.out.free 0; have of1_ := hO.out.free 1; have ol_ := hO.out.lt
            refine hK.out _ _ ?_ (fun hHeld => ?_)
            · exact keepS hAH.out hBH.out hb
            clear hK K
            (try simp only [Act.put, List.setIfInBounds_toArray, List.set_cons_zero, List.set_cons_succ])
            refine' wpAnyH_take (i := 10) (v := .agg #[.int .u64 mx, .slice A' n' c']) ?hi10x33 ?hs10x33 ?hf10x33 ?hr10x33 ?hQ10x33 ?hy10x33 ?hS10x33 ?rest10x33
            case hi10x33 => (simp only [List.getElem?_toArray, List.getElem?_cons_succ, List.getElem?_cons_zero]; try rfl)
            case hs10x33 => kernel_rfl
            case hf10x33 => kernel_rfl
            case hr10x33 => kernel_rfl
            case hQ10x33 => exact fun _ _ _ h => h
            case hy10x33 => exact Or.inl ⟨by rfl, by (intro w hSw; (try dsimp only at hSw); go_simp)⟩
            case hS10x33 => assumption
            (try simp only [Act.put, List.setIfInBounds_toArray, List.set_cons_zero, List.set_cons_succ])
            refine wpAnyH_ready (rs := [12]) (by kernel_rfl) (by simp) ?_
            refine' (AllReadyH.cons (i := 12) ?ho12x34 (fun K hK => ?st12x34) AllReadyH.nil)
            case ho12x34 => (simp only [List.getElem?_toArray, List.getElem?_cons_succ, List.getElem?_cons_zero]; try rfl)
            case st12x34 =>
              go_simp
              refine hK.out _ _ ?_ (fun hHeld => ?_)
              · exact keepS hAH.out hBH.out ((hb.setCell (by simp) _).setCell (by simp) _)
              clear hK K
              (try simp only [Act.put, List.setIfInBounds_toArray, List.set_cons_zero, List.set_cons_succ])
              refine wpAnyH_done (by kernel_rfl) ?_ _
              refine NoPanic.normal ?_
              go_wp2_with fail
              go_meet
              exact relN_set hoH.out hb hO.out (by simp)
      case st11x26 =>
        go_simp
        refine hK.out _ _ ?_ (fun hHeld => ?_)
        · exact keepS hAH.out hBH.out (by go_grown)
        clear hK K
        (try simp only [Act.put, List.setIfInBounds_toArray, List.set_cons_zero, List.set_cons_succ])
        refine wpAnyH_ready (rs := [5]) (by kernel_rfl) (by simp) ?_
        refine' (AllReadyH.cons (i := 5) ?ho5x35 (fun K hK => ?st5x35) AllReadyH.nil)
        case ho5x35 => (simp only [List.getElem?_toArray, List.getElem?_cons_succ, List.getElem?_cons_zero]; try rfl)
        case st5x35 =>
          go_simp
          refine (cl_max _ _ _).mono ?_; rw [hmH.out]; rintro e w' ⟨rfl, rfl⟩
          refine hK.out _ _ ?_ (fun hHeld => ?_)
          · exact keepS hAH.out hBH.out (by go_grown)
          clear hK K
          (try simp only [Act.put, List.setIfInBounds_toArray, List.set_cons_zero, List.set_cons_succ])
          refine wpAnyH_ready (rs := [9]) (by kernel_rfl) (by simp) ?_
          refine' (AllReadyH.cons (i := 9) ?ho9x36 (fun K hK => ?st9x36) AllReadyH.nil)
          case ho9x36 => (simp only [List.getElem?_toArray, List.getElem?_cons_succ, List.getElem?_cons_zero]; try rfl)
          case st9x36 =>
            go_simp
            refine (concat1_any _ _ l _ (((SlsV.one haH.out _).alloc _).drew) (by have := hsH.out; omega)).mono ?_; rintro e w' ⟨v', rfl, ho', hb'⟩; obtain ⟨A', n', c', rfl, hn', hc1', hc2'⟩ := ho'.words.form; have hoH := Lib.hid (ho'.low (B' := W0.heap.size) (by first | (simp; done) | (simp; omega))); have hO := Lib.hid (show HasC w' (W0.heap.size + 1) [.int .u64 0, .slice none 0 0] 26 by simpa only [World.size_alloc] using (HasC.new (W0.alloc (.cells #[.slice A n ca] 24)) [.int .u64 0, .slice none 0 0] 26).drew.below hb'); replace hb := chainB (B := W0.heap.size) (a := W0) (by go_grown) hb' (by first | (simp; done) | (simp; omega)); clear ho' hn' hb'; have o0_ := hO.out.cell 0 rfl; have o1_ := hO.out.cell 1 rfl; have of0_ := hO.out.free 0; have of1_ := hO.out.free 1; have ol_ := hO.out.lt
            refine hK.out _ _ ?_ (fun hHeld => ?_)
            · exact keepS hAH.out hBH.out hb
            clear hK K
            (try simp only [Act.put, List.setIfInBounds_toArray, List.set_cons_zero, List.set_cons_succ])
            refine' wpAnyH_take (i := 10) (v := .agg #[.int .u64 mx, .slice A' n' c']) ?hi10x37 ?hs10x37 ?hf10x37 ?hr10x37 ?hQ10x37 ?hy10x37 ?hS10x37 ?rest10x37
            case hi10x37 => (simp only [List.getElem?_toArray, List.getElem?_cons_succ, List.getElem?_cons_zero]; try rfl)
            case hs10x37 => kernel_rfl
            case hf10x37 => kernel_rfl
            case hr10x37 => kernel_rfl
            case hQ10x37 => exact fun _ _ _ h => h
            case hy10x37 => exact Or.inl ⟨by rfl, by (intro w hSw; (try dsimp only at hSw); go_simp)⟩
            case hS10x37 => assumption
            (try simp only [Act.put, List.setIfInBounds_toArray, List.set_cons_zero, List.set_cons_succ])
            refine wpAnyH_ready (rs := [12]) (by kernel_rfl) (by simp) ?_
            refine' (AllReadyH.cons (i := 12) ?ho12x38 (fun K hK => ?st12x38) AllReadyH.nil)
            case ho12x38 => (simp only [List.getElem?_toArray, List.getElem?_cons_succ, List.getElem?_cons_zero]; try rfl)
            case st12x38 =>
              go_simp
              refine hK.out _ _ ?_ (fun hHeld => ?_)
              · exact keepS hAH.out hBH.out ((hb.setCell (by simp) _).setCell (by simp) _)
              clear hK K
              (try simp only [Act.put, List.setIfInBounds_toArray, List.set_cons_zero, List.set_cons_succ])
              refine wpAnyH_done (by kernel_rfl) ?_ _
              refine NoPanic.normal ?_
              go_wp2_with fail
              go_meet
              exact relN_set hoH.out hb hO.out (by simp)
    case st11x10 =>
      go_simp
      refine hK.out _ _ ?_ (fun hHeld => ?_)
      · exact keepS hAH.out hBH.out (by go_grown)
      clear hK K
      (try simp only [Act.put, List.setIfInBounds_toArray, List.set_cons_zero, List.set_cons_succ])
      refine wpAnyH_ready (rs := [5, 8]) (by kernel_rfl) (by simp) ?_
      refine' (AllReadyH.cons (i := 5) ?ho5x39 (fun K hK => ?st5x39) (AllReadyH.cons (i := 8) ?ho8x40 (fun K hK => ?st8x40) AllReadyH.nil))
      case ho5x39 => (simp only [List.getElem?_toArray, List.getElem?_cons_succ, List.getElem?_cons_zero]; try rfl)
      case ho8x40 => (simp only [List.getElem?_toArray, List.getElem?_cons_succ, List.getElem?_cons_zero]; try rfl)
      case st5x39 =>
        go_simp
        refine (cl_max _ _ _).mono ?_; rw [hmH.out]; rintro e w' ⟨rfl, rfl⟩
        refine hK.out _ _ ?_ (fun hHeld => ?_)
        · exact keepS hAH.out hBH.out (by go_grown)
        clear hK K
        (try simp only [Act.put, List.setIfInBounds_toArray, List.set_cons_zero, List.set_cons_succ])
        refine wpAnyH_ready (rs := [8]) (by kernel_rfl) (by simp) ?_
        refine' (AllReadyH.cons (i := 8) ?ho8x41 (fun K hK => ?st8x41) AllReadyH.nil)
        case ho8x41 => (simp only [List.getElem?_toArray, List.getElem?_cons_succ, List.getElem?_cons_zero]; try rfl)
        case st8x41 =>
          go_simp
          refine hK.out _ _ ?_ (fun hHeld => ?_)
          · exact keepS hAH.out hBH.out (by go_grown)
          clear hK K
          (try simp only [Act.put, List.setIfInBounds_toArray, List.set_cons_zero, List.set_cons_succ])
          refine wpAnyH_ready (rs := [9]) (by kernel_rfl) (by simp) ?_
          refine' (AllReadyH.cons (i := 9) ?ho9x42 (fun K hK => ?st9x42) AllReadyH.nil)
          case ho9x42 => (simp only [List.getElem?_toArray, List.getElem?_cons_succ, List.getElem?_cons_zero]; try rfl)
          case st9x42 =>
            go_simp
            refine (concat1_any _ _ l _ ((SlsV.one_at (haH.out.alloc _) _ (by simp)).drew) (by have := hsH.out; omega)).mono ?_; rintro e w' ⟨v', rfl, ho', hb'⟩; obtain ⟨A', n', c', rfl, hn', hc1', hc2'⟩ := ho'.words.form; have hoH := Lib.hid (ho'.low (B' := W0.heap.size) (by first | (simp; done) | (simp; omega))); have hO := Lib.hid ((((HasC.new W0 [.int .u64 0, .slice none 0 0] 26).alloc (.cells #[.slice A n ca] 24)).drew).below hb'); replace hb := chainB (B := W0.heap.size) (a := W0) (by go_grown) hb' (by first | (simp; done) | (simp; omega)); clear ho' hn' hb'; have o0_ := hO.out.cell 0 rfl; have o1_ := hO.out.cell 1 rfl; have of0_ := hO.out.free 0; have of1_ := hO.out.free 1; have ol_ := hO.out.lt
            refine hK.out _ _ ?_ (fun hHeld => ?_)
            · exact keepS hAH.out hBH.out hb
            clear hK K
            (try simp only [Act.put, List.setIfInBounds_toArray, List.set_cons_zero, List.set_cons_succ])
            refine' wpAnyH_take (i := 10) (v := .agg #[.int .u64 mx, .slice A' n' c']) ?hi10x43 ?hs10x43 ?hf10x43 ?hr10x43 ?hQ10x43 ?hy10x43 ?hS10x43 ?rest10x43
            case hi10x43 => (simp only [List.getElem?_toArray, List.getElem?_cons_succ, List.getElem?_cons_zero]; try rfl)
            case hs10x43 => kernel_rfl
            case hf10x43 => kernel_rfl
            case hr10x43 => kernel_rfl
            case hQ10x43 => exact fun _ _ _ h => h
            case hy10x43 => exact Or.inl ⟨by rfl, by (intro w hSw; (try dsimp only at hSw); go_simp)⟩
            case hS10x43 => assumption
            (try simp only [Act.put, List.setIfInBounds_toArray, List.set_cons_zero, List.set_cons_succ])
            refine wpAnyH_ready (rs := [12]) (by kernel_rfl) (by simp) ?_
            refine' (AllReadyH.cons (i := 12) ?ho12x44 (fun K hK => ?st12x44) AllReadyH.nil)
            case ho12x44 => (simp only [List.getElem?_toArray, List.getElem?_cons_succ, List.getElem?_cons_zero]; try rfl)
            case st12x44 =>
              go_simp
              refine hK.out _ _ ?_ (fun hHeld => ?_)
              · exact keepS hAH.out hBH.out ((hb.setCell (by simp) _).setCell (by simp) _)
              clear hK K
              (try simp only [Act.put, List.setIfInBounds_toArray, List.set_cons_zero, List.set_cons_succ])
              refine wpAnyH_done (by kernel_rfl) ?_ _
              refine NoPanic.normal ?_
              go_wp2_with fail
              go_meet
              exact relN_set hoH.out hb hO.out (by simp)
      case st8x40 =>
        go_simp
        refine hK.out _ _ ?_ (fun hHeld => ?_)
        · exact keepS hAH.out hBH.out (by go_grown)
        clear hK K
        (try simp only [Act.put, List.setIfInBounds_toArray, List.set_cons_zero, List.set_cons_succ])
        refine wpAnyH_ready (rs := [5]) (by kernel_rfl) (by simp) ?_
        refine' (AllReadyH.cons (i := 5) ?ho5x45 (fun K hK => ?st5x45) AllReadyH.nil)
        case ho5x45 => (simp only [List.getElem?_toArray, List.getElem?_cons_succ, List.getElem?_cons_zero]; try rfl)
        case st5x45 =>
          go_simp
          refine (cl_max _ _ _).mono ?_; rw [hmH.out]; rintro e w' ⟨rfl, rfl⟩
          refine hK.out _ _ ?_ (fun hHeld => ?_)
          · exact keepS hAH.out hBH.out (by go_grown)
          clear hK K
          (try simp only [Act.put, List.setIfInBounds_toArray, List.set_cons_zero, List.set_cons_succ])
          refine wpAnyH_ready (rs := [9]) (by kernel_rfl) (by simp) ?_
          refine' (AllReadyH.cons (i := 9) ?ho9x46 (fun K hK => ?st9x46) AllReadyH.nil)
          case ho9x46 => (simp only [List.getElem?_toArray, List.getElem?_cons_succ, List.getElem?_cons_zero]; try rfl)
          case st9x46 =>
            go_simp
            refine (concat1_any _ _ l _ ((SlsV.one_at (haH.out.alloc _) _ (by simp)).drew) (by have := hsH.out; omega)).mono ?_; rintro e w' ⟨v', rfl, ho', hb'⟩; obtain ⟨A', n', c', rfl, hn', hc1', hc2'⟩ := ho'.words.form; have hoH := Lib.hid (ho'.low (B' := W0.heap.size) (by first | (simp; done) | (simp; omega))); have hO := Lib.hid ((((HasC.new W0 [.int .u64 0, .slice none 0 0] 26).alloc (.cells #[.slice A n ca] 24)).drew).below hb'); replace hb := chainB (B := W0.heap.size) (a := W0) (by go_grown) hb' (by first | (simp; done) | (simp; omega)); clear ho' hn' hb'; have o0_ := hO.out.cell 0 rfl; have o1_ := hO.out.cell 1 rfl; have of0_ := hO.out.free 0; have of1_ := hO.out.free 1; have ol_ := hO.out.lt
            refine hK.out _ _ ?_ (fun hHeld => ?_)
            · exact keepS hAH.out hBH.out hb
            clear hK K
            (try simp only [Act.put, List.setIfInBounds_toArray, List.set_cons_zero, List.set_cons_succ])
            refine' wpAnyH_take (i := 10) (v := .agg #[.int .u64 mx, .slice A' n' c']) ?hi10x47 ?hs10x47 ?hf10x47 ?hr10x47 ?hQ10x47 ?hy10x47 ?hS10x47 ?rest10x47
            case hi10x47 => (simp only [List.getElem?_toArray, List.getElem?_cons_succ, List.getElem?_cons_zero]; try rfl)
            case hs10x47 => kernel_rfl
            case hf10x47 => kernel_rfl
            case hr10x47 => kernel_rfl
            case hQ10x47 => exact fun _ _ _ h => h
            case hy10x47 => exact Or.inl ⟨by rfl, by (intro w hSw; (try dsimp only at hSw); go_simp)⟩
            case hS10x47 => assumption
            (try simp only [Act.put, List.setIfInBounds_toArray, List.set_cons_zero, List.set_cons_succ])
            refine wpAnyH_ready (rs := [12]) (by kernel_rfl) (by simp) ?_
            refine' (AllReadyH.cons (i := 12) ?ho12x48 (fun K hK => ?st12x48) AllReadyH.nil)
            case ho12x48 => (simp only [List.getElem?_toArray, List.getElem?_cons_succ, List.getElem?_cons_zero]; try rfl)
            case st12x48 =>
              go_simp
              refine hK.out _ _ ?_ (fun hHeld => ?_)
              · exact keepS hAH.out hBH.out ((hb.setCell (by simp) _).setCell (by simp) _)
              clear hK K
              (try simp only [Act.put, List.setIfInBounds_toArray, List.set_cons_zero, List.set_cons_succ])
              refine wpAnyH_done (by kernel_rfl) ?_ _
              refine NoPanic.normal ?_
              go_wp2_with fail
              go_meet
              exact relN_set hoH.out hb hO.out (by simp)
  case rest =>
    unfold RelN at hcut
    obtain ⟨o, v, rfl, hoB, hO, hown, hbw⟩ := hcut
    obtain ⟨V, n', c', rfl, hn', hc1', hc2'⟩ := hown.words.form
    obtain rfl : n' = n := by have := hnH.out; omega
    have hownH := Lib.hid hown; have hOH := Lib.hid hO
    clear a0_ a1_ b0_ b1_ r0_ r1_ rf0_ rf1_ hz hs hb hown hO hn'
    have hb := hbw
    clear hbw
    have hbsH := Lib.hid hb
    have b0_ := (hBH.out.below hb).cell 0 rfl; have b1_ := (hBH.out.below hb).cell 1 rfl
    go_wp2_with fail
    go_loopw [33] (fun i wr => RelCh max l m mx o (.slice V n' c') W0.heap.size W0 i wr) (fun i _ => n' - (Go.RowKit.intOf i).toNat)
    case atStart => exact ⟨0, rfl, Nat.zero_le _, hOH.out, by (rw [chP]; exact hownH.out), hbsH.out⟩
    case round =>
      unfold RelCh at hrel
      obtain ⟨p, rfl, hpl, hO2, hown2, hb2⟩ := hrel
      clear hOH hownH hbsH b0_ b1_ hb
      have hb := hb2
      have hOH := Lib.hid hO2; have hownH := Lib.hid hown2
      clear hb2 hO2 hown2
      have b0_ := (hBH.out.below hb).cell 0 rfl; have b1_ := (hBH.out.below hb).cell 1 rfl; have o0_ := hOH.out.cell 0 rfl; have o1_ := hOH.out.cell 1 rfl; have of0_ := hOH.out.free 0; have of1_ := hOH.out.free 1
      have r0_ := (hRH.out.below hb).cell 0 rfl; have r1_ := (hRH.out.below hb).cell 1 rfl; have rf0_ := (hRH.out.below hb).free 0; have rf1_ := (hRH.out.below hb).free 1
      have hpn : p ≤ n' := by have := hnH.out; omega
      clear hpl
      by_cases hp : p < n'
      · have h1 : p < l.length := by have := hnH.out; omega
        have h2 : p < m.length := by have := hkH.out; omega
        have hlen : (chP max p l m).length = n' := by rw [chP_len]; exact hnH.out
        obtain ⟨g, cap, he, hcap, hcap2, hgB, hgl, hcell, hfree, hoth⟩ := hownH.out.row (by omega)
        rw [hlen] at he hcap
        obtain ⟨rfl, _, rfl⟩ := Value.slice.inj he
        have hog := hoth o _ _ hOH.out (by decide)
        obtain ⟨x, hx⟩ : ∃ x, l[p]? = some x := ⟨_, List.getElem?_eq_getElem h1⟩
        obtain ⟨y, hy⟩ : ∃ y, m[p]? = some y := ⟨_, List.getElem?_eq_getElem h2⟩
        have g_ := hcell p x (by rw [chP_get _ _ _ _ hlH.out]; exact hx)
        have gf_ := hfree p
        obtain ⟨bd, rfl, hbb, bc_⟩ := (hbH.out.below hb).at h2
        rw [show m[p] = y by rw [List.getElem?_eq_getElem h2] at hy; exact Option.some.inj hy] at bc_
        have wx := wlH.out x (List.mem_of_getElem? hx)
        have wy := wmH.out y (List.mem_of_getElem? hy)
        obtain ⟨z, hz⟩ : ∃ z, max x y = z := ⟨_, rfl⟩
        have hchH := Lib.hid (show (chP max p l m).set p z = chP max (p + 1) l m by rw [← hz]; exact chP_set _ _ _ _ _ _ hx hy)
        have wz : 0 ≤ z ∧ z ≤ 4294967295 := by omega
        obtain ⟨x0, x1⟩ := wx
        obtain ⟨y0, y1⟩ := wy
        obtain ⟨z0, z1⟩ := wz
        have hzH := Lib.hid hz
        clear hz hx hy hcell hfree hoth hlen he h1 h2
        go_wp2_with fail
        have ux : IntKind.u64.wrap x = x := IntWalk.u64_in _ (by omega)
        have uy : IntKind.u64.wrap y = y := IntWalk.u64_in _ (by omega)
        have uz : IntKind.u32.wrap z = z := IntWalk.u32_in _ (by omega)
        refine wp_region_noPanic ?_
        refine wp_region_held_drew (S := (fun w' => w'.cell? ⟨o, 0, none⟩ = some (.int .u64 mx) ∧ w'.cell? ⟨o, 1, none⟩ = some (.slice (some ⟨g, 0, none⟩) n' c'))) (by kernel_rfl) (⟨o0_, o1_⟩) (fun hHeld => ?_)
        refine' wpAnyH_take (i := 0) (v := .pointer (some ⟨o, 1, none⟩)) ?hi0x49 ?hs0x49 ?hf0x49 ?hr0x49 ?hQ0x49 ?hy0x49 ?hS0x49 ?rest0x49
        case hi0x49 => (simp only [List.getElem?_toArray, List.getElem?_cons_succ, List.getElem?_cons_zero]; try rfl)
        case hs0x49 => kernel_rfl
        case hf0x49 => kernel_rfl
        case hr0x49 => kernel_rfl
        case hQ0x49 => exact fun _ _ _ h => h
        case hy0x49 => exact Or.inl ⟨by rfl, by (intro w hSw; (try dsimp only at hSw); go_simp)⟩
        case hS0x49 => assumption
        (try simp only [Act.put, List.setIfInBounds_toArray, List.set_cons_zero, List.set_cons_succ])
        refine' wpAnyH_take (i := 1) (v := .slice (some ⟨g, 0, none⟩) n' c') ?hi1x50 ?hs1x50 ?hf1x50 ?hr1x50 ?hQ1x50 ?hy1x50 ?hS1x50 ?rest1x50
        case hi1x50 => (simp only [List.getElem?_toArray, List.getElem?_cons_succ, List.getElem?_cons_zero]; try rfl)
        case hs1x50 => kernel_rfl
        case hf1x50 => kernel_rfl
        case hr1x50 => kernel_rfl
        case hQ1x50 => exact fun _ _ _ h => h
        case hy1x50 => exact Or.inl ⟨by rfl, by (intro w hSw; (try dsimp only at hSw); go_simp)⟩
        case hS1x50 => assumption
        (try simp only [Act.put, List.setIfInBounds_toArray, List.set_cons_zero, List.set_cons_succ])
        refine' wpAnyH_take (i := 2) (v := .int .i64 (p : Int)) ?hi2x51 ?hs2x51 ?hf2x51 ?hr2x51 ?hQ2x51 ?hy2x51 ?hS2x51 ?rest2x51
        case hi2x51 => (simp only [List.getElem?_toArray, List.getElem?_cons_succ, List.getElem?_cons_zero]; try rfl)
        case hs2x51 => kernel_rfl
        case hf2x51 => kernel_rfl
        case hr2x51 => kernel_rfl
        case hQ2x51 => exact fun _ _ _ h => h
        case hy2x51 => exact Or.inl ⟨by rfl, by (intro w hSw; (try dsimp only at hSw); go_simp)⟩
        case hS2x51 => assumption
        (try simp only [Act.put, List.setIfInBounds_toArray, List.set_cons_zero, List.set_cons_succ])
        refine' wpAnyH_take (i := 3) (v := .func (.func 87) #[] #[]) ?hi3x52 ?hs3x52 ?hf3x52 ?hr3x52 ?hQ3x52 ?hy3x52 ?hS3x52 ?rest3x52
        case hi3x52 => (simp only [List.getElem?_toArray, List.getElem?_cons_succ, List.getElem?_cons_zero]; try rfl)
        case hs3x52 => kernel_rfl
        case hf3x52 => kernel_rfl
        case hr3x52 => kernel_rfl
        case hQ3x52 => exact fun _ _ _ h => h
        case hy3x52 => exact Or.inl ⟨by rfl, by (intro w hSw; (try dsimp only at hSw); go_simp)⟩
        case hS3x52 => assumption
        (try simp only [Act.put, List.setIfInBounds_toArray, List.set_cons_zero, List.set_cons_succ])
        refine' wpAnyH_take (i := 4) (v := .pointer (some ⟨o, 1, none⟩)) ?hi4x53 ?hs4x53 ?hf4x53 ?hr4x53 ?hQ4x53 ?hy4x53 ?hS4x53 ?rest4x53
        case hi4x53 => (simp only [List.getElem?_toArray, List.getElem?_cons_succ, List.getElem?_cons_zero]; try rfl)
        case hs4x53 => kernel_rfl
        case hf4x53 => kernel_rfl
        case hr4x53 => kernel_rfl
        case hQ4x53 => exact fun _ _ _ h => h
        case hy4x53 => exact Or.inl ⟨by rfl, by (intro w hSw; (try dsimp only at hSw); go_simp)⟩
        case hS4x53 => assumption
        (try simp only [Act.put, List.setIfInBounds_toArray, List.set_cons_zero, List.set_cons_succ])
        refine' wpAnyH_take (i := 5) (v := .slice (some ⟨g, 0, none⟩) n' c') ?hi5x54 ?hs5x54 ?hf5x54 ?hr5x54 ?hQ5x54 ?hy5x54 ?hS5x54 ?rest5x54
        case hi5x54 => (simp only [List.getElem?_toArray, List.getElem?_cons_succ, List.getElem?_cons_zero]; try rfl)
        case hs5x54 => kernel_rfl
        case hf5x54 => kernel_rfl
        case hr5x54 => kernel_rfl
        case hQ5x54 => exact fun _ _ _ h => h
        case hy5x54 => exact Or.inl ⟨by rfl, by (intro w hSw; (try dsimp only at hSw); go_simp)⟩
        case hS5x54 => assumption
        (try simp only [Act.put, List.setIfInBounds_toArray, List.set_cons_zero, List.set_cons_succ])
        refine' wpAnyH_take (i := 6) (v := .int .i64 (p : Int)) ?hi6x55 ?hs6x55 ?hf6x55 ?hr6x55 ?hQ6x55 ?hy6x55 ?hS6x55 ?rest6x55
        case hi6x55 => (simp only [List.getElem?_toArray, List.getElem?_cons_succ, List.getElem?_cons_zero]; try rfl)
        case hs6x55 => kernel_rfl
        case hf6x55 => kernel_rfl
        case hr6x55 => kernel_rfl
        case hQ6x55 => exact fun _ _ _ h => h
        case hy6x55 => exact Or.inl ⟨by rfl, by (intro w hSw; (try dsimp only at hSw); go_simp)⟩
        case hS6x55 => assumption
        (try simp only [Act.put, List.setIfInBounds_toArray, List.set_cons_zero, List.set_cons_succ])
        refine' wpAnyH_take (i := 7) (v := .pointer (some ⟨g, p, none⟩)) ?hi7x56 ?hs7x56 ?hf7x56 ?hr7x56 ?hQ7x56 ?hy7x56 ?hS7x56 ?rest7x56
        case hi7x56 => (simp only [List.getElem?_toArray, List.getElem?_cons_succ, List.getElem?_cons_zero]; try rfl)
        case hs7x56 => kernel_rfl
        case hf7x56 => kernel_rfl
        case hr7x56 => kernel_rfl
        case hQ7x56 => exact fun _ _ _ h => h
        case hy7x56 => exact Or.inl ⟨by rfl, by (intro w hSw; (try dsimp only at hSw); go_simp)⟩
        case hS7x56 => assumption
        (try simp only [Act.put, List.setIfInBounds_toArray, List.set_cons_zero, List.set_cons_succ])
        refine' wpAnyH_take (i := 10) (v := .int .u32 y) ?hi10x57 ?hs10x57 ?hf10x57 ?hr10x57 ?hQ10x57 ?hy10x57 ?hS10x57 ?rest10x57
        case hi10x57 => (simp only [List.getElem?_toArray, List.getElem?_cons_succ, List.getElem?_cons_zero]; try rfl)
        case hs10x57 => kernel_rfl
        case hf10x57 => kernel_rfl
        case hr10x57 => kernel_rfl
        case hQ10x57 => exact fun _ _ _ h => h
        case hy10x57 => exact Or.inl ⟨by rfl, by (intro w hSw; (try dsimp only at hSw); go_simp)⟩
        case hS10x57 => assumption
        (try simp only [Act.put, List.setIfInBounds_toArray, List.set_cons_zero, List.set_cons_succ])
        refine' wpAnyH_take (i := 11) (v := .int .u64 y) ?hi11x58 ?hs11x58 ?hf11x58 ?hr11x58 ?hQ11x58 ?hy11x58 ?hS11x58 ?rest11x58
        case hi11x58 => (simp only [List.getElem?_toArray, List.getElem?_cons_succ, List.getElem?_cons_zero]; try rfl)
        case hs11x58 => kernel_rfl
        case hf11x58 => kernel_rfl
        case hr11x58 => kernel_rfl
        case hQ11x58 => exact fun _ _ _ h => h
        case hy11x58 => exact Or.inl ⟨by rfl, by (intro w hSw; (try dsimp only at hSw); go_simp)⟩
        case hS11x58 => assumption
        (try simp only [Act.put, List.setIfInBounds_toArray, List.set_cons_zero, List.set_cons_succ])
        refine wpAnyH_ready (rs := [8]) (by kernel_rfl) (by simp) ?_
        refine' (AllReadyH.cons (i := 8) ?ho8x59 (fun K hK => ?st8x59) AllReadyH.nil)
        case ho8x59 => (simp only [List.getElem?_toArray, List.getElem?_cons_succ, List.getElem?_cons_zero]; try rfl)
        case st8x59 =>
          go_simp
          refine hK.out _ _ ?_ (fun hHeld => ?_)
          · exact ⟨o0_, o1_⟩
          clear hK K
          (try simp only [Act.put, List.setIfInBounds_toArray, List.set_cons_zero, List.set_cons_succ])
          refine' wpAnyH_take (i := 9) (v := .int .u64 x) ?hi9x60 ?hs9x60 ?hf9x60 ?hr9x60 ?hQ9x60 ?hy9x60 ?hS9x60 ?rest9x60
          case hi9x60 => (simp only [List.getElem?_toArray, List.getElem?_cons_succ, List.getElem?_cons_zero]; try rfl)
          case hs9x60 => kernel_rfl
          case hf9x60 => kernel_rfl
          case hr9x60 => kernel_rfl
          case hQ9x60 => exact fun _ _ _ h => h
          case hy9x60 => exact Or.inl ⟨by rfl, by (intro w hSw; (try dsimp only at hSw); go_simp)⟩
          case hS9x60 => assumption
          (try simp only [Act.put, List.setIfInBounds_toArray, List.set_cons_zero, List.set_cons_succ])
          refine wpAnyH_ready (rs := [12]) (by kernel_rfl) (by simp) ?_
          refine' (AllReadyH.cons (i := 12) ?ho12x61 (fun K hK => ?st12x61) AllReadyH.nil)
          case ho12x61 => (simp only [List.getElem?_toArray, List.getElem?_cons_succ, List.getElem?_cons_zero]; try rfl)
          case st12x61 =>
            go_simp
            refine (cl_max _ _ _).mono ?_; rw [hzH.out]; rintro e w' ⟨rfl, rfl⟩
            refine hK.out _ _ ?_ (fun hHeld => ?_)
            · exact ⟨o0_, o1_⟩
            clear hK K
            (try simp only [Act.put, List.setIfInBounds_toArray, List.set_cons_zero, List.set_cons_succ])
            refine' wpAnyH_take (i := 13) (v := .int .u32 z) ?hi13x62 ?hs13x62 ?hf13x62 ?hr13x62 ?hQ13x62 ?hy13x62 ?hS13x62 ?rest13x62
            case hi13x62 => (simp only [List.getElem?_toArray, List.getElem?_cons_succ, List.getElem?_cons_zero]; try rfl)
            case hs13x62 => kernel_rfl
            case hf13x62 => kernel_rfl
            case hr13x62 => kernel_rfl
            case hQ13x62 => exact fun _ _ _ h => h
            case hy13x62 => exact Or.inl ⟨by rfl, by (intro w hSw; (try dsimp only at hSw); go_simp)⟩
            case hS13x62 => assumption
            (try simp only [Act.put, List.setIfInBounds_toArray, List.set_cons_zero, List.set_cons_succ])
            refine' wpAnyH_take (i := 14) (v := .pointer (some ⟨g, p, none⟩)) ?hi14x63 ?hs14x63 ?hf14x63 ?hr14x63 ?hQ14x63 ?hy14x63 ?hS14x63 ?rest14x63
            case hi14x63 => (simp only [List.getElem?_toArray, List.getElem?_cons_succ, List.getElem?_cons_zero]; try rfl)
            case hs14x63 => kernel_rfl
            case hf14x63 => kernel_rfl
            case hr14x63 => kernel_rfl
            case hQ14x63 => exact fun _ _ _ h => h
            case hy14x63 => exact Or.inl ⟨by rfl, by (intro w hSw; (try dsimp only at hSw); go_simp)⟩
            case hS14x63 => assumption
            (try simp only [Act.put, List.setIfInBounds_toArray, List.set_cons_zero, List.set_cons_succ])
            refine wpAnyH_ready (rs := [15]) (by kernel_rfl) (by simp) ?_
            refine' (AllReadyH.cons (i := 15) ?ho15x64 (fun K hK => ?st15x64) AllReadyH.nil)
            case ho15x64 => (simp only [List.getElem?_toArray, List.getElem?_cons_succ, List.getElem?_cons_zero]; try rfl)
            case st15x64 =>
              go_simp
              refine hK.out _ _ ?_ (fun hHeld => ?_)
              · exact keepO hOH.out hog
              clear hK K
              (try simp only [Act.put, List.setIfInBounds_toArray, List.set_cons_zero, List.set_cons_succ])
              refine wpAnyH_done (by kernel_rfl) ?_ _
              refine NoPanic.normal ?_
              clear ux uy uz
              go_wp2_with fail
              go_roundw
              case rel => exact ⟨p + 1, by go_num, by have := hnH.out; omega, (hOH.out.far (p := ⟨g, p, none⟩) hog _).drew, (by rw [← hchH.out]; exact (hownH.out.set p z).drew), (hb.setCell (p := ⟨g, p, none⟩) hgB _).drew⟩
              case measure => simp [Go.RowKit.intOf]; omega
      · obtain rfl : p = n' := by omega
        have hall : chP max p l m = zipL max l m := by
          have h0 := hnH.out
          subst h0
          exact chP_all _ _ _ hlH.out
        have hallH := Lib.hid hall
        clear hall
        go_wp2_with fail
        refine bodyPost_ret (v := .tuple #[.agg #[.int .u64 mx, .slice V p c'], .int .u16 0]) (by simp [results, Tryz.results86, go_sem, r0_, r1_, hz0.out, Nat.lt_of_lt_of_le hz0.out hb.size]) rfl ⟨_, rfl, ?_, ?_⟩
        · rw [hallH.out] at hownH
          exact ((hownH.out.far (hRH.out.below hb) (by decide) 0 _).far ((hRH.out.below hb).set 0 _) (by decide) 1 _).low hwWH.out.size
        · exact ((hwWH.out.trans (hb.mono hwWH.out.size)).setCell (by simp; omega) _).setCell (by simp; omega) _
theorem chosen_join (va vb : Value) (a b : Tm) (w : World) (ha : TmV w va a) (hb : TmV w vb b) (wa : TmW a) (wb : TmW b) (hsm : a.l.length ≤ 1099511627776) :
    Calls Tryz.prog 86 #[va, vb, .func (.func 87) #[] #[]] w (OutT (chosenT max a b) (chosenE a b) w) := by
  by_cases hl : a.l.length = b.l.length
  · exact chosen_join_ok va vb a b w ha hb wa wb hsm hl
  · exact chosen_join_bad va vb a b w ha hb wa wb hsm hl
set_option maxHeartbeats 2000000 in
set_option maxRecDepth 1000000 in
theorem join_any (va vb : Value) (a b : Tm) (w : World) (ha : TmV w va a) (hb : TmV w vb b) (wa : TmW a) (wb : TmW b) (hsm : a.l.length ≤ 1099511627776) :
    Calls Tryz.prog 44 #[va, vb] w (OutT (chosenT max a b) (chosenE a b) w) := by
  obtain ⟨ea, l⟩ := a
  obtain ⟨eb, m⟩ := b
  obtain ⟨sa, rfl, ha⟩ := ha
  obtain ⟨sb, rfl, hbE⟩ := hb
  obtain ⟨A, n, ca, rfl, hn, hla, hca⟩ := ha.form
  obtain ⟨B, k, cb, rfl, hk, hlb, hcb⟩ := hbE.form
  obtain ⟨W0, hW0, hwW, hA, hB, hR, hzz⟩ := boxes3 w [.int .u64 ea, .slice A n ca] [.int .u64 eb, .slice B k cb] [.int .u64 0, .slice none 0 0] 26 26 26
  have haH := Lib.hid (show TmV W0 (.agg #[.int .u64 ea, .slice A n ca]) ⟨ea, l⟩ from ⟨_, rfl, ha.below hwW⟩); have hbH := Lib.hid (show TmV W0 (.agg #[.int .u64 eb, .slice B k cb]) ⟨eb, m⟩ from ⟨_, rfl, hbE.below hwW⟩)
  have hRH := Lib.hid hR; have hwWH := Lib.hid hwW; have waH := Lib.hid wa; have wbH := Lib.hid wb; have hsH := Lib.hid hsm
  have a0_ := hA.cell 0 rfl; have a1_ := hA.cell 1 rfl; have b0_ := hB.cell 0 rfl; have b1_ := hB.cell 1 rfl
  obtain ⟨t, ht⟩ : ∃ t, chosenT max ⟨ea, l⟩ ⟨eb, m⟩ = t := ⟨_, rfl⟩
  obtain ⟨c, hc⟩ : ∃ t, chosenE ⟨ea, l⟩ ⟨eb, m⟩ = t := ⟨_, rfl⟩
  rw [ht, hc]
  have htH := Lib.hid ht; have hcH := Lib.hid hc
  clear ha hbE hA hB hR hwW hn hk hsm wa wb ht hc
  go_enter Tryz.func44, Tryz.ntmps44
  go_wp2_with fail
  refine (chosen_join _ _ _ _ _ haH.out hbH.out waH.out wbH.out hsH.out).mono ?_
  rw [htH.out, hcH.out]
  rintro e w' ⟨v, rfl, ho, hb⟩
  obtain ⟨V, n', c', rfl, hn', hc1', hc2'⟩ := ho.words.form
  have hoH := Lib.hid ho
  clear ho hn' a0_ a1_ b0_ b1_
  have r0_ := (hRH.out.below hb).cell 0 rfl; have r1_ := (hRH.out.below hb).cell 1 rfl; have rf0_ := (hRH.out.below hb).free 0; have rf1_ := (hRH.out.below hb).free 1
  have hz := Nat.lt_of_lt_of_le hzz hb.size
  go_wp2_with fail
  refine bodyPost_ret (v := .tuple #[.agg #[.int .u64 t.e, .slice V n' c'], .int .u16 c]) (by simp [results, Tryz.results44, go_sem, r0_, r1_, hz]) rfl ⟨_, rfl, ?_, ?_⟩
  · exact ((hoH.out.far (hRH.out.below hb) (by decide) 0 _).far ((hRH.out.below hb).set 0 _) (by decide) 1 _).low hwWH.out.size
  · exact ((hwWH.out.trans (hb.mono hwWH.out.size)).setCell (by simp; omega) _).setCell (by simp; omega) _
end Go.Proofs.YtdfhchpimpbgfaaGreatDoor
