/-
  What stamp.Meet answers, at this program: of any two times. Condition: no more than 2^40 counters, of 32 bits.
-/
import Derived.Test.YtdfhchpimpbgfaaGreatDoorStChW
set_option linter.unusedVariables false
set_option linter.unusedSimpArgs false
namespace Go.Proofs.YtdfhchpimpbgfaaGreatDoor
open Go.RowKit Go.Lib

set_option maxHeartbeats 2000000 in
set_option maxRecDepth 1000000 in
theorem cl_min (x y : Int) (w : World) : Calls Tryz.prog 89 #[.int .u64 x, .int .u64 y] w fun e w' => e = .returned (.int .u64 (min x y)) ∧ w = w' := by
  go_enter Tryz.func89, Tryz.ntmps89
  go_wp2_with fail
  go_ret
  exact ⟨rfl, rfl⟩
set_option maxHeartbeats 2000000 in
set_option maxRecDepth 1000000 in
theorem chosen_meet_bad (va vb : Value) (a b : Tm) (w : World) (ha : TmV w va a) (hb : TmV w vb b) (wa : TmW a) (wb : TmW b) (hsm : a.l.length ≤ 1099511627776) (hl : ¬ a.l.length = b.l.length) :
    Calls Tryz.prog 86 #[va, vb, .func (.func 89) #[] #[]] w (OutT (chosenT min a b) (chosenE a b) w) := by
  obtain ⟨ea, l⟩ := a
  obtain ⟨eb, m⟩ := b
  obtain ⟨sa, rfl, ha⟩ := ha
  obtain ⟨sb, rfl, hbE⟩ := hb
  obtain ⟨_, wl⟩ := wa
  obtain ⟨_, wm⟩ := wb
  simp only at ha hbE hl hsm wl wm ⊢
  obtain ⟨A, n, ca, rfl, hn, hla, hca⟩ := ha.form
  obtain ⟨B, k, cb, rfl, hk, hlb, hcb⟩ := hbE.form
  rw [show chosenT min ⟨ea, l⟩ ⟨eb, m⟩ = ⟨0, []⟩ by unfold chosenT; rw [if_neg hl], show chosenE ⟨ea, l⟩ ⟨eb, m⟩ = 40 by unfold chosenE; rw [if_neg hl]]
  have hnk : ¬ (n : Int) = (k : Int) := by omega
  have hnk2 : ((n : Int) == (k : Int)) = false := by simp; omega
  have hnk3 : ((n : Int) != (k : Int)) = true := by simp; omega
  clear hl
  obtain ⟨W0, hW0, hwW, hA, hB, hR, hzz⟩ := boxes3 w [.int .u64 ea, .slice A n ca] [.int .u64 eb, .slice B k cb] [.int .u64 0, .slice none 0 0] 26 26 26
  have haH := Lib.hid (ha.below hwW); have hbH := Lib.hid (hbE.below hwW)
  have hAH := Lib.hid hA; have hBH := Lib.hid hB; have hRH := Lib.hid hR; have hwWH := Lib.hid hwW
  have hnH := Lib.hid hn; have hkH := Lib.hid hk; have hsH := Lib.hid hsm; have wlH := Lib.hid wl; have wmH := Lib.hid wm
  have a0_ := hA.cell 0 rfl; have a1_ := hA.cell 1 rfl; have b0_ := hB.cell 0 rfl; have b1_ := hB.cell 1 rfl; have r0_ := hR.cell 0 rfl; have r1_ := hR.cell 1 rfl; have rf0_ := hR.free 0; have rf1_ := hR.free 1
  clear ha hbE hA hB hR hwW hn hk hsm wl wm
  have hb := Below.refl W0.heap.size W0
  go_enter Tryz.func86, Tryz.ntmps86
  go_wp2_with fail
  refine bodyPost_ret (v := .tuple #[.agg #[.int .u64 0, .slice none 0 0], .int .u16 40]) (by simp [results, Tryz.results86, go_sem, r0_, r1_, hzz]) rfl ⟨_, rfl, OwnW.nil _ _, ?_⟩
  have hbw := hwWH.out
  first | exact (hbw.setCell (by simp; omega) _).setCell (by simp; omega) _ | go_grown
set_option maxHeartbeats 2000000 in
set_option maxRecDepth 1000000 in
theorem chosen_meet_ok (va vb : Value) (a b : Tm) (w : World) (ha : TmV w va a) (hb : TmV w vb b) (wa : TmW a) (wb : TmW b) (hsm : a.l.length ≤ 1099511627776) (hl : a.l.length = b.l.length) :
    Calls Tryz.prog 86 #[va, vb, .func (.func 89) #[] #[]] w (OutT (chosenT min a b) (chosenE a b) w) := by
  obtain ⟨ea, l⟩ := a
  obtain ⟨eb, m⟩ := b
  obtain ⟨sa, rfl, ha⟩ := ha
  obtain ⟨sb, rfl, hbE⟩ := hb
  obtain ⟨_, wl⟩ := wa
  obtain ⟨_, wm⟩ := wb
  simp only at ha hbE hl hsm wl wm ⊢
  obtain ⟨A, n, ca, rfl, hn, hla, hca⟩ := ha.form
  obtain ⟨B, k, cb, rfl, hk, hlb, hcb⟩ := hbE.form
  rw [show chosenT min ⟨ea, l⟩ ⟨eb, m⟩ = ⟨min ea eb, zipL min l m⟩ by unfold chosenT; rw [if_pos hl], show chosenE ⟨ea, l⟩ ⟨eb, m⟩ = 0 by unfold chosenE; rw [if_pos hl]]
  obtain rfl : n = k := by omega
  have hlH := Lib.hid hl
  clear hl
  obtain ⟨W0, hW0, hwW, hA, hB, hR, hzz⟩ := boxes3 w [.int .u64 ea, .slice A n ca] [.int .u64 eb, .slice B n cb] [.int .u64 0, .slice none 0 0] 26 26 26
  have haH := Lib.hid (ha.below hwW); have hbH := Lib.hid (hbE.below hwW)
  have hAH := Lib.hid hA; have hBH := Lib.hid hB; have hRH := Lib.hid hR; have hwWH := Lib.hid hwW
  have hnH := Lib.hid hn; have hkH := Lib.hid hk; have hsH := Lib.hid hsm; have wlH := Lib.hid wl; have wmH := Lib.hid wm
  have a0_ := hA.cell 0 rfl; have a1_ := hA.cell 1 rfl; have b0_ := hB.cell 0 rfl; have b1_ := hB.cell 1 rfl; have r0_ := hR.cell 0 rfl; have r1_ := hR.cell 1 rfl; have rf0_ := hR.free 0; have rf1_ := hR.free 1
  clear ha hbE hA hB hR hwW hn hk hsm wl wm
  have hb := Below.refl W0.heap.size W0
  have hz := hzz; have hs := hb.size; have hz0 := Lib.hid hzz
  obtain ⟨mx, hmx⟩ : ∃ x, min ea eb = x := ⟨_, rfl⟩
  have hmH := Lib.hid hmx
  rw [hmx]
  clear hmx
  go_enter Tryz.func86, Tryz.ntmps86
  go_wp2_with fail
  go_cut [8] (fun s wx => RelN mx l W0.heap.size W0 s wx)
  case first =>
    refine wp_region_noPanic ?_
    refine wp_region_held_drew (S := (fun w' => w'.cell? ⟨w.heap.size, 0, none⟩ = some (.int .u64 ea) ∧ w'.cell? ⟨w.heap.size, 1, none⟩ = some (.slice A n ca) ∧ w'.cell? ⟨w.heap.size + 1, 0, none⟩ = some (.int .u64 eb) ∧ w'.cell? ⟨w.heap.size + 1, 1, none⟩ = some (.slice B n cb))) (by kernel_rfl) (⟨a0_, a1_, b0_, b1_⟩) (fun hHeld => ?_)
    refine' wpAnyH_take (i := 0) (v := .func (.func 89) #[] #[]) ?hi0x65 ?hs0x65 ?hf0x65 ?hr0x65 ?hQ0x65 ?hy0x65 ?hS0x65 ?rest0x65
    case hi0x65 => (simp only [List.getElem?_toArray, List.getElem?_cons_succ, List.getElem?_cons_zero]; try rfl)
    case hs0x65 => kernel_rfl
    case hf0x65 => kernel_rfl
    case hr0x65 => kernel_rfl
    case hQ0x65 => exact fun _ _ _ h => h
    case hy0x65 => exact Or.inl ⟨by rfl, by (intro w hSw; (try dsimp only at hSw); go_simp)⟩
    case hS0x65 => assumption
    (try simp only [Act.put, List.setIfInBounds_toArray, List.set_cons_zero, List.set_cons_succ])
    refine' wpAnyH_take (i := 1) (v := .pointer (some ⟨w.heap.size, 0, none⟩)) ?hi1x66 ?hs1x66 ?hf1x66 ?hr1x66 ?hQ1x66 ?hy1x66 ?hS1x66 ?rest1x66
    case hi1x66 => (simp only [List.getElem?_toArray, List.getElem?_cons_succ, List.getElem?_cons_zero]; try rfl)
    case hs1x66 => kernel_rfl
    case hf1x66 => kernel_rfl
    case hr1x66 => kernel_rfl
    case hQ1x66 => exact fun _ _ _ h => h
    case hy1x66 => exact Or.inl ⟨by rfl, by (intro w hSw; (try dsimp only at hSw); go_simp)⟩
    case hS1x66 => assumption
    (try simp only [Act.put, List.setIfInBounds_toArray, List.set_cons_zero, List.set_cons_succ])
    refine' wpAnyH_take (i := 2) (v := .int .u64 ea) ?hi2x67 ?hs2x67 ?hf2x67 ?hr2x67 ?hQ2x67 ?hy2x67 ?hS2x67 ?rest2x67
    case hi2x67 => (simp only [List.getElem?_toArray, List.getElem?_cons_succ, List.getElem?_cons_zero]; try rfl)
    case hs2x67 => kernel_rfl
    case hf2x67 => kernel_rfl
    case hr2x67 => kernel_rfl
    case hQ2x67 => exact fun _ _ _ h => h
    case hy2x67 => exact Or.inl ⟨by rfl, by (intro w hSw; (try dsimp only at hSw); go_simp)⟩
    case hS2x67 => assumption
    (try simp only [Act.put, List.setIfInBounds_toArray, List.set_cons_zero, List.set_cons_succ])
    refine' wpAnyH_take (i := 3) (v := .pointer (some ⟨w.heap.size + 1, 0, none⟩)) ?hi3x68 ?hs3x68 ?hf3x68 ?hr3x68 ?hQ3x68 ?hy3x68 ?hS3x68 ?rest3x68
    case hi3x68 => (simp only [List.getElem?_toArray, List.getElem?_cons_succ, List.getElem?_cons_zero]; try rfl)
    case hs3x68 => kernel_rfl
    case hf3x68 => kernel_rfl
    case hr3x68 => kernel_rfl
    case hQ3x68 => exact fun _ _ _ h => h
    case hy3x68 => exact Or.inl ⟨by rfl, by (intro w hSw; (try dsimp only at hSw); go_simp)⟩
    case hS3x68 => assumption
    (try simp only [Act.put, List.setIfInBounds_toArray, List.set_cons_zero, List.set_cons_succ])
    refine' wpAnyH_take (i := 4) (v := .int .u64 eb) ?hi4x69 ?hs4x69 ?hf4x69 ?hr4x69 ?hQ4x69 ?hy4x69 ?hS4x69 ?rest4x69
    case hi4x69 => (simp only [List.getElem?_toArray, List.getElem?_cons_succ, List.getElem?_cons_zero]; try rfl)
    case hs4x69 => kernel_rfl
    case hf4x69 => kernel_rfl
    case hr4x69 => kernel_rfl
    case hQ4x69 => exact fun _ _ _ h => h
    case hy4x69 => exact Or.inl ⟨by rfl, by (intro w hSw; (try dsimp only at hSw); go_simp)⟩
    case hS4x69 => assumption
    (try simp only [Act.put, List.setIfInBounds_toArray, List.set_cons_zero, List.set_cons_succ])
    refine' wpAnyH_take (i := 6) (v := .pointer (some ⟨w.heap.size, 1, none⟩)) ?hi6x70 ?hs6x70 ?hf6x70 ?hr6x70 ?hQ6x70 ?hy6x70 ?hS6x70 ?rest6x70
    case hi6x70 => (simp only [List.getElem?_toArray, List.getElem?_cons_succ, List.getElem?_cons_zero]; try rfl)
    case hs6x70 => kernel_rfl
    case hf6x70 => kernel_rfl
    case hr6x70 => kernel_rfl
    case hQ6x70 => exact fun _ _ _ h => h
    case hy6x70 => exact Or.inl ⟨by rfl, by (intro w hSw; (try dsimp only at hSw); go_simp)⟩
    case hS6x70 => assumption
    (try simp only [Act.put, List.setIfInBounds_toArray, List.set_cons_zero, List.set_cons_succ])
    refine' wpAnyH_take (i := 7) (v := .slice A n ca) ?hi7x71 ?hs7x71 ?hf7x71 ?hr7x71 ?hQ7x71 ?hy7x71 ?hS7x71 ?rest7x71
    case hi7x71 => (simp only [List.getElem?_toArray, List.getElem?_cons_succ, List.getElem?_cons_zero]; try rfl)
    case hs7x71 => kernel_rfl
    case hf7x71 => kernel_rfl
    case hr7x71 => kernel_rfl
    case hQ7x71 => exact fun _ _ _ h => h
    case hy7x71 => exact Or.inl ⟨by rfl, by (intro w hSw; (try dsimp only at hSw); go_simp)⟩
    case hS7x71 => assumption
    (try simp only [Act.put, List.setIfInBounds_toArray, List.set_cons_zero, List.set_cons_succ])
    refine wpAnyH_ready (rs := [5, 8, 11]) (by kernel_rfl) (by simp) ?_
    refine' (AllReadyH.cons (i := 5) ?ho5x72 (fun K hK => ?st5x72) (AllReadyH.cons (i := 8) ?ho8x73 (fun K hK => ?st8x73) (AllReadyH.cons (i := 11) ?ho11x74 (fun K hK => ?st11x74) AllReadyH.nil)))
    case ho5x72 => (simp only [List.getElem?_toArray, List.getElem?_cons_succ, List.getElem?_cons_zero]; try rfl)
    case ho8x73 => (simp only [List.getElem?_toArray, List.getElem?_cons_succ, List.getElem?_cons_zero]; try rfl)
    case ho11x74 => (simp only [List.getElem?_toArray, List.getElem?_cons_succ, List.getElem?_cons_zero]; try rfl)
    case st5x72 =>
      go_simp
      refine (cl_min _ _ _).mono ?_; rw [hmH.out]; rintro e w' ⟨rfl, rfl⟩
      refine hK.out _ _ ?_ (fun hHeld => ?_)
      · exact keepS hAH.out hBH.out (by go_grown)
      clear hK K
      (try simp only [Act.put, List.setIfInBounds_toArray, List.set_cons_zero, List.set_cons_succ])
      refine wpAnyH_ready (rs := [8, 11]) (by kernel_rfl) (by simp) ?_
      refine' (AllReadyH.cons (i := 8) ?ho8x75 (fun K hK => ?st8x75) (AllReadyH.cons (i := 11) ?ho11x76 (fun K hK => ?st11x76) AllReadyH.nil))
      case ho8x75 => (simp only [List.getElem?_toArray, List.getElem?_cons_succ, List.getElem?_cons_zero]; try rfl)
      case ho11x76 => (simp only [List.getElem?_toArray, List.getElem?_cons_succ, List.getElem?_cons_zero]; try rfl)
      case st8x75 =>
        go_simp
        refine hK.out _ _ ?_ (fun hHeld => ?_)
        · exact keepS hAH.out hBH.out (by go_grown)
        clear hK K
        (try simp only [Act.put, List.setIfInBounds_toArray, List.set_cons_zero, List.set_cons_succ])
        refine wpAnyH_ready (rs := [9, 11]) (by kernel_rfl) (by simp) ?_
        refine' (AllReadyH.cons (i := 9) ?ho9x77 (fun K hK => ?st9x77) (AllReadyH.cons (i := 11) ?ho11x78 (fun K hK => ?st11x78) AllReadyH.nil))
        case ho9x77 => (simp only [List.getElem?_toArray, List.getElem?_cons_succ, List.getElem?_cons_zero]; try rfl)
        case ho11x78 => (simp only [List.getElem?_toArray, List.getElem?_cons_succ, List.getElem?_cons_zero]; try rfl)
        case st9x77 =>
          go_simp
          refine (concat1_any _ _ l _ ((SlsV.one haH.out _).drew) (by have := hsH.out; omega)).mono ?_; rintro e w' ⟨v', rfl, ho', hb'⟩; obtain ⟨A', n', c', rfl, hn', hc1', hc2'⟩ := ho'.words.form; have hoH := Lib.hid (ho'.low (B' := W0.heap.size) (by first | (simp; done) | (simp; omega))); replace hb := chainB (B := W0.heap.size) (a := W0) (by go_grown) hb' (by first | (simp; done) | (simp; omega)); clear ho' hn' hb'
          refine hK.out _ _ ?_ (fun hHeld => ?_)
          · exact keepS hAH.out hBH.out hb
          clear hK K
          (try simp only [Act.put, List.setIfInBounds_toArray, List.set_cons_zero, List.set_cons_succ])
          refine' wpAnyH_take (i := 10) (v := .agg #[.int .u64 mx, .slice A' n' c']) ?hi10x79 ?hs10x79 ?hf10x79 ?hr10x79 ?hQ10x79 ?hy10x79 ?hS10x79 ?rest10x79
          case hi10x79 => (simp only [List.getElem?_toArray, List.getElem?_cons_succ, List.getElem?_cons_zero]; try rfl)
          case hs10x79 => kernel_rfl
          case hf10x79 => kernel_rfl
          case hr10x79 => kernel_rfl
          case hQ10x79 => exact fun _ _ _ h => h
          case hy10x79 => exact Or.inl ⟨by rfl, by (intro w hSw; (try dsimp only at hSw); go_simp)⟩
          case hS10x79 => assumption
          (try simp only [Act.put, List.setIfInBounds_toArray, List.set_cons_zero, List.set_cons_succ])
          refine wpAnyH_ready (rs := [11]) (by kernel_rfl) (by simp) ?_
          refine' (AllReadyH.cons (i := 11) ?ho11x80 (fun K hK => ?st11x80) AllReadyH.nil)
          case ho11x80 => (simp only [List.getElem?_toArray, List.getElem?_cons_succ, List.getElem?_cons_zero]; try rfl)
          case st11x80 =>
            go_simp
            refine hK.out _ _ ?_ (fun hHeld => ?_)
            · exact keepS hAH.out hBH.out (hb.alloc hb.size _)
            clear hK K
            (try simp only [Act.put, List.setIfInBounds_toArray, List.set_cons_zero, List.set_cons_succ])
            refine wpAnyH_ready (rs := [12]) (by kernel_rfl) (by simp) ?_
            refine' (AllReadyH.cons (i := 12) ?ho12x81 (fun K hK => ?st12x81) AllReadyH.nil)
            case ho12x81 => (simp only [List.getElem?_toArray, List.getElem?_cons_succ, List.getElem?_cons_zero]; try rfl)
            case st12x81 =>
              go_simp
              refine hK.out _ _ ?_ (fun hHeld => ?_)
              · exact keepS hAH.out hBH.out (hb.alloc hb.size _)
              clear hK K
              (try simp only [Act.put, List.setIfInBounds_toArray, List.set_cons_zero, List.set_cons_succ])
              refine wpAnyH_done (by kernel_rfl) ?_ _
              refine NoPanic.normal ?_
              go_wp2_with fail
              go_meet
              exact relN_new hoH.out hb hb.size
        case st11x78 =>
          go_simp
          refine hK.out _ _ ?_ (fun hHeld => ?_)
          · exact keepS hAH.out hBH.out (by go_grown)
          clear hK K
          (try simp only [Act.put, List.setIfInBounds_toArray, List.set_cons_zero, List.set_cons_succ])
          refine wpAnyH_ready (rs := [9]) (by kernel_rfl) (by simp) ?_
          refine' (AllReadyH.cons (i := 9) ?ho9x82 (fun K hK => ?st9x82) AllReadyH.nil)
          case ho9x82 => (simp only [List.getElem?_toArray, List.getElem?_cons_succ, List.getElem?_cons_zero]; try rfl)
          case st9x82 =>
            go_simp
            refine (concat1_any _ _ l _ (((SlsV.one haH.out _).alloc _).drew) (by have := hsH.out; omega)).mono ?_; rintro e w' ⟨v', rfl, ho', hb'⟩; obtain ⟨A', n', c', rfl, hn', hc1', hc2'⟩ := ho'.words.form; have hoH := Lib.hid (ho'.low (B' := W0.heap.size) (by first | (simp; done) | (simp; omega))); have hO := Lib.hid (show HasC w' (W0.heap.size + 1) [.int .u64 0, .slice none 0 0] 26 by simpa only [World.size_alloc] using (HasC.new (W0.alloc (.cells #[.slice A n ca] 24)) [.int .u64 0, .slice none 0 0] 26).drew.below hb'); replace hb := chainB (B := W0.heap.size) (a := W0) (by go_grown) hb' (by first | (simp; done) | (simp; omega)); clear ho' hn' hb'; have o0_ := hO.out.cell 0 rfl; have o1_ := hO.out.cell 1 rfl; have of0_ := hO.out.free 0; have of1_ := hO.out.free 1; have ol_ := hO.out.lt
            refine hK.out _ _ ?_ (fun hHeld => ?_)
            · exact keepS hAH.out hBH.out hb
            clear hK K
            (try simp only [Act.put, List.setIfInBounds_toArray, List.set_cons_zero, List.set_cons_succ])
            refine' wpAnyH_take (i := 10) (v := .agg #[.int .u64 mx, .slice A' n' c']) ?hi10x83 ?hs10x83 ?hf10x83 ?hr10x83 ?hQ10x83 ?hy10x83 ?hS10x83 ?rest10x83
            case hi10x83 => (simp only [List.getElem?_toArray, List.getElem?_cons_succ, List.getElem?_cons_zero]; try rfl)
            case hs10x83 => kernel_rfl
            case hf10x83 => kernel_rfl
            case hr10x83 => kernel_rfl
            case hQ10x83 => exact fun _ _ _ h => h
            case hy10x83 => exact Or.inl ⟨by rfl, by (intro w hSw; (try dsimp only at hSw); go_simp)⟩
            case hS10x83 => assumption
            (try simp only [Act.put, List.setIfInBounds_toArray, List.set_cons_zero, List.set_cons_succ])
            refine wpAnyH_ready (rs := [12]) (by kernel_rfl) (by simp) ?_
            refine' (AllReadyH.cons (i := 12) ?ho12x84 (fun K hK => ?st12x84) AllReadyH.nil)
            case ho12x84 => (simp only [List.getElem?_toArray, List.getElem?_cons_succ, List.getElem?_cons_zero]; try rfl)
            case st12x84 =>
              go_simp
              refine hK.out _ _ ?_ (fun hHeld => ?_)
              · exact keepS hAH.out hBH.out ((hb.setCell (by simp) _).setCell (by simp) _)
              clear hK K
              (try simp only [Act.put, List.setIfInBounds_toArray, List.set_cons_zero, List.set_cons_succ])
              refine wpAnyH_done (by kernel_rfl) ?_ _
              refine NoPanic.normal ?_
              go_wp2_with fail
              go_meet
              exact relN_set hoH.out hb hO.out (by simp)
      case st11x76 =>
        go_simp
        refine hK.out _ _ ?_ (fun hHeld => ?_)
        · exact keepS hAH.out hBH.out (by go_grown)
        clear hK K
        (try simp only [Act.put, List.setIfInBounds_toArray, List.set_cons_zero, List.set_cons_succ])
        refine wpAnyH_ready (rs := [8]) (by kernel_rfl) (by simp) ?_
        refine' (AllReadyH.cons (i := 8) ?ho8x85 (fun K hK => ?st8x85) AllReadyH.nil)
        case ho8x85 => (simp only [List.getElem?_toArray, List.getElem?_cons_succ, List.getElem?_cons_zero]; try rfl)
        case st8x85 =>
          go_simp
          refine hK.out _ _ ?_ (fun hHeld => ?_)
          · exact keepS hAH.out hBH.out (by go_grown)
          clear hK K
          (try simp only [Act.put, List.setIfInBounds_toArray, List.set_cons_zero, List.set_cons_succ])
          refine wpAnyH_ready (rs := [9]) (by kernel_rfl) (by simp) ?_
          refine' (AllReadyH.cons (i := 9) ?ho9x86 (fun K hK => ?st9x86) AllReadyH.nil)
          case ho9x86 => (simp only [List.getElem?_toArray, List.getElem?_cons_succ, List.getElem?_cons_zero]; try rfl)
          case st9x86 =>
            go_simp
            refine (concat1_any _ _ l _ ((SlsV.one_at (haH.out.alloc _) _ (by simp)).drew) (by have := hsH.out; omega)).mono ?_; rintro e w' ⟨v', rfl, ho', hb'⟩; obtain ⟨A', n', c', rfl, hn', hc1', hc2'⟩ := ho'.words.form; have hoH := Lib.hid (ho'.low (B' := W0.heap.size) (by first | (simp; done) | (simp; omega))); have hO := Lib.hid ((((HasC.new W0 [.int .u64 0, .slice none 0 0] 26).alloc (.cells #[.slice A n ca] 24)).drew).below hb'); replace hb := chainB (B := W0.heap.size) (a := W0) (by go_grown) hb' (by first | (simp; done) | (simp; omega)); clear ho' hn' hb'; have o0_ := hO.out.cell 0 rfl; have o1_ := hO.out.cell 1 rfl; have of0_ := hO.out.free 0; have of1_ := hO.out.free 1; have ol_ := hO.out.lt
            refine hK.out _ _ ?_ (fun hHeld => ?_)
            · exact keepS hAH.out hBH.out hb
            clear hK K
            (try simp only [Act.put, List.setIfInBounds_toArray, List.set_cons_zero, List.set_cons_succ])
            refine' wpAnyH_take (i := 10) (v := .agg #[.int .u64 mx, .slice A' n' c']) ?hi10x87 ?hs10x87 ?hf10x87 ?hr10x87 ?hQ10x87 ?hy10x87 ?hS10x87 ?rest10x87
            case hi10x87 => (simp only [List.getElem?_toArray, List.getElem?_cons_succ, List.getElem?_cons_zero]; try rfl)
            case hs10x87 => kernel_rfl
            case hf10x87 => kernel_rfl
            case hr10x87 => kernel_rfl
            case hQ10x87 => exact fun _ _ _ h => h
            case hy10x87 => exact Or.inl ⟨by rfl, by (intro w hSw; (try dsimp only at hSw); go_simp)⟩
            case hS10x87 => assumption
            (try simp only [Act.put, List.setIfInBounds_toArray, List.set_cons_zero, List.set_cons_succ])
            refine wpAnyH_ready (rs := [12]) (by kernel_rfl) (by simp) ?_
            refine' (AllReadyH.cons (i := 12) ?ho12x88 (fun K hK => ?st12x88) AllReadyH.nil)
            case ho12x88 => (simp only [List.getElem?_toArray, List.getElem?_cons_succ, List.getElem?_cons_zero]; try rfl)
            case st12x88 =>
              go_simp
              refine hK.out _ _ ?_ (fun hHeld => ?_)
              · exact keepS hAH.out hBH.out ((hb.setCell (by simp) _).setCell (by simp) _)
              clear hK K
              (try simp only [Act.put, List.setIfInBounds_toArray, List.set_cons_zero, List.set_cons_succ])
              refine wpAnyH_done (by kernel_rfl) ?_ _
              refine NoPanic.normal ?_
              go_wp2_with fail
              go_meet
              exact relN_set hoH.out hb hO.out (by simp)
    case st8x73 =>
      go_simp
      refine hK.out _ _ ?_ (fun hHeld => ?_)
      · exact keepS hAH.out hBH.out (by go_grown)
      clear hK K
      (try simp only [Act.put, List.setIfInBounds_toArray, List.set_cons_zero, List.set_cons_succ])
      refine wpAnyH_ready (rs := [5, 11]) (by kernel_rfl) (by simp) ?_
      refine' (AllReadyH.cons (i := 5) ?ho5x89 (fun K hK => ?st5x89) (AllReadyH.cons (i := 11) ?ho11x90 (fun K hK => ?st11x90) AllReadyH.nil))
      case ho5x89 => (simp only [List.getElem?_toArray, List.getElem?_cons_succ, List.getElem?_cons_zero]; try rfl)
      case ho11x90 => (simp only [List.getElem?_toArray, List.getElem?_cons_succ, List.getElem?_cons_zero]; try rfl)
      case st5x89 =>
        go_simp
        refine (cl_min _ _ _).mono ?_; rw [hmH.out]; rintro e w' ⟨rfl, rfl⟩
        refine hK.out _ _ ?_ (fun hHeld => ?_)
        · exact keepS hAH.out hBH.out (by go_grown)
        clear hK K
        (try simp only [Act.put, List.setIfInBounds_toArray, List.set_cons_zero, List.set_cons_succ])
        refine wpAnyH_ready (rs := [9, 11]) (by kernel_rfl) (by simp) ?_
        refine' (AllReadyH.cons (i := 9) ?ho9x91 (fun K hK => ?st9x91) (AllReadyH.cons (i := 11) ?ho11x92 (fun K hK => ?st11x92) AllReadyH.nil))
        case ho9x91 => (simp only [List.getElem?_toArray, List.getElem?_cons_succ, List.getElem?_cons_zero]; try rfl)
        case ho11x92 => (simp only [List.getElem?_toArray, List.getElem?_cons_succ, List.getElem?_cons_zero]; try rfl)
        case st9x91 =>
          go_simp
          refine (concat1_any _ _ l _ ((SlsV.one haH.out _).drew) (by have := hsH.out; omega)).mono ?_; rintro e w' ⟨v', rfl, ho', hb'⟩; obtain ⟨A', n', c', rfl, hn', hc1', hc2'⟩ := ho'.words.form; have hoH := Lib.hid (ho'.low (B' := W0.heap.size) (by first | (simp; done) | (simp; omega))); replace hb := chainB (B := W0.heap.size) (a := W0) (by go_grown) hb' (by first | (simp; done) | (simp; omega)); clear ho' hn' hb'
          refine hK.out _ _ ?_ (fun hHeld => ?_)
          · exact keepS hAH.out hBH.out hb
          clear hK K
          (try simp only [Act.put, List.setIfInBounds_toArray, List.set_cons_zero, List.set_cons_succ])
          refine' wpAnyH_take (i := 10) (v := .agg #[.int .u64 mx, .slice A' n' c']) ?hi10x93 ?hs10x93 ?hf10x93 ?hr10x93 ?hQ10x93 ?hy10x93 ?hS10x93 ?rest10x93
          case hi10x93 => (simp only [List.getElem?_toArray, List.getElem?_cons_succ, List.getElem?_cons_zero]; try rfl)
          case hs10x93 => kernel_rfl
          case hf10x93 => kernel_rfl
          case hr10x93 => kernel_rfl
          case hQ10x93 => exact fun _ _ _ h => h
          case hy10x93 => exact Or.inl ⟨by rfl, by (intro w hSw; (try dsimp only at hSw); go_simp)⟩
          case hS10x93 => assumption
          (try simp only [Act.put, List.setIfInBounds_toArray, List.set_cons_zero, List.set_cons_succ])
          refine wpAnyH_ready (rs := [11]) (by kernel_rfl) (by simp) ?_
          refine' (AllReadyH.cons (i := 11) ?ho11x94 (fun K hK => ?st11x94) AllReadyH.nil)
          case ho11x94 => (simp only [List.getElem?_toArray, List.getElem?_cons_succ, List.getElem?_cons_zero]; try rfl)
          case st11x94 =>
            go_simp
            refine hK.out _ _ ?_ (fun hHeld => ?_)
            · exact keepS hAH.out hBH.out (hb.alloc hb.size _)
            clear hK K
            (try simp only [Act.put, List.setIfInBounds_toArray, List.set_cons_zero, List.set_cons_succ])
            refine wpAnyH_ready (rs := [12]) (by kernel_rfl) (by simp) ?_
            refine' (AllReadyH.cons (i := 12) ?ho12x95 (fun K hK => ?st12x95) AllReadyH.nil)
            case ho12x95 => (simp only [List.getElem?_toArray, List.getElem?_cons_succ, List.getElem?_cons_zero]; try rfl)
            case st12x95 =>
              go_simp
              refine hK.out _ _ ?_ (fun hHeld => ?_)
              · exact keepS hAH.out hBH.out (hb.alloc hb.size _)
              clear hK K
              (try simp only [Act.put, List.setIfInBounds_toArray, List.set_cons_zero, List.set_cons_succ])
              refine wpAnyH_done (by kernel_rfl) ?_ _
              refine NoPanic.normal ?_
              go_wp2_with fail
              go_meet
              exact relN_new hoH.out hb hb.size
        case st11x92 =>
          go_simp
          refine hK.out _ _ ?_ (fun hHeld => ?_)
          · exact keepS hAH.out hBH.out (by go_grown)
          clear hK K
          (try simp only [Act.put, List.setIfInBounds_toArray, List.set_cons_zero, List.set_cons_succ])
          refine wpAnyH_ready (rs := [9]) (by kernel_rfl) (by simp) ?_
          refine' (AllReadyH.cons (i := 9) ?ho9x96 (fun K hK => ?st9x96) AllReadyH.nil)
          case ho9x96 => (simp only [List.getElem?_toArray, List.getElem?_cons_succ, List.getElem?_cons_zero]; try rfl)
          case st9x96 =>
            go_simp
            refine (concat1_any _ _ l _ (((SlsV.one haH.out _).alloc _).drew) (by have := hsH.out; omega)).mono ?_; rintro e w' ⟨v', rfl, ho', hb'⟩; obtain ⟨A', n', c', rfl, hn', hc1', hc2'⟩ := ho'.words.form; have hoH := Lib.hid (ho'.low (B' := W0.heap.size) (by first | (simp; done) | (simp; omega))); have hO := Lib.hid (show HasC w' (W0.heap.size + 1) [.int .u64 0, .slice none 0 0] 26 by simpa only [World.size_alloc] using (HasC.new (W0.alloc (.cells #[.slice A n ca] 24)) [.int .u64 0, .slice none 0 0] 26).drew.below hb'); replace hb := chainB (B := W0.heap.size) (a := W0) (by go_grown) hb' (by first | (simp; done) | (simp; omega)); clear ho' hn' hb'; have o0_ := hO.out.cell 0 rfl; have o1_ := hO.out.cell 1 rfl; have of0_ := hO.out.free 0; have of1_ := hO.out.free 1; have ol_ := hO.out.lt
            refine hK.out _ _ ?_ (fun hHeld => ?_)
            · exact keepS hAH.out hBH.out hb
            clear hK K
            (try simp only [Act.put, List.setIfInBounds_toArray, List.set_cons_zero, List.set_cons_succ])
            refine' wpAnyH_take (i := 10) (v := .agg #[.int .u64 mx, .slice A' n' c']) ?hi10x97 ?hs10x97 ?hf10x97 ?hr10x97 ?hQ10x97 ?hy10x97 ?hS10x97 ?rest10x97
            case hi10x97 => (simp only [List.getElem?_toArray, List.getElem?_cons_succ, List.getElem?_cons_zero]; try rfl)
            case hs10x97 => kernel_rfl
            case hf10x97 => kernel_rfl
            case hr10x97 => kernel_rfl
            case hQ10x97 => exact fun _ _ _ h => h
            case hy10x97 => exact Or.inl ⟨by rfl, by (intro w hSw; (try dsimp only at hSw); go_simp)⟩
            case hS10x97 => assumption
            (try simp only [Act.put, List.setIfInBounds_toArray, List.set_cons_zero, List.set_cons_succ])
            refine wpAnyH_ready (rs := [12]) (by kernel_rfl) (by simp) ?_
            refine' (AllReadyH.cons (i := 12) ?ho12x98 (fun K hK => ?st12x98) AllReadyH.nil)
            case ho12x98 => (simp only [List.getElem?_toArray, List.getElem?_cons_succ, List.getElem?_cons_zero]; try rfl)
            case st12x98 =>
              go_simp
              refine hK.out _ _ ?_ (fun hHeld => ?_)
              · exact keepS hAH.out hBH.out ((hb.setCell (by simp) _).setCell (by simp) _)
              clear hK K
              (try simp only [Act.put, List.setIfInBounds_toArray, List.set_cons_zero, List.set_cons_succ])
              refine wpAnyH_done (by kernel_rfl) ?_ _
              refine NoPanic.normal ?_
              go_wp2_with fail
              go_meet
              exact relN_set hoH.out hb hO.out (by simp)
      case st11x90 =>
        go_simp
        refine hK.out _ _ ?_ (fun hHeld => ?_)
        · exact keepS hAH.out hBH.out (by go_grown)
        clear hK K
        (try simp only [Act.put, List.setIfInBounds_toArray, List.set_cons_zero, List.set_cons_succ])
        refine wpAnyH_ready (rs := [5]) (by kernel_rfl) (by simp) ?_
        refine' (AllReadyH.cons (i := 5) ?ho5x99 (fun K hK => ?st5x99) AllReadyH.nil)
        case ho5x99 => (simp only [List.getElem?_toArray, List.getElem?_cons_succ, List.getElem?_cons_zero]; try rfl)
        case st5x99 =>
          go_simp
          refine (cl_min _ _ _).mono ?_; rw [hmH.out]; rintro e w' ⟨rfl, rfl⟩
          refine hK.out _ _ ?_ (fun hHeld => ?_)
          · exact keepS hAH.out hBH.out (by go_grown)
          clear hK K
          (try simp only [Act.put, List.setIfInBounds_toArray, List.set_cons_zero, List.set_cons_succ])
          refine wpAnyH_ready (rs := [9]) (by kernel_rfl) (by simp) ?_
          refine' (AllReadyH.cons (i := 9) ?ho9x100 (fun K hK => ?st9x100) AllReadyH.nil)
          case ho9x100 => (simp only [List.getElem?_toArray, List.getElem?_cons_succ, List.getElem?_cons_zero]; try rfl)
          case st9x100 =>
            go_simp
            refine (concat1_any _ _ l _ (((SlsV.one haH.out _).alloc _).drew) (by have := hsH.out; omega)).mono ?_; rintro e w' ⟨v', rfl, ho', hb'⟩; obtain ⟨A', n', c', rfl, hn', hc1', hc2'⟩ := ho'.words.form; have hoH := Lib.hid (ho'.low (B' := W0.heap.size) (by first | (simp; done) | (simp; omega))); have hO := Lib.hid (show HasC w' (W0.heap.size + 1) [.int .u64 0, .slice none 0 0] 26 by simpa only [World.size_alloc] using (HasC.new (W0.alloc (.cells #[.slice A n ca] 24)) [.int .u64 0, .slice none 0 0] 26).drew.below hb'); replace hb := chainB (B := W0.heap.size) (a := W0) (by go_grown) hb' (by first | (simp; done) | (simp; omega)); clear ho' hn' hb'; have o0_ := hO.out.cell 0 rfl; have o1_ := hO.out.cell 1 rfl; have of0_ := hO.out.free 0; have of1_ := hO.out.free 1; have ol_ := hO.out.lt
            refine hK.out _ _ ?_ (fun hHeld => ?_)
            · exact keepS hAH.out hBH.out hb
            clear hK K
            (try simp only [Act.put, List.setIfInBounds_toArray, List.set_cons_zero, List.set_cons_succ])
            refine' wpAnyH_take (i := 10) (v := .agg #[.int .u64 mx, .slice A' n' c']) ?hi10x101 ?hs10x101 ?hf10x101 ?hr10x101 ?hQ10x101 ?hy10x101 ?hS10x101 ?rest10x101
            case hi10x101 => (simp only [List.getElem?_toArray, List.getElem?_cons_succ, List.getElem?_cons_zero]; try rfl)
            case hs10x101 => kernel_rfl
            case hf10x101 => kernel_rfl
            case hr10x101 => kernel_rfl
            case hQ10x101 => exact fun _ _ _ h => h
            case hy10x101 => exact Or.inl ⟨by rfl, by (intro w hSw; (try dsimp only at hSw); go_simp)⟩
            case hS10x101 => assumption
            (try simp only [Act.put, List.setIfInBounds_toArray, List.set_cons_zero, List.set_cons_succ])
            refine wpAnyH_ready (rs := [12]) (by kernel_rfl) (by simp) ?_
            refine' (AllReadyH.cons (i := 12) ?ho12x102 (fun K hK => ?st12x102) AllReadyH.nil)
            case ho12x102 => (simp only [List.getElem?_toArray, List.getElem?_cons_succ, List.getElem?_cons_zero]; try rfl)
            case st12x102 =>
              go_simp
              refine hK.out _ _ ?_ (fun hHeld => ?_)
              · exact keepS hAH.out hBH.out ((hb.setCell (by simp) _).setCell (by simp) _)
              clear hK K
              (try simp only [Act.put, List.setIfInBounds_toArray, List.set_cons_zero, List.set_cons_succ])
              refine wpAnyH_done (by kernel_rfl) ?_ _
              refine NoPanic.normal ?_
              go_wp2_with fail
              go_meet
              exact relN_set hoH.out hb hO.out (by simp)
    case st11x74 =>
      go_simp
      refine hK.out _ _ ?_ (fun hHeld => ?_)
      · exact keepS hAH.out hBH.out (by go_grown)
      clear hK K
      (try simp only [Act.put, List.setIfInBounds_toArray, List.set_cons_zero, List.set_cons_succ])
      refine wpAnyH_ready (rs := [5, 8]) (by kernel_rfl) (by simp) ?_
      refine' (AllReadyH.cons (i := 5) ?ho5x103 (fun K hK => ?st5x103) (AllReadyH.cons (i := 8) ?ho8x104 (fun K hK => ?st8x104) AllReadyH.nil))
      case ho5x103 => (simp only [List.getElem?_toArray, List.getElem?_cons_succ, List.getElem?_cons_zero]; try rfl)
      case ho8x104 => (simp only [List.getElem?_toArray, List.getElem?_cons_succ, List.getElem?_cons_zero]; try rfl)
      case st5x103 =>
        go_simp
        refine (cl_min _ _ _).mono ?_; rw [hmH.out]; rintro e w' ⟨rfl, rfl⟩
        refine hK.out _ _ ?_ (fun hHeld => ?_)
        · exact keepS hAH.out hBH.out (by go_grown)
        clear hK K
        (try simp only [Act.put, List.setIfInBounds_toArray, List.set_cons_zero, List.set_cons_succ])
        refine wpAnyH_ready (rs := [8]) (by kernel_rfl) (by simp) ?_
        refine' (AllReadyH.cons (i := 8) ?ho8x105 (fun K hK => ?st8x105) AllReadyH.nil)
        case ho8x105 => (simp only [List.getElem?_toArray, List.getElem?_cons_succ, List.getElem?_cons_zero]; try rfl)
        case st8x105 =>
          go_simp
          refine hK.out _ _ ?_ (fun hHeld => ?_)
          · exact keepS hAH.out hBH.out (by go_grown)
          clear hK K
          (try simp only [Act.put, List.setIfInBounds_toArray, List.set_cons_zero, List.set_cons_succ])
          refine wpAnyH_ready (rs := [9]) (by kernel_rfl) (by simp) ?_
          refine' (AllReadyH.cons (i := 9) ?ho9x106 (fun K hK => ?st9x106) AllReadyH.nil)
          case ho9x106 => (simp only [List.getElem?_toArray, List.getElem?_cons_succ, List.getElem?_cons_zero]; try rfl)
          case st9x106 =>
            go_simp
            refine (concat1_any _ _ l _ ((SlsV.one_at (haH.out.alloc _) _ (by simp)).drew) (by have := hsH.out; omega)).mono ?_; rintro e w' ⟨v', rfl, ho', hb'⟩; obtain ⟨A', n', c', rfl, hn', hc1', hc2'⟩ := ho'.words.form; have hoH := Lib.hid (ho'.low (B' := W0.heap.size) (by first | (simp; done) | (simp; omega))); have hO := Lib.hid ((((HasC.new W0 [.int .u64 0, .slice none 0 0] 26).alloc (.cells #[.slice A n ca] 24)).drew).below hb'); replace hb := chainB (B := W0.heap.size) (a := W0) (by go_grown) hb' (by first | (simp; done) | (simp; omega)); clear ho' hn' hb'; have o0_ := hO.out.cell 0 rfl; have o1_ := hO.out.cell 1 rfl; have of0_ := hO.out.free 0; have of1_ := hO.out.free 1; have ol_ := hO.out.lt
            refine hK.out _ _ ?_ (fun hHeld => ?_)
            · exact keepS hAH.out hBH.out hb
            clear hK K
            (try simp only [Act.put, List.setIfInBounds_toArray, List.set_cons_zero, List.set_cons_succ])
            refine' wpAnyH_take (i := 10) (v := .agg #[.int .u64 mx, .slice A' n' c']) ?hi10x107 ?hs10x107 ?hf10x107 ?hr10x107 ?hQ10x107 ?hy10x107 ?hS10x107 ?rest10x107
            case hi10x107 => (simp only [List.getElem?_toArray, List.getElem?_cons_succ, List.getElem?_cons_zero]; try rfl)
            case hs10x107 => kernel_rfl
            case hf10x107 => kernel_rfl
            case hr10x107 => kernel_rfl
            case hQ10x107 => exact fun _ _ _ h => h
            case hy10x107 => exact Or.inl ⟨by rfl, by (intro w hSw; (try dsimp only at hSw); go_simp)⟩
            case hS10x107 => assumption
            (try simp only [Act.put, List.setIfInBounds_toArray, List.set_cons_zero, List.set_cons_succ])
            refine wpAnyH_ready (rs := [12]) (by kernel_rfl) (by simp) ?_
            refine' (AllReadyH.cons (i := 12) ?ho12x108 (fun K hK => ?st12x108) AllReadyH.nil)
            case ho12x108 => (simp only [List.getElem?_toArray, List.getElem?_cons_succ, List.getElem?_cons_zero]; try rfl)
            case st12x108 =>
              go_simp
              refine hK.out _ _ ?_ (fun hHeld => ?_)
              · exact keepS hAH.out hBH.out ((hb.setCell (by simp) _).setCell (by simp) _)
              clear hK K
              (try simp only [Act.put, List.setIfInBounds_toArray, List.set_cons_zero, List.set_cons_succ])
              refine wpAnyH_done (by kernel_rfl) ?_ _
              refine NoPanic.normal ?_
              go_wp2_with fail
              go_meet
              exact relN_set hoH.out hb hO.out (by simp)
      case st8x104 =>
        go_simp
        refine hK.out _ _ ?_ (fun hHeld => ?_)
        · exact keepS hAH.out hBH.out (by go_grown)
        clear hK K
        (try simp only [Act.put, List.setIfInBounds_toArray, List.set_cons_zero, List.set_cons_succ])
        refine wpAnyH_ready (rs := [5]) (by kernel_rfl) (by simp) ?_
        refine' (AllReadyH.cons (i := 5) ?ho5x109 (fun K hK => ?st5x109) AllReadyH.nil)
        case ho5x109 => (simp only [List.getElem?_toArray, List.getElem?_cons_succ, List.getElem?_cons_zero]; try rfl)
        case st5x109 =>
          go_simp
          refine (cl_min _ _ _).mono ?_; rw [hmH.out]; rintro e w' ⟨rfl, rfl⟩
          refine hK.out _ _ ?_ (fun hHeld => ?_)
          · exact keepS hAH.out hBH.out (by go_grown)
          clear hK K
          (try simp only [Act.put, List.setIfInBounds_toArray, List.set_cons_zero, List.set_cons_succ])
          refine wpAnyH_ready (rs := [9]) (by kernel_rfl) (by simp) ?_
          refine' (AllReadyH.cons (i := 9) ?ho9x110 (fun K hK => ?st9x110) AllReadyH.nil)
          case ho9x110 => (simp only [List.getElem?_toArray, List.getElem?_cons_succ, List.getElem?_cons_zero]; try rfl)
          case st9x110 =>
            go_simp
            refine (concat1_any _ _ l _ ((SlsV.one_at (haH.out.alloc _) _ (by simp)).drew) (by have := hsH.out; omega)).mono ?_; rintro e w' ⟨v', rfl, ho', hb'⟩; obtain ⟨A', n', c', rfl, hn', hc1', hc2'⟩ := ho'.words.form; have hoH := Lib.hid (ho'.low (B' := W0.heap.size) (by first | (simp; done) | (simp; omega))); have hO := Lib.hid ((((HasC.new W0 [.int .u64 0, .slice none 0 0] 26).alloc (.cells #[.slice A n ca] 24)).drew).below hb'); replace hb := chainB (B := W0.heap.size) (a := W0) (by go_grown) hb' (by first | (simp; done) | (simp; omega)); clear ho' hn' hb'; have o0_ := hO.out.cell 0 rfl; have o1_ := hO.out.cell 1 rfl; have of0_ := hO.out.free 0; have of1_ := hO.out.free 1; have ol_ := hO.out.lt
            refine hK.out _ _ ?_ (fun hHeld => ?_)
            · exact keepS hAH.out hBH.out hb
            clear hK K
            (try simp only [Act.put, List.setIfInBounds_toArray, List.set_cons_zero, List.set_cons_succ])
            refine' wpAnyH_take (i := 10) (v := .agg #[.int .u64 mx, .slice A' n' c']) ?hi10x111 ?hs10x111 ?hf10x111 ?hr10x111 ?hQ10x111 ?hy10x111 ?hS10x111 ?rest10x111
            case hi10x111 => (simp only [List.getElem?_toArray, List.getElem?_cons_succ, List.getElem?_cons_zero]; try rfl)
            case hs10x111 => kernel_rfl
            case hf10x111 => kernel_rfl
            case hr10x111 => kernel_rfl
            case hQ10x111 => exact fun _ _ _ h => h
            case hy10x111 => exact Or.inl ⟨by rfl, by (intro w hSw; (try dsimp only at hSw); go_simp)⟩
            case hS10x111 => assumption
            (try simp only [Act.put, List.setIfInBounds_toArray, List.set_cons_zero, List.set_cons_succ])
            refine wpAnyH_ready (rs := [12]) (by kernel_rfl) (by simp) ?_
            refine' (AllReadyH.cons (i := 12) ?ho12x112 (fun K hK => ?st12x112) AllReadyH.nil)
            case ho12x112 => (simp only [List.getElem?_toArray, List.getElem?_cons_succ, List.getElem?_cons_zero]; try rfl)
            case st12x112 =>
              go_simp
              refine hK.out _ _ ?_ (fun hHeld => ?_)
              · exact keepS hAH.out hBH.out ((hb.setCell (by simp) _).setCell (by simp) _)
              clear hK K
              (try simp only [Act.put, List.setIfInBounds_toArray, List.set_cons_zero, List.set_cons_succ])
              refine wpAnyH_done (by kernel_rfl) ?_ _
              refine NoPanic.normal ?_
              go_wp2_with fail
              go_meet
              exact relN_set hoH.out hb hO.out (by simp)
  case rest =>
    unfold RelN at hcut
    obtain ⟨o, v, rfl, hoB, hO, hown, hbw⟩ := hcut
    obtain ⟨V, n', c', rfl, hn', hc1', hc2'⟩ := hown.words.form
    obtain rfl : n' = n := by have := hnH.out; omega
    have hownH := Lib.hid hown; have hOH := Lib.hid hO
    clear a0_ a1_ b0_ b1_ r0_ r1_ rf0_ rf1_ hz hs hb hown hO hn'
    have hb := hbw
    clear hbw
    have hbsH := Lib.hid hb
    have b0_ := (hBH.out.below hb).cell 0 rfl; have b1_ := (hBH.out.below hb).cell 1 rfl
    go_wp2_with fail
    go_loopw [33] (fun i wr => RelCh min l m mx o (.slice V n' c') W0.heap.size W0 i wr) (fun i _ => n' - (Go.RowKit.intOf i).toNat)
    case atStart => exact ⟨0, rfl, Nat.zero_le _, hOH.out, by (rw [chP]; exact hownH.out), hbsH.out⟩
    case round =>
      unfold RelCh at hrel
      obtain ⟨p, rfl, hpl, hO2, hown2, hb2⟩ := hrel
      clear hOH hownH hbsH b0_ b1_ hb
      have hb := hb2
      have hOH := Lib.hid hO2; have hownH := Lib.hid hown2
      clear hb2 hO2 hown2
      have b0_ := (hBH.out.below hb).cell 0 rfl; have b1_ := (hBH.out.below hb).cell 1 rfl; have o0_ := hOH.out.cell 0 rfl; have o1_ := hOH.out.cell 1 rfl; have of0_ := hOH.out.free 0; have of1_ := hOH.out.free 1
      have r0_ := (hRH.out.below hb).cell 0 rfl; have r1_ := (hRH.out.below hb).cell 1 rfl; have rf0_ := (hRH.out.below hb).free 0; have rf1_ := (hRH.out.below hb).free 1
      have hpn : p ≤ n' := by have := hnH.out; omega
      clear hpl
      by_cases hp : p < n'
      · have h1 : p < l.length := by have := hnH.out; omega
        have h2 : p < m.length := by have := hkH.out; omega
        have hlen : (chP min p l m).length = n' := by rw [chP_len]; exact hnH.out
        obtain ⟨g, cap, he, hcap, hcap2, hgB, hgl, hcell, hfree, hoth⟩ := hownH.out.row (by omega)
        rw [hlen] at he hcap
        obtain ⟨rfl, _, rfl⟩ := Value.slice.inj he
        have hog := hoth o _ _ hOH.out (by decide)
        obtain ⟨x, hx⟩ : ∃ x, l[p]? = some x := ⟨_, List.getElem?_eq_getElem h1⟩
        obtain ⟨y, hy⟩ : ∃ y, m[p]? = some y := ⟨_, List.getElem?_eq_getElem h2⟩
        have g_ := hcell p x (by rw [chP_get _ _ _ _ hlH.out]; exact hx)
        have gf_ := hfree p
        obtain ⟨bd, rfl, hbb, bc_⟩ := (hbH.out.below hb).at h2
        rw [show m[p] = y by rw [List.getElem?_eq_getElem h2] at hy; exact Option.some.inj hy] at bc_
        have wx := wlH.out x (List.mem_of_getElem? hx)
        have wy := wmH.out y (List.mem_of_getElem? hy)
        obtain ⟨z, hz⟩ : ∃ z, min x y = z := ⟨_, rfl⟩
        have hchH := Lib.hid (show (chP min p l m).set p z = chP min (p + 1) l m by rw [← hz]; exact chP_set _ _ _ _ _ _ hx hy)
        have wz : 0 ≤ z ∧ z ≤ 4294967295 := by omega
        obtain ⟨x0, x1⟩ := wx
        obtain ⟨y0, y1⟩ := wy
        obtain ⟨z0, z1⟩ := wz
        have hzH := Lib.hid hz
        clear hz hx hy hcell hfree hoth hlen he h1 h2
        go_wp2_with fail
        have ux : IntKind.u64.wrap x = x := IntWalk.u64_in _ (by omega)
        have uy : IntKind.u64.wrap y = y := IntWalk.u64_in _ (by omega)
        have uz : IntKind.u32.wrap z = z := IntWalk.u32_in _ (by omega)
        refine wp_region_noPanic ?_
        refine wp_region_held_drew (S := (fun w' => w'.cell? ⟨o, 0, none⟩ = some (.int .u64 mx) ∧ w'.cell? ⟨o, 1, none⟩ = some (.slice (some ⟨g, 0, none⟩) n' c'))) (by kernel_rfl) (⟨o0_, o1_⟩) (fun hHeld => ?_)
        refine' wpAnyH_take (i := 0) (v := .pointer (some ⟨o, 1, none⟩)) ?hi0x113 ?hs0x113 ?hf0x113 ?hr0x113 ?hQ0x113 ?hy0x113 ?hS0x113 ?rest0x113
        case hi0x113 => (simp only [List.getElem?_toArray, List.getElem?_cons_succ, List.getElem?_cons_zero]; try rfl)
        case hs0x113 => kernel_rfl
        case hf0x113 => kernel_rfl
        case hr0x113 => kernel_rfl
        case hQ0x113 => exact fun _ _ _ h => h
        case hy0x113 => exact Or.inl ⟨by rfl, by (intro w hSw; (try dsimp only at hSw); go_simp)⟩
        case hS0x113 => assumption
        (try simp only [Act.put, List.setIfInBounds_toArray, List.set_cons_zero, List.set_cons_succ])
        refine' wpAnyH_take (i := 1) (v := .slice (some ⟨g, 0, none⟩) n' c') ?hi1x114 ?hs1x114 ?hf1x114 ?hr1x114 ?hQ1x114 ?hy1x114 ?hS1x114 ?rest1x114
        case hi1x114 => (simp only [List.getElem?_toArray, List.getElem?_cons_succ, List.getElem?_cons_zero]; try rfl)
        case hs1x114 => kernel_rfl
        case hf1x114 => kernel_rfl
        case hr1x114 => kernel_rfl
        case hQ1x114 => exact fun _ _ _ h => h
        case hy1x114 => exact Or.inl ⟨by rfl, by (intro w hSw; (try dsimp only at hSw); go_simp)⟩
        case hS1x114 => assumption
        (try simp only [Act.put, List.setIfInBounds_toArray, List.set_cons_zero, List.set_cons_succ])
        refine' wpAnyH_take (i := 2) (v := .int .i64 (p : Int)) ?hi2x115 ?hs2x115 ?hf2x115 ?hr2x115 ?hQ2x115 ?hy2x115 ?hS2x115 ?rest2x115
        case hi2x115 => (simp only [List.getElem?_toArray, List.getElem?_cons_succ, List.getElem?_cons_zero]; try rfl)
        case hs2x115 => kernel_rfl
        case hf2x115 => kernel_rfl
        case hr2x115 => kernel_rfl
        case hQ2x115 => exact fun _ _ _ h => h
        case hy2x115 => exact Or.inl ⟨by rfl, by (intro w hSw; (try dsimp only at hSw); go_simp)⟩
        case hS2x115 => assumption
        (try simp only [Act.put, List.setIfInBounds_toArray, List.set_cons_zero, List.set_cons_succ])
        refine' wpAnyH_take (i := 3) (v := .func (.func 89) #[] #[]) ?hi3x116 ?hs3x116 ?hf3x116 ?hr3x116 ?hQ3x116 ?hy3x116 ?hS3x116 ?rest3x116
        case hi3x116 => (simp only [List.getElem?_toArray, List.getElem?_cons_succ, List.getElem?_cons_zero]; try rfl)
        case hs3x116 => kernel_rfl
        case hf3x116 => kernel_rfl
        case hr3x116 => kernel_rfl
        case hQ3x116 => exact fun _ _ _ h => h
        case hy3x116 => exact Or.inl ⟨by rfl, by (intro w hSw; (try dsimp only at hSw); go_simp)⟩
        case hS3x116 => assumption
        (try simp only [Act.put, List.setIfInBounds_toArray, List.set_cons_zero, List.set_cons_succ])
        refine' wpAnyH_take (i := 4) (v := .pointer (some ⟨o, 1, none⟩)) ?hi4x117 ?hs4x117 ?hf4x117 ?hr4x117 ?hQ4x117 ?hy4x117 ?hS4x117 ?rest4x117
        case hi4x117 => (simp only [List.getElem?_toArray, List.getElem?_cons_succ, List.getElem?_cons_zero]; try rfl)
        case hs4x117 => kernel_rfl
        case hf4x117 => kernel_rfl
        case hr4x117 => kernel_rfl
        case hQ4x117 => exact fun _ _ _ h => h
        case hy4x117 => exact Or.inl ⟨by rfl, by (intro w hSw; (try dsimp only at hSw); go_simp)⟩
        case hS4x117 => assumption
        (try simp only [Act.put, List.setIfInBounds_toArray, List.set_cons_zero, List.set_cons_succ])
        refine' wpAnyH_take (i := 5) (v := .slice (some ⟨g, 0, none⟩) n' c') ?hi5x118 ?hs5x118 ?hf5x118 ?hr5x118 ?hQ5x118 ?hy5x118 ?hS5x118 ?rest5x118
        case hi5x118 => (simp only [List.getElem?_toArray, List.getElem?_cons_succ, List.getElem?_cons_zero]; try rfl)
        case hs5x118 => kernel_rfl
        case hf5x118 => kernel_rfl
        case hr5x118 => kernel_rfl
        case hQ5x118 => exact fun _ _ _ h => h
        case hy5x118 => exact Or.inl ⟨by rfl, by (intro w hSw; (try dsimp only at hSw); go_simp)⟩
        case hS5x118 => assumption
        (try simp only [Act.put, List.setIfInBounds_toArray, List.set_cons_zero, List.set_cons_succ])
        refine' wpAnyH_take (i := 6) (v := .int .i64 (p : Int)) ?hi6x119 ?hs6x119 ?hf6x119 ?hr6x119 ?hQ6x119 ?hy6x119 ?hS6x119 ?rest6x119
        case hi6x119 => (simp only [List.getElem?_toArray, List.getElem?_cons_succ, List.getElem?_cons_zero]; try rfl)
        case hs6x119 => kernel_rfl
        case hf6x119 => kernel_rfl
        case hr6x119 => kernel_rfl
        case hQ6x119 => exact fun _ _ _ h => h
        case hy6x119 => exact Or.inl ⟨by rfl, by (intro w hSw; (try dsimp only at hSw); go_simp)⟩
        case hS6x119 => assumption
        (try simp only [Act.put, List.setIfInBounds_toArray, List.set_cons_zero, List.set_cons_succ])
        refine' wpAnyH_take (i := 7) (v := .pointer (some ⟨g, p, none⟩)) ?hi7x120 ?hs7x120 ?hf7x120 ?hr7x120 ?hQ7x120 ?hy7x120 ?hS7x120 ?rest7x120
        case hi7x120 => (simp only [List.getElem?_toArray, List.getElem?_cons_succ, List.getElem?_cons_zero]; try rfl)
        case hs7x120 => kernel_rfl
        case hf7x120 => kernel_rfl
        case hr7x120 => kernel_rfl
        case hQ7x120 => exact fun _ _ _ h => h
        case hy7x120 => exact Or.inl ⟨by rfl, by (intro w hSw; (try dsimp only at hSw); go_simp)⟩
        case hS7x120 => assumption
        (try simp only [Act.put, List.setIfInBounds_toArray, List.set_cons_zero, List.set_cons_succ])
        refine' wpAnyH_take (i := 10) (v := .int .u32 y) ?hi10x121 ?hs10x121 ?hf10x121 ?hr10x121 ?hQ10x121 ?hy10x121 ?hS10x121 ?rest10x121
        case hi10x121 => (simp only [List.getElem?_toArray, List.getElem?_cons_succ, List.getElem?_cons_zero]; try rfl)
        case hs10x121 => kernel_rfl
        case hf10x121 => kernel_rfl
        case hr10x121 => kernel_rfl
        case hQ10x121 => exact fun _ _ _ h => h
        case hy10x121 => exact Or.inl ⟨by rfl, by (intro w hSw; (try dsimp only at hSw); go_simp)⟩
        case hS10x121 => assumption
        (try simp only [Act.put, List.setIfInBounds_toArray, List.set_cons_zero, List.set_cons_succ])
        refine' wpAnyH_take (i := 11) (v := .int .u64 y) ?hi11x122 ?hs11x122 ?hf11x122 ?hr11x122 ?hQ11x122 ?hy11x122 ?hS11x122 ?rest11x122
        case hi11x122 => (simp only [List.getElem?_toArray, List.getElem?_cons_succ, List.getElem?_cons_zero]; try rfl)
        case hs11x122 => kernel_rfl
        case hf11x122 => kernel_rfl
        case hr11x122 => kernel_rfl
        case hQ11x122 => exact fun _ _ _ h => h
        case hy11x122 => exact Or.inl ⟨by rfl, by (intro w hSw; (try dsimp only at hSw); go_simp)⟩
        case hS11x122 => assumption
        (try simp only [Act.put, List.setIfInBounds_toArray, List.set_cons_zero, List.set_cons_succ])
        refine wpAnyH_ready (rs := [8]) (by kernel_rfl) (by simp) ?_
        refine' (AllReadyH.cons (i := 8) ?ho8x123 (fun K hK => ?st8x123) AllReadyH.nil)
        case ho8x123 => (simp only [List.getElem?_toArray, List.getElem?_cons_succ, List.getElem?_cons_zero]; try rfl)
        case st8x123 =>
          go_simp
          refine hK.out _ _ ?_ (fun hHeld => ?_)
          · exact ⟨o0_, o1_⟩
          clear hK K
          (try simp only [Act.put, List.setIfInBounds_toArray, List.set_cons_zero, List.set_cons_succ])
          refine' wpAnyH_take (i := 9) (v := .int .u64 x) ?hi9x124 ?hs9x124 ?hf9x124 ?hr9x124 ?hQ9x124 ?hy9x124 ?hS9x124 ?rest9x124
          case hi9x124 => (simp only [List.getElem?_toArray, List.getElem?_cons_succ, List.getElem?_cons_zero]; try rfl)
          case hs9x124 => kernel_rfl
          case hf9x124 => kernel_rfl
          case hr9x124 => kernel_rfl
          case hQ9x124 => exact fun _ _ _ h => h
          case hy9x124 => exact Or.inl ⟨by rfl, by (intro w hSw; (try dsimp only at hSw); go_simp)⟩
          case hS9x124 => assumption
          (try simp only [Act.put, List.setIfInBounds_toArray, List.set_cons_zero, List.set_cons_succ])
          refine wpAnyH_ready (rs := [12]) (by kernel_rfl) (by simp) ?_
          refine' (AllReadyH.cons (i := 12) ?ho12x125 (fun K hK => ?st12x125) AllReadyH.nil)
          case ho12x125 => (simp only [List.getElem?_toArray, List.getElem?_cons_succ, List.getElem?_cons_zero]; try rfl)
          case st12x125 =>
            go_simp
            refine (cl_min _ _ _).mono ?_; rw [hzH.out]; rintro e w' ⟨rfl, rfl⟩
            refine hK.out _ _ ?_ (fun hHeld => ?_)
            · exact ⟨o0_, o1_⟩
            clear hK K
            (try simp only [Act.put, List.setIfInBounds_toArray, List.set_cons_zero, List.set_cons_succ])
            refine' wpAnyH_take (i := 13) (v := .int .u32 z) ?hi13x126 ?hs13x126 ?hf13x126 ?hr13x126 ?hQ13x126 ?hy13x126 ?hS13x126 ?rest13x126
            case hi13x126 => (simp only [List.getElem?_toArray, List.getElem?_cons_succ, List.getElem?_cons_zero]; try rfl)
            case hs13x126 => kernel_rfl
            case hf13x126 => kernel_rfl
            case hr13x126 => kernel_rfl
            case hQ13x126 => exact fun _ _ _ h => h
            case hy13x126 => exact Or.inl ⟨by rfl, by (intro w hSw; (try dsimp only at hSw); go_simp)⟩
            case hS13x126 => assumption
            (try simp only [Act.put, List.setIfInBounds_toArray, List.set_cons_zero, List.set_cons_succ])
            refine' wpAnyH_take (i := 14) (v := .pointer (some ⟨g, p, none⟩)) ?hi14x127 ?hs14x127 ?hf14x127 ?hr14x127 ?hQ14x127 ?hy14x127 ?hS14x127 ?rest14x127
            case hi14x127 => (simp only [List.getElem?_toArray, List.getElem?_cons_succ, List.getElem?_cons_zero]; try rfl)
            case hs14x127 => kernel_rfl
            case hf14x127 => kernel_rfl
            case hr14x127 => kernel_rfl
            case hQ14x127 => exact fun _ _ _ h => h
            case hy14x127 => exact Or.inl ⟨by rfl, by (intro w hSw; (try dsimp only at hSw); go_simp)⟩
            case hS14x127 => assumption
            (try simp only [Act.put, List.setIfInBounds_toArray, List.set_cons_zero, List.set_cons_succ])
            refine wpAnyH_ready (rs := [15]) (by kernel_rfl) (by simp) ?_
            refine' (AllReadyH.cons (i := 15) ?ho15x128 (fun K hK => ?st15x128) AllReadyH.nil)
            case ho15x128 => (simp only [List.getElem?_toArray, List.getElem?_cons_succ, List.getElem?_cons_zero]; try rfl)
            case st15x128 =>
              go_simp
              refine hK.out _ _ ?_ (fun hHeld => ?_)
              · exact keepO hOH.out hog
              clear hK K
              (try simp only [Act.put, List.setIfInBounds_toArray, List.set_cons_zero, List.set_cons_succ])
              refine wpAnyH_done (by kernel_rfl) ?_ _
              refine NoPanic.normal ?_
              clear ux uy uz
              go_wp2_with fail
              go_roundw
              case rel => exact ⟨p + 1, by go_num, by have := hnH.out; omega, (hOH.out.far (p := ⟨g, p, none⟩) hog _).drew, (by rw [← hchH.out]; exact (hownH.out.set p z).drew), (hb.setCell (p := ⟨g, p, none⟩) hgB _).drew⟩
              case measure => simp [Go.RowKit.intOf]; omega
      · obtain rfl : p = n' := by omega
        have hall : chP min p l m = zipL min l m := by
          have h0 := hnH.out
          subst h0
          exact chP_all _ _ _ hlH.out
        have hallH := Lib.hid hall
        clear hall
        go_wp2_with fail
        refine bodyPost_ret (v := .tuple #[.agg #[.int .u64 mx, .slice V p c'], .int .u16 0]) (by simp [results, Tryz.results86, go_sem, r0_, r1_, hz0.out, Nat.lt_of_lt_of_le hz0.out hb.size]) rfl ⟨_, rfl, ?_, ?_⟩
        · rw [hallH.out] at hownH
          exact ((hownH.out.far (hRH.out.below hb) (by decide) 0 _).far ((hRH.out.below hb).set 0 _) (by decide) 1 _).low hwWH.out.size
        · exact ((hwWH.out.trans (hb.mono hwWH.out.size)).setCell (by simp; omega) _).setCell (by simp; omega) _
theorem chosen_meet (va vb : Value) (a b : Tm) (w : World) (ha : TmV w va a) (hb : TmV w vb b) (wa : TmW a) (wb : TmW b) (hsm : a.l.length ≤ 1099511627776) :
    Calls Tryz.prog 86 #[va, vb, .func (.func 89) #[] #[]] w (OutT (chosenT min a b) (chosenE a b) w) := by
  by_cases hl : a.l.length = b.l.length
  · exact chosen_meet_ok va vb a b w ha hb wa wb hsm hl
  · exact chosen_meet_bad va vb a b w ha hb wa wb hsm hl
set_option maxHeartbeats 2000000 in
set_option maxRecDepth 1000000 in
theorem meet_any (va vb : Value) (a b : Tm) (w : World) (ha : TmV w va a) (hb : TmV w vb b) (wa : TmW a) (wb : TmW b) (hsm : a.l.length ≤ 1099511627776) :
    Calls Tryz.prog 46 #[va, vb] w (OutT (chosenT min a b) (chosenE a b) w) := by
  obtain ⟨ea, l⟩ := a
  obtain ⟨eb, m⟩ := b
  obtain ⟨sa, rfl, ha⟩ := ha
  obtain ⟨sb, rfl, hbE⟩ := hb
  obtain ⟨A, n, ca, rfl, hn, hla, hca⟩ := ha.form
  obtain ⟨B, k, cb, rfl, hk, hlb, hcb⟩ := hbE.form
  obtain ⟨W0, hW0, hwW, hA, hB, hR, hzz⟩ := boxes3 w [.int .u64 ea, .slice A n ca] [.int .u64 eb, .slice B k cb] [.int .u64 0, .slice none 0 0] 26 26 26
  have haH := Lib.hid (show TmV W0 (.agg #[.int .u64 ea, .slice A n ca]) ⟨ea, l⟩ from ⟨_, rfl, ha.below hwW⟩); have hbH := Lib.hid (show TmV W0 (.agg #[.int .u64 eb, .slice B k cb]) ⟨eb, m⟩ from ⟨_, rfl, hbE.below hwW⟩)
  have hRH := Lib.hid hR; have hwWH := Lib.hid hwW; have waH := Lib.hid wa; have wbH := Lib.hid wb; have hsH := Lib.hid hsm
  have a0_ := hA.cell 0 rfl; have a1_ := hA.cell 1 rfl; have b0_ := hB.cell 0 rfl; have b1_ := hB.cell 1 rfl
  obtain ⟨t, ht⟩ : ∃ t, chosenT min ⟨ea, l⟩ ⟨eb, m⟩ = t := ⟨_, rfl⟩
  obtain ⟨c, hc⟩ : ∃ t, chosenE ⟨ea, l⟩ ⟨eb, m⟩ = t := ⟨_, rfl⟩
  rw [ht, hc]
  have htH := Lib.hid ht; have hcH := Lib.hid hc
  clear ha hbE hA hB hR hwW hn hk hsm wa wb ht hc
  go_enter Tryz.func46, Tryz.ntmps46
  go_wp2_with fail
  refine (chosen_meet _ _ _ _ _ haH.out hbH.out waH.out wbH.out hsH.out).mono ?_
  rw [htH.out, hcH.out]
  rintro e w' ⟨v, rfl, ho, hb⟩
  obtain ⟨V, n', c', rfl, hn', hc1', hc2'⟩ := ho.words.form
  have hoH := Lib.hid ho
  clear ho hn' a0_ a1_ b0_ b1_
  have r0_ := (hRH.out.below hb).cell 0 rfl; have r1_ := (hRH.out.below hb).cell 1 rfl; have rf0_ := (hRH.out.below hb).free 0; have rf1_ := (hRH.out.below hb).free 1
  have hz := Nat.lt_of_lt_of_le hzz hb.size
  go_wp2_with fail
  refine bodyPost_ret (v := .tuple #[.agg #[.int .u64 t.e, .slice V n' c'], .int .u16 c]) (by simp [results, Tryz.results46, go_sem, r0_, r1_, hz]) rfl ⟨_, rfl, ?_, ?_⟩
  · exact ((hoH.out.far (hRH.out.below hb) (by decide) 0 _).far ((hRH.out.below hb).set 0 _) (by decide) 1 _).low hwWH.out.size
  · exact ((hwWH.out.trans (hb.mono hwWH.out.size)).setCell (by simp; omega) _).setCell (by simp; omega) _
end Go.Proofs.YtdfhchpimpbgfaaGreatDoor
