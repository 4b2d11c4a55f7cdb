/-
  The box of layer 9: New, of a number of workers and a room that may be. Conditions: those written.
-/
import Derived.Test.YtpghndmfdmimmaaMlN0
import Derived.LoopTactic
import Derived.Deep.RegionHeld3
import Derived.Deep.LoopGhost
set_option linter.unusedVariables false
set_option linter.unusedSimpArgs false
namespace Go.Proofs.Ytpghndmfdmimmaa
open Go.RowKit Go.Lib

def RelO (W0 : World) (b Rb B W n : Nat) (i : Value) (wr : World) : Prop := ∃ f S T rs, i = .int .i64 (f : Nat) ∧ f ≤ W ∧ NewI wr b Rb B W n f 0 S T (.slice none 0 0) [] rs ∧ Below B W0 wr ∧ B ≤ wr.heap.size
def RelN (W0 : World) (b Rb B W n f : Nat) (i : Value) (wr : World) : Prop := ∃ j S T v xs rs, i = .int .i64 (j : Nat) ∧ j ≤ W ∧ NewI wr b Rb B W n f j S T v xs rs ∧ Below B W0 wr ∧ B ≤ wr.heap.size
def NewPost (w : World) (W n : Nat) (e : Ending) (w' : World) : Prop := ∃ (b : Nat) (S : Nat → Nat) (T : Nat → Nat → Nat), e = .returned (.tuple #[.pointer (some ⟨b, 0, none⟩), .int .u16 0]) ∧ BoxI w' w.heap.size b W n S (fun f t => ⟨T f t, 0, []⟩) ∧ Below w.heap.size w w'
theorem NewI.start (w : World) (W n : Nat) : NewI ((w.alloc (.cells (Array.replicate W (.slice none 0 0)) 95)).alloc (.cells #[.slice (some ⟨w.heap.size, 0, none⟩) W W] 94)) (w.heap.size + 1) w.heap.size w.heap.size W n 0 0 (fun _ => 0) (fun _ _ => 0) (.slice none 0 0) [] (List.replicate W (.slice none 0 0)) := by
  refine ⟨has_at _ _ [.slice (some ⟨w.heap.size, 0, none⟩) W W] _ (by simp), HasC.alloc ?_ _, by simp, fun g hg => absurd hg (by omega), fun h => by simp [h], ⟨rfl, .inl ⟨rfl, rfl⟩⟩, fun _ => rfl, fun t ht => absurd ht (by omega), fun g _ hg => by simp [hg], fun g t h => by omega, fun g t k u h => by omega⟩
  have := HasC.new w (List.replicate W (.slice none 0 0)) 95
  simpa only [List.toArray_replicate] using this
theorem below_own {w w' : World} {B k n : Nat} {v : Value} {xs : List Value} {e : TypeId} (hg : w.grownBy w' v.ownBlock) (ho : w.ownsRow B e k v n xs) (hB : B ≤ w.heap.size := by omega) : Below B w w' :=
  ⟨hg.os, hg.tape, hg.output, hg.size, fun i hi => hg.block i (Nat.lt_of_lt_of_le hi hB) (fun e => by have := (own_lt ho i e.symm).1; omega)⟩
set_option maxRecDepth 100000 in
set_option maxHeartbeats 8000000 in
theorem new_any (W n : Nat) (w : World) (hW : 1 ≤ W) (hW2 : W ≤ 8) (hn : 1 ≤ n) (hn2 : n ≤ 64) :
    Calls Try.prog 6 #[.int .i64 W, .int .i64 n] w (NewPost w W n) := by
  have h1 : ¬ (W : Int) < 1 := by omega
  have h2 : ¬ (8 : Int) < W := by omega
  have h3 : ¬ (n : Int) < 1 := by omega
  have h4 : ¬ (64 : Int) < n := by omega
  have hmk := make_ones 92 95 (.slice none 0 0) 24 Try.underlying92 rings_info rfl (by decide) W (by omega)
  obtain ⟨i0, hi, hz0, hz1, hz2⟩ := info_parts ring_info
  have hst := Lib.hid (NewI.start w W n)
  go_enter Try.func6, Try.ntmps6
  go_wp2
  obtain ⟨b, hbd⟩ : ∃ b, b = w.heap.size + 1 := ⟨_, rfl⟩
  obtain ⟨Rb, hRd⟩ : ∃ Rb, Rb = w.heap.size := ⟨_, rfl⟩
  obtain ⟨B, hBd⟩ : ∃ B, B = w.heap.size := ⟨_, rfl⟩
  have hRb := Lib.hid (show B ≤ Rb by omega)
  have hbH := Lib.hid hbd; have hRH := Lib.hid hRd; have hBd_ := Lib.hid hBd
  rw [← hbd]
  clear hbd hRd hBd hmk h1 h2 h3 h4
  go_loopw [31] (fun i wr => RelO w b Rb B W n i wr) (fun i _ => W - (Go.RowKit.intOf i).toNat)
  case atStart =>
    rw [hbH.out, hRH.out, hBd_.out]
    exact ⟨0, _, _, _, rfl, Nat.zero_le _, hst.out, by go_grown, by simp; omega⟩
  case round =>
    obtain ⟨wo, rfl⟩ : ∃ wo : World, wo = wr := ⟨_, rfl⟩
    unfold RelO at hrel
    obtain ⟨f, S, T, rs, rfl, hfW, hI_, hb_, hB_⟩ := hrel
    have hIo := Lib.hid hI_; have hbo := Lib.hid hb_; have hBo := Lib.hid hB_
    clear hI_ hb_ hB_
    by_cases hf : f < W
    · go_wp2_with fail
      go_loopw [35] (fun i wr => RelN w b Rb B W n f i wr) (fun i _ => W - (Go.RowKit.intOf i).toNat)
      case atStart => exact ⟨0, _, _, _, _, _, rfl, Nat.zero_le _, hIo.out, hbo.out, hBo.out⟩
      case round =>
        unfold RelN at hrel
        obtain ⟨j, S, T, v, xs, rs, rfl, hjW, hI_, hb_, hB_⟩ := hrel
        have hI := Lib.hid hI_; have hbr := Lib.hid hb_; have hBH := Lib.hid hB_
        clear hI_ hb_ hB_
        by_cases hj : j < W
        · go_wp2_with fail
          have hSof : Hid (∀ w', Below wr.heap.size wr w' → w'.cell? ⟨b, 0, none⟩ = some (.slice (some ⟨Rb, 0, none⟩) W W)) := fun w' h => (hI.out.box.below h).cell 0 rfl
          refine wp_region_noPanic ?_
          refine wp_region_held_drew (S := (fun w' => w'.cell? ⟨b, 0, none⟩ = some (.slice (some ⟨Rb, 0, none⟩) W W))) (by kernel_rfl) (hSof.out _ (Below.refl _ _).drew) (fun hHeld => ?_)
          refine' wpAnyH_take (i := 0) (v := ?v0x1) ?hi0x1 ?hs0x1 ?hf0x1 ?hr0x1 ?hQ0x1 ?hy0x1 ?hS0x1 ?rest0x1
          case hi0x1 => (simp only [List.getElem?_toArray, List.getElem?_cons_succ, List.getElem?_cons_zero]; try rfl)
          case hs0x1 => kernel_rfl
          case hf0x1 => kernel_rfl
          case hr0x1 => kernel_rfl
          case hQ0x1 => exact fun _ _ _ h => h
          case hy0x1 => first | exact Or.inl ⟨by rfl, by (intro w hSw; (try dsimp only at hSw); go_simp; try rfl)⟩ | exact Or.inr ⟨by rfl, rfl⟩
          case hS0x1 => assumption
          (try simp only [Act.put, List.setIfInBounds_toArray, List.set_cons_zero, List.set_cons_succ])
          refine' wpAnyH_take (i := 1) (v := ?v1x2) ?hi1x2 ?hs1x2 ?hf1x2 ?hr1x2 ?hQ1x2 ?hy1x2 ?hS1x2 ?rest1x2
          case hi1x2 => (simp only [List.getElem?_toArray, List.getElem?_cons_succ, List.getElem?_cons_zero]; try rfl)
          case hs1x2 => kernel_rfl
          case hf1x2 => kernel_rfl
          case hr1x2 => kernel_rfl
          case hQ1x2 => exact fun _ _ _ h => h
          case hy1x2 => first | exact Or.inl ⟨by rfl, by (intro w hSw; (try dsimp only at hSw); go_simp; try rfl)⟩ | exact Or.inr ⟨by rfl, rfl⟩
          case hS1x2 => assumption
          (try simp only [Act.put, List.setIfInBounds_toArray, List.set_cons_zero, List.set_cons_succ])
          refine' wpAnyH_take (i := 2) (v := ?v2x3) ?hi2x3 ?hs2x3 ?hf2x3 ?hr2x3 ?hQ2x3 ?hy2x3 ?hS2x3 ?rest2x3
          case hi2x3 => (simp only [List.getElem?_toArray, List.getElem?_cons_succ, List.getElem?_cons_zero]; try rfl)
          case hs2x3 => kernel_rfl
          case hf2x3 => kernel_rfl
          case hr2x3 => kernel_rfl
          case hQ2x3 => exact fun _ _ _ h => h
          case hy2x3 => first | exact Or.inl ⟨by rfl, by (intro w hSw; (try dsimp only at hSw); go_simp; try rfl)⟩ | exact Or.inr ⟨by rfl, rfl⟩
          case hS2x3 => assumption
          (try simp only [Act.put, List.setIfInBounds_toArray, List.set_cons_zero, List.set_cons_succ])
          refine' wpAnyH_take (i := 3) (v := ?v3x4) ?hi3x4 ?hs3x4 ?hf3x4 ?hr3x4 ?hQ3x4 ?hy3x4 ?hS3x4 ?rest3x4
          case hi3x4 => (simp only [List.getElem?_toArray, List.getElem?_cons_succ, List.getElem?_cons_zero]; try rfl)
          case hs3x4 => kernel_rfl
          case hf3x4 => kernel_rfl
          case hr3x4 => kernel_rfl
          case hQ3x4 => exact fun _ _ _ h => h
          case hy3x4 => first | exact Or.inl ⟨by rfl, by (intro w hSw; (try dsimp only at hSw); go_simp; try rfl)⟩ | exact Or.inr ⟨by rfl, rfl⟩
          case hS3x4 => assumption
          (try simp only [Act.put, List.setIfInBounds_toArray, List.set_cons_zero, List.set_cons_succ])
          refine' wpAnyH_take (i := 4) (v := ?v4x5) ?hi4x5 ?hs4x5 ?hf4x5 ?hr4x5 ?hQ4x5 ?hy4x5 ?hS4x5 ?rest4x5
          case hi4x5 => (simp only [List.getElem?_toArray, List.getElem?_cons_succ, List.getElem?_cons_zero]; try rfl)
          case hs4x5 => kernel_rfl
          case hf4x5 => kernel_rfl
          case hr4x5 => kernel_rfl
          case hQ4x5 => exact fun _ _ _ h => h
          case hy4x5 => first | exact Or.inl ⟨by rfl, by (intro w hSw; (try dsimp only at hSw); go_simp; try rfl)⟩ | exact Or.inr ⟨by rfl, rfl⟩
          case hS4x5 => assumption
          (try simp only [Act.put, List.setIfInBounds_toArray, List.set_cons_zero, List.set_cons_succ])
          refine' wpAnyH_take (i := 5) (v := ?v5x6) ?hi5x6 ?hs5x6 ?hf5x6 ?hr5x6 ?hQ5x6 ?hy5x6 ?hS5x6 ?rest5x6
          case hi5x6 => (simp only [List.getElem?_toArray, List.getElem?_cons_succ, List.getElem?_cons_zero]; try rfl)
          case hs5x6 => kernel_rfl
          case hf5x6 => kernel_rfl
          case hr5x6 => kernel_rfl
          case hQ5x6 => exact fun _ _ _ h => h
          case hy5x6 => first | exact Or.inl ⟨by rfl, by (intro w hSw; (try dsimp only at hSw); go_simp; try rfl)⟩ | exact Or.inr ⟨by rfl, rfl⟩
          case hS5x6 => assumption
          (try simp only [Act.put, List.setIfInBounds_toArray, List.set_cons_zero, List.set_cons_succ])
          refine' wpAnyH_take (i := 6) (v := ?v6x7) ?hi6x7 ?hs6x7 ?hf6x7 ?hr6x7 ?hQ6x7 ?hy6x7 ?hS6x7 ?rest6x7
          case hi6x7 => (simp only [List.getElem?_toArray, List.getElem?_cons_succ, List.getElem?_cons_zero]; try rfl)
          case hs6x7 => kernel_rfl
          case hf6x7 => kernel_rfl
          case hr6x7 => kernel_rfl
          case hQ6x7 => exact fun _ _ _ h => h
          case hy6x7 => first | exact Or.inl ⟨by rfl, by (intro w hSw; (try dsimp only at hSw); go_simp; try rfl)⟩ | exact Or.inr ⟨by rfl, rfl⟩
          case hS6x7 => assumption
          (try simp only [Act.put, List.setIfInBounds_toArray, List.set_cons_zero, List.set_cons_succ])
          refine' wpAnyH_take (i := 7) (v := ?v7x8) ?hi7x8 ?hs7x8 ?hf7x8 ?hr7x8 ?hQ7x8 ?hy7x8 ?hS7x8 ?rest7x8
          case hi7x8 => (simp only [List.getElem?_toArray, List.getElem?_cons_succ, List.getElem?_cons_zero]; try rfl)
          case hs7x8 => kernel_rfl
          case hf7x8 => kernel_rfl
          case hr7x8 => kernel_rfl
          case hQ7x8 => exact fun _ _ _ h => h
          case hy7x8 => first | exact Or.inl ⟨by rfl, by (intro w hSw; (try dsimp only at hSw); go_simp; try rfl)⟩ | exact Or.inr ⟨by rfl, rfl⟩
          case hS7x8 => assumption
          (try simp only [Act.put, List.setIfInBounds_toArray, List.set_cons_zero, List.set_cons_succ])
          refine' wpAnyH_take (i := 8) (v := ?v8x9) ?hi8x9 ?hs8x9 ?hf8x9 ?hr8x9 ?hQ8x9 ?hy8x9 ?hS8x9 ?rest8x9
          case hi8x9 => (simp only [List.getElem?_toArray, List.getElem?_cons_succ, List.getElem?_cons_zero]; try rfl)
          case hs8x9 => kernel_rfl
          case hf8x9 => kernel_rfl
          case hr8x9 => kernel_rfl
          case hQ8x9 => exact fun _ _ _ h => h
          case hy8x9 => first | exact Or.inl ⟨by rfl, by (intro w hSw; (try dsimp only at hSw); go_simp; try rfl)⟩ | exact Or.inr ⟨by rfl, rfl⟩
          case hS8x9 => assumption
          (try simp only [Act.put, List.setIfInBounds_toArray, List.set_cons_zero, List.set_cons_succ])
          refine' wpAnyH_take (i := 9) (v := ?v9x10) ?hi9x10 ?hs9x10 ?hf9x10 ?hr9x10 ?hQ9x10 ?hy9x10 ?hS9x10 ?rest9x10
          case hi9x10 => (simp only [List.getElem?_toArray, List.getElem?_cons_succ, List.getElem?_cons_zero]; try rfl)
          case hs9x10 => kernel_rfl
          case hf9x10 => kernel_rfl
          case hr9x10 => kernel_rfl
          case hQ9x10 => exact fun _ _ _ h => h
          case hy9x10 => first | exact Or.inl ⟨by rfl, by (intro w hSw; (try dsimp only at hSw); go_simp; try rfl)⟩ | exact Or.inr ⟨by rfl, rfl⟩
          case hS9x10 => assumption
          (try simp only [Act.put, List.setIfInBounds_toArray, List.set_cons_zero, List.set_cons_succ])
          refine' wpAnyH_take (i := 10) (v := ?v10x11) ?hi10x11 ?hs10x11 ?hf10x11 ?hr10x11 ?hQ10x11 ?hy10x11 ?hS10x11 ?rest10x11
          case hi10x11 => (simp only [List.getElem?_toArray, List.getElem?_cons_succ, List.getElem?_cons_zero]; try rfl)
          case hs10x11 => kernel_rfl
          case hf10x11 => kernel_rfl
          case hr10x11 => kernel_rfl
          case hQ10x11 => exact fun _ _ _ h => h
          case hy10x11 => first | exact Or.inl ⟨by rfl, by (intro w hSw; (try dsimp only at hSw); go_simp; try rfl)⟩ | exact Or.inr ⟨by rfl, rfl⟩
          case hS10x11 => assumption
          (try simp only [Act.put, List.setIfInBounds_toArray, List.set_cons_zero, List.set_cons_succ])
          refine' wpAnyH_take (i := 12) (v := ?v12x12) ?hi12x12 ?hs12x12 ?hf12x12 ?hr12x12 ?hQ12x12 ?hy12x12 ?hS12x12 ?rest12x12
          case hi12x12 => (simp only [List.getElem?_toArray, List.getElem?_cons_succ, List.getElem?_cons_zero]; try rfl)
          case hs12x12 => kernel_rfl
          case hf12x12 => kernel_rfl
          case hr12x12 => kernel_rfl
          case hQ12x12 => exact fun _ _ _ h => h
          case hy12x12 => first | exact Or.inl ⟨by rfl, by (intro w hSw; (try dsimp only at hSw); go_simp; try rfl)⟩ | exact Or.inr ⟨by rfl, rfl⟩
          case hS12x12 => assumption
          (try simp only [Act.put, List.setIfInBounds_toArray, List.set_cons_zero, List.set_cons_succ])
          refine wpAnyH_ready (rs := [11, 13]) (by kernel_rfl) (by simp) ?_
          refine' (AllReadyH.cons (i := 11) ?ho11x13 (fun K hK => ?st11x13) (AllReadyH.cons (i := 13) ?ho13x14 (fun K hK => ?st13x14) AllReadyH.nil))
          case ho11x13 => (simp only [List.getElem?_toArray, List.getElem?_cons_succ, List.getElem?_cons_zero]; try rfl)
          case ho13x14 => (simp only [List.getElem?_toArray, List.getElem?_cons_succ, List.getElem?_cons_zero]; try rfl)
          case st11x13 =>
            have hRc := (hI.out.tab.below (Below.refl wr.heap.size wr).drew).cell f (hI.out.now hf)
            go_simp
            refine hK.out _ _ ?_ (fun hHeld => ?_)
            · exact hSof.out _ (Below.refl wr.heap.size wr).drew
            clear hK K
            (try simp only [Act.put, List.setIfInBounds_toArray, List.set_cons_zero, List.set_cons_succ])
            try clear hRc
            refine wpAnyH_ready (rs := [13]) (by kernel_rfl) (by simp) ?_
            refine' (AllReadyH.cons (i := 13) ?ho13x15 (fun K hK => ?st13x15) AllReadyH.nil)
            case ho13x15 => (simp only [List.getElem?_toArray, List.getElem?_cons_succ, List.getElem?_cons_zero]; try rfl)
            case st13x15 =>
              go_simp
              refine (newRing_any n _ hn hn2).mono ?_
              rintro e w2 ⟨T', ds, rfl, hT', hdl, hlow, hb_⟩
              have hb2 := Lib.hid (chainB (B := wr.heap.size) (a := wr) (Below.refl _ _).drew hb_ (Nat.le_refl _))
              have hTH := Lib.hid hT'; have hdH := Lib.hid hdl; have hlowH := Lib.hid hlow
              clear hT' hdl hlow hb_
              refine hK.out _ _ ?_ (fun hHeld => ?_)
              · exact hSof.out _ hb2.out
              clear hK K
              (try simp only [Act.put, List.setIfInBounds_toArray, List.set_cons_zero, List.set_cons_succ])
              refine wpAnyH_ready (rs := [14]) (by kernel_rfl) (by simp) ?_
              refine' (AllReadyH.cons (i := 14) ?ho14x16 (fun K hK => ?st14x16) AllReadyH.nil)
              case ho14x16 => (simp only [List.getElem?_toArray, List.getElem?_cons_succ, List.getElem?_cons_zero]; try rfl)
              case st14x16 =>
                go_simp
                refine hK.out _ _ ?_ (fun hHeld => ?_)
                · exact hSof.out _ (hb2.out.alloc hb2.out.size _)
                clear hK K
                (try simp only [Act.put, List.setIfInBounds_toArray, List.set_cons_zero, List.set_cons_succ])
                have hb3 := Lib.hid (hb2.out.alloc hb2.out.size (.cells #[.slice (some ⟨T', 0, none⟩) n n, .int .i64 0, .int .i64 0] 98))
                refine wpAnyH_ready (rs := [15]) (by kernel_rfl) (by simp) ?_
                refine' (AllReadyH.cons (i := 15) ?ho15x17 (fun K hK => ?st15x17) AllReadyH.nil)
                case ho15x17 => (simp only [List.getElem?_toArray, List.getElem?_cons_succ, List.getElem?_cons_zero]; try rfl)
                case st15x17 =>
                  refine wp_append_own _ _ _ 95 rfl B 98 i0 (.agg #[.slice none 0 0, .int .i64 0, .int .i64 0]) 3 40 Try.underlying95 hi hz0 hz1 hz2 rfl (by decide) v j xs (by rfl) (own_below hI.out.own hb3.out) ⟨w2.heap.size, 0, none⟩ 1 1 [.slice (some ⟨T', 0, none⟩) n n, .int .i64 0, .int .i64 0] (by rfl) (by rfl)
                    (news_of (ds := []) (by rw [List.append_nil]; exact has_at _ _ _ 98 rfl)) (by simp [Value.oneCell']) (by unfold maxLen; omega) (by omega) (Nat.le_trans hBH.out hb3.out.size) ?_
                  intro v' w3 hown_ hg_ _
                  have hnI := Lib.hid (hI.out.step hW hf hj hb3.out (hTH.out.alloc _) hdH.out hlowH.out hBH.out hown_ hg_)
                  have hown := Lib.hid hown_; have hg := Lib.hid hg_
                  clear hown_ hg_
                  refine hK.out _ _ ?_ (fun hHeld => ?_)
                  · exact ((hI.out.box.below hb3.out).grown hg.out (own_ne (own_below hI.out.own hb3.out) (hI.out.box.below hb3.out) (by decide))).cell 0 rfl
                  clear hK K
                  (try simp only [Act.put, List.setIfInBounds_toArray, List.set_cons_zero, List.set_cons_succ])
                  obtain ⟨g', cap', cs', rfl, -⟩ := own_form hown.out (Nat.succ_pos j)
                  have hRc3 := ((hI.out.tab.below hb3.out).grown hg.out (own_ne (own_below hI.out.own hb3.out) (hI.out.tab.below hb3.out) (by decide))).cell f (hI.out.now hf)
                  have hRf := ((hI.out.tab.below hb3.out).grown hg.out (own_ne (own_below hI.out.own hb3.out) (hI.out.tab.below hb3.out) (by decide))).free f
                  refine' wpAnyH_take (i := 16) (v := ?v16x18) ?hi16x18 ?hs16x18 ?hf16x18 ?hr16x18 ?hQ16x18 ?hy16x18 ?hS16x18 ?rest16x18
                  case hi16x18 => (simp only [List.getElem?_toArray, List.getElem?_cons_succ, List.getElem?_cons_zero]; try rfl)
                  case hs16x18 => kernel_rfl
                  case hf16x18 => kernel_rfl
                  case hr16x18 => kernel_rfl
                  case hQ16x18 => exact fun _ _ _ h => h
                  case hy16x18 => first | exact Or.inl ⟨by rfl, by (intro w hSw; (try dsimp only at hSw); go_simp; try rfl)⟩ | exact Or.inr ⟨by rfl, rfl⟩
                  case hS16x18 => assumption
                  (try simp only [Act.put, List.setIfInBounds_toArray, List.set_cons_zero, List.set_cons_succ])
                  refine wpAnyH_ready (rs := [17]) (by kernel_rfl) (by simp) ?_
                  refine' (AllReadyH.cons (i := 17) ?ho17x19 (fun K hK => ?st17x19) AllReadyH.nil)
                  case ho17x19 => (simp only [List.getElem?_toArray, List.getElem?_cons_succ, List.getElem?_cons_zero]; try rfl)
                  case st17x19 =>
                    go_simp
                    refine hK.out _ _ ?_ (fun hHeld => ?_)
                    · exact hnI.out.box.cell 0 rfl
                    clear hK K
                    (try simp only [Act.put, List.setIfInBounds_toArray, List.set_cons_zero, List.set_cons_succ])
                    refine wpAnyH_done (by kernel_rfl) ?_ _
                    refine NoPanic.normal ?_
                    go_wp2_with fail
                    go_roundw
                    case rel => exact ⟨j + 1, _, _, _, _, _, by go_num, by omega, hnI.out, Below.setCell ((chainB hbr.out hb3.out hBH.out).trans (below_own hg.out (own_below hI.out.own hb3.out) (Nat.le_trans hBH.out hb3.out.size))) hRb.out _, by simpa using Nat.le_trans hBH.out (Nat.le_trans hb3.out.size hg.out.size)⟩
                    case measure => simp [Go.RowKit.intOf]; omega
          case st13x14 =>
            go_simp
            refine (newRing_any n _ hn hn2).mono ?_
            rintro e w2 ⟨T', ds, rfl, hT', hdl, hlow, hb_⟩
            have hb2 := Lib.hid (chainB (B := wr.heap.size) (a := wr) (Below.refl _ _).drew hb_ (Nat.le_refl _))
            have hTH := Lib.hid hT'; have hdH := Lib.hid hdl; have hlowH := Lib.hid hlow
            clear hT' hdl hlow hb_
            refine hK.out _ _ ?_ (fun hHeld => ?_)
            · exact hSof.out _ hb2.out
            clear hK K
            (try simp only [Act.put, List.setIfInBounds_toArray, List.set_cons_zero, List.set_cons_succ])
            refine wpAnyH_ready (rs := [11, 14]) (by kernel_rfl) (by simp) ?_
            refine' (AllReadyH.cons (i := 11) ?ho11x20 (fun K hK => ?st11x20) (AllReadyH.cons (i := 14) ?ho14x21 (fun K hK => ?st14x21) AllReadyH.nil))
            case ho11x20 => (simp only [List.getElem?_toArray, List.getElem?_cons_succ, List.getElem?_cons_zero]; try rfl)
            case ho14x21 => (simp only [List.getElem?_toArray, List.getElem?_cons_succ, List.getElem?_cons_zero]; try rfl)
            case st11x20 =>
              have hRc := (hI.out.tab.below hb2.out).cell f (hI.out.now hf)
              go_simp
              refine hK.out _ _ ?_ (fun hHeld => ?_)
              · exact hSof.out _ hb2.out
              clear hK K
              (try simp only [Act.put, List.setIfInBounds_toArray, List.set_cons_zero, List.set_cons_succ])
              try clear hRc
              refine wpAnyH_ready (rs := [14]) (by kernel_rfl) (by simp) ?_
              refine' (AllReadyH.cons (i := 14) ?ho14x22 (fun K hK => ?st14x22) AllReadyH.nil)
              case ho14x22 => (simp only [List.getElem?_toArray, List.getElem?_cons_succ, List.getElem?_cons_zero]; try rfl)
              case st14x22 =>
                go_simp
                refine hK.out _ _ ?_ (fun hHeld => ?_)
                · exact hSof.out _ (hb2.out.alloc hb2.out.size _)
                clear hK K
                (try simp only [Act.put, List.setIfInBounds_toArray, List.set_cons_zero, List.set_cons_succ])
                have hb3 := Lib.hid (hb2.out.alloc hb2.out.size (.cells #[.slice (some ⟨T', 0, none⟩) n n, .int .i64 0, .int .i64 0] 98))
                refine wpAnyH_ready (rs := [15]) (by kernel_rfl) (by simp) ?_
                refine' (AllReadyH.cons (i := 15) ?ho15x23 (fun K hK => ?st15x23) AllReadyH.nil)
                case ho15x23 => (simp only [List.getElem?_toArray, List.getElem?_cons_succ, List.getElem?_cons_zero]; try rfl)
                case st15x23 =>
                  refine wp_append_own _ _ _ 95 rfl B 98 i0 (.agg #[.slice none 0 0, .int .i64 0, .int .i64 0]) 3 40 Try.underlying95 hi hz0 hz1 hz2 rfl (by decide) v j xs (by rfl) (own_below hI.out.own hb3.out) ⟨w2.heap.size, 0, none⟩ 1 1 [.slice (some ⟨T', 0, none⟩) n n, .int .i64 0, .int .i64 0] (by rfl) (by rfl)
                    (news_of (ds := []) (by rw [List.append_nil]; exact has_at _ _ _ 98 rfl)) (by simp [Value.oneCell']) (by unfold maxLen; omega) (by omega) (Nat.le_trans hBH.out hb3.out.size) ?_
                  intro v' w3 hown_ hg_ _
                  have hnI := Lib.hid (hI.out.step hW hf hj hb3.out (hTH.out.alloc _) hdH.out hlowH.out hBH.out hown_ hg_)
                  have hown := Lib.hid hown_; have hg := Lib.hid hg_
                  clear hown_ hg_
                  refine hK.out _ _ ?_ (fun hHeld => ?_)
                  · exact ((hI.out.box.below hb3.out).grown hg.out (own_ne (own_below hI.out.own hb3.out) (hI.out.box.below hb3.out) (by decide))).cell 0 rfl
                  clear hK K
                  (try simp only [Act.put, List.setIfInBounds_toArray, List.set_cons_zero, List.set_cons_succ])
                  obtain ⟨g', cap', cs', rfl, -⟩ := own_form hown.out (Nat.succ_pos j)
                  have hRc3 := ((hI.out.tab.below hb3.out).grown hg.out (own_ne (own_below hI.out.own hb3.out) (hI.out.tab.below hb3.out) (by decide))).cell f (hI.out.now hf)
                  have hRf := ((hI.out.tab.below hb3.out).grown hg.out (own_ne (own_below hI.out.own hb3.out) (hI.out.tab.below hb3.out) (by decide))).free f
                  refine' wpAnyH_take (i := 16) (v := ?v16x24) ?hi16x24 ?hs16x24 ?hf16x24 ?hr16x24 ?hQ16x24 ?hy16x24 ?hS16x24 ?rest16x24
                  case hi16x24 => (simp only [List.getElem?_toArray, List.getElem?_cons_succ, List.getElem?_cons_zero]; try rfl)
                  case hs16x24 => kernel_rfl
                  case hf16x24 => kernel_rfl
                  case hr16x24 => kernel_rfl
                  case hQ16x24 => exact fun _ _ _ h => h
                  case hy16x24 => first | exact Or.inl ⟨by rfl, by (intro w hSw; (try dsimp only at hSw); go_simp; try rfl)⟩ | exact Or.inr ⟨by rfl, rfl⟩
                  case hS16x24 => assumption
                  (try simp only [Act.put, List.setIfInBounds_toArray, List.set_cons_zero, List.set_cons_succ])
                  refine wpAnyH_ready (rs := [17]) (by kernel_rfl) (by simp) ?_
                  refine' (AllReadyH.cons (i := 17) ?ho17x25 (fun K hK => ?st17x25) AllReadyH.nil)
                  case ho17x25 => (simp only [List.getElem?_toArray, List.getElem?_cons_succ, List.getElem?_cons_zero]; try rfl)
                  case st17x25 =>
                    go_simp
                    refine hK.out _ _ ?_ (fun hHeld => ?_)
                    · exact hnI.out.box.cell 0 rfl
                    clear hK K
                    (try simp only [Act.put, List.setIfInBounds_toArray, List.set_cons_zero, List.set_cons_succ])
                    refine wpAnyH_done (by kernel_rfl) ?_ _
                    refine NoPanic.normal ?_
                    go_wp2_with fail
                    go_roundw
                    case rel => exact ⟨j + 1, _, _, _, _, _, by go_num, by omega, hnI.out, Below.setCell ((chainB hbr.out hb3.out hBH.out).trans (below_own hg.out (own_below hI.out.own hb3.out) (Nat.le_trans hBH.out hb3.out.size))) hRb.out _, by simpa using Nat.le_trans hBH.out (Nat.le_trans hb3.out.size hg.out.size)⟩
                    case measure => simp [Go.RowKit.intOf]; omega
            case st14x21 =>
              go_simp
              refine hK.out _ _ ?_ (fun hHeld => ?_)
              · exact hSof.out _ (hb2.out.alloc hb2.out.size _)
              clear hK K
              (try simp only [Act.put, List.setIfInBounds_toArray, List.set_cons_zero, List.set_cons_succ])
              have hb3 := Lib.hid (hb2.out.alloc hb2.out.size (.cells #[.slice (some ⟨T', 0, none⟩) n n, .int .i64 0, .int .i64 0] 98))
              refine wpAnyH_ready (rs := [11]) (by kernel_rfl) (by simp) ?_
              refine' (AllReadyH.cons (i := 11) ?ho11x26 (fun K hK => ?st11x26) AllReadyH.nil)
              case ho11x26 => (simp only [List.getElem?_toArray, List.getElem?_cons_succ, List.getElem?_cons_zero]; try rfl)
              case st11x26 =>
                have hRc := (hI.out.tab.below hb3.out).cell f (hI.out.now hf)
                go_simp
                refine hK.out _ _ ?_ (fun hHeld => ?_)
                · exact hSof.out _ hb3.out
                clear hK K
                (try simp only [Act.put, List.setIfInBounds_toArray, List.set_cons_zero, List.set_cons_succ])
                try clear hRc
                refine wpAnyH_ready (rs := [15]) (by kernel_rfl) (by simp) ?_
                refine' (AllReadyH.cons (i := 15) ?ho15x27 (fun K hK => ?st15x27) AllReadyH.nil)
                case ho15x27 => (simp only [List.getElem?_toArray, List.getElem?_cons_succ, List.getElem?_cons_zero]; try rfl)
                case st15x27 =>
                  refine wp_append_own _ _ _ 95 rfl B 98 i0 (.agg #[.slice none 0 0, .int .i64 0, .int .i64 0]) 3 40 Try.underlying95 hi hz0 hz1 hz2 rfl (by decide) v j xs (by rfl) (own_below hI.out.own hb3.out) ⟨w2.heap.size, 0, none⟩ 1 1 [.slice (some ⟨T', 0, none⟩) n n, .int .i64 0, .int .i64 0] (by rfl) (by rfl)
                    (news_of (ds := []) (by rw [List.append_nil]; exact has_at _ _ _ 98 rfl)) (by simp [Value.oneCell']) (by unfold maxLen; omega) (by omega) (Nat.le_trans hBH.out hb3.out.size) ?_
                  intro v' w3 hown_ hg_ _
                  have hnI := Lib.hid (hI.out.step hW hf hj hb3.out (hTH.out.alloc _) hdH.out hlowH.out hBH.out hown_ hg_)
                  have hown := Lib.hid hown_; have hg := Lib.hid hg_
                  clear hown_ hg_
                  refine hK.out _ _ ?_ (fun hHeld => ?_)
                  · exact ((hI.out.box.below hb3.out).grown hg.out (own_ne (own_below hI.out.own hb3.out) (hI.out.box.below hb3.out) (by decide))).cell 0 rfl
                  clear hK K
                  (try simp only [Act.put, List.setIfInBounds_toArray, List.set_cons_zero, List.set_cons_succ])
                  obtain ⟨g', cap', cs', rfl, -⟩ := own_form hown.out (Nat.succ_pos j)
                  have hRc3 := ((hI.out.tab.below hb3.out).grown hg.out (own_ne (own_below hI.out.own hb3.out) (hI.out.tab.below hb3.out) (by decide))).cell f (hI.out.now hf)
                  have hRf := ((hI.out.tab.below hb3.out).grown hg.out (own_ne (own_below hI.out.own hb3.out) (hI.out.tab.below hb3.out) (by decide))).free f
                  refine' wpAnyH_take (i := 16) (v := ?v16x28) ?hi16x28 ?hs16x28 ?hf16x28 ?hr16x28 ?hQ16x28 ?hy16x28 ?hS16x28 ?rest16x28
                  case hi16x28 => (simp only [List.getElem?_toArray, List.getElem?_cons_succ, List.getElem?_cons_zero]; try rfl)
                  case hs16x28 => kernel_rfl
                  case hf16x28 => kernel_rfl
                  case hr16x28 => kernel_rfl
                  case hQ16x28 => exact fun _ _ _ h => h
                  case hy16x28 => first | exact Or.inl ⟨by rfl, by (intro w hSw; (try dsimp only at hSw); go_simp; try rfl)⟩ | exact Or.inr ⟨by rfl, rfl⟩
                  case hS16x28 => assumption
                  (try simp only [Act.put, List.setIfInBounds_toArray, List.set_cons_zero, List.set_cons_succ])
                  refine wpAnyH_ready (rs := [17]) (by kernel_rfl) (by simp) ?_
                  refine' (AllReadyH.cons (i := 17) ?ho17x29 (fun K hK => ?st17x29) AllReadyH.nil)
                  case ho17x29 => (simp only [List.getElem?_toArray, List.getElem?_cons_succ, List.getElem?_cons_zero]; try rfl)
                  case st17x29 =>
                    go_simp
                    refine hK.out _ _ ?_ (fun hHeld => ?_)
                    · exact hnI.out.box.cell 0 rfl
                    clear hK K
                    (try simp only [Act.put, List.setIfInBounds_toArray, List.set_cons_zero, List.set_cons_succ])
                    refine wpAnyH_done (by kernel_rfl) ?_ _
                    refine NoPanic.normal ?_
                    go_wp2_with fail
                    go_roundw
                    case rel => exact ⟨j + 1, _, _, _, _, _, by go_num, by omega, hnI.out, Below.setCell ((chainB hbr.out hb3.out hBH.out).trans (below_own hg.out (own_below hI.out.own hb3.out) (Nat.le_trans hBH.out hb3.out.size))) hRb.out _, by simpa using Nat.le_trans hBH.out (Nat.le_trans hb3.out.size hg.out.size)⟩
                    case measure => simp [Go.RowKit.intOf]; omega

        · obtain rfl : j = W := by omega
          obtain ⟨S', hN'⟩ := hI.out.next hW hf
          have hN := Lib.hid hN'
          clear hN'
          go_wp2_with fail
          go_roundw
          case rel => exact ⟨f + 1, _, _, _, by go_num, by omega, hN.out, hbr.out, hBH.out⟩
          case measure => simp [Go.RowKit.intOf]; omega
    · obtain rfl : f = W := by omega
      go_wp2_with fail
      go_ret2
      refine ⟨b, S, T, rfl, ?_, ?_⟩
      · rw [← hBd_.out]
        exact hIo.out.all hW hW2 hn hn2
      · rw [← hBd_.out]
        exact hbo.out
end Go.Proofs.Ytpghndmfdmimmaa
