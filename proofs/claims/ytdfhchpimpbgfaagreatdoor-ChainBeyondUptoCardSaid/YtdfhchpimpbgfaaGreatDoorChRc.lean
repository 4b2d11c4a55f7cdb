/-
  The document's own answers for layer 4: sign, Check, Leq, Cmp and Print; and the program's Check. Conditions: those written.
-/
import Derived.Test.YtdfhchpimpbgfaaGreatDoorStLeq
import Derived.Test.YtdfhchpimpbgfaaGreatDoorStCmp
import Derived.Test.YtdfhchpimpbgfaaGreatDoorChK0
import Derived.LoopTactic
import Derived.BigQuiet
import Derived.Deep.RegionHeld3
import Derived.Deep.DeepCutAuto
set_option linter.unusedVariables false
set_option linter.unusedSimpArgs false
namespace Go.Proofs.YtdfhchpimpbgfaaGreatDoor
open Go.RowKit Go.Lib

set_option maxHeartbeats 2000000 in
set_option maxRecDepth 1000000 in
theorem sign_any (x y : Int) (w : World) : Calls Tryz.prog 91 #[.int .u64 x, .int .u64 y] w fun e w' => e = .returned (.int .i64 (c3 x y)) ∧ w = w' := by
  by_cases h1 : x < y
  · have hc : c3 x y = -1 := by unfold c3; rw [if_pos h1]
    rw [hc]
    go_enter Tryz.func91, Tryz.ntmps91
    go_wp2_with fail
    go_ret
    exact ⟨rfl, rfl⟩
  · by_cases h2 : y < x
    · have hc : c3 x y = 1 := by unfold c3; rw [if_neg h1, if_neg (by omega)]
      rw [hc]
      go_enter Tryz.func91, Tryz.ntmps91
      go_wp2_with fail
      go_ret
      exact ⟨rfl, rfl⟩
    · have hc : c3 x y = 0 := by unfold c3; rw [if_neg h1, if_pos (by omega)]
      rw [hc]
      go_enter Tryz.func91, Tryz.ntmps91
      go_wp2_with fail
      go_ret
      exact ⟨rfl, rfl⟩
set_option maxHeartbeats 8000000 in
set_option maxRecDepth 1000000 in
theorem refLeq_any (va vb : Value) (a b : Tm) (w : World) (ha : TmV w va a) (hb : TmV w vb b) :
    Calls Tryz.prog 36 #[va, vb] w fun e w' => e = .returned (.bool (leqT a b)) ∧ Below w.heap.size w w' := by
  obtain ⟨ea, l⟩ := a
  obtain ⟨eb, m⟩ := b
  obtain ⟨sa, rfl, ha⟩ := ha
  obtain ⟨sb, rfl, hb⟩ := hb
  simp only at ha hb ⊢
  obtain ⟨A, n, ca, rfl, hn, hla, hca⟩ := ha.form
  obtain ⟨B, k, cb, rfl, hk, hlb, hcb⟩ := hb.form
  obtain ⟨r, hr⟩ : ∃ r, leqT ⟨ea, l⟩ ⟨eb, m⟩ = r := ⟨_, rfl⟩
  rw [hr]
  unfold leqT at hr
  simp only [hn, hk] at hr
  have hnH := Lib.hid hn; have hkH := Lib.hid hk
  clear hn hk
  obtain ⟨W0, hW0, hwW, hA, hB, hzz⟩ := boxes2 w [.int .u64 ea, .slice A n ca] [.int .u64 eb, .slice B k cb] 26 26
  have haH := Lib.hid (ha.below hwW); have hbH := Lib.hid (hb.below hwW)
  have hAH := Lib.hid hA; have hBH := Lib.hid hB; have hwWH := Lib.hid hwW
  have a0_ := hA.cell 0 rfl; have a1_ := hA.cell 1 rfl; have b0_ := hB.cell 0 rfl; have b1_ := hB.cell 1 rfl
  clear ha hb hA hB hwW
  have hrH := Lib.hid hr
  clear hr
  by_cases hlen : n = k
  · subst hlen
    replace hrH : Hid ((if eb < ea then false else leqL l m) = r) := Lib.hid (by have := hrH.out; rw [if_pos rfl] at this; exact this)
    by_cases he : eb < ea
    · have heH := Lib.hid he
      go_enter Tryz.func36, Tryz.ntmps36
      go_wp2_with fail
      go_ret
      exact ⟨ret_bool (by rw [← hrH.out, if_pos heH.out]), hwWH.out⟩
    · replace hrH : Hid (leqL l m = r) := Lib.hid (by have := hrH.out; rw [if_neg he] at this; exact this)
      go_enter Tryz.func36, Tryz.ntmps36
      go_wp2_with fail
      go_loopw [5] (fun i wr => RelLq l m W0 i wr) (fun i _ => n - (Go.RowKit.intOf i).toNat)
      case atStart => exact ⟨0, rfl, Nat.zero_le _, rfl, Below.refl _ _⟩
      case round =>
        unfold RelLq at hrel
        obtain ⟨p, rfl, hpl, hcmp, hbw⟩ := hrel
        have hcH := Lib.hid hcmp; have hbwH := Lib.hid hbw
        have a0_ := (hAH.out.below hbw).cell 0 rfl; have a1_ := (hAH.out.below hbw).cell 1 rfl; have b0_ := (hBH.out.below hbw).cell 0 rfl; have b1_ := (hBH.out.below hbw).cell 1 rfl
        clear hcmp hbw
        have hpn : p ≤ n := by have := hnH.out; omega
        clear hpl
        by_cases hp : p < n
        · have h1 : p < l.length := by have := hnH.out; omega
          have h2 : p < m.length := by have := hkH.out; omega
          obtain ⟨ad, rfl, hba, ac_⟩ := (haH.out.below hbwH.out).at h1
          obtain ⟨bd, rfl, hbb, bc_⟩ := (hbH.out.below hbwH.out).at h2
          have hstep := leqL_at h1 h2
          obtain ⟨x, hx⟩ : ∃ x, l[p] = x := ⟨_, rfl⟩
          obtain ⟨y, hy⟩ : ∃ y, m[p] = y := ⟨_, rfl⟩
          rw [hx] at ac_ hstep
          rw [hy] at bc_ hstep
          have hstH := Lib.hid hstep
          clear hstep hx hy h1 h2
          by_cases hxy : y < x
          ·
            go_upto_region 6 with fail
            refine wp_region_noPanic ?_
            refine wp_region_held_drew (S := (fun w' => w'.cell? ⟨w.heap.size, 1, none⟩ = some (.slice (some ad) n ca) ∧ w'.cell? ⟨w.heap.size + 1, 1, none⟩ = some (.slice (some bd) n cb) ∧ w'.cell? (ad.add p) = some (.int .u32 x) ∧ w'.cell? (bd.add p) = some (.int .u32 y))) (by kernel_rfl) (⟨a1_, b1_, ac_, bc_⟩) (fun hHeld => ?_)
            refine' wpAnyH_take (i := 0) (v := ?v0x1) ?hi0x1 ?hs0x1 ?hf0x1 ?hr0x1 ?hQ0x1 ?hy0x1 ?hS0x1 ?rest0x1
            case hi0x1 => (simp only [List.getElem?_toArray, List.getElem?_cons_succ, List.getElem?_cons_zero]; try rfl)
            case hs0x1 => kernel_rfl
            case hf0x1 => kernel_rfl
            case hr0x1 => kernel_rfl
            case hQ0x1 => exact fun _ _ _ h => h
            case hy0x1 => first | exact Or.inl ⟨by rfl, by (intro w hSw; (try dsimp only at hSw); go_simp; try rfl)⟩ | exact Or.inr ⟨by rfl, rfl⟩
            case hS0x1 => assumption
            (try simp only [Act.put, List.setIfInBounds_toArray, List.set_cons_zero, List.set_cons_succ])
            refine' wpAnyH_take (i := 1) (v := ?v1x2) ?hi1x2 ?hs1x2 ?hf1x2 ?hr1x2 ?hQ1x2 ?hy1x2 ?hS1x2 ?rest1x2
            case hi1x2 => (simp only [List.getElem?_toArray, List.getElem?_cons_succ, List.getElem?_cons_zero]; try rfl)
            case hs1x2 => kernel_rfl
            case hf1x2 => kernel_rfl
            case hr1x2 => kernel_rfl
            case hQ1x2 => exact fun _ _ _ h => h
            case hy1x2 => first | exact Or.inl ⟨by rfl, by (intro w hSw; (try dsimp only at hSw); go_simp; try rfl)⟩ | exact Or.inr ⟨by rfl, rfl⟩
            case hS1x2 => assumption
            (try simp only [Act.put, List.setIfInBounds_toArray, List.set_cons_zero, List.set_cons_succ])
            refine' wpAnyH_take (i := 2) (v := ?v2x3) ?hi2x3 ?hs2x3 ?hf2x3 ?hr2x3 ?hQ2x3 ?hy2x3 ?hS2x3 ?rest2x3
            case hi2x3 => (simp only [List.getElem?_toArray, List.getElem?_cons_succ, List.getElem?_cons_zero]; try rfl)
            case hs2x3 => kernel_rfl
            case hf2x3 => kernel_rfl
            case hr2x3 => kernel_rfl
            case hQ2x3 => exact fun _ _ _ h => h
            case hy2x3 => first | exact Or.inl ⟨by rfl, by (intro w hSw; (try dsimp only at hSw); go_simp; try rfl)⟩ | exact Or.inr ⟨by rfl, rfl⟩
            case hS2x3 => assumption
            (try simp only [Act.put, List.setIfInBounds_toArray, List.set_cons_zero, List.set_cons_succ])
            refine' wpAnyH_take (i := 3) (v := ?v3x4) ?hi3x4 ?hs3x4 ?hf3x4 ?hr3x4 ?hQ3x4 ?hy3x4 ?hS3x4 ?rest3x4
            case hi3x4 => (simp only [List.getElem?_toArray, List.getElem?_cons_succ, List.getElem?_cons_zero]; try rfl)
            case hs3x4 => kernel_rfl
            case hf3x4 => kernel_rfl
            case hr3x4 => kernel_rfl
            case hQ3x4 => exact fun _ _ _ h => h
            case hy3x4 => first | exact Or.inl ⟨by rfl, by (intro w hSw; (try dsimp only at hSw); go_simp; try rfl)⟩ | exact Or.inr ⟨by rfl, rfl⟩
            case hS3x4 => assumption
            (try simp only [Act.put, List.setIfInBounds_toArray, List.set_cons_zero, List.set_cons_succ])
            refine' wpAnyH_take (i := 4) (v := ?v4x5) ?hi4x5 ?hs4x5 ?hf4x5 ?hr4x5 ?hQ4x5 ?hy4x5 ?hS4x5 ?rest4x5
            case hi4x5 => (simp only [List.getElem?_toArray, List.getElem?_cons_succ, List.getElem?_cons_zero]; try rfl)
            case hs4x5 => kernel_rfl
            case hf4x5 => kernel_rfl
            case hr4x5 => kernel_rfl
            case hQ4x5 => exact fun _ _ _ h => h
            case hy4x5 => first | exact Or.inl ⟨by rfl, by (intro w hSw; (try dsimp only at hSw); go_simp; try rfl)⟩ | exact Or.inr ⟨by rfl, rfl⟩
            case hS4x5 => assumption
            (try simp only [Act.put, List.setIfInBounds_toArray, List.set_cons_zero, List.set_cons_succ])
            refine' wpAnyH_take (i := 5) (v := ?v5x6) ?hi5x6 ?hs5x6 ?hf5x6 ?hr5x6 ?hQ5x6 ?hy5x6 ?hS5x6 ?rest5x6
            case hi5x6 => (simp only [List.getElem?_toArray, List.getElem?_cons_succ, List.getElem?_cons_zero]; try rfl)
            case hs5x6 => kernel_rfl
            case hf5x6 => kernel_rfl
            case hr5x6 => kernel_rfl
            case hQ5x6 => exact fun _ _ _ h => h
            case hy5x6 => first | exact Or.inl ⟨by rfl, by (intro w hSw; (try dsimp only at hSw); go_simp; try rfl)⟩ | exact Or.inr ⟨by rfl, rfl⟩
            case hS5x6 => assumption
            (try simp only [Act.put, List.setIfInBounds_toArray, List.set_cons_zero, List.set_cons_succ])
            refine' wpAnyH_take (i := 6) (v := ?v6x7) ?hi6x7 ?hs6x7 ?hf6x7 ?hr6x7 ?hQ6x7 ?hy6x7 ?hS6x7 ?rest6x7
            case hi6x7 => (simp only [List.getElem?_toArray, List.getElem?_cons_succ, List.getElem?_cons_zero]; try rfl)
            case hs6x7 => kernel_rfl
            case hf6x7 => kernel_rfl
            case hr6x7 => kernel_rfl
            case hQ6x7 => exact fun _ _ _ h => h
            case hy6x7 => first | exact Or.inl ⟨by rfl, by (intro w hSw; (try dsimp only at hSw); go_simp; try rfl)⟩ | exact Or.inr ⟨by rfl, rfl⟩
            case hS6x7 => assumption
            (try simp only [Act.put, List.setIfInBounds_toArray, List.set_cons_zero, List.set_cons_succ])
            refine' wpAnyH_take (i := 7) (v := ?v7x8) ?hi7x8 ?hs7x8 ?hf7x8 ?hr7x8 ?hQ7x8 ?hy7x8 ?hS7x8 ?rest7x8
            case hi7x8 => (simp only [List.getElem?_toArray, List.getElem?_cons_succ, List.getElem?_cons_zero]; try rfl)
            case hs7x8 => kernel_rfl
            case hf7x8 => kernel_rfl
            case hr7x8 => kernel_rfl
            case hQ7x8 => exact fun _ _ _ h => h
            case hy7x8 => first | exact Or.inl ⟨by rfl, by (intro w hSw; (try dsimp only at hSw); go_simp; try rfl)⟩ | exact Or.inr ⟨by rfl, rfl⟩
            case hS7x8 => assumption
            (try simp only [Act.put, List.setIfInBounds_toArray, List.set_cons_zero, List.set_cons_succ])
            refine' wpAnyH_take (i := 8) (v := ?v8x9) ?hi8x9 ?hs8x9 ?hf8x9 ?hr8x9 ?hQ8x9 ?hy8x9 ?hS8x9 ?rest8x9
            case hi8x9 => (simp only [List.getElem?_toArray, List.getElem?_cons_succ, List.getElem?_cons_zero]; try rfl)
            case hs8x9 => kernel_rfl
            case hf8x9 => kernel_rfl
            case hr8x9 => kernel_rfl
            case hQ8x9 => exact fun _ _ _ h => h
            case hy8x9 => first | exact Or.inl ⟨by rfl, by (intro w hSw; (try dsimp only at hSw); go_simp; try rfl)⟩ | exact Or.inr ⟨by rfl, rfl⟩
            case hS8x9 => assumption
            (try simp only [Act.put, List.setIfInBounds_toArray, List.set_cons_zero, List.set_cons_succ])
            refine' wpAnyH_take (i := 9) (v := ?v9x10) ?hi9x10 ?hs9x10 ?hf9x10 ?hr9x10 ?hQ9x10 ?hy9x10 ?hS9x10 ?rest9x10
            case hi9x10 => (simp only [List.getElem?_toArray, List.getElem?_cons_succ, List.getElem?_cons_zero]; try rfl)
            case hs9x10 => kernel_rfl
            case hf9x10 => kernel_rfl
            case hr9x10 => kernel_rfl
            case hQ9x10 => exact fun _ _ _ h => h
            case hy9x10 => first | exact Or.inl ⟨by rfl, by (intro w hSw; (try dsimp only at hSw); go_simp; try rfl)⟩ | exact Or.inr ⟨by rfl, rfl⟩
            case hS9x10 => assumption
            (try simp only [Act.put, List.setIfInBounds_toArray, List.set_cons_zero, List.set_cons_succ])
            refine' wpAnyH_take (i := 10) (v := ?v10x11) ?hi10x11 ?hs10x11 ?hf10x11 ?hr10x11 ?hQ10x11 ?hy10x11 ?hS10x11 ?rest10x11
            case hi10x11 => (simp only [List.getElem?_toArray, List.getElem?_cons_succ, List.getElem?_cons_zero]; try rfl)
            case hs10x11 => kernel_rfl
            case hf10x11 => kernel_rfl
            case hr10x11 => kernel_rfl
            case hQ10x11 => exact fun _ _ _ h => h
            case hy10x11 => first | exact Or.inl ⟨by rfl, by (intro w hSw; (try dsimp only at hSw); go_simp; try rfl)⟩ | exact Or.inr ⟨by rfl, rfl⟩
            case hS10x11 => assumption
            (try simp only [Act.put, List.setIfInBounds_toArray, List.set_cons_zero, List.set_cons_succ])
            refine wpAnyH_done (by kernel_rfl) ?_ _
            refine NoPanic.normal ?_
            go_wp2_with fail
            go_ret
            exact ⟨ret_bool (by rw [← hrH.out, hcH.out, hstH.out, if_pos hxy]), hwWH.out.trans ((by first | exact hbwH.out | exact hbwH.out.drew | go_grown : Below W0.heap.size W0 _).mono hwWH.out.size)⟩
          ·
            go_upto_region 6 with fail
            refine wp_region_noPanic ?_
            refine wp_region_held_drew (S := (fun w' => w'.cell? ⟨w.heap.size, 1, none⟩ = some (.slice (some ad) n ca) ∧ w'.cell? ⟨w.heap.size + 1, 1, none⟩ = some (.slice (some bd) n cb) ∧ w'.cell? (ad.add p) = some (.int .u32 x) ∧ w'.cell? (bd.add p) = some (.int .u32 y))) (by kernel_rfl) (⟨a1_, b1_, ac_, bc_⟩) (fun hHeld => ?_)
            refine' wpAnyH_take (i := 0) (v := ?v0x12) ?hi0x12 ?hs0x12 ?hf0x12 ?hr0x12 ?hQ0x12 ?hy0x12 ?hS0x12 ?rest0x12
            case hi0x12 => (simp only [List.getElem?_toArray, List.getElem?_cons_succ, List.getElem?_cons_zero]; try rfl)
            case hs0x12 => kernel_rfl
            case hf0x12 => kernel_rfl
            case hr0x12 => kernel_rfl
            case hQ0x12 => exact fun _ _ _ h => h
            case hy0x12 => first | exact Or.inl ⟨by rfl, by (intro w hSw; (try dsimp only at hSw); go_simp; try rfl)⟩ | exact Or.inr ⟨by rfl, rfl⟩
            case hS0x12 => assumption
            (try simp only [Act.put, List.setIfInBounds_toArray, List.set_cons_zero, List.set_cons_succ])
            refine' wpAnyH_take (i := 1) (v := ?v1x13) ?hi1x13 ?hs1x13 ?hf1x13 ?hr1x13 ?hQ1x13 ?hy1x13 ?hS1x13 ?rest1x13
            case hi1x13 => (simp only [List.getElem?_toArray, List.getElem?_cons_succ, List.getElem?_cons_zero]; try rfl)
            case hs1x13 => kernel_rfl
            case hf1x13 => kernel_rfl
            case hr1x13 => kernel_rfl
            case hQ1x13 => exact fun _ _ _ h => h
            case hy1x13 => first | exact Or.inl ⟨by rfl, by (intro w hSw; (try dsimp only at hSw); go_simp; try rfl)⟩ | exact Or.inr ⟨by rfl, rfl⟩
            case hS1x13 => assumption
            (try simp only [Act.put, List.setIfInBounds_toArray, List.set_cons_zero, List.set_cons_succ])
            refine' wpAnyH_take (i := 2) (v := ?v2x14) ?hi2x14 ?hs2x14 ?hf2x14 ?hr2x14 ?hQ2x14 ?hy2x14 ?hS2x14 ?rest2x14
            case hi2x14 => (simp only [List.getElem?_toArray, List.getElem?_cons_succ, List.getElem?_cons_zero]; try rfl)
            case hs2x14 => kernel_rfl
            case hf2x14 => kernel_rfl
            case hr2x14 => kernel_rfl
            case hQ2x14 => exact fun _ _ _ h => h
            case hy2x14 => first | exact Or.inl ⟨by rfl, by (intro w hSw; (try dsimp only at hSw); go_simp; try rfl)⟩ | exact Or.inr ⟨by rfl, rfl⟩
            case hS2x14 => assumption
            (try simp only [Act.put, List.setIfInBounds_toArray, List.set_cons_zero, List.set_cons_succ])
            refine' wpAnyH_take (i := 3) (v := ?v3x15) ?hi3x15 ?hs3x15 ?hf3x15 ?hr3x15 ?hQ3x15 ?hy3x15 ?hS3x15 ?rest3x15
            case hi3x15 => (simp only [List.getElem?_toArray, List.getElem?_cons_succ, List.getElem?_cons_zero]; try rfl)
            case hs3x15 => kernel_rfl
            case hf3x15 => kernel_rfl
            case hr3x15 => kernel_rfl
            case hQ3x15 => exact fun _ _ _ h => h
            case hy3x15 => first | exact Or.inl ⟨by rfl, by (intro w hSw; (try dsimp only at hSw); go_simp; try rfl)⟩ | exact Or.inr ⟨by rfl, rfl⟩
            case hS3x15 => assumption
            (try simp only [Act.put, List.setIfInBounds_toArray, List.set_cons_zero, List.set_cons_succ])
            refine' wpAnyH_take (i := 4) (v := ?v4x16) ?hi4x16 ?hs4x16 ?hf4x16 ?hr4x16 ?hQ4x16 ?hy4x16 ?hS4x16 ?rest4x16
            case hi4x16 => (simp only [List.getElem?_toArray, List.getElem?_cons_succ, List.getElem?_cons_zero]; try rfl)
            case hs4x16 => kernel_rfl
            case hf4x16 => kernel_rfl
            case hr4x16 => kernel_rfl
            case hQ4x16 => exact fun _ _ _ h => h
            case hy4x16 => first | exact Or.inl ⟨by rfl, by (intro w hSw; (try dsimp only at hSw); go_simp; try rfl)⟩ | exact Or.inr ⟨by rfl, rfl⟩
            case hS4x16 => assumption
            (try simp only [Act.put, List.setIfInBounds_toArray, List.set_cons_zero, List.set_cons_succ])
            refine' wpAnyH_take (i := 5) (v := ?v5x17) ?hi5x17 ?hs5x17 ?hf5x17 ?hr5x17 ?hQ5x17 ?hy5x17 ?hS5x17 ?rest5x17
            case hi5x17 => (simp only [List.getElem?_toArray, List.getElem?_cons_succ, List.getElem?_cons_zero]; try rfl)
            case hs5x17 => kernel_rfl
            case hf5x17 => kernel_rfl
            case hr5x17 => kernel_rfl
            case hQ5x17 => exact fun _ _ _ h => h
            case hy5x17 => first | exact Or.inl ⟨by rfl, by (intro w hSw; (try dsimp only at hSw); go_simp; try rfl)⟩ | exact Or.inr ⟨by rfl, rfl⟩
            case hS5x17 => assumption
            (try simp only [Act.put, List.setIfInBounds_toArray, List.set_cons_zero, List.set_cons_succ])
            refine' wpAnyH_take (i := 6) (v := ?v6x18) ?hi6x18 ?hs6x18 ?hf6x18 ?hr6x18 ?hQ6x18 ?hy6x18 ?hS6x18 ?rest6x18
            case hi6x18 => (simp only [List.getElem?_toArray, List.getElem?_cons_succ, List.getElem?_cons_zero]; try rfl)
            case hs6x18 => kernel_rfl
            case hf6x18 => kernel_rfl
            case hr6x18 => kernel_rfl
            case hQ6x18 => exact fun _ _ _ h => h
            case hy6x18 => first | exact Or.inl ⟨by rfl, by (intro w hSw; (try dsimp only at hSw); go_simp; try rfl)⟩ | exact Or.inr ⟨by rfl, rfl⟩
            case hS6x18 => assumption
            (try simp only [Act.put, List.setIfInBounds_toArray, List.set_cons_zero, List.set_cons_succ])
            refine' wpAnyH_take (i := 7) (v := ?v7x19) ?hi7x19 ?hs7x19 ?hf7x19 ?hr7x19 ?hQ7x19 ?hy7x19 ?hS7x19 ?rest7x19
            case hi7x19 => (simp only [List.getElem?_toArray, List.getElem?_cons_succ, List.getElem?_cons_zero]; try rfl)
            case hs7x19 => kernel_rfl
            case hf7x19 => kernel_rfl
            case hr7x19 => kernel_rfl
            case hQ7x19 => exact fun _ _ _ h => h
            case hy7x19 => first | exact Or.inl ⟨by rfl, by (intro w hSw; (try dsimp only at hSw); go_simp; try rfl)⟩ | exact Or.inr ⟨by rfl, rfl⟩
            case hS7x19 => assumption
            (try simp only [Act.put, List.setIfInBounds_toArray, List.set_cons_zero, List.set_cons_succ])
            refine' wpAnyH_take (i := 8) (v := ?v8x20) ?hi8x20 ?hs8x20 ?hf8x20 ?hr8x20 ?hQ8x20 ?hy8x20 ?hS8x20 ?rest8x20
            case hi8x20 => (simp only [List.getElem?_toArray, List.getElem?_cons_succ, List.getElem?_cons_zero]; try rfl)
            case hs8x20 => kernel_rfl
            case hf8x20 => kernel_rfl
            case hr8x20 => kernel_rfl
            case hQ8x20 => exact fun _ _ _ h => h
            case hy8x20 => first | exact Or.inl ⟨by rfl, by (intro w hSw; (try dsimp only at hSw); go_simp; try rfl)⟩ | exact Or.inr ⟨by rfl, rfl⟩
            case hS8x20 => assumption
            (try simp only [Act.put, List.setIfInBounds_toArray, List.set_cons_zero, List.set_cons_succ])
            refine' wpAnyH_take (i := 9) (v := ?v9x21) ?hi9x21 ?hs9x21 ?hf9x21 ?hr9x21 ?hQ9x21 ?hy9x21 ?hS9x21 ?rest9x21
            case hi9x21 => (simp only [List.getElem?_toArray, List.getElem?_cons_succ, List.getElem?_cons_zero]; try rfl)
            case hs9x21 => kernel_rfl
            case hf9x21 => kernel_rfl
            case hr9x21 => kernel_rfl
            case hQ9x21 => exact fun _ _ _ h => h
            case hy9x21 => first | exact Or.inl ⟨by rfl, by (intro w hSw; (try dsimp only at hSw); go_simp; try rfl)⟩ | exact Or.inr ⟨by rfl, rfl⟩
            case hS9x21 => assumption
            (try simp only [Act.put, List.setIfInBounds_toArray, List.set_cons_zero, List.set_cons_succ])
            refine' wpAnyH_take (i := 10) (v := ?v10x22) ?hi10x22 ?hs10x22 ?hf10x22 ?hr10x22 ?hQ10x22 ?hy10x22 ?hS10x22 ?rest10x22
            case hi10x22 => (simp only [List.getElem?_toArray, List.getElem?_cons_succ, List.getElem?_cons_zero]; try rfl)
            case hs10x22 => kernel_rfl
            case hf10x22 => kernel_rfl
            case hr10x22 => kernel_rfl
            case hQ10x22 => exact fun _ _ _ h => h
            case hy10x22 => first | exact Or.inl ⟨by rfl, by (intro w hSw; (try dsimp only at hSw); go_simp; try rfl)⟩ | exact Or.inr ⟨by rfl, rfl⟩
            case hS10x22 => assumption
            (try simp only [Act.put, List.setIfInBounds_toArray, List.set_cons_zero, List.set_cons_succ])
            refine wpAnyH_done (by kernel_rfl) ?_ _
            refine NoPanic.normal ?_
            go_wp2_with fail
            go_roundw
            case rel => exact ⟨p + 1, by go_num, by have := hnH.out; omega, by rw [hcH.out, hstH.out, if_neg hxy], (by first | exact hbwH.out | exact hbwH.out.drew | go_grown)⟩
            case measure => simp [Go.RowKit.intOf]; omega
        · go_wp2_with fail
          go_ret
          exact ⟨ret_bool (by rw [← hrH.out, hcH.out, List.drop_eq_nil_of_le (by have := hnH.out; omega), leqL]), hwWH.out.trans (hbwH.out.mono hwWH.out.size)⟩
  · go_enter Tryz.func36, Tryz.ntmps36
    go_wp2_with fail
    go_ret
    exact ⟨ret_bool (by rw [← hrH.out, if_neg hlen]), by first | exact hwWH.out | go_grown⟩
def RelRC (l m : List Int) (n k : Nat) (r : Int) (w0 : World) (c i : Value) (wr : World) : Prop :=
  ∃ (z : Int) (p : Nat), c = .int .i64 z ∧ i = .int .i64 (p : Int) ∧ p ≤ n ∧ (z ≠ 0 → z = r) ∧ (z = 0 → n = k ∧ r = cmpW (l.drop p) (m.drop p)) ∧ Below w0.heap.size w0 wr
theorem u64_nat (n : Nat) (h : n ≤ 9223372036854775807) : IntKind.u64.wrap (n : Int) = (n : Int) := by
  simp [IntKind.wrap, IntKind.bits, IntKind.signed]; omega
theorem u64_w32 (x : Int) (h : 0 ≤ x ∧ x ≤ 4294967295) : IntKind.u64.wrap x = x := by
  simp [IntKind.wrap, IntKind.bits, IntKind.signed]; omega
set_option maxHeartbeats 2000000 in
set_option maxRecDepth 1000000 in
theorem refCmp_any (va vb : Value) (a b : Tm) (w : World) (ha : TmV w va a) (hb : TmV w vb b) (wa : TmW a) (wb : TmW b) :
    Calls Tryz.prog 51 #[va, vb] w fun e w' => e = .returned (.int .i64 (cmpT a b)) ∧ Below w.heap.size w w' := by
  obtain ⟨ea, l⟩ := a
  obtain ⟨eb, m⟩ := b
  obtain ⟨sa, rfl, ha⟩ := ha
  obtain ⟨sb, rfl, hb⟩ := hb
  simp only at ha hb ⊢
  obtain ⟨A, n, ca, rfl, hn, hla, hca⟩ := ha.form
  obtain ⟨B, k, cb, rfl, hk, hlb, hcb⟩ := hb.form
  obtain ⟨r, hr⟩ : ∃ r, cmpT ⟨ea, l⟩ ⟨eb, m⟩ = r := ⟨_, rfl⟩
  rw [hr]
  unfold cmpT at hr
  simp only [hn, hk] at hr
  have hnH := Lib.hid hn; have hkH := Lib.hid hk; have wlH := Lib.hid wa.2; have wmH := Lib.hid wb.2
  clear hn hk wa wb
  have un := u64_nat n (by omega); have uk := u64_nat k (by omega)
  obtain ⟨W0, hW0, hwW, hA, hB, hzz⟩ := boxes2 w [.int .u64 ea, .slice A n ca] [.int .u64 eb, .slice B k cb] 26 26
  have haH := Lib.hid (ha.below hwW); have hbH := Lib.hid (hb.below hwW)
  have hAH := Lib.hid hA; have hBH := Lib.hid hB; have hwWH := Lib.hid hwW
  have a0_ := hA.cell 0 rfl; have a1_ := hA.cell 1 rfl; have b0_ := hB.cell 0 rfl; have b1_ := hB.cell 1 rfl
  clear ha hb hA hB hwW
  obtain ⟨u, hu⟩ : ∃ u, c3 (n : Int) (k : Int) = u := ⟨_, rfl⟩
  obtain ⟨v, hv⟩ : ∃ v, c3 ea eb = v := ⟨_, rfl⟩
  rw [hu, hv] at hr
  have huH := Lib.hid hu; have hvH := Lib.hid hv; have hrH := Lib.hid hr
  clear hu hv hr
  have fin : ∀ z : Int, (z ≠ 0 → z = r) → (z = 0 → n = k ∧ r = cmpW l m) → ∀ z2 : Int, z2 = z → (z2 ≠ 0 → z2 = r) ∧ (z2 = 0 → n = k ∧ r = cmpW (l.drop 0) (m.drop 0)) := by
    intro z h1 h2 z2 e
    subst e
    exact ⟨h1, h2⟩
  go_enter Tryz.func51, Tryz.ntmps51
  go_wp2_with fail
  refine (sign_any _ _ _).mono ?_
  rw [huH.out]
  rintro e w1 ⟨rfl, rfl⟩
  by_cases hu0 : u = 0
  · have hr0 : r = orI v (cmpW l m) := by rw [← hrH.out]; unfold orI; rw [if_pos hu0]
    have hnk : n = k := by have := c3_zero (huH.out.trans hu0); omega
    have hrH2 := Lib.hid hr0; have hnkH := Lib.hid hnk
    clear hr0 hnk
    subst hu0
    go_wp2_with fail
    refine (sign_any _ _ _).mono ?_
    rw [hvH.out]
    rintro e w1 ⟨rfl, rfl⟩
    have hz1 : v ≠ 0 → v = r := by
      intro h
      rw [hrH2.out]; unfold orI; rw [if_neg h]
    have hz2 : v = 0 → n = k ∧ r = cmpW l m := by
      intro h
      refine ⟨hnkH.out, ?_⟩
      rw [hrH2.out]; unfold orI; rw [if_pos h]
    have hz := Lib.hid (And.intro hz1 hz2)
    clear hz1 hz2
    go_wp2_with fail
    go_loopw [5, 6] (fun c i wr => RelRC l m n k r W0 c i wr) (fun _ i _ => n - (Go.RowKit.intOf i).toNat)
    case atStart => exact ⟨v, 0, rfl, rfl, Nat.zero_le _, hz.out.1, hz.out.2, Below.refl _ _⟩
    case round =>
      unfold RelRC at hrel
      obtain ⟨z, p, rfl, rfl, hpn, hz1, hz2, hbw⟩ := hrel
      have hbwH := Lib.hid hbw; have hz1H := Lib.hid hz1; have hz2H := Lib.hid hz2
      have a0_ := (hAH.out.below hbw).cell 0 rfl; have a1_ := (hAH.out.below hbw).cell 1 rfl; have b0_ := (hBH.out.below hbw).cell 0 rfl; have b1_ := (hBH.out.below hbw).cell 1 rfl
      clear hbw hz1 hz2
      by_cases hp : p < n
      · by_cases hz0 : z = 0
        · subst hz0
          obtain ⟨hnk, hcm⟩ := hz2H.out rfl
          have h1 : p < l.length := by have := hnH.out; omega
          have h2 : p < m.length := by have := hkH.out; omega
          obtain ⟨ad, rfl, hba, ac_⟩ := (haH.out.below hbwH.out).at h1
          obtain ⟨bd, rfl, hbb, bc_⟩ := (hbH.out.below hbwH.out).at h2
          have hstep := cmpW_at h1 h2
          have u1 := u64_w32 _ (wlH.out.at h1); have u2 := u64_w32 _ (wmH.out.at h2)
          rw [← hcm] at hstep
          obtain ⟨x, hx⟩ : ∃ x, l[p] = x := ⟨_, rfl⟩
          obtain ⟨y, hy⟩ : ∃ y, m[p] = y := ⟨_, rfl⟩
          rw [hx] at ac_ u1
          rw [hy] at bc_ u2
          rw [hx, hy] at hstep
          obtain ⟨s, hs⟩ : ∃ s, c3 x y = s := ⟨_, rfl⟩
          rw [hs] at hstep
          have hs1 : s ≠ 0 → s = r := fun h => by rw [hstep, if_neg h]
          have hs2 : s = 0 → n = k ∧ r = cmpW (l.drop (p + 1)) (m.drop (p + 1)) := fun h => ⟨hnk, by rw [hstep, if_pos h]⟩
          have hstH := Lib.hid hs; have hs1H := Lib.hid hs1; have hs2H := Lib.hid hs2
          clear hstep hx hy h1 h2 hs hs1 hs2 hcm
          have hpk : p < k := by omega
          have hnkH := Lib.hid hnk
          clear hnk
          go_upto_region 7 with fail
          refine wp_region_noPanic ?_
          refine wp_region_held_drew (S := (fun w' => w'.cell? ⟨w.heap.size, 1, none⟩ = some (.slice (some ad) n ca) ∧ w'.cell? ⟨w.heap.size + 1, 1, none⟩ = some (.slice (some bd) k cb) ∧ w'.cell? (ad.add p) = some (.int .u32 x) ∧ w'.cell? (bd.add p) = some (.int .u32 y))) (by kernel_rfl) (⟨a1_, b1_, ac_, bc_⟩) (fun hHeld => ?_)
          refine' wpAnyH_take (i := 0) (v := ?v0x23) ?hi0x23 ?hs0x23 ?hf0x23 ?hr0x23 ?hQ0x23 ?hy0x23 ?hS0x23 ?rest0x23
          case hi0x23 => (simp only [List.getElem?_toArray, List.getElem?_cons_succ, List.getElem?_cons_zero]; try rfl)
          case hs0x23 => kernel_rfl
          case hf0x23 => kernel_rfl
          case hr0x23 => kernel_rfl
          case hQ0x23 => exact fun _ _ _ h => h
          case hy0x23 => first | exact Or.inl ⟨by rfl, by (intro w hSw; (try dsimp only at hSw); go_simp; try rfl)⟩ | exact Or.inr ⟨by rfl, rfl⟩
          case hS0x23 => assumption
          (try simp only [Act.put, List.setIfInBounds_toArray, List.set_cons_zero, List.set_cons_succ])
          refine' wpAnyH_take (i := 1) (v := ?v1x24) ?hi1x24 ?hs1x24 ?hf1x24 ?hr1x24 ?hQ1x24 ?hy1x24 ?hS1x24 ?rest1x24
          case hi1x24 => (simp only [List.getElem?_toArray, List.getElem?_cons_succ, List.getElem?_cons_zero]; try rfl)
          case hs1x24 => kernel_rfl
          case hf1x24 => kernel_rfl
          case hr1x24 => kernel_rfl
          case hQ1x24 => exact fun _ _ _ h => h
          case hy1x24 => first | exact Or.inl ⟨by rfl, by (intro w hSw; (try dsimp only at hSw); go_simp; try rfl)⟩ | exact Or.inr ⟨by rfl, rfl⟩
          case hS1x24 => assumption
          (try simp only [Act.put, List.setIfInBounds_toArray, List.set_cons_zero, List.set_cons_succ])
          refine' wpAnyH_take (i := 2) (v := ?v2x25) ?hi2x25 ?hs2x25 ?hf2x25 ?hr2x25 ?hQ2x25 ?hy2x25 ?hS2x25 ?rest2x25
          case hi2x25 => (simp only [List.getElem?_toArray, List.getElem?_cons_succ, List.getElem?_cons_zero]; try rfl)
          case hs2x25 => kernel_rfl
          case hf2x25 => kernel_rfl
          case hr2x25 => kernel_rfl
          case hQ2x25 => exact fun _ _ _ h => h
          case hy2x25 => first | exact Or.inl ⟨by rfl, by (intro w hSw; (try dsimp only at hSw); go_simp; try rfl)⟩ | exact Or.inr ⟨by rfl, rfl⟩
          case hS2x25 => assumption
          (try simp only [Act.put, List.setIfInBounds_toArray, List.set_cons_zero, List.set_cons_succ])
          refine' wpAnyH_take (i := 3) (v := ?v3x26) ?hi3x26 ?hs3x26 ?hf3x26 ?hr3x26 ?hQ3x26 ?hy3x26 ?hS3x26 ?rest3x26
          case hi3x26 => (simp only [List.getElem?_toArray, List.getElem?_cons_succ, List.getElem?_cons_zero]; try rfl)
          case hs3x26 => kernel_rfl
          case hf3x26 => kernel_rfl
          case hr3x26 => kernel_rfl
          case hQ3x26 => exact fun _ _ _ h => h
          case hy3x26 => first | exact Or.inl ⟨by rfl, by (intro w hSw; (try dsimp only at hSw); go_simp; try rfl)⟩ | exact Or.inr ⟨by rfl, rfl⟩
          case hS3x26 => assumption
          (try simp only [Act.put, List.setIfInBounds_toArray, List.set_cons_zero, List.set_cons_succ])
          refine' wpAnyH_take (i := 4) (v := ?v4x27) ?hi4x27 ?hs4x27 ?hf4x27 ?hr4x27 ?hQ4x27 ?hy4x27 ?hS4x27 ?rest4x27
          case hi4x27 => (simp only [List.getElem?_toArray, List.getElem?_cons_succ, List.getElem?_cons_zero]; try rfl)
          case hs4x27 => kernel_rfl
          case hf4x27 => kernel_rfl
          case hr4x27 => kernel_rfl
          case hQ4x27 => exact fun _ _ _ h => h
          case hy4x27 => first | exact Or.inl ⟨by rfl, by (intro w hSw; (try dsimp only at hSw); go_simp; try rfl)⟩ | exact Or.inr ⟨by rfl, rfl⟩
          case hS4x27 => assumption
          (try simp only [Act.put, List.setIfInBounds_toArray, List.set_cons_zero, List.set_cons_succ])
          refine' wpAnyH_take (i := 5) (v := ?v5x28) ?hi5x28 ?hs5x28 ?hf5x28 ?hr5x28 ?hQ5x28 ?hy5x28 ?hS5x28 ?rest5x28
          case hi5x28 => (simp only [List.getElem?_toArray, List.getElem?_cons_succ, List.getElem?_cons_zero]; try rfl)
          case hs5x28 => kernel_rfl
          case hf5x28 => kernel_rfl
          case hr5x28 => kernel_rfl
          case hQ5x28 => exact fun _ _ _ h => h
          case hy5x28 => first | exact Or.inl ⟨by rfl, by (intro w hSw; (try dsimp only at hSw); go_simp; try rfl)⟩ | exact Or.inr ⟨by rfl, rfl⟩
          case hS5x28 => assumption
          (try simp only [Act.put, List.setIfInBounds_toArray, List.set_cons_zero, List.set_cons_succ])
          refine' wpAnyH_take (i := 6) (v := ?v6x29) ?hi6x29 ?hs6x29 ?hf6x29 ?hr6x29 ?hQ6x29 ?hy6x29 ?hS6x29 ?rest6x29
          case hi6x29 => (simp only [List.getElem?_toArray, List.getElem?_cons_succ, List.getElem?_cons_zero]; try rfl)
          case hs6x29 => kernel_rfl
          case hf6x29 => kernel_rfl
          case hr6x29 => kernel_rfl
          case hQ6x29 => exact fun _ _ _ h => h
          case hy6x29 => first | exact Or.inl ⟨by rfl, by (intro w hSw; (try dsimp only at hSw); go_simp; try rfl)⟩ | exact Or.inr ⟨by rfl, rfl⟩
          case hS6x29 => assumption
          (try simp only [Act.put, List.setIfInBounds_toArray, List.set_cons_zero, List.set_cons_succ])
          refine' wpAnyH_take (i := 7) (v := ?v7x30) ?hi7x30 ?hs7x30 ?hf7x30 ?hr7x30 ?hQ7x30 ?hy7x30 ?hS7x30 ?rest7x30
          case hi7x30 => (simp only [List.getElem?_toArray, List.getElem?_cons_succ, List.getElem?_cons_zero]; try rfl)
          case hs7x30 => kernel_rfl
          case hf7x30 => kernel_rfl
          case hr7x30 => kernel_rfl
          case hQ7x30 => exact fun _ _ _ h => h
          case hy7x30 => first | exact Or.inl ⟨by rfl, by (intro w hSw; (try dsimp only at hSw); go_simp; try rfl)⟩ | exact Or.inr ⟨by rfl, rfl⟩
          case hS7x30 => assumption
          (try simp only [Act.put, List.setIfInBounds_toArray, List.set_cons_zero, List.set_cons_succ])
          refine' wpAnyH_take (i := 8) (v := ?v8x31) ?hi8x31 ?hs8x31 ?hf8x31 ?hr8x31 ?hQ8x31 ?hy8x31 ?hS8x31 ?rest8x31
          case hi8x31 => (simp only [List.getElem?_toArray, List.getElem?_cons_succ, List.getElem?_cons_zero]; try rfl)
          case hs8x31 => kernel_rfl
          case hf8x31 => kernel_rfl
          case hr8x31 => kernel_rfl
          case hQ8x31 => exact fun _ _ _ h => h
          case hy8x31 => first | exact Or.inl ⟨by rfl, by (intro w hSw; (try dsimp only at hSw); go_simp; try rfl)⟩ | exact Or.inr ⟨by rfl, rfl⟩
          case hS8x31 => assumption
          (try simp only [Act.put, List.setIfInBounds_toArray, List.set_cons_zero, List.set_cons_succ])
          refine' wpAnyH_take (i := 9) (v := ?v9x32) ?hi9x32 ?hs9x32 ?hf9x32 ?hr9x32 ?hQ9x32 ?hy9x32 ?hS9x32 ?rest9x32
          case hi9x32 => (simp only [List.getElem?_toArray, List.getElem?_cons_succ, List.getElem?_cons_zero]; try rfl)
          case hs9x32 => kernel_rfl
          case hf9x32 => kernel_rfl
          case hr9x32 => kernel_rfl
          case hQ9x32 => exact fun _ _ _ h => h
          case hy9x32 => first | exact Or.inl ⟨by rfl, by (intro w hSw; (try dsimp only at hSw); go_simp; try rfl)⟩ | exact Or.inr ⟨by rfl, rfl⟩
          case hS9x32 => assumption
          (try simp only [Act.put, List.setIfInBounds_toArray, List.set_cons_zero, List.set_cons_succ])
          refine' wpAnyH_take (i := 10) (v := ?v10x33) ?hi10x33 ?hs10x33 ?hf10x33 ?hr10x33 ?hQ10x33 ?hy10x33 ?hS10x33 ?rest10x33
          case hi10x33 => (simp only [List.getElem?_toArray, List.getElem?_cons_succ, List.getElem?_cons_zero]; try rfl)
          case hs10x33 => kernel_rfl
          case hf10x33 => kernel_rfl
          case hr10x33 => kernel_rfl
          case hQ10x33 => exact fun _ _ _ h => h
          case hy10x33 => first | exact Or.inl ⟨by rfl, by (intro w hSw; (try dsimp only at hSw); go_simp; try rfl)⟩ | exact Or.inr ⟨by rfl, rfl⟩
          case hS10x33 => assumption
          (try simp only [Act.put, List.setIfInBounds_toArray, List.set_cons_zero, List.set_cons_succ])
          refine' wpAnyH_take (i := 11) (v := ?v11x34) ?hi11x34 ?hs11x34 ?hf11x34 ?hr11x34 ?hQ11x34 ?hy11x34 ?hS11x34 ?rest11x34
          case hi11x34 => (simp only [List.getElem?_toArray, List.getElem?_cons_succ, List.getElem?_cons_zero]; try rfl)
          case hs11x34 => kernel_rfl
          case hf11x34 => kernel_rfl
          case hr11x34 => kernel_rfl
          case hQ11x34 => exact fun _ _ _ h => h
          case hy11x34 => first | exact Or.inl ⟨by rfl, by (intro w hSw; (try dsimp only at hSw); go_simp; try rfl)⟩ | exact Or.inr ⟨by rfl, rfl⟩
          case hS11x34 => assumption
          (try simp only [Act.put, List.setIfInBounds_toArray, List.set_cons_zero, List.set_cons_succ])
          refine wpAnyH_ready (rs := [12]) (by kernel_rfl) (by simp) ?_
          refine' (AllReadyH.cons (i := 12) ?ho12x35 (fun K hK => ?st12x35) AllReadyH.nil)
          case ho12x35 => (simp only [List.getElem?_toArray, List.getElem?_cons_succ, List.getElem?_cons_zero]; try rfl)
          case st12x35 =>
            go_simp
            refine (sign_any _ _ _).mono ?_; rw [hstH.out]; rintro e w1 ⟨rfl, hw1⟩; subst hw1
            refine hK.out _ _ ?_ (fun hHeld => ?_)
            · exact hHeld
            clear hK K
            (try simp only [Act.put, List.setIfInBounds_toArray, List.set_cons_zero, List.set_cons_succ])
            refine' wpAnyH_take (i := 13) (v := ?v13x36) ?hi13x36 ?hs13x36 ?hf13x36 ?hr13x36 ?hQ13x36 ?hy13x36 ?hS13x36 ?rest13x36
            case hi13x36 => (simp only [List.getElem?_toArray, List.getElem?_cons_succ, List.getElem?_cons_zero]; try rfl)
            case hs13x36 => kernel_rfl
            case hf13x36 => kernel_rfl
            case hr13x36 => kernel_rfl
            case hQ13x36 => exact fun _ _ _ h => h
            case hy13x36 => first | exact Or.inl ⟨by rfl, by (intro w hSw; (try dsimp only at hSw); go_simp; try rfl)⟩ | exact Or.inr ⟨by rfl, rfl⟩
            case hS13x36 => assumption
            (try simp only [Act.put, List.setIfInBounds_toArray, List.set_cons_zero, List.set_cons_succ])
            refine wpAnyH_done (by kernel_rfl) ?_ _
            refine NoPanic.normal ?_
            go_wp2_with fail
            go_roundw
            case rel => exact ⟨s, p + 1, rfl, by go_num, by omega, hs1H.out, hs2H.out, (by first | exact hbwH.out | exact hbwH.out.drew | go_grown)⟩
            case measure => simp [Go.RowKit.intOf]; omega
        · have hzb : (z == 0) = false := by simpa using hz0
          have hzr := Lib.hid (hz1H.out hz0)
          go_wp2_with fail
          go_ret
          exact ⟨ret_int hzr.out, hwWH.out.trans (hbwH.out.mono hwWH.out.size)⟩
      · have hfin : z = r := by
          by_cases hz0 : z = 0
          · obtain ⟨hnk, hcm⟩ := hz2H.out hz0
            rw [hz0, hcm, cmpW_end (by have := hnH.out; omega), if_neg (by have := hkH.out; omega)]
          · exact hz1H.out hz0
        have hfH := Lib.hid hfin
        clear hfin
        go_wp2_with fail
        go_ret
        exact ⟨ret_int hfH.out, hwWH.out.trans (hbwH.out.mono hwWH.out.size)⟩
  · have hr0 : u = r := by rw [← hrH.out]; unfold orI; rw [if_neg hu0]
    have hz := Lib.hid (And.intro (fun _ : u ≠ 0 => hr0) (fun h : u = 0 => (absurd h hu0 : n = k ∧ r = cmpW l m)))
    have hub : (u == 0) = false := by simpa using hu0
    clear hr0
    go_wp2_with fail
    clear hub
    go_loopw [5, 6] (fun c i wr => RelRC l m n k r W0 c i wr) (fun _ i _ => n - (Go.RowKit.intOf i).toNat)
    case atStart => exact ⟨u, 0, rfl, rfl, Nat.zero_le _, hz.out.1, hz.out.2, Below.refl _ _⟩
    case round =>
      unfold RelRC at hrel
      obtain ⟨z, p, rfl, rfl, hpn, hz1, hz2, hbw⟩ := hrel
      have hbwH := Lib.hid hbw; have hz1H := Lib.hid hz1; have hz2H := Lib.hid hz2
      have a0_ := (hAH.out.below hbw).cell 0 rfl; have a1_ := (hAH.out.below hbw).cell 1 rfl; have b0_ := (hBH.out.below hbw).cell 0 rfl; have b1_ := (hBH.out.below hbw).cell 1 rfl
      clear hbw hz1 hz2
      by_cases hp : p < n
      · by_cases hz0 : z = 0
        · subst hz0
          obtain ⟨hnk, hcm⟩ := hz2H.out rfl
          have h1 : p < l.length := by have := hnH.out; omega
          have h2 : p < m.length := by have := hkH.out; omega
          obtain ⟨ad, rfl, hba, ac_⟩ := (haH.out.below hbwH.out).at h1
          obtain ⟨bd, rfl, hbb, bc_⟩ := (hbH.out.below hbwH.out).at h2
          have hstep := cmpW_at h1 h2
          have u1 := u64_w32 _ (wlH.out.at h1); have u2 := u64_w32 _ (wmH.out.at h2)
          rw [← hcm] at hstep
          obtain ⟨x, hx⟩ : ∃ x, l[p] = x := ⟨_, rfl⟩
          obtain ⟨y, hy⟩ : ∃ y, m[p] = y := ⟨_, rfl⟩
          rw [hx] at ac_ u1
          rw [hy] at bc_ u2
          rw [hx, hy] at hstep
          obtain ⟨s, hs⟩ : ∃ s, c3 x y = s := ⟨_, rfl⟩
          rw [hs] at hstep
          have hs1 : s ≠ 0 → s = r := fun h => by rw [hstep, if_neg h]
          have hs2 : s = 0 → n = k ∧ r = cmpW (l.drop (p + 1)) (m.drop (p + 1)) := fun h => ⟨hnk, by rw [hstep, if_pos h]⟩
          have hstH := Lib.hid hs; have hs1H := Lib.hid hs1; have hs2H := Lib.hid hs2
          clear hstep hx hy h1 h2 hs hs1 hs2 hcm
          have hpk : p < k := by omega
          have hnkH := Lib.hid hnk
          clear hnk
          go_upto_region 7 with fail
          refine wp_region_noPanic ?_
          refine wp_region_held_drew (S := (fun w' => w'.cell? ⟨w.heap.size, 1, none⟩ = some (.slice (some ad) n ca) ∧ w'.cell? ⟨w.heap.size + 1, 1, none⟩ = some (.slice (some bd) k cb) ∧ w'.cell? (ad.add p) = some (.int .u32 x) ∧ w'.cell? (bd.add p) = some (.int .u32 y))) (by kernel_rfl) (⟨a1_, b1_, ac_, bc_⟩) (fun hHeld => ?_)
          refine' wpAnyH_take (i := 0) (v := ?v0x37) ?hi0x37 ?hs0x37 ?hf0x37 ?hr0x37 ?hQ0x37 ?hy0x37 ?hS0x37 ?rest0x37
          case hi0x37 => (simp only [List.getElem?_toArray, List.getElem?_cons_succ, List.getElem?_cons_zero]; try rfl)
          case hs0x37 => kernel_rfl
          case hf0x37 => kernel_rfl
          case hr0x37 => kernel_rfl
          case hQ0x37 => exact fun _ _ _ h => h
          case hy0x37 => first | exact Or.inl ⟨by rfl, by (intro w hSw; (try dsimp only at hSw); go_simp; try rfl)⟩ | exact Or.inr ⟨by rfl, rfl⟩
          case hS0x37 => assumption
          (try simp only [Act.put, List.setIfInBounds_toArray, List.set_cons_zero, List.set_cons_succ])
          refine' wpAnyH_take (i := 1) (v := ?v1x38) ?hi1x38 ?hs1x38 ?hf1x38 ?hr1x38 ?hQ1x38 ?hy1x38 ?hS1x38 ?rest1x38
          case hi1x38 => (simp only [List.getElem?_toArray, List.getElem?_cons_succ, List.getElem?_cons_zero]; try rfl)
          case hs1x38 => kernel_rfl
          case hf1x38 => kernel_rfl
          case hr1x38 => kernel_rfl
          case hQ1x38 => exact fun _ _ _ h => h
          case hy1x38 => first | exact Or.inl ⟨by rfl, by (intro w hSw; (try dsimp only at hSw); go_simp; try rfl)⟩ | exact Or.inr ⟨by rfl, rfl⟩
          case hS1x38 => assumption
          (try simp only [Act.put, List.setIfInBounds_toArray, List.set_cons_zero, List.set_cons_succ])
          refine' wpAnyH_take (i := 2) (v := ?v2x39) ?hi2x39 ?hs2x39 ?hf2x39 ?hr2x39 ?hQ2x39 ?hy2x39 ?hS2x39 ?rest2x39
          case hi2x39 => (simp only [List.getElem?_toArray, List.getElem?_cons_succ, List.getElem?_cons_zero]; try rfl)
          case hs2x39 => kernel_rfl
          case hf2x39 => kernel_rfl
          case hr2x39 => kernel_rfl
          case hQ2x39 => exact fun _ _ _ h => h
          case hy2x39 => first | exact Or.inl ⟨by rfl, by (intro w hSw; (try dsimp only at hSw); go_simp; try rfl)⟩ | exact Or.inr ⟨by rfl, rfl⟩
          case hS2x39 => assumption
          (try simp only [Act.put, List.setIfInBounds_toArray, List.set_cons_zero, List.set_cons_succ])
          refine' wpAnyH_take (i := 3) (v := ?v3x40) ?hi3x40 ?hs3x40 ?hf3x40 ?hr3x40 ?hQ3x40 ?hy3x40 ?hS3x40 ?rest3x40
          case hi3x40 => (simp only [List.getElem?_toArray, List.getElem?_cons_succ, List.getElem?_cons_zero]; try rfl)
          case hs3x40 => kernel_rfl
          case hf3x40 => kernel_rfl
          case hr3x40 => kernel_rfl
          case hQ3x40 => exact fun _ _ _ h => h
          case hy3x40 => first | exact Or.inl ⟨by rfl, by (intro w hSw; (try dsimp only at hSw); go_simp; try rfl)⟩ | exact Or.inr ⟨by rfl, rfl⟩
          case hS3x40 => assumption
          (try simp only [Act.put, List.setIfInBounds_toArray, List.set_cons_zero, List.set_cons_succ])
          refine' wpAnyH_take (i := 4) (v := ?v4x41) ?hi4x41 ?hs4x41 ?hf4x41 ?hr4x41 ?hQ4x41 ?hy4x41 ?hS4x41 ?rest4x41
          case hi4x41 => (simp only [List.getElem?_toArray, List.getElem?_cons_succ, List.getElem?_cons_zero]; try rfl)
          case hs4x41 => kernel_rfl
          case hf4x41 => kernel_rfl
          case hr4x41 => kernel_rfl
          case hQ4x41 => exact fun _ _ _ h => h
          case hy4x41 => first | exact Or.inl ⟨by rfl, by (intro w hSw; (try dsimp only at hSw); go_simp; try rfl)⟩ | exact Or.inr ⟨by rfl, rfl⟩
          case hS4x41 => assumption
          (try simp only [Act.put, List.setIfInBounds_toArray, List.set_cons_zero, List.set_cons_succ])
          refine' wpAnyH_take (i := 5) (v := ?v5x42) ?hi5x42 ?hs5x42 ?hf5x42 ?hr5x42 ?hQ5x42 ?hy5x42 ?hS5x42 ?rest5x42
          case hi5x42 => (simp only [List.getElem?_toArray, List.getElem?_cons_succ, List.getElem?_cons_zero]; try rfl)
          case hs5x42 => kernel_rfl
          case hf5x42 => kernel_rfl
          case hr5x42 => kernel_rfl
          case hQ5x42 => exact fun _ _ _ h => h
          case hy5x42 => first | exact Or.inl ⟨by rfl, by (intro w hSw; (try dsimp only at hSw); go_simp; try rfl)⟩ | exact Or.inr ⟨by rfl, rfl⟩
          case hS5x42 => assumption
          (try simp only [Act.put, List.setIfInBounds_toArray, List.set_cons_zero, List.set_cons_succ])
          refine' wpAnyH_take (i := 6) (v := ?v6x43) ?hi6x43 ?hs6x43 ?hf6x43 ?hr6x43 ?hQ6x43 ?hy6x43 ?hS6x43 ?rest6x43
          case hi6x43 => (simp only [List.getElem?_toArray, List.getElem?_cons_succ, List.getElem?_cons_zero]; try rfl)
          case hs6x43 => kernel_rfl
          case hf6x43 => kernel_rfl
          case hr6x43 => kernel_rfl
          case hQ6x43 => exact fun _ _ _ h => h
          case hy6x43 => first | exact Or.inl ⟨by rfl, by (intro w hSw; (try dsimp only at hSw); go_simp; try rfl)⟩ | exact Or.inr ⟨by rfl, rfl⟩
          case hS6x43 => assumption
          (try simp only [Act.put, List.setIfInBounds_toArray, List.set_cons_zero, List.set_cons_succ])
          refine' wpAnyH_take (i := 7) (v := ?v7x44) ?hi7x44 ?hs7x44 ?hf7x44 ?hr7x44 ?hQ7x44 ?hy7x44 ?hS7x44 ?rest7x44
          case hi7x44 => (simp only [List.getElem?_toArray, List.getElem?_cons_succ, List.getElem?_cons_zero]; try rfl)
          case hs7x44 => kernel_rfl
          case hf7x44 => kernel_rfl
          case hr7x44 => kernel_rfl
          case hQ7x44 => exact fun _ _ _ h => h
          case hy7x44 => first | exact Or.inl ⟨by rfl, by (intro w hSw; (try dsimp only at hSw); go_simp; try rfl)⟩ | exact Or.inr ⟨by rfl, rfl⟩
          case hS7x44 => assumption
          (try simp only [Act.put, List.setIfInBounds_toArray, List.set_cons_zero, List.set_cons_succ])
          refine' wpAnyH_take (i := 8) (v := ?v8x45) ?hi8x45 ?hs8x45 ?hf8x45 ?hr8x45 ?hQ8x45 ?hy8x45 ?hS8x45 ?rest8x45
          case hi8x45 => (simp only [List.getElem?_toArray, List.getElem?_cons_succ, List.getElem?_cons_zero]; try rfl)
          case hs8x45 => kernel_rfl
          case hf8x45 => kernel_rfl
          case hr8x45 => kernel_rfl
          case hQ8x45 => exact fun _ _ _ h => h
          case hy8x45 => first | exact Or.inl ⟨by rfl, by (intro w hSw; (try dsimp only at hSw); go_simp; try rfl)⟩ | exact Or.inr ⟨by rfl, rfl⟩
          case hS8x45 => assumption
          (try simp only [Act.put, List.setIfInBounds_toArray, List.set_cons_zero, List.set_cons_succ])
          refine' wpAnyH_take (i := 9) (v := ?v9x46) ?hi9x46 ?hs9x46 ?hf9x46 ?hr9x46 ?hQ9x46 ?hy9x46 ?hS9x46 ?rest9x46
          case hi9x46 => (simp only [List.getElem?_toArray, List.getElem?_cons_succ, List.getElem?_cons_zero]; try rfl)
          case hs9x46 => kernel_rfl
          case hf9x46 => kernel_rfl
          case hr9x46 => kernel_rfl
          case hQ9x46 => exact fun _ _ _ h => h
          case hy9x46 => first | exact Or.inl ⟨by rfl, by (intro w hSw; (try dsimp only at hSw); go_simp; try rfl)⟩ | exact Or.inr ⟨by rfl, rfl⟩
          case hS9x46 => assumption
          (try simp only [Act.put, List.setIfInBounds_toArray, List.set_cons_zero, List.set_cons_succ])
          refine' wpAnyH_take (i := 10) (v := ?v10x47) ?hi10x47 ?hs10x47 ?hf10x47 ?hr10x47 ?hQ10x47 ?hy10x47 ?hS10x47 ?rest10x47
          case hi10x47 => (simp only [List.getElem?_toArray, List.getElem?_cons_succ, List.getElem?_cons_zero]; try rfl)
          case hs10x47 => kernel_rfl
          case hf10x47 => kernel_rfl
          case hr10x47 => kernel_rfl
          case hQ10x47 => exact fun _ _ _ h => h
          case hy10x47 => first | exact Or.inl ⟨by rfl, by (intro w hSw; (try dsimp only at hSw); go_simp; try rfl)⟩ | exact Or.inr ⟨by rfl, rfl⟩
          case hS10x47 => assumption
          (try simp only [Act.put, List.setIfInBounds_toArray, List.set_cons_zero, List.set_cons_succ])
          refine' wpAnyH_take (i := 11) (v := ?v11x48) ?hi11x48 ?hs11x48 ?hf11x48 ?hr11x48 ?hQ11x48 ?hy11x48 ?hS11x48 ?rest11x48
          case hi11x48 => (simp only [List.getElem?_toArray, List.getElem?_cons_succ, List.getElem?_cons_zero]; try rfl)
          case hs11x48 => kernel_rfl
          case hf11x48 => kernel_rfl
          case hr11x48 => kernel_rfl
          case hQ11x48 => exact fun _ _ _ h => h
          case hy11x48 => first | exact Or.inl ⟨by rfl, by (intro w hSw; (try dsimp only at hSw); go_simp; try rfl)⟩ | exact Or.inr ⟨by rfl, rfl⟩
          case hS11x48 => assumption
          (try simp only [Act.put, List.setIfInBounds_toArray, List.set_cons_zero, List.set_cons_succ])
          refine wpAnyH_ready (rs := [12]) (by kernel_rfl) (by simp) ?_
          refine' (AllReadyH.cons (i := 12) ?ho12x49 (fun K hK => ?st12x49) AllReadyH.nil)
          case ho12x49 => (simp only [List.getElem?_toArray, List.getElem?_cons_succ, List.getElem?_cons_zero]; try rfl)
          case st12x49 =>
            go_simp
            refine (sign_any _ _ _).mono ?_; rw [hstH.out]; rintro e w1 ⟨rfl, hw1⟩; subst hw1
            refine hK.out _ _ ?_ (fun hHeld => ?_)
            · exact hHeld
            clear hK K
            (try simp only [Act.put, List.setIfInBounds_toArray, List.set_cons_zero, List.set_cons_succ])
            refine' wpAnyH_take (i := 13) (v := ?v13x50) ?hi13x50 ?hs13x50 ?hf13x50 ?hr13x50 ?hQ13x50 ?hy13x50 ?hS13x50 ?rest13x50
            case hi13x50 => (simp only [List.getElem?_toArray, List.getElem?_cons_succ, List.getElem?_cons_zero]; try rfl)
            case hs13x50 => kernel_rfl
            case hf13x50 => kernel_rfl
            case hr13x50 => kernel_rfl
            case hQ13x50 => exact fun _ _ _ h => h
            case hy13x50 => first | exact Or.inl ⟨by rfl, by (intro w hSw; (try dsimp only at hSw); go_simp; try rfl)⟩ | exact Or.inr ⟨by rfl, rfl⟩
            case hS13x50 => assumption
            (try simp only [Act.put, List.setIfInBounds_toArray, List.set_cons_zero, List.set_cons_succ])
            refine wpAnyH_done (by kernel_rfl) ?_ _
            refine NoPanic.normal ?_
            go_wp2_with fail
            go_roundw
            case rel => exact ⟨s, p + 1, rfl, by go_num, by omega, hs1H.out, hs2H.out, (by first | exact hbwH.out | exact hbwH.out.drew | go_grown)⟩
            case measure => simp [Go.RowKit.intOf]; omega
        · have hzb : (z == 0) = false := by simpa using hz0
          have hzr := Lib.hid (hz1H.out hz0)
          go_wp2_with fail
          go_ret
          exact ⟨ret_int hzr.out, hwWH.out.trans (hbwH.out.mono hwWH.out.size)⟩
      · have hfin : z = r := by
          by_cases hz0 : z = 0
          · obtain ⟨hnk, hcm⟩ := hz2H.out hz0
            rw [hz0, hcm, cmpW_end (by have := hnH.out; omega), if_neg (by have := hkH.out; omega)]
          · exact hz1H.out hz0
        have hfH := Lib.hid hfin
        clear hfin
        go_wp2_with fail
        go_ret
        exact ⟨ret_int hfH.out, hwWH.out.trans (hbwH.out.mono hwWH.out.size)⟩

end Go.Proofs.YtdfhchpimpbgfaaGreatDoor
