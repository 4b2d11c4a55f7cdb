/-
  The library's BinarySearchFunc at times; the times of one antichain that another one has not, at this program. Conditions: those written.
-/
import Derived.Test.YtdfhchpimpbgfaaGreatDoorChH
import Derived.Test.YtdfhchpimpbgfaaGreatDoorChJ
import Derived.Test.YtdfhchpimpbgfaaGreatDoorStCmpT
import Derived.IntWalk
import Derived.Deep.RegionHeld3
import Derived.LoopTactic
import Derived.BigQuiet
set_option linter.unusedVariables false
set_option linter.unusedSimpArgs false
namespace Go.Proofs.YtdfhchpimpbgfaaGreatDoor
open Go.RowKit Go.Lib Go.Proofs

/-- What the rounds hold: ahead of i all are less, from j on none is. -/
def RelBs (ds : List Tm) (u : Tm) (n : Nat) (w0 : World) (s9 s10 : Value) (wr : World) : Prop :=
  ∃ i j : Nat, s9 = .int .i64 (i : Int) ∧ s10 = .int .i64 (j : Int) ∧ i ≤ j ∧ j ≤ n ∧ (∀ k x, k < i → ds[k]? = some x → cmpT x u < 0) ∧ (∀ k x, j ≤ k → ds[k]? = some x → 0 ≤ cmpT x u) ∧ Below w0.heap.size w0 wr
theorem bs_low {ds : List Tm} {u : Tm} {h : Nat} {x : Tm} (hs : ds.Pairwise fun a b => cmpT a b < 0) (hx : ds[h]? = some x) (hc : cmpT x u < 0) : ∀ k y, k < h + 1 → ds[k]? = some y → cmpT y u < 0 := by
  intro k y hk hy
  rcases Nat.lt_or_ge k h with hk' | hk'
  · obtain ⟨h1, e1⟩ := List.getElem?_eq_some_iff.1 hx
    obtain ⟨h2, e2⟩ := List.getElem?_eq_some_iff.1 hy
    have := (List.pairwise_iff_getElem.1 hs) k h h2 h1 hk'
    rw [e1, e2] at this
    exact cmpT_trans this hc
  · have : k = h := by omega
    subst this
    rw [hx] at hy
    cases hy
    exact hc
theorem bs_high {ds : List Tm} {u : Tm} {h : Nat} {x : Tm} (hs : ds.Pairwise fun a b => cmpT a b < 0) (hx : ds[h]? = some x) (hc : ¬ cmpT x u < 0) : ∀ k y, h ≤ k → ds[k]? = some y → 0 ≤ cmpT y u := by
  intro k y hk hy
  refine Int.not_lt.1 fun hlt => ?_
  rcases Nat.lt_or_ge h k with hk' | hk'
  · obtain ⟨h1, e1⟩ := List.getElem?_eq_some_iff.1 hx
    obtain ⟨h2, e2⟩ := List.getElem?_eq_some_iff.1 hy
    have := (List.pairwise_iff_getElem.1 hs) h k h1 h2 hk'
    rw [e1, e2] at this
    exact hc (cmpT_trans this hlt)
  · have : k = h := by omega
    subst this
    rw [hx] at hy
    cases hy
    exact hc hlt
theorem bs_at {ds : List Tm} {u : Tm} {i : Nat} {x : Tm} (hs : ds.Pairwise fun a b => cmpT a b < 0) (h1 : ∀ k x, k < i → ds[k]? = some x → cmpT x u < 0) (h2 : ∀ k x, i ≤ k → ds[k]? = some x → 0 ≤ cmpT x u) (hx : ds[i]? = some x) : hasT ds u = decide (cmpT x u = 0) := by
  by_cases e : cmpT x u = 0
  · rw [decide_eq_true e, hasT_iff, ← cmpT_zero e]
    exact List.mem_of_getElem? hx
  · rw [decide_eq_false e]
    cases hh : hasT ds u
    · rfl
    · exfalso
      obtain ⟨k, hk, ek⟩ := List.mem_iff_getElem.1 (hasT_iff.1 hh)
      have hku : ds[k]? = some u := by rw [List.getElem?_eq_getElem hk, ek]
      rcases Nat.lt_trichotomy k i with h | h | h
      · have := h1 k u h hku
        rw [cmpT_refl] at this; omega
      · subst h
        rw [hx] at hku
        cases hku
        exact e (cmpT_refl _)
      · obtain ⟨l1, e1⟩ := List.getElem?_eq_some_iff.1 hx
        have := (List.pairwise_iff_getElem.1 hs) i k l1 hk h
        rw [e1, ek] at this
        exact absurd this (Int.not_lt.2 (h2 i x (Nat.le_refl _) hx))
theorem bs_none {ds : List Tm} {u : Tm} (h1 : ∀ k x, k < ds.length → ds[k]? = some x → cmpT x u < 0) : hasT ds u = false := by
  cases hh : hasT ds u
  · rfl
  · exfalso
    obtain ⟨k, hk, ek⟩ := List.mem_iff_getElem.1 (hasT_iff.1 hh)
    have := h1 k u hk (by rw [List.getElem?_eq_getElem hk, ek])
    rw [cmpT_refl] at this; omega
set_option maxHeartbeats 8000000 in
set_option maxRecDepth 1000000 in
theorem binT_any (v : Value) (ds : List Td) (u : Td) (w : World) (h : TmsV w v ds) (hu : WordsV w (slD u) u.t.l) (hs : (tmsD ds).Pairwise fun a b => cmpT a b < 0) (hn : ds.length ≤ 1000000) :
    Calls Tryz.prog 94 #[v, valT u, .func (.func 42) #[] #[]] w fun e w' => (∃ i, e = .returned (.tuple #[.int .i64 i, .bool (hasT (tmsD ds) u.t)])) ∧ Below w.heap.size w w' := by
  obtain ⟨W0, hW0, hwW, hA, hzz⟩ := boxes1 w (cellsT u) 26
  obtain ⟨A, n, c, rfl, hlen, hnc, hc⟩ := h.form
  have hH := Lib.hid (h.below hwW); have huH := Lib.hid (hu.below hwW); have hAH := Lib.hid hA; have hwWH := Lib.hid hwW; have hsH := Lib.hid hs; have hlenH := Lib.hid hlen
  have hnb : n ≤ 1000000 := by omega
  obtain ⟨uA, uc, ⟨ue, ul⟩⟩ := u
  obtain ⟨z, hz⟩ : ∃ z, hasT (tmsD ds) ⟨ue, ul⟩ = z := ⟨_, rfl⟩
  have hzH := Lib.hid hz
  simp only [valT]
  rw [hz]
  have hW0' : w.alloc (.cells #[.int .u64 ue, .slice uA ul.length uc] 26) = W0 := hW0
  clear h hu hA hwW hs hlen hz hn hW0
  go_enter Tryz.func94, Tryz.ntmps94
  go_wp2_with fail
  go_loopw [9, 10, 11] (fun s9 s10 s11 wr => RelBs (tmsD ds) ⟨ue, ul⟩ n W0 s9 s10 wr) (fun s9 s10 _ _ => (Go.RowKit.intOf s10).toNat - (Go.RowKit.intOf s9).toNat)
  case atStart => exact ⟨0, n, rfl, rfl, Nat.zero_le _, Nat.le_refl _, fun k x hk => by omega, fun k x hk hx => by have h1 := (List.getElem?_eq_some_iff.1 hx).1; simp only [tmsD, List.length_map] at h1; have := hlenH.out; omega, Below.refl _ _⟩
  case round =>
    unfold RelBs at hrel
    obtain ⟨i, j, rfl, rfl, hij, hjn, hlo, hhi, hbw⟩ := hrel
    have hloH := Lib.hid hlo; have hhiH := Lib.hid hhi; have hbwH := Lib.hid hbw
    clear hlo hhi hbw
    have hB := Lib.hid (hAH.out.below hbwH.out)
    have u0_ := hB.out.cell 0 rfl; have u1_ := hB.out.cell 1 rfl; have ul_ := hB.out.lt
    have hur := Lib.hid (huH.out.below hbwH.out)
    simp only at u0_ u1_
    by_cases hlt : i < j
    · obtain ⟨h, hh⟩ : ∃ h, (i + j) / 2 = h := ⟨_, rfl⟩
      have hih : i ≤ h := by omega
      have hhj : h < j := by omega
      have hhn : h < n := by omega
      have hmid : ((i : Int) + (j : Int)) / 2 = (h : Int) := by omega
      obtain ⟨x, hx⟩ : ∃ d, ds[h]? = some d := ⟨_, List.getElem?_eq_getElem (by have := hlenH.out; omega)⟩
      obtain ⟨ad, rfl, hba, a0_, a1_⟩ := (hH.out.below hbwH.out).at hx
      have hxr := Lib.hid ((hH.out.2 x (List.mem_of_getElem? hx)).below hbwH.out)
      have hxH := Lib.hid (tms_at hx)
      clear hx hh
      obtain ⟨xA, xc, ⟨xe, xl⟩⟩ := x
      simp only at a0_ a1_
      obtain ⟨q, hq⟩ : ∃ q, cmpT (⟨xe, xl⟩ : Tm) ⟨ue, ul⟩ = q := ⟨_, rfl⟩
      have hcH := Lib.hid hq
      clear hq
      go_wp2_with fail
      by_cases hneg : q < 0
      · have hd : decide (q < 0) = true := decide_eq_true hneg
        have hlo2 := Lib.hid (bs_low hsH.out hxH.out (by rw [hcH.out]; exact hneg))
        clear hneg
        refine wp_region_noPanic ?_
        refine wp_region_held_drew (S := (fun w' => w'.cell? (ad.add (h * 2)) = some (.int .u64 xe) ∧ w'.cell? ⟨(ad.add (h * 2)).block, (ad.add (h * 2)).off + 1, none⟩ = some (.slice xA xl.length xc) ∧ w'.cell? ⟨w.heap.size, 0, none⟩ = some (.int .u64 ue) ∧ w'.cell? ⟨w.heap.size, 1, none⟩ = some (.slice uA ul.length uc))) (by kernel_rfl) (⟨a0_, a1_, u0_, u1_⟩) (fun hHeld => ?_)
        refine' wpAnyH_take (i := 0) (v := ?v0x1) ?hi0x1 ?hs0x1 ?hf0x1 ?hr0x1 ?hQ0x1 ?hy0x1 ?hS0x1 ?rest0x1
        case hi0x1 => (simp only [List.getElem?_toArray, List.getElem?_cons_succ, List.getElem?_cons_zero]; try rfl)
        case hs0x1 => kernel_rfl
        case hf0x1 => kernel_rfl
        case hr0x1 => kernel_rfl
        case hQ0x1 => exact fun _ _ _ h => h
        case hy0x1 => first | exact Or.inl ⟨by rfl, by (intro w hSw; (try dsimp only at hSw); go_simp; try rfl)⟩ | exact Or.inr ⟨by rfl, rfl⟩
        case hS0x1 => assumption
        (try simp only [Act.put, List.setIfInBounds_toArray, List.set_cons_zero, List.set_cons_succ])
        refine' wpAnyH_take (i := 1) (v := ?v1x2) ?hi1x2 ?hs1x2 ?hf1x2 ?hr1x2 ?hQ1x2 ?hy1x2 ?hS1x2 ?rest1x2
        case hi1x2 => (simp only [List.getElem?_toArray, List.getElem?_cons_succ, List.getElem?_cons_zero]; try rfl)
        case hs1x2 => kernel_rfl
        case hf1x2 => kernel_rfl
        case hr1x2 => kernel_rfl
        case hQ1x2 => exact fun _ _ _ h => h
        case hy1x2 => first | exact Or.inl ⟨by rfl, by (intro w hSw; (try dsimp only at hSw); go_simp; try rfl)⟩ | exact Or.inr ⟨by rfl, rfl⟩
        case hS1x2 => assumption
        (try simp only [Act.put, List.setIfInBounds_toArray, List.set_cons_zero, List.set_cons_succ])
        refine' wpAnyH_take (i := 2) (v := ?v2x3) ?hi2x3 ?hs2x3 ?hf2x3 ?hr2x3 ?hQ2x3 ?hy2x3 ?hS2x3 ?rest2x3
        case hi2x3 => (simp only [List.getElem?_toArray, List.getElem?_cons_succ, List.getElem?_cons_zero]; try rfl)
        case hs2x3 => kernel_rfl
        case hf2x3 => kernel_rfl
        case hr2x3 => kernel_rfl
        case hQ2x3 => exact fun _ _ _ h => h
        case hy2x3 => first | exact Or.inl ⟨by rfl, by (intro w hSw; (try dsimp only at hSw); go_simp; try rfl)⟩ | exact Or.inr ⟨by rfl, rfl⟩
        case hS2x3 => assumption
        (try simp only [Act.put, List.setIfInBounds_toArray, List.set_cons_zero, List.set_cons_succ])
        refine' wpAnyH_take (i := 3) (v := ?v3x4) ?hi3x4 ?hs3x4 ?hf3x4 ?hr3x4 ?hQ3x4 ?hy3x4 ?hS3x4 ?rest3x4
        case hi3x4 => (simp only [List.getElem?_toArray, List.getElem?_cons_succ, List.getElem?_cons_zero]; try rfl)
        case hs3x4 => kernel_rfl
        case hf3x4 => kernel_rfl
        case hr3x4 => kernel_rfl
        case hQ3x4 => exact fun _ _ _ h => h
        case hy3x4 => first | exact Or.inl ⟨by rfl, by (intro w hSw; (try dsimp only at hSw); go_simp; try rfl)⟩ | exact Or.inr ⟨by rfl, rfl⟩
        case hS3x4 => assumption
        (try simp only [Act.put, List.setIfInBounds_toArray, List.set_cons_zero, List.set_cons_succ])
        refine' wpAnyH_take (i := 4) (v := ?v4x5) ?hi4x5 ?hs4x5 ?hf4x5 ?hr4x5 ?hQ4x5 ?hy4x5 ?hS4x5 ?rest4x5
        case hi4x5 => (simp only [List.getElem?_toArray, List.getElem?_cons_succ, List.getElem?_cons_zero]; try rfl)
        case hs4x5 => kernel_rfl
        case hf4x5 => kernel_rfl
        case hr4x5 => kernel_rfl
        case hQ4x5 => exact fun _ _ _ h => h
        case hy4x5 => first | exact Or.inl ⟨by rfl, by (intro w hSw; (try dsimp only at hSw); go_simp; try rfl)⟩ | exact Or.inr ⟨by rfl, rfl⟩
        case hS4x5 => assumption
        (try simp only [Act.put, List.setIfInBounds_toArray, List.set_cons_zero, List.set_cons_succ])
        refine' wpAnyH_take (i := 5) (v := ?v5x6) ?hi5x6 ?hs5x6 ?hf5x6 ?hr5x6 ?hQ5x6 ?hy5x6 ?hS5x6 ?rest5x6
        case hi5x6 => (simp only [List.getElem?_toArray, List.getElem?_cons_succ, List.getElem?_cons_zero]; try rfl)
        case hs5x6 => kernel_rfl
        case hf5x6 => kernel_rfl
        case hr5x6 => kernel_rfl
        case hQ5x6 => exact fun _ _ _ h => h
        case hy5x6 => first | exact Or.inl ⟨by rfl, by (intro w hSw; (try dsimp only at hSw); go_simp; try rfl)⟩ | exact Or.inr ⟨by rfl, rfl⟩
        case hS5x6 => assumption
        (try simp only [Act.put, List.setIfInBounds_toArray, List.set_cons_zero, List.set_cons_succ])
        refine wpAnyH_ready (rs := [6]) (by kernel_rfl) (by simp) ?_
        refine' (AllReadyH.cons (i := 6) ?ho6x7 (fun K hK => ?st6x7) AllReadyH.nil)
        case ho6x7 => (simp only [List.getElem?_toArray, List.getElem?_cons_succ, List.getElem?_cons_zero]; try rfl)
        case st6x7 =>
          go_simp
          refine (stampCmp_any _ _ ⟨xe, xl⟩ ⟨ue, ul⟩ wr.drew ⟨_, rfl, hxr.out⟩ ⟨_, rfl, hur.out⟩).mono ?_
          rw [hcH.out]
          rintro e w2 ⟨rfl, hb2⟩
          have hq2 : Below wr.heap.size wr w2 := chainB (Below.refl _ _).drew hb2 (Nat.le_refl _)
          have hbn := Lib.hid (chainB hbwH.out hq2 hbwH.out.size)
          refine hK.out _ _ ?_ (fun hHeld => ?_)
          · exact ⟨(hq2.cell (p := ad.add (h * 2)) hba).trans a0_, (hq2.cell (p := ⟨(ad.add (h * 2)).block, (ad.add (h * 2)).off + 1, none⟩) hba).trans a1_, (hq2.cell (p := ⟨w.heap.size, 0, none⟩) ul_).trans u0_, (hq2.cell (p := ⟨w.heap.size, 1, none⟩) ul_).trans u1_⟩
          clear hK K
          (try simp only [Act.put, List.setIfInBounds_toArray, List.set_cons_zero, List.set_cons_succ])
          refine' wpAnyH_take (i := 7) (v := ?v7x8) ?hi7x8 ?hs7x8 ?hf7x8 ?hr7x8 ?hQ7x8 ?hy7x8 ?hS7x8 ?rest7x8
          case hi7x8 => (simp only [List.getElem?_toArray, List.getElem?_cons_succ, List.getElem?_cons_zero]; try rfl)
          case hs7x8 => kernel_rfl
          case hf7x8 => kernel_rfl
          case hr7x8 => kernel_rfl
          case hQ7x8 => exact fun _ _ _ h => h
          case hy7x8 => first | exact Or.inl ⟨by rfl, by (intro w hSw; (try dsimp only at hSw); go_simp; try rfl)⟩ | exact Or.inr ⟨by rfl, rfl⟩
          case hS7x8 => assumption
          (try simp only [Act.put, List.setIfInBounds_toArray, List.set_cons_zero, List.set_cons_succ])
          refine wpAnyH_done (by kernel_rfl) ?_ _
          refine NoPanic.normal ?_
          go_wp2_with fail
          go_roundw
          case rel => exact ⟨h + 1, j, by go_num, rfl, by omega, hjn, hlo2.out, hhiH.out, hbn.out⟩
          case measure => simp [Go.RowKit.intOf]; omega

      · have hd : decide (q < 0) = false := decide_eq_false hneg
        have hhi2 := Lib.hid (bs_high hsH.out hxH.out (by rw [hcH.out]; exact hneg))
        clear hneg
        refine wp_region_noPanic ?_
        refine wp_region_held_drew (S := (fun w' => w'.cell? (ad.add (h * 2)) = some (.int .u64 xe) ∧ w'.cell? ⟨(ad.add (h * 2)).block, (ad.add (h * 2)).off + 1, none⟩ = some (.slice xA xl.length xc) ∧ w'.cell? ⟨w.heap.size, 0, none⟩ = some (.int .u64 ue) ∧ w'.cell? ⟨w.heap.size, 1, none⟩ = some (.slice uA ul.length uc))) (by kernel_rfl) (⟨a0_, a1_, u0_, u1_⟩) (fun hHeld => ?_)
        refine' wpAnyH_take (i := 0) (v := ?v0x9) ?hi0x9 ?hs0x9 ?hf0x9 ?hr0x9 ?hQ0x9 ?hy0x9 ?hS0x9 ?rest0x9
        case hi0x9 => (simp only [List.getElem?_toArray, List.getElem?_cons_succ, List.getElem?_cons_zero]; try rfl)
        case hs0x9 => kernel_rfl
        case hf0x9 => kernel_rfl
        case hr0x9 => kernel_rfl
        case hQ0x9 => exact fun _ _ _ h => h
        case hy0x9 => first | exact Or.inl ⟨by rfl, by (intro w hSw; (try dsimp only at hSw); go_simp; try rfl)⟩ | exact Or.inr ⟨by rfl, rfl⟩
        case hS0x9 => assumption
        (try simp only [Act.put, List.setIfInBounds_toArray, List.set_cons_zero, List.set_cons_succ])
        refine' wpAnyH_take (i := 1) (v := ?v1x10) ?hi1x10 ?hs1x10 ?hf1x10 ?hr1x10 ?hQ1x10 ?hy1x10 ?hS1x10 ?rest1x10
        case hi1x10 => (simp only [List.getElem?_toArray, List.getElem?_cons_succ, List.getElem?_cons_zero]; try rfl)
        case hs1x10 => kernel_rfl
        case hf1x10 => kernel_rfl
        case hr1x10 => kernel_rfl
        case hQ1x10 => exact fun _ _ _ h => h
        case hy1x10 => first | exact Or.inl ⟨by rfl, by (intro w hSw; (try dsimp only at hSw); go_simp; try rfl)⟩ | exact Or.inr ⟨by rfl, rfl⟩
        case hS1x10 => assumption
        (try simp only [Act.put, List.setIfInBounds_toArray, List.set_cons_zero, List.set_cons_succ])
        refine' wpAnyH_take (i := 2) (v := ?v2x11) ?hi2x11 ?hs2x11 ?hf2x11 ?hr2x11 ?hQ2x11 ?hy2x11 ?hS2x11 ?rest2x11
        case hi2x11 => (simp only [List.getElem?_toArray, List.getElem?_cons_succ, List.getElem?_cons_zero]; try rfl)
        case hs2x11 => kernel_rfl
        case hf2x11 => kernel_rfl
        case hr2x11 => kernel_rfl
        case hQ2x11 => exact fun _ _ _ h => h
        case hy2x11 => first | exact Or.inl ⟨by rfl, by (intro w hSw; (try dsimp only at hSw); go_simp; try rfl)⟩ | exact Or.inr ⟨by rfl, rfl⟩
        case hS2x11 => assumption
        (try simp only [Act.put, List.setIfInBounds_toArray, List.set_cons_zero, List.set_cons_succ])
        refine' wpAnyH_take (i := 3) (v := ?v3x12) ?hi3x12 ?hs3x12 ?hf3x12 ?hr3x12 ?hQ3x12 ?hy3x12 ?hS3x12 ?rest3x12
        case hi3x12 => (simp only [List.getElem?_toArray, List.getElem?_cons_succ, List.getElem?_cons_zero]; try rfl)
        case hs3x12 => kernel_rfl
        case hf3x12 => kernel_rfl
        case hr3x12 => kernel_rfl
        case hQ3x12 => exact fun _ _ _ h => h
        case hy3x12 => first | exact Or.inl ⟨by rfl, by (intro w hSw; (try dsimp only at hSw); go_simp; try rfl)⟩ | exact Or.inr ⟨by rfl, rfl⟩
        case hS3x12 => assumption
        (try simp only [Act.put, List.setIfInBounds_toArray, List.set_cons_zero, List.set_cons_succ])
        refine' wpAnyH_take (i := 4) (v := ?v4x13) ?hi4x13 ?hs4x13 ?hf4x13 ?hr4x13 ?hQ4x13 ?hy4x13 ?hS4x13 ?rest4x13
        case hi4x13 => (simp only [List.getElem?_toArray, List.getElem?_cons_succ, List.getElem?_cons_zero]; try rfl)
        case hs4x13 => kernel_rfl
        case hf4x13 => kernel_rfl
        case hr4x13 => kernel_rfl
        case hQ4x13 => exact fun _ _ _ h => h
        case hy4x13 => first | exact Or.inl ⟨by rfl, by (intro w hSw; (try dsimp only at hSw); go_simp; try rfl)⟩ | exact Or.inr ⟨by rfl, rfl⟩
        case hS4x13 => assumption
        (try simp only [Act.put, List.setIfInBounds_toArray, List.set_cons_zero, List.set_cons_succ])
        refine' wpAnyH_take (i := 5) (v := ?v5x14) ?hi5x14 ?hs5x14 ?hf5x14 ?hr5x14 ?hQ5x14 ?hy5x14 ?hS5x14 ?rest5x14
        case hi5x14 => (simp only [List.getElem?_toArray, List.getElem?_cons_succ, List.getElem?_cons_zero]; try rfl)
        case hs5x14 => kernel_rfl
        case hf5x14 => kernel_rfl
        case hr5x14 => kernel_rfl
        case hQ5x14 => exact fun _ _ _ h => h
        case hy5x14 => first | exact Or.inl ⟨by rfl, by (intro w hSw; (try dsimp only at hSw); go_simp; try rfl)⟩ | exact Or.inr ⟨by rfl, rfl⟩
        case hS5x14 => assumption
        (try simp only [Act.put, List.setIfInBounds_toArray, List.set_cons_zero, List.set_cons_succ])
        refine wpAnyH_ready (rs := [6]) (by kernel_rfl) (by simp) ?_
        refine' (AllReadyH.cons (i := 6) ?ho6x15 (fun K hK => ?st6x15) AllReadyH.nil)
        case ho6x15 => (simp only [List.getElem?_toArray, List.getElem?_cons_succ, List.getElem?_cons_zero]; try rfl)
        case st6x15 =>
          go_simp
          refine (stampCmp_any _ _ ⟨xe, xl⟩ ⟨ue, ul⟩ wr.drew ⟨_, rfl, hxr.out⟩ ⟨_, rfl, hur.out⟩).mono ?_
          rw [hcH.out]
          rintro e w2 ⟨rfl, hb2⟩
          have hq2 : Below wr.heap.size wr w2 := chainB (Below.refl _ _).drew hb2 (Nat.le_refl _)
          have hbn := Lib.hid (chainB hbwH.out hq2 hbwH.out.size)
          refine hK.out _ _ ?_ (fun hHeld => ?_)
          · exact ⟨(hq2.cell (p := ad.add (h * 2)) hba).trans a0_, (hq2.cell (p := ⟨(ad.add (h * 2)).block, (ad.add (h * 2)).off + 1, none⟩) hba).trans a1_, (hq2.cell (p := ⟨w.heap.size, 0, none⟩) ul_).trans u0_, (hq2.cell (p := ⟨w.heap.size, 1, none⟩) ul_).trans u1_⟩
          clear hK K
          (try simp only [Act.put, List.setIfInBounds_toArray, List.set_cons_zero, List.set_cons_succ])
          refine' wpAnyH_take (i := 7) (v := ?v7x16) ?hi7x16 ?hs7x16 ?hf7x16 ?hr7x16 ?hQ7x16 ?hy7x16 ?hS7x16 ?rest7x16
          case hi7x16 => (simp only [List.getElem?_toArray, List.getElem?_cons_succ, List.getElem?_cons_zero]; try rfl)
          case hs7x16 => kernel_rfl
          case hf7x16 => kernel_rfl
          case hr7x16 => kernel_rfl
          case hQ7x16 => exact fun _ _ _ h => h
          case hy7x16 => first | exact Or.inl ⟨by rfl, by (intro w hSw; (try dsimp only at hSw); go_simp; try rfl)⟩ | exact Or.inr ⟨by rfl, rfl⟩
          case hS7x16 => assumption
          (try simp only [Act.put, List.setIfInBounds_toArray, List.set_cons_zero, List.set_cons_succ])
          refine wpAnyH_done (by kernel_rfl) ?_ _
          refine NoPanic.normal ?_
          go_wp2_with fail
          go_roundw
          case rel => exact ⟨i, h, rfl, rfl, hih, by omega, hloH.out, hhi2.out, hbn.out⟩
          case measure => simp [Go.RowKit.intOf]; omega

    · obtain rfl : i = j := by omega
      by_cases hin : i < n
      · have hd1 : decide ((i : Int) < (n : Int)) = true := decide_eq_true (by omega)
        obtain ⟨x, hx⟩ : ∃ d, ds[i]? = some d := ⟨_, List.getElem?_eq_getElem (by have := hlenH.out; omega)⟩
        obtain ⟨ad, rfl, hba, a0_, a1_⟩ := (hH.out.below hbwH.out).at hx
        have hxr := Lib.hid ((hH.out.2 x (List.mem_of_getElem? hx)).below hbwH.out)
        have hxH := Lib.hid (tms_at hx)
        clear hx
        obtain ⟨xA, xc, ⟨xe, xl⟩⟩ := x
        simp only at a0_ a1_
        obtain ⟨q, hq⟩ : ∃ q, cmpT (⟨xe, xl⟩ : Tm) ⟨ue, ul⟩ = q := ⟨_, rfl⟩
        have hcH := Lib.hid hq
        have hzq : z = decide (q = 0) := by rw [← hzH.out, bs_at hsH.out hloH.out hhiH.out hxH.out, hcH.out]
        have hzb : (q == 0) = z := by rw [hzq]; by_cases e : q = 0 <;> simp [e]
        clear hq hzq
        go_wp2_with fail
        refine wp_region_noPanic ?_
        refine wp_region_held_drew (S := (fun w' => w'.cell? (ad.add (i * 2)) = some (.int .u64 xe) ∧ w'.cell? ⟨(ad.add (i * 2)).block, (ad.add (i * 2)).off + 1, none⟩ = some (.slice xA xl.length xc) ∧ w'.cell? ⟨w.heap.size, 0, none⟩ = some (.int .u64 ue) ∧ w'.cell? ⟨w.heap.size, 1, none⟩ = some (.slice uA ul.length uc))) (by kernel_rfl) (⟨a0_, a1_, u0_, u1_⟩) (fun hHeld => ?_)
        refine' wpAnyH_take (i := 0) (v := ?v0x17) ?hi0x17 ?hs0x17 ?hf0x17 ?hr0x17 ?hQ0x17 ?hy0x17 ?hS0x17 ?rest0x17
        case hi0x17 => (simp only [List.getElem?_toArray, List.getElem?_cons_succ, List.getElem?_cons_zero]; try rfl)
        case hs0x17 => kernel_rfl
        case hf0x17 => kernel_rfl
        case hr0x17 => kernel_rfl
        case hQ0x17 => exact fun _ _ _ h => h
        case hy0x17 => first | exact Or.inl ⟨by rfl, by (intro w hSw; (try dsimp only at hSw); go_simp; try rfl)⟩ | exact Or.inr ⟨by rfl, rfl⟩
        case hS0x17 => assumption
        (try simp only [Act.put, List.setIfInBounds_toArray, List.set_cons_zero, List.set_cons_succ])
        refine' wpAnyH_take (i := 1) (v := ?v1x18) ?hi1x18 ?hs1x18 ?hf1x18 ?hr1x18 ?hQ1x18 ?hy1x18 ?hS1x18 ?rest1x18
        case hi1x18 => (simp only [List.getElem?_toArray, List.getElem?_cons_succ, List.getElem?_cons_zero]; try rfl)
        case hs1x18 => kernel_rfl
        case hf1x18 => kernel_rfl
        case hr1x18 => kernel_rfl
        case hQ1x18 => exact fun _ _ _ h => h
        case hy1x18 => first | exact Or.inl ⟨by rfl, by (intro w hSw; (try dsimp only at hSw); go_simp; try rfl)⟩ | exact Or.inr ⟨by rfl, rfl⟩
        case hS1x18 => assumption
        (try simp only [Act.put, List.setIfInBounds_toArray, List.set_cons_zero, List.set_cons_succ])
        refine' wpAnyH_take (i := 2) (v := ?v2x19) ?hi2x19 ?hs2x19 ?hf2x19 ?hr2x19 ?hQ2x19 ?hy2x19 ?hS2x19 ?rest2x19
        case hi2x19 => (simp only [List.getElem?_toArray, List.getElem?_cons_succ, List.getElem?_cons_zero]; try rfl)
        case hs2x19 => kernel_rfl
        case hf2x19 => kernel_rfl
        case hr2x19 => kernel_rfl
        case hQ2x19 => exact fun _ _ _ h => h
        case hy2x19 => first | exact Or.inl ⟨by rfl, by (intro w hSw; (try dsimp only at hSw); go_simp; try rfl)⟩ | exact Or.inr ⟨by rfl, rfl⟩
        case hS2x19 => assumption
        (try simp only [Act.put, List.setIfInBounds_toArray, List.set_cons_zero, List.set_cons_succ])
        refine' wpAnyH_take (i := 3) (v := (.bool true)) ?hi3x20 ?hs3x20 ?hf3x20 ?hr3x20 ?hQ3x20 ?hy3x20 ?hS3x20 ?rest3x20
        case hi3x20 => (simp only [List.getElem?_toArray, List.getElem?_cons_succ, List.getElem?_cons_zero]; try rfl)
        case hs3x20 => kernel_rfl
        case hf3x20 => kernel_rfl
        case hr3x20 => kernel_rfl
        case hQ3x20 => exact fun _ _ _ h => h
        case hy3x20 => first | exact Or.inl ⟨by rfl, by (intro w hSw; (try dsimp only at hSw); go_simp; try rfl)⟩ | exact Or.inr ⟨by rfl, rfl⟩
        case hS3x20 => assumption
        (try simp only [Act.put, List.setIfInBounds_toArray, List.set_cons_zero, List.set_cons_succ])
        refine' wpAnyH_take (i := 4) (v := (.bool true)) ?hi4x21 ?hs4x21 ?hf4x21 ?hr4x21 ?hQ4x21 ?hy4x21 ?hS4x21 ?rest4x21
        case hi4x21 => (simp only [List.getElem?_toArray, List.getElem?_cons_succ, List.getElem?_cons_zero]; try rfl)
        case hs4x21 => kernel_rfl
        case hf4x21 => kernel_rfl
        case hr4x21 => kernel_rfl
        case hQ4x21 => exact fun _ _ _ h => h
        case hy4x21 => first | exact Or.inl ⟨by rfl, by (intro w hSw; (try dsimp only at hSw); go_simp; try rfl)⟩ | exact Or.inr ⟨by rfl, rfl⟩
        case hS4x21 => assumption
        (try simp only [Act.put, List.setIfInBounds_toArray, List.set_cons_zero, List.set_cons_succ])
        refine' wpAnyH_take (i := 5) (v := ?v5x22) ?hi5x22 ?hs5x22 ?hf5x22 ?hr5x22 ?hQ5x22 ?hy5x22 ?hS5x22 ?rest5x22
        case hi5x22 => (simp only [List.getElem?_toArray, List.getElem?_cons_succ, List.getElem?_cons_zero]; try rfl)
        case hs5x22 => kernel_rfl
        case hf5x22 => kernel_rfl
        case hr5x22 => kernel_rfl
        case hQ5x22 => exact fun _ _ _ h => h
        case hy5x22 => first | exact Or.inl ⟨by rfl, by (intro w hSw; (try dsimp only at hSw); go_simp; try rfl)⟩ | exact Or.inr ⟨by rfl, rfl⟩
        case hS5x22 => assumption
        (try simp only [Act.put, List.setIfInBounds_toArray, List.set_cons_zero, List.set_cons_succ])
        refine' wpAnyH_take (i := 6) (v := ?v6x23) ?hi6x23 ?hs6x23 ?hf6x23 ?hr6x23 ?hQ6x23 ?hy6x23 ?hS6x23 ?rest6x23
        case hi6x23 => (simp only [List.getElem?_toArray, List.getElem?_cons_succ, List.getElem?_cons_zero]; try rfl)
        case hs6x23 => kernel_rfl
        case hf6x23 => kernel_rfl
        case hr6x23 => kernel_rfl
        case hQ6x23 => exact fun _ _ _ h => h
        case hy6x23 => first | exact Or.inl ⟨by rfl, by (intro w hSw; (try dsimp only at hSw); go_simp; try rfl)⟩ | exact Or.inr ⟨by rfl, rfl⟩
        case hS6x23 => assumption
        (try simp only [Act.put, List.setIfInBounds_toArray, List.set_cons_zero, List.set_cons_succ])
        refine' wpAnyH_take (i := 7) (v := ?v7x24) ?hi7x24 ?hs7x24 ?hf7x24 ?hr7x24 ?hQ7x24 ?hy7x24 ?hS7x24 ?rest7x24
        case hi7x24 => (simp only [List.getElem?_toArray, List.getElem?_cons_succ, List.getElem?_cons_zero]; try rfl)
        case hs7x24 => kernel_rfl
        case hf7x24 => kernel_rfl
        case hr7x24 => kernel_rfl
        case hQ7x24 => exact fun _ _ _ h => h
        case hy7x24 => first | exact Or.inl ⟨by rfl, by (intro w hSw; (try dsimp only at hSw); go_simp; try rfl)⟩ | exact Or.inr ⟨by rfl, rfl⟩
        case hS7x24 => assumption
        (try simp only [Act.put, List.setIfInBounds_toArray, List.set_cons_zero, List.set_cons_succ])
        refine' wpAnyH_take (i := 8) (v := ?v8x25) ?hi8x25 ?hs8x25 ?hf8x25 ?hr8x25 ?hQ8x25 ?hy8x25 ?hS8x25 ?rest8x25
        case hi8x25 => (simp only [List.getElem?_toArray, List.getElem?_cons_succ, List.getElem?_cons_zero]; try rfl)
        case hs8x25 => kernel_rfl
        case hf8x25 => kernel_rfl
        case hr8x25 => kernel_rfl
        case hQ8x25 => exact fun _ _ _ h => h
        case hy8x25 => first | exact Or.inl ⟨by rfl, by (intro w hSw; (try dsimp only at hSw); go_simp; try rfl)⟩ | exact Or.inr ⟨by rfl, rfl⟩
        case hS8x25 => assumption
        (try simp only [Act.put, List.setIfInBounds_toArray, List.set_cons_zero, List.set_cons_succ])
        refine' wpAnyH_take (i := 9) (v := ?v9x26) ?hi9x26 ?hs9x26 ?hf9x26 ?hr9x26 ?hQ9x26 ?hy9x26 ?hS9x26 ?rest9x26
        case hi9x26 => (simp only [List.getElem?_toArray, List.getElem?_cons_succ, List.getElem?_cons_zero]; try rfl)
        case hs9x26 => kernel_rfl
        case hf9x26 => kernel_rfl
        case hr9x26 => kernel_rfl
        case hQ9x26 => exact fun _ _ _ h => h
        case hy9x26 => first | exact Or.inl ⟨by rfl, by (intro w hSw; (try dsimp only at hSw); go_simp; try rfl)⟩ | exact Or.inr ⟨by rfl, rfl⟩
        case hS9x26 => assumption
        (try simp only [Act.put, List.setIfInBounds_toArray, List.set_cons_zero, List.set_cons_succ])
        refine' wpAnyH_take (i := 10) (v := ?v10x27) ?hi10x27 ?hs10x27 ?hf10x27 ?hr10x27 ?hQ10x27 ?hy10x27 ?hS10x27 ?rest10x27
        case hi10x27 => (simp only [List.getElem?_toArray, List.getElem?_cons_succ, List.getElem?_cons_zero]; try rfl)
        case hs10x27 => kernel_rfl
        case hf10x27 => kernel_rfl
        case hr10x27 => kernel_rfl
        case hQ10x27 => exact fun _ _ _ h => h
        case hy10x27 => first | exact Or.inl ⟨by rfl, by (intro w hSw; (try dsimp only at hSw); go_simp; try rfl)⟩ | exact Or.inr ⟨by rfl, rfl⟩
        case hS10x27 => assumption
        (try simp only [Act.put, List.setIfInBounds_toArray, List.set_cons_zero, List.set_cons_succ])
        refine wpAnyH_ready (rs := [11]) (by kernel_rfl) (by simp) ?_
        refine' (AllReadyH.cons (i := 11) ?ho11x28 (fun K hK => ?st11x28) AllReadyH.nil)
        case ho11x28 => (simp only [List.getElem?_toArray, List.getElem?_cons_succ, List.getElem?_cons_zero]; try rfl)
        case st11x28 =>
          go_simp
          refine (stampCmp_any _ _ ⟨xe, xl⟩ ⟨ue, ul⟩ wr.drew ⟨_, rfl, hxr.out⟩ ⟨_, rfl, hur.out⟩).mono ?_
          rw [hcH.out]
          rintro e w2 ⟨rfl, hb2⟩
          have hq2 : Below wr.heap.size wr w2 := chainB (Below.refl _ _).drew hb2 (Nat.le_refl _)
          have hbn := Lib.hid (chainB hbwH.out hq2 hbwH.out.size)
          refine hK.out _ _ ?_ (fun hHeld => ?_)
          · exact ⟨(hq2.cell (p := ad.add (i * 2)) hba).trans a0_, (hq2.cell (p := ⟨(ad.add (i * 2)).block, (ad.add (i * 2)).off + 1, none⟩) hba).trans a1_, (hq2.cell (p := ⟨w.heap.size, 0, none⟩) ul_).trans u0_, (hq2.cell (p := ⟨w.heap.size, 1, none⟩) ul_).trans u1_⟩
          clear hK K
          (try simp only [Act.put, List.setIfInBounds_toArray, List.set_cons_zero, List.set_cons_succ])
          refine' wpAnyH_take (i := 12) (v := ?v12x29) ?hi12x29 ?hs12x29 ?hf12x29 ?hr12x29 ?hQ12x29 ?hy12x29 ?hS12x29 ?rest12x29
          case hi12x29 => (simp only [List.getElem?_toArray, List.getElem?_cons_succ, List.getElem?_cons_zero]; try rfl)
          case hs12x29 => kernel_rfl
          case hf12x29 => kernel_rfl
          case hr12x29 => kernel_rfl
          case hQ12x29 => exact fun _ _ _ h => h
          case hy12x29 => first | exact Or.inl ⟨by rfl, by (intro w hSw; (try dsimp only at hSw); go_simp; try rfl)⟩ | exact Or.inr ⟨by rfl, rfl⟩
          case hS12x29 => assumption
          (try simp only [Act.put, List.setIfInBounds_toArray, List.set_cons_zero, List.set_cons_succ])
          refine' wpAnyH_take (i := 13) (v := ?v13x30) ?hi13x30 ?hs13x30 ?hf13x30 ?hr13x30 ?hQ13x30 ?hy13x30 ?hS13x30 ?rest13x30
          case hi13x30 => (simp only [List.getElem?_toArray, List.getElem?_cons_succ, List.getElem?_cons_zero]; try rfl)
          case hs13x30 => kernel_rfl
          case hf13x30 => kernel_rfl
          case hr13x30 => kernel_rfl
          case hQ13x30 => exact fun _ _ _ h => h
          case hy13x30 => first | exact Or.inl ⟨by rfl, by (intro w hSw; (try dsimp only at hSw); go_simp; try rfl)⟩ | exact Or.inr ⟨by rfl, rfl⟩
          case hS13x30 => assumption
          (try simp only [Act.put, List.setIfInBounds_toArray, List.set_cons_zero, List.set_cons_succ])
          refine' wpAnyH_take (i := 14) (v := ?v14x31) ?hi14x31 ?hs14x31 ?hf14x31 ?hr14x31 ?hQ14x31 ?hy14x31 ?hS14x31 ?rest14x31
          case hi14x31 => (simp only [List.getElem?_toArray, List.getElem?_cons_succ, List.getElem?_cons_zero]; try rfl)
          case hs14x31 => kernel_rfl
          case hf14x31 => kernel_rfl
          case hr14x31 => kernel_rfl
          case hQ14x31 => exact fun _ _ _ h => h
          case hy14x31 => first | exact Or.inl ⟨by rfl, by (intro w hSw; (try dsimp only at hSw); go_simp; try rfl)⟩ | exact Or.inr ⟨by rfl, rfl⟩
          case hS14x31 => assumption
          (try simp only [Act.put, List.setIfInBounds_toArray, List.set_cons_zero, List.set_cons_succ])
          refine' wpAnyH_take (i := 15) (v := ?v15x32) ?hi15x32 ?hs15x32 ?hf15x32 ?hr15x32 ?hQ15x32 ?hy15x32 ?hS15x32 ?rest15x32
          case hi15x32 => (simp only [List.getElem?_toArray, List.getElem?_cons_succ, List.getElem?_cons_zero]; try rfl)
          case hs15x32 => kernel_rfl
          case hf15x32 => kernel_rfl
          case hr15x32 => kernel_rfl
          case hQ15x32 => exact fun _ _ _ h => h
          case hy15x32 => first | exact Or.inl ⟨by rfl, by (intro w hSw; (try dsimp only at hSw); go_simp; try rfl)⟩ | exact Or.inr ⟨by rfl, rfl⟩
          case hS15x32 => assumption
          (try simp only [Act.put, List.setIfInBounds_toArray, List.set_cons_zero, List.set_cons_succ])
          refine wpAnyH_done (by kernel_rfl) ?_ _
          refine NoPanic.normal ?_
          go_wp2_with fail
          refine bodyPost_ret (v := .tuple #[.int .i64 (i : Nat), .bool z]) (by simp [results, Tryz.results94, go_sem]) rfl ⟨⟨_, rfl⟩, ?_⟩
          exact chainB hwWH.out hbn.out hwWH.out.size

      · have hd1 : decide ((i : Int) < (n : Int)) = false := decide_eq_false (by omega)
        have hzf : z = false := by rw [← hzH.out]; exact bs_none (fun k x hk hx => hloH.out k x (by have h1 := (List.getElem?_eq_some_iff.1 hx).1; simp only [tmsD, List.length_map] at h1 hk; have := hlenH.out; omega) hx)
        subst hzf
        go_wp2_with fail
        refine wp_region_noPanic ?_
        refine wp_region_held_drew (S := (fun w' => True)) (by kernel_rfl) (trivial) (fun hHeld => ?_)
        refine' wpAnyH_take (i := 0) (v := ?v0x33) ?hi0x33 ?hs0x33 ?hf0x33 ?hr0x33 ?hQ0x33 ?hy0x33 ?hS0x33 ?rest0x33
        case hi0x33 => (simp only [List.getElem?_toArray, List.getElem?_cons_succ, List.getElem?_cons_zero]; try rfl)
        case hs0x33 => kernel_rfl
        case hf0x33 => kernel_rfl
        case hr0x33 => kernel_rfl
        case hQ0x33 => exact fun _ _ _ h => h
        case hy0x33 => first | exact Or.inl ⟨by rfl, by (intro w hSw; (try dsimp only at hSw); go_simp; try rfl)⟩ | exact Or.inr ⟨by rfl, rfl⟩
        case hS0x33 => assumption
        (try simp only [Act.put, List.setIfInBounds_toArray, List.set_cons_zero, List.set_cons_succ])
        refine' wpAnyH_take (i := 1) (v := ?v1x34) ?hi1x34 ?hs1x34 ?hf1x34 ?hr1x34 ?hQ1x34 ?hy1x34 ?hS1x34 ?rest1x34
        case hi1x34 => (simp only [List.getElem?_toArray, List.getElem?_cons_succ, List.getElem?_cons_zero]; try rfl)
        case hs1x34 => kernel_rfl
        case hf1x34 => kernel_rfl
        case hr1x34 => kernel_rfl
        case hQ1x34 => exact fun _ _ _ h => h
        case hy1x34 => first | exact Or.inl ⟨by rfl, by (intro w hSw; (try dsimp only at hSw); go_simp; try rfl)⟩ | exact Or.inr ⟨by rfl, rfl⟩
        case hS1x34 => assumption
        (try simp only [Act.put, List.setIfInBounds_toArray, List.set_cons_zero, List.set_cons_succ])
        refine' wpAnyH_take (i := 2) (v := ?v2x35) ?hi2x35 ?hs2x35 ?hf2x35 ?hr2x35 ?hQ2x35 ?hy2x35 ?hS2x35 ?rest2x35
        case hi2x35 => (simp only [List.getElem?_toArray, List.getElem?_cons_succ, List.getElem?_cons_zero]; try rfl)
        case hs2x35 => kernel_rfl
        case hf2x35 => kernel_rfl
        case hr2x35 => kernel_rfl
        case hQ2x35 => exact fun _ _ _ h => h
        case hy2x35 => first | exact Or.inl ⟨by rfl, by (intro w hSw; (try dsimp only at hSw); go_simp; try rfl)⟩ | exact Or.inr ⟨by rfl, rfl⟩
        case hS2x35 => assumption
        (try simp only [Act.put, List.setIfInBounds_toArray, List.set_cons_zero, List.set_cons_succ])
        refine' wpAnyH_take (i := 3) (v := (.bool false)) ?hi3x36 ?hs3x36 ?hf3x36 ?hr3x36 ?hQ3x36 ?hy3x36 ?hS3x36 ?rest3x36
        case hi3x36 => (simp only [List.getElem?_toArray, List.getElem?_cons_succ, List.getElem?_cons_zero]; try rfl)
        case hs3x36 => kernel_rfl
        case hf3x36 => kernel_rfl
        case hr3x36 => kernel_rfl
        case hQ3x36 => exact fun _ _ _ h => h
        case hy3x36 => first | exact Or.inl ⟨by rfl, by (intro w hSw; (try dsimp only at hSw); go_simp; try rfl)⟩ | exact Or.inr ⟨by rfl, rfl⟩
        case hS3x36 => assumption
        (try simp only [Act.put, List.setIfInBounds_toArray, List.set_cons_zero, List.set_cons_succ])
        refine' wpAnyH_take (i := 4) (v := (.bool false)) ?hi4x37 ?hs4x37 ?hf4x37 ?hr4x37 ?hQ4x37 ?hy4x37 ?hS4x37 ?rest4x37
        case hi4x37 => (simp only [List.getElem?_toArray, List.getElem?_cons_succ, List.getElem?_cons_zero]; try rfl)
        case hs4x37 => kernel_rfl
        case hf4x37 => kernel_rfl
        case hr4x37 => kernel_rfl
        case hQ4x37 => exact fun _ _ _ h => h
        case hy4x37 => first | exact Or.inl ⟨by rfl, by (intro w hSw; (try dsimp only at hSw); go_simp; try rfl)⟩ | exact Or.inr ⟨by rfl, rfl⟩
        case hS4x37 => assumption
        (try simp only [Act.put, List.setIfInBounds_toArray, List.set_cons_zero, List.set_cons_succ])
        refine' wpAnyH_take (i := 5) (v := undef) ?hi5x38 ?hs5x38 ?hf5x38 ?hr5x38 ?hQ5x38 ?hy5x38 ?hS5x38 ?rest5x38
        case hi5x38 => (simp only [List.getElem?_toArray, List.getElem?_cons_succ, List.getElem?_cons_zero]; try rfl)
        case hs5x38 => kernel_rfl
        case hf5x38 => kernel_rfl
        case hr5x38 => kernel_rfl
        case hQ5x38 => exact fun _ _ _ h => h
        case hy5x38 => first | exact Or.inl ⟨by rfl, by (intro w hSw; (try dsimp only at hSw); go_simp; try rfl)⟩ | exact Or.inr ⟨by rfl, rfl⟩
        case hS5x38 => assumption
        (try simp only [Act.put, List.setIfInBounds_toArray, List.set_cons_zero, List.set_cons_succ])
        refine' wpAnyH_take (i := 6) (v := undef) ?hi6x39 ?hs6x39 ?hf6x39 ?hr6x39 ?hQ6x39 ?hy6x39 ?hS6x39 ?rest6x39
        case hi6x39 => (simp only [List.getElem?_toArray, List.getElem?_cons_succ, List.getElem?_cons_zero]; try rfl)
        case hs6x39 => kernel_rfl
        case hf6x39 => kernel_rfl
        case hr6x39 => kernel_rfl
        case hQ6x39 => exact fun _ _ _ h => h
        case hy6x39 => first | exact Or.inl ⟨by rfl, by (intro w hSw; (try dsimp only at hSw); go_simp; try rfl)⟩ | exact Or.inr ⟨by rfl, rfl⟩
        case hS6x39 => assumption
        (try simp only [Act.put, List.setIfInBounds_toArray, List.set_cons_zero, List.set_cons_succ])
        refine' wpAnyH_take (i := 7) (v := undef) ?hi7x40 ?hs7x40 ?hf7x40 ?hr7x40 ?hQ7x40 ?hy7x40 ?hS7x40 ?rest7x40
        case hi7x40 => (simp only [List.getElem?_toArray, List.getElem?_cons_succ, List.getElem?_cons_zero]; try rfl)
        case hs7x40 => kernel_rfl
        case hf7x40 => kernel_rfl
        case hr7x40 => kernel_rfl
        case hQ7x40 => exact fun _ _ _ h => h
        case hy7x40 => first | exact Or.inl ⟨by rfl, by (intro w hSw; (try dsimp only at hSw); go_simp; try rfl)⟩ | exact Or.inr ⟨by rfl, rfl⟩
        case hS7x40 => assumption
        (try simp only [Act.put, List.setIfInBounds_toArray, List.set_cons_zero, List.set_cons_succ])
        refine' wpAnyH_take (i := 8) (v := undef) ?hi8x41 ?hs8x41 ?hf8x41 ?hr8x41 ?hQ8x41 ?hy8x41 ?hS8x41 ?rest8x41
        case hi8x41 => (simp only [List.getElem?_toArray, List.getElem?_cons_succ, List.getElem?_cons_zero]; try rfl)
        case hs8x41 => kernel_rfl
        case hf8x41 => kernel_rfl
        case hr8x41 => kernel_rfl
        case hQ8x41 => exact fun _ _ _ h => h
        case hy8x41 => first | exact Or.inl ⟨by rfl, by (intro w hSw; (try dsimp only at hSw); go_simp; try rfl)⟩ | exact Or.inr ⟨by rfl, rfl⟩
        case hS8x41 => assumption
        (try simp only [Act.put, List.setIfInBounds_toArray, List.set_cons_zero, List.set_cons_succ])
        refine' wpAnyH_take (i := 9) (v := undef) ?hi9x42 ?hs9x42 ?hf9x42 ?hr9x42 ?hQ9x42 ?hy9x42 ?hS9x42 ?rest9x42
        case hi9x42 => (simp only [List.getElem?_toArray, List.getElem?_cons_succ, List.getElem?_cons_zero]; try rfl)
        case hs9x42 => kernel_rfl
        case hf9x42 => kernel_rfl
        case hr9x42 => kernel_rfl
        case hQ9x42 => exact fun _ _ _ h => h
        case hy9x42 => first | exact Or.inl ⟨by rfl, by (intro w hSw; (try dsimp only at hSw); go_simp; try rfl)⟩ | exact Or.inr ⟨by rfl, rfl⟩
        case hS9x42 => assumption
        (try simp only [Act.put, List.setIfInBounds_toArray, List.set_cons_zero, List.set_cons_succ])
        refine' wpAnyH_take (i := 10) (v := undef) ?hi10x43 ?hs10x43 ?hf10x43 ?hr10x43 ?hQ10x43 ?hy10x43 ?hS10x43 ?rest10x43
        case hi10x43 => (simp only [List.getElem?_toArray, List.getElem?_cons_succ, List.getElem?_cons_zero]; try rfl)
        case hs10x43 => kernel_rfl
        case hf10x43 => kernel_rfl
        case hr10x43 => kernel_rfl
        case hQ10x43 => exact fun _ _ _ h => h
        case hy10x43 => first | exact Or.inl ⟨by rfl, by (intro w hSw; (try dsimp only at hSw); go_simp; try rfl)⟩ | exact Or.inr ⟨by rfl, rfl⟩
        case hS10x43 => assumption
        (try simp only [Act.put, List.setIfInBounds_toArray, List.set_cons_zero, List.set_cons_succ])
        refine' wpAnyH_take (i := 11) (v := undef) ?hi11x44 ?hs11x44 ?hf11x44 ?hr11x44 ?hQ11x44 ?hy11x44 ?hS11x44 ?rest11x44
        case hi11x44 => (simp only [List.getElem?_toArray, List.getElem?_cons_succ, List.getElem?_cons_zero]; try rfl)
        case hs11x44 => kernel_rfl
        case hf11x44 => kernel_rfl
        case hr11x44 => kernel_rfl
        case hQ11x44 => exact fun _ _ _ h => h
        case hy11x44 => first | exact Or.inl ⟨by rfl, by (intro w hSw; (try dsimp only at hSw); go_simp; try rfl)⟩ | exact Or.inr ⟨by rfl, rfl⟩
        case hS11x44 => assumption
        (try simp only [Act.put, List.setIfInBounds_toArray, List.set_cons_zero, List.set_cons_succ])
        refine' wpAnyH_take (i := 12) (v := undef) ?hi12x45 ?hs12x45 ?hf12x45 ?hr12x45 ?hQ12x45 ?hy12x45 ?hS12x45 ?rest12x45
        case hi12x45 => (simp only [List.getElem?_toArray, List.getElem?_cons_succ, List.getElem?_cons_zero]; try rfl)
        case hs12x45 => kernel_rfl
        case hf12x45 => kernel_rfl
        case hr12x45 => kernel_rfl
        case hQ12x45 => exact fun _ _ _ h => h
        case hy12x45 => first | exact Or.inl ⟨by rfl, by (intro w hSw; (try dsimp only at hSw); go_simp; try rfl)⟩ | exact Or.inr ⟨by rfl, rfl⟩
        case hS12x45 => assumption
        (try simp only [Act.put, List.setIfInBounds_toArray, List.set_cons_zero, List.set_cons_succ])
        refine' wpAnyH_take (i := 13) (v := ?v13x46) ?hi13x46 ?hs13x46 ?hf13x46 ?hr13x46 ?hQ13x46 ?hy13x46 ?hS13x46 ?rest13x46
        case hi13x46 => (simp only [List.getElem?_toArray, List.getElem?_cons_succ, List.getElem?_cons_zero]; try rfl)
        case hs13x46 => kernel_rfl
        case hf13x46 => kernel_rfl
        case hr13x46 => kernel_rfl
        case hQ13x46 => exact fun _ _ _ h => h
        case hy13x46 => first | exact Or.inl ⟨by rfl, by (intro w hSw; (try dsimp only at hSw); go_simp; try rfl)⟩ | exact Or.inr ⟨by rfl, rfl⟩
        case hS13x46 => assumption
        (try simp only [Act.put, List.setIfInBounds_toArray, List.set_cons_zero, List.set_cons_succ])
        refine' wpAnyH_take (i := 14) (v := ?v14x47) ?hi14x47 ?hs14x47 ?hf14x47 ?hr14x47 ?hQ14x47 ?hy14x47 ?hS14x47 ?rest14x47
        case hi14x47 => (simp only [List.getElem?_toArray, List.getElem?_cons_succ, List.getElem?_cons_zero]; try rfl)
        case hs14x47 => kernel_rfl
        case hf14x47 => kernel_rfl
        case hr14x47 => kernel_rfl
        case hQ14x47 => exact fun _ _ _ h => h
        case hy14x47 => first | exact Or.inl ⟨by rfl, by (intro w hSw; (try dsimp only at hSw); go_simp; try rfl)⟩ | exact Or.inr ⟨by rfl, rfl⟩
        case hS14x47 => assumption
        (try simp only [Act.put, List.setIfInBounds_toArray, List.set_cons_zero, List.set_cons_succ])
        refine' wpAnyH_take (i := 15) (v := ?v15x48) ?hi15x48 ?hs15x48 ?hf15x48 ?hr15x48 ?hQ15x48 ?hy15x48 ?hS15x48 ?rest15x48
        case hi15x48 => (simp only [List.getElem?_toArray, List.getElem?_cons_succ, List.getElem?_cons_zero]; try rfl)
        case hs15x48 => kernel_rfl
        case hf15x48 => kernel_rfl
        case hr15x48 => kernel_rfl
        case hQ15x48 => exact fun _ _ _ h => h
        case hy15x48 => first | exact Or.inl ⟨by rfl, by (intro w hSw; (try dsimp only at hSw); go_simp; try rfl)⟩ | exact Or.inr ⟨by rfl, rfl⟩
        case hS15x48 => assumption
        (try simp only [Act.put, List.setIfInBounds_toArray, List.set_cons_zero, List.set_cons_succ])
        refine wpAnyH_done (by kernel_rfl) ?_ _
        refine NoPanic.normal ?_
        go_wp2_with fail
        refine bodyPost_ret (v := .tuple #[.int .i64 (i : Nat), .bool false]) (by simp [results, Tryz.results94, go_sem]) rfl ⟨⟨_, rfl⟩, ?_⟩
        exact chainB hwWH.out hbwH.out.drew hwWH.out.size

end Go.Proofs.YtdfhchpimpbgfaaGreatDoor
