/-
  What row.Cmp and the document's own answer, at this program: of any two rows. No condition.
-/
import Derived.Test.YtfkimemagbkcoaaDoorRowV
import Derived.Test.YtfkimemagbkcoaaDoorOrd
import Derived.Deep.RegionHeld3
set_option linter.unusedVariables false
set_option linter.unusedSimpArgs false
namespace Go.Proofs.YtfkimemagbkcoaaDoor
open Go.RowKit Go.Lib

set_option maxHeartbeats 2000000 in
theorem cmpLen_any (x y : Int) (w : World) :
    Calls Tryd.prog 38 #[.int .i64 x, .int .i64 y] w fun e w' => e = .returned (.int .i64 (cmp3 x y)) ∧ w = w' := by
  by_cases h : x < y
  · have hr := Lib.hid (show cmp3 x y = -1 from if_pos h)
    have h2 : ¬ y < x := by omega
    have h3 : (x == y) = false := by simp; omega
    go_enter Tryd.func38, Tryd.ntmps38
    go_wp2
    go_ret
    exact ⟨ret_int hr.out.symm, rfl⟩
  · by_cases h2 : x = y
    · subst h2
      have hr := Lib.hid (show cmp3 x x = 0 by simp [cmp3])
      go_enter Tryd.func38, Tryd.ntmps38
      go_wp2
      go_ret
      exact ⟨ret_int hr.out.symm, rfl⟩
    · have hr := Lib.hid (show cmp3 x y = 1 by simp [cmp3, h, h2])
      have h3 : y < x := by omega
      have h4 : (x == y) = false := by simpa using h2
      clear h2
      go_enter Tryd.func38, Tryd.ntmps38
      go_wp2
      go_ret
      exact ⟨ret_int hr.out.symm, rfl⟩
theorem cmpR_at {l m : List Dat} {p : Nat} (hl : p < l.length) (hm : p < m.length) : cmpR (l.drop p) (m.drop p) = if cmpS l[p] m[p] = 0 then cmpR (l.drop (p + 1)) (m.drop (p + 1)) else cmpS l[p] m[p] := by
  rw [List.drop_eq_getElem_cons hl, List.drop_eq_getElem_cons hm, cmpR]
theorem cmpR_end {l m : List Dat} {p : Nat} (h : l.length ≤ p ∨ m.length ≤ p) (hl : p ≤ l.length) (hm : p ≤ m.length) : cmpR (l.drop p) (m.drop p) = cmp3 (l.length : Int) (m.length : Int) := by
  unfold cmp3
  cases h1 : l.drop p with
  | nil =>
    have e1 := congrArg List.length h1
    rw [List.length_drop, List.length_nil] at e1
    cases h2 : m.drop p with
    | nil =>
      have e2 := congrArg List.length h2
      rw [List.length_drop, List.length_nil] at e2
      rw [if_neg (by omega), if_pos (by omega)]; rfl
    | cons y m' =>
      have e2 := congrArg List.length h2
      rw [List.length_drop, List.length_cons] at e2
      rw [if_pos (by omega)]; rfl
  | cons x l' =>
    have e1 := congrArg List.length h1
    rw [List.length_drop, List.length_cons] at e1
    cases h2 : m.drop p with
    | nil =>
      have e2 := congrArg List.length h2
      rw [List.length_drop, List.length_nil] at e2
      rw [if_neg (by omega), if_neg (by omega)]; rfl
    | cons y m' =>
      have e2 := congrArg List.length h2
      rw [List.length_drop, List.length_cons] at e2
      omega
/-- What the rounds hold. -/
def RelC (l m : List Dat) (w0 : World) (i : Value) (wr : World) : Prop :=
  ∃ p : Nat, i = .int .i64 (p : Int) ∧ p ≤ l.length ∧ p ≤ m.length ∧ cmpR l m = cmpR (l.drop p) (m.drop p) ∧ Below w0.heap.size w0 wr
set_option maxHeartbeats 8000000 in
set_option maxRecDepth 1000000 in
theorem rowCmp_any (va vb : Value) (l m : List Dat) (w : World) (ha : RowV w va l) (hb : RowV w vb m) :
    Calls Tryd.prog 14 #[va, vb] w fun e w' => e = .returned (.int .i64 (cmpR l m)) ∧ Below w.heap.size w w' := by
  obtain ⟨A, ca, rfl, hla⟩ := ha.form
  obtain ⟨B, cb, rfl, hlb⟩ := hb.form
  have haH := Lib.hid ha; have hbH := Lib.hid hb
  clear ha hb
  obtain ⟨r, hr⟩ : ∃ r, cmpR l m = r := ⟨_, rfl⟩
  rw [hr]
  have hrH := Lib.hid hr
  clear hr
  obtain ⟨n, hn⟩ : ∃ n, min l.length m.length = n := ⟨_, rfl⟩
  have hmi : min (l.length : Int) (m.length : Int) = (n : Int) := by omega
  have hnl : n ≤ l.length := by omega
  have hnm : n ≤ m.length := by omega
  have hnH := Lib.hid (show l.length = n ∨ m.length = n by omega)
  clear hn
  go_enter Tryd.func14, Tryd.ntmps14
  go_wp2_with fail
  go_loopw [12] (fun i wr => RelC l m w i wr) (fun i _ => n - (Go.RowKit.intOf i).toNat)
  case atStart => exact ⟨0, rfl, Nat.zero_le _, Nat.zero_le _, rfl, Below.refl _ _⟩
  case round =>
    unfold RelC at hrel
    obtain ⟨p, rfl, hpl, hpm, hcmp, hbw⟩ := hrel
    have hcH := Lib.hid hcmp; have hbwH := Lib.hid hbw
    have hsz := hbw.size
    clear hcmp hbw
    by_cases hp : p < n
    · have h1 : p < l.length := by omega
      have h2 : p < m.length := by omega
      obtain ⟨x, hx⟩ : ∃ x, l[p] = x := ⟨_, rfl⟩
      obtain ⟨y, hy⟩ : ∃ y, m[p] = y := ⟨_, rfl⟩
      obtain ⟨ad, rfl, hba, a0_, a1_, a2_, a3_⟩ := (haH.out.below hbwH.out).at h1
      obtain ⟨bd, rfl, hbb, b0_, b1_, b2_, b3_⟩ := (hbH.out.below hbwH.out).at h2
      have hstep := cmpR_at h1 h2
      rw [hx] at a0_ a1_ a2_ a3_ hstep
      rw [hy] at b0_ b1_ b2_ b3_ hstep
      obtain ⟨k0, b0, n0, s0⟩ := x
      obtain ⟨k1, b1, n1, s1⟩ := y
      simp only at a0_ a1_ a2_ a3_ b0_ b1_ b2_ b3_
      obtain ⟨c, hc⟩ : ∃ c, cmpS ⟨k0, b0, n0, s0⟩ ⟨k1, b1, n1, s1⟩ = c := ⟨_, rfl⟩
      rw [hc] at hstep
      have hcS := Lib.hid hc
      have hstH := Lib.hid hstep
      clear hc hstep hx hy
      by_cases c0 : c = 0
      · have g : (c != 0) = false := by simp [c0]
        go_wp2_with fail
        refine wp_region_noPanic ?_
        refine wp_region_held_drew (S := (fun w' => w'.cell? (ad.add (p * 4)) = some (.int .u8 k0) ∧ w'.cell? ⟨(ad.add (p * 4)).block, (ad.add (p * 4)).off + 1, none⟩ = some (.bool b0) ∧ w'.cell? ⟨(ad.add (p * 4)).block, (ad.add (p * 4)).off + 2, none⟩ = some (.int .i64 n0) ∧ w'.cell? ⟨(ad.add (p * 4)).block, (ad.add (p * 4)).off + 3, none⟩ = some (.string s0) ∧ w'.cell? (bd.add (p * 4)) = some (.int .u8 k1) ∧ w'.cell? ⟨(bd.add (p * 4)).block, (bd.add (p * 4)).off + 1, none⟩ = some (.bool b1) ∧ w'.cell? ⟨(bd.add (p * 4)).block, (bd.add (p * 4)).off + 2, none⟩ = some (.int .i64 n1) ∧ w'.cell? ⟨(bd.add (p * 4)).block, (bd.add (p * 4)).off + 3, none⟩ = some (.string s1))) (by kernel_rfl) ⟨a0_, a1_, a2_, a3_, b0_, b1_, b2_, b3_⟩ (fun hHeld => ?_)
        refine' wpAnyH_take (i := 0) (v := .slice (some ad) l.length ca) ?hi0x1 ?hs0x1 ?hf0x1 ?hr0x1 ?hQ0x1 ?hy0x1 ?hS0x1 ?rest0x1
        case hi0x1 => (simp only [List.getElem?_toArray, List.getElem?_cons_succ, List.getElem?_cons_zero]; try rfl)
        case hs0x1 => kernel_rfl
        case hf0x1 => kernel_rfl
        case hr0x1 => kernel_rfl
        case hQ0x1 => exact fun _ _ _ h => h
        case hy0x1 => exact Or.inl ⟨by rfl, by (intro w hSw; (try dsimp only at hSw); go_simp)⟩
        case hS0x1 => assumption
        (try simp only [Act.put, List.setIfInBounds_toArray, List.set_cons_zero, List.set_cons_succ])
        refine' wpAnyH_take (i := 1) (v := .int .i64 (p : Int)) ?hi1x2 ?hs1x2 ?hf1x2 ?hr1x2 ?hQ1x2 ?hy1x2 ?hS1x2 ?rest1x2
        case hi1x2 => (simp only [List.getElem?_toArray, List.getElem?_cons_succ, List.getElem?_cons_zero]; try rfl)
        case hs1x2 => kernel_rfl
        case hf1x2 => kernel_rfl
        case hr1x2 => kernel_rfl
        case hQ1x2 => exact fun _ _ _ h => h
        case hy1x2 => exact Or.inl ⟨by rfl, by (intro w hSw; (try dsimp only at hSw); go_simp)⟩
        case hS1x2 => assumption
        (try simp only [Act.put, List.setIfInBounds_toArray, List.set_cons_zero, List.set_cons_succ])
        refine' wpAnyH_take (i := 2) (v := .pointer (some (ad.add (p * 4)))) ?hi2x3 ?hs2x3 ?hf2x3 ?hr2x3 ?hQ2x3 ?hy2x3 ?hS2x3 ?rest2x3
        case hi2x3 => (simp only [List.getElem?_toArray, List.getElem?_cons_succ, List.getElem?_cons_zero]; try rfl)
        case hs2x3 => kernel_rfl
        case hf2x3 => kernel_rfl
        case hr2x3 => kernel_rfl
        case hQ2x3 => exact fun _ _ _ h => h
        case hy2x3 => exact Or.inl ⟨by rfl, by (intro w hSw; (try dsimp only at hSw); go_simp)⟩
        case hS2x3 => assumption
        (try simp only [Act.put, List.setIfInBounds_toArray, List.set_cons_zero, List.set_cons_succ])
        refine' wpAnyH_take (i := 3) (v := .agg #[.int .u8 k0, .bool b0, .int .i64 n0, .string s0]) ?hi3x4 ?hs3x4 ?hf3x4 ?hr3x4 ?hQ3x4 ?hy3x4 ?hS3x4 ?rest3x4
        case hi3x4 => (simp only [List.getElem?_toArray, List.getElem?_cons_succ, List.getElem?_cons_zero]; try rfl)
        case hs3x4 => kernel_rfl
        case hf3x4 => kernel_rfl
        case hr3x4 => kernel_rfl
        case hQ3x4 => exact fun _ _ _ h => h
        case hy3x4 => exact Or.inl ⟨by rfl, by (intro w hSw; (try dsimp only at hSw); go_simp)⟩
        case hS3x4 => assumption
        (try simp only [Act.put, List.setIfInBounds_toArray, List.set_cons_zero, List.set_cons_succ])
        refine' wpAnyH_take (i := 4) (v := .slice (some bd) m.length cb) ?hi4x5 ?hs4x5 ?hf4x5 ?hr4x5 ?hQ4x5 ?hy4x5 ?hS4x5 ?rest4x5
        case hi4x5 => (simp only [List.getElem?_toArray, List.getElem?_cons_succ, List.getElem?_cons_zero]; try rfl)
        case hs4x5 => kernel_rfl
        case hf4x5 => kernel_rfl
        case hr4x5 => kernel_rfl
        case hQ4x5 => exact fun _ _ _ h => h
        case hy4x5 => exact Or.inl ⟨by rfl, by (intro w hSw; (try dsimp only at hSw); go_simp)⟩
        case hS4x5 => assumption
        (try simp only [Act.put, List.setIfInBounds_toArray, List.set_cons_zero, List.set_cons_succ])
        refine' wpAnyH_take (i := 5) (v := .int .i64 (p : Int)) ?hi5x6 ?hs5x6 ?hf5x6 ?hr5x6 ?hQ5x6 ?hy5x6 ?hS5x6 ?rest5x6
        case hi5x6 => (simp only [List.getElem?_toArray, List.getElem?_cons_succ, List.getElem?_cons_zero]; try rfl)
        case hs5x6 => kernel_rfl
        case hf5x6 => kernel_rfl
        case hr5x6 => kernel_rfl
        case hQ5x6 => exact fun _ _ _ h => h
        case hy5x6 => exact Or.inl ⟨by rfl, by (intro w hSw; (try dsimp only at hSw); go_simp)⟩
        case hS5x6 => assumption
        (try simp only [Act.put, List.setIfInBounds_toArray, List.set_cons_zero, List.set_cons_succ])
        refine' wpAnyH_take (i := 6) (v := .pointer (some (bd.add (p * 4)))) ?hi6x7 ?hs6x7 ?hf6x7 ?hr6x7 ?hQ6x7 ?hy6x7 ?hS6x7 ?rest6x7
        case hi6x7 => (simp only [List.getElem?_toArray, List.getElem?_cons_succ, List.getElem?_cons_zero]; try rfl)
        case hs6x7 => kernel_rfl
        case hf6x7 => kernel_rfl
        case hr6x7 => kernel_rfl
        case hQ6x7 => exact fun _ _ _ h => h
        case hy6x7 => exact Or.inl ⟨by rfl, by (intro w hSw; (try dsimp only at hSw); go_simp)⟩
        case hS6x7 => assumption
        (try simp only [Act.put, List.setIfInBounds_toArray, List.set_cons_zero, List.set_cons_succ])
        refine' wpAnyH_take (i := 7) (v := .agg #[.int .u8 k1, .bool b1, .int .i64 n1, .string s1]) ?hi7x8 ?hs7x8 ?hf7x8 ?hr7x8 ?hQ7x8 ?hy7x8 ?hS7x8 ?rest7x8
        case hi7x8 => (simp only [List.getElem?_toArray, List.getElem?_cons_succ, List.getElem?_cons_zero]; try rfl)
        case hs7x8 => kernel_rfl
        case hf7x8 => kernel_rfl
        case hr7x8 => kernel_rfl
        case hQ7x8 => exact fun _ _ _ h => h
        case hy7x8 => exact Or.inl ⟨by rfl, by (intro w hSw; (try dsimp only at hSw); go_simp)⟩
        case hS7x8 => assumption
        (try simp only [Act.put, List.setIfInBounds_toArray, List.set_cons_zero, List.set_cons_succ])
        refine wpAnyH_ready (rs := [8]) (by kernel_rfl) (by simp) ?_
        refine' AllReadyH.cons (i := 8) ?ho8x9 (fun K hK => ?st8x9) AllReadyH.nil
        case ho8x9 => (simp only [List.getElem?_toArray, List.getElem?_cons_succ, List.getElem?_cons_zero]; try rfl)
        go_simp
        refine (cmp_any k0 b0 n0 s0 k1 b1 n1 s1 _).mono ?_
        rw [hcS.out]
        rintro e w' ⟨rfl, hb'⟩
        refine hK.out _ _ ?_ (fun hHeld => ?_)
        · exact ⟨(hb'.cell (p := (ad.add (p * 4))) hba).trans a0_, (hb'.cell (p := ⟨(ad.add (p * 4)).block, (ad.add (p * 4)).off + 1, none⟩) hba).trans a1_, (hb'.cell (p := ⟨(ad.add (p * 4)).block, (ad.add (p * 4)).off + 2, none⟩) hba).trans a2_, (hb'.cell (p := ⟨(ad.add (p * 4)).block, (ad.add (p * 4)).off + 3, none⟩) hba).trans a3_, (hb'.cell (p := (bd.add (p * 4))) hbb).trans b0_, (hb'.cell (p := ⟨(bd.add (p * 4)).block, (bd.add (p * 4)).off + 1, none⟩) hbb).trans b1_, (hb'.cell (p := ⟨(bd.add (p * 4)).block, (bd.add (p * 4)).off + 2, none⟩) hbb).trans b2_, (hb'.cell (p := ⟨(bd.add (p * 4)).block, (bd.add (p * 4)).off + 3, none⟩) hbb).trans b3_⟩
        clear hK K
        (try simp only [Act.put, List.setIfInBounds_toArray, List.set_cons_zero, List.set_cons_succ])
        refine' wpAnyH_take (i := 9) (v := .int .i64 c) ?hi9x10 ?hs9x10 ?hf9x10 ?hr9x10 ?hQ9x10 ?hy9x10 ?hS9x10 ?rest9x10
        case hi9x10 => (simp only [List.getElem?_toArray, List.getElem?_cons_succ, List.getElem?_cons_zero]; try rfl)
        case hs9x10 => kernel_rfl
        case hf9x10 => kernel_rfl
        case hr9x10 => kernel_rfl
        case hQ9x10 => exact fun _ _ _ h => h
        case hy9x10 => exact Or.inl ⟨by rfl, by (intro w hSw; (try dsimp only at hSw); go_simp)⟩
        case hS9x10 => assumption
        (try simp only [Act.put, List.setIfInBounds_toArray, List.set_cons_zero, List.set_cons_succ])
        refine wpAnyH_done (by kernel_rfl) ?_ _
        refine NoPanic.normal ?_
        trace_state
        go_wp2_with fail
        go_roundw
        case rel => exact ⟨p + 1, by go_num, by omega, by omega, by rw [hcH.out, hstH.out, if_pos c0], hbwH.out.drew.trans (hb'.mono hsz)⟩
        case measure => simp [Go.RowKit.intOf]; omega
      · have g : (c != 0) = true := by simpa using c0
        go_wp2_with fail
        refine wp_region_noPanic ?_
        refine wp_region_held_drew (S := (fun w' => w'.cell? (ad.add (p * 4)) = some (.int .u8 k0) ∧ w'.cell? ⟨(ad.add (p * 4)).block, (ad.add (p * 4)).off + 1, none⟩ = some (.bool b0) ∧ w'.cell? ⟨(ad.add (p * 4)).block, (ad.add (p * 4)).off + 2, none⟩ = some (.int .i64 n0) ∧ w'.cell? ⟨(ad.add (p * 4)).block, (ad.add (p * 4)).off + 3, none⟩ = some (.string s0) ∧ w'.cell? (bd.add (p * 4)) = some (.int .u8 k1) ∧ w'.cell? ⟨(bd.add (p * 4)).block, (bd.add (p * 4)).off + 1, none⟩ = some (.bool b1) ∧ w'.cell? ⟨(bd.add (p * 4)).block, (bd.add (p * 4)).off + 2, none⟩ = some (.int .i64 n1) ∧ w'.cell? ⟨(bd.add (p * 4)).block, (bd.add (p * 4)).off + 3, none⟩ = some (.string s1))) (by kernel_rfl) ⟨a0_, a1_, a2_, a3_, b0_, b1_, b2_, b3_⟩ (fun hHeld => ?_)
        refine' wpAnyH_take (i := 0) (v := .slice (some ad) l.length ca) ?hi0x11 ?hs0x11 ?hf0x11 ?hr0x11 ?hQ0x11 ?hy0x11 ?hS0x11 ?rest0x11
        case hi0x11 => (simp only [List.getElem?_toArray, List.getElem?_cons_succ, List.getElem?_cons_zero]; try rfl)
        case hs0x11 => kernel_rfl
        case hf0x11 => kernel_rfl
        case hr0x11 => kernel_rfl
        case hQ0x11 => exact fun _ _ _ h => h
        case hy0x11 => exact Or.inl ⟨by rfl, by (intro w hSw; (try dsimp only at hSw); go_simp)⟩
        case hS0x11 => assumption
        (try simp only [Act.put, List.setIfInBounds_toArray, List.set_cons_zero, List.set_cons_succ])
        refine' wpAnyH_take (i := 1) (v := .int .i64 (p : Int)) ?hi1x12 ?hs1x12 ?hf1x12 ?hr1x12 ?hQ1x12 ?hy1x12 ?hS1x12 ?rest1x12
        case hi1x12 => (simp only [List.getElem?_toArray, List.getElem?_cons_succ, List.getElem?_cons_zero]; try rfl)
        case hs1x12 => kernel_rfl
        case hf1x12 => kernel_rfl
        case hr1x12 => kernel_rfl
        case hQ1x12 => exact fun _ _ _ h => h
        case hy1x12 => exact Or.inl ⟨by rfl, by (intro w hSw; (try dsimp only at hSw); go_simp)⟩
        case hS1x12 => assumption
        (try simp only [Act.put, List.setIfInBounds_toArray, List.set_cons_zero, List.set_cons_succ])
        refine' wpAnyH_take (i := 2) (v := .pointer (some (ad.add (p * 4)))) ?hi2x13 ?hs2x13 ?hf2x13 ?hr2x13 ?hQ2x13 ?hy2x13 ?hS2x13 ?rest2x13
        case hi2x13 => (simp only [List.getElem?_toArray, List.getElem?_cons_succ, List.getElem?_cons_zero]; try rfl)
        case hs2x13 => kernel_rfl
        case hf2x13 => kernel_rfl
        case hr2x13 => kernel_rfl
        case hQ2x13 => exact fun _ _ _ h => h
        case hy2x13 => exact Or.inl ⟨by rfl, by (intro w hSw; (try dsimp only at hSw); go_simp)⟩
        case hS2x13 => assumption
        (try simp only [Act.put, List.setIfInBounds_toArray, List.set_cons_zero, List.set_cons_succ])
        refine' wpAnyH_take (i := 3) (v := .agg #[.int .u8 k0, .bool b0, .int .i64 n0, .string s0]) ?hi3x14 ?hs3x14 ?hf3x14 ?hr3x14 ?hQ3x14 ?hy3x14 ?hS3x14 ?rest3x14
        case hi3x14 => (simp only [List.getElem?_toArray, List.getElem?_cons_succ, List.getElem?_cons_zero]; try rfl)
        case hs3x14 => kernel_rfl
        case hf3x14 => kernel_rfl
        case hr3x14 => kernel_rfl
        case hQ3x14 => exact fun _ _ _ h => h
        case hy3x14 => exact Or.inl ⟨by rfl, by (intro w hSw; (try dsimp only at hSw); go_simp)⟩
        case hS3x14 => assumption
        (try simp only [Act.put, List.setIfInBounds_toArray, List.set_cons_zero, List.set_cons_succ])
        refine' wpAnyH_take (i := 4) (v := .slice (some bd) m.length cb) ?hi4x15 ?hs4x15 ?hf4x15 ?hr4x15 ?hQ4x15 ?hy4x15 ?hS4x15 ?rest4x15
        case hi4x15 => (simp only [List.getElem?_toArray, List.getElem?_cons_succ, List.getElem?_cons_zero]; try rfl)
        case hs4x15 => kernel_rfl
        case hf4x15 => kernel_rfl
        case hr4x15 => kernel_rfl
        case hQ4x15 => exact fun _ _ _ h => h
        case hy4x15 => exact Or.inl ⟨by rfl, by (intro w hSw; (try dsimp only at hSw); go_simp)⟩
        case hS4x15 => assumption
        (try simp only [Act.put, List.setIfInBounds_toArray, List.set_cons_zero, List.set_cons_succ])
        refine' wpAnyH_take (i := 5) (v := .int .i64 (p : Int)) ?hi5x16 ?hs5x16 ?hf5x16 ?hr5x16 ?hQ5x16 ?hy5x16 ?hS5x16 ?rest5x16
        case hi5x16 => (simp only [List.getElem?_toArray, List.getElem?_cons_succ, List.getElem?_cons_zero]; try rfl)
        case hs5x16 => kernel_rfl
        case hf5x16 => kernel_rfl
        case hr5x16 => kernel_rfl
        case hQ5x16 => exact fun _ _ _ h => h
        case hy5x16 => exact Or.inl ⟨by rfl, by (intro w hSw; (try dsimp only at hSw); go_simp)⟩
        case hS5x16 => assumption
        (try simp only [Act.put, List.setIfInBounds_toArray, List.set_cons_zero, List.set_cons_succ])
        refine' wpAnyH_take (i := 6) (v := .pointer (some (bd.add (p * 4)))) ?hi6x17 ?hs6x17 ?hf6x17 ?hr6x17 ?hQ6x17 ?hy6x17 ?hS6x17 ?rest6x17
        case hi6x17 => (simp only [List.getElem?_toArray, List.getElem?_cons_succ, List.getElem?_cons_zero]; try rfl)
        case hs6x17 => kernel_rfl
        case hf6x17 => kernel_rfl
        case hr6x17 => kernel_rfl
        case hQ6x17 => exact fun _ _ _ h => h
        case hy6x17 => exact Or.inl ⟨by rfl, by (intro w hSw; (try dsimp only at hSw); go_simp)⟩
        case hS6x17 => assumption
        (try simp only [Act.put, List.setIfInBounds_toArray, List.set_cons_zero, List.set_cons_succ])
        refine' wpAnyH_take (i := 7) (v := .agg #[.int .u8 k1, .bool b1, .int .i64 n1, .string s1]) ?hi7x18 ?hs7x18 ?hf7x18 ?hr7x18 ?hQ7x18 ?hy7x18 ?hS7x18 ?rest7x18
        case hi7x18 => (simp only [List.getElem?_toArray, List.getElem?_cons_succ, List.getElem?_cons_zero]; try rfl)
        case hs7x18 => kernel_rfl
        case hf7x18 => kernel_rfl
        case hr7x18 => kernel_rfl
        case hQ7x18 => exact fun _ _ _ h => h
        case hy7x18 => exact Or.inl ⟨by rfl, by (intro w hSw; (try dsimp only at hSw); go_simp)⟩
        case hS7x18 => assumption
        (try simp only [Act.put, List.setIfInBounds_toArray, List.set_cons_zero, List.set_cons_succ])
        refine wpAnyH_ready (rs := [8]) (by kernel_rfl) (by simp) ?_
        refine' AllReadyH.cons (i := 8) ?ho8x19 (fun K hK => ?st8x19) AllReadyH.nil
        case ho8x19 => (simp only [List.getElem?_toArray, List.getElem?_cons_succ, List.getElem?_cons_zero]; try rfl)
        go_simp
        refine (cmp_any k0 b0 n0 s0 k1 b1 n1 s1 _).mono ?_
        rw [hcS.out]
        rintro e w' ⟨rfl, hb'⟩
        refine hK.out _ _ ?_ (fun hHeld => ?_)
        · exact ⟨(hb'.cell (p := (ad.add (p * 4))) hba).trans a0_, (hb'.cell (p := ⟨(ad.add (p * 4)).block, (ad.add (p * 4)).off + 1, none⟩) hba).trans a1_, (hb'.cell (p := ⟨(ad.add (p * 4)).block, (ad.add (p * 4)).off + 2, none⟩) hba).trans a2_, (hb'.cell (p := ⟨(ad.add (p * 4)).block, (ad.add (p * 4)).off + 3, none⟩) hba).trans a3_, (hb'.cell (p := (bd.add (p * 4))) hbb).trans b0_, (hb'.cell (p := ⟨(bd.add (p * 4)).block, (bd.add (p * 4)).off + 1, none⟩) hbb).trans b1_, (hb'.cell (p := ⟨(bd.add (p * 4)).block, (bd.add (p * 4)).off + 2, none⟩) hbb).trans b2_, (hb'.cell (p := ⟨(bd.add (p * 4)).block, (bd.add (p * 4)).off + 3, none⟩) hbb).trans b3_⟩
        clear hK K
        (try simp only [Act.put, List.setIfInBounds_toArray, List.set_cons_zero, List.set_cons_succ])
        refine' wpAnyH_take (i := 9) (v := .int .i64 c) ?hi9x20 ?hs9x20 ?hf9x20 ?hr9x20 ?hQ9x20 ?hy9x20 ?hS9x20 ?rest9x20
        case hi9x20 => (simp only [List.getElem?_toArray, List.getElem?_cons_succ, List.getElem?_cons_zero]; try rfl)
        case hs9x20 => kernel_rfl
        case hf9x20 => kernel_rfl
        case hr9x20 => kernel_rfl
        case hQ9x20 => exact fun _ _ _ h => h
        case hy9x20 => exact Or.inl ⟨by rfl, by (intro w hSw; (try dsimp only at hSw); go_simp)⟩
        case hS9x20 => assumption
        (try simp only [Act.put, List.setIfInBounds_toArray, List.set_cons_zero, List.set_cons_succ])
        refine wpAnyH_done (by kernel_rfl) ?_ _
        refine NoPanic.normal ?_
        go_wp2_with fail
        go_ret
        exact ⟨ret_int (by rw [← hrH.out, hcH.out, hstH.out, if_neg c0]), hbwH.out.drew.trans (hb'.mono hsz)⟩
    · obtain ⟨z, hz⟩ : ∃ z, cmp3 (l.length : Int) (m.length : Int) = z := ⟨_, rfl⟩
      have hzr := Lib.hid (show z = r by rw [← hz, ← hrH.out, hcH.out]; exact (cmpR_end (by have := hnH.out; omega) hpl hpm).symm)
      have hzH := Lib.hid hz
      clear hz
      go_wp2_with (go_at_call 38; go_must (refine (cmpLen_any _ _ _).mono ?_; rw [hzH.out]; rintro e w' ⟨rfl, rfl⟩))
      go_ret
      exact ⟨ret_int hzr.out, hbwH.out⟩

end Go.Proofs.YtfkimemagbkcoaaDoor
