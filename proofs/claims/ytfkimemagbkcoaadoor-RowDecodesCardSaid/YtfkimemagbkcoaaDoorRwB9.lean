/-
  The order of bytes, as the laws of layer 2 ask it, at this program. No condition.
-/
import Derived.Test.YtfkimemagbkcoaaDoorRwB8
set_option linter.unusedVariables false
set_option linter.unusedSimpArgs false
namespace Go.Proofs.YtfkimemagbkcoaaDoor
open Go.RowKit Go.Lib

/-- The slice value v holds these bytes. -/
def BytsV (w : World) (v : Value) (l : List UInt8) : Prop := SlV w 1 v l.length (Lib.byteCells l)
theorem BytsV.below {w w' : World} {v : Value} {l : List UInt8} (h : BytsV w v l) (hb : Below w.heap.size w w') : BytsV w' v l := SlV.below h hb
theorem OwnU.byts {B : Nat} {v : Value} {l : List UInt8} {w : World} (h : OwnU B v l w) : BytsV w v l := own_slV h
theorem BytsV.form {w : World} {v : Value} {l : List UInt8} (h : BytsV w v l) : ∃ A c, v = .slice A l.length c ∧ l.length ≤ 9223372036854775807 := by
  obtain ⟨_, A, c, rfl, h2, h3, _⟩ := h
  exact ⟨A, c, rfl, by omega⟩
theorem BytsV.at {w : World} {A : Option Addr} {c : Nat} {l : List UInt8} (h : BytsV w (.slice A l.length c) l) {i : Nat} {b : UInt8} (hb : l[i]? = some b) :
    ∃ ad : Addr, A = some ad ∧ (ad.add i).block < w.heap.size ∧ w.cell? (ad.add i) = some (.int .u8 b.toNat) := by
  obtain ⟨_, A', c', e, _, _, _, h4⟩ := h
  obtain ⟨rfl, _, rfl⟩ := Value.slice.inj e
  have hi : i < l.length := (List.getElem?_eq_some_iff.1 hb).1
  obtain ⟨ad, rfl, h5, h6⟩ := h4 (by omega)
  exact ⟨ad, rfl, by rw [add_block]; exact h5, h6 i _ (by simp [Lib.byteCells, hb])⟩
theorem compare_at {x y : List UInt8} {p : Nat} {a b : UInt8} (ha : x[p]? = some a) (hb : y[p]? = some b) : compareBytes (x.drop p) (y.drop p) = if a < b then -1 else if b < a then 1 else compareBytes (x.drop (p + 1)) (y.drop (p + 1)) := by
  obtain ⟨h1, rfl⟩ := List.getElem?_eq_some_iff.1 ha
  obtain ⟨h2, rfl⟩ := List.getElem?_eq_some_iff.1 hb
  rw [List.drop_eq_getElem_cons h1, List.drop_eq_getElem_cons h2]
  rfl
theorem compare_end {x y : List UInt8} {p : Nat} (h : x.length ≤ p ∨ y.length ≤ p) (h1 : p ≤ x.length) (h2 : p ≤ y.length) : compareBytes (x.drop p) (y.drop p) = if x.length < y.length then -1 else if y.length < x.length then 1 else 0 := by
  rcases h with h | h
  · rw [List.drop_eq_nil_iff.2 h]
    have e : p = x.length := by omega
    subst e
    by_cases c : x.length < y.length
    · rw [if_pos c, List.drop_eq_getElem_cons c]
      rfl
    · rw [if_neg c, if_neg (by omega), List.drop_eq_nil_iff.2 (by omega)]
      rfl
  · rw [List.drop_eq_nil_iff.2 h]
    have e : p = y.length := by omega
    subst e
    by_cases c : y.length < x.length
    · rw [if_neg (by omega), if_pos c, List.drop_eq_getElem_cons c]
      rfl
    · rw [if_neg (by omega), if_neg c, List.drop_eq_nil_iff.2 (by omega)]
      rfl
def RelBy (x y : List UInt8) (w0 : World) (s5 : Value) (wr : World) : Prop := ∃ p : Nat, p ≤ x.length ∧ p ≤ y.length ∧ s5 = .int .i64 (p : Int) ∧ compareBytes x y = compareBytes (x.drop p) (y.drop p) ∧ Below w0.heap.size w0 wr
set_option maxHeartbeats 4000000 in
set_option maxRecDepth 1000000 in
theorem bytes_any (va vb : Value) (x y : List UInt8) (w : World) (ha : BytsV w va x) (hb : BytsV w vb y) :
    Calls Tryd.prog 16 #[va, vb] w fun e w' => e = .returned (.int .i64 (compareBytes x y)) ∧ Below w.heap.size w w' := by
  obtain ⟨A, ca, rfl, hla⟩ := ha.form
  obtain ⟨B, cb, rfl, hlb⟩ := hb.form
  have haH := Lib.hid ha; have hbH := Lib.hid hb
  clear ha hb
  go_enter Tryd.func16, Tryd.ntmps16
  go_wp2_with fail
  go_loopw [5] (fun s5 wr => RelBy x y w s5 wr) (fun s5 _ => x.length - (Go.RowKit.intOf s5).toNat)
  case atStart => exact ⟨0, by omega, by omega, rfl, rfl, Below.refl _ _⟩
  case round =>
    unfold RelBy at hrel
    obtain ⟨p, hp, hq, rfl, hcmp, hbw⟩ := hrel
    have hbwH := Lib.hid hbw; have hcmpH := Lib.hid hcmp
    clear hbw hcmp
    by_cases hlt : p < x.length ∧ p < y.length
    · obtain ⟨hx, hy⟩ := hlt
      obtain ⟨a, ha⟩ : ∃ a, x[p]? = some a := ⟨_, List.getElem?_eq_getElem hx⟩
      obtain ⟨b, hb⟩ : ∃ b, y[p]? = some b := ⟨_, List.getElem?_eq_getElem hy⟩
      obtain ⟨ad, rfl, hba, a0_⟩ := (haH.out.below hbwH.out).at ha
      obtain ⟨bd, rfl, hbb, b0_⟩ := (hbH.out.below hbwH.out).at hb
      have hat := Lib.hid (compare_at ha hb)
      clear ha hb
      go_wp2_with fail
      refine wp_region_noPanic ?_
      refine wp_region_held_drew (S := (fun w' => w'.cell? (ad.add p) = some (.int .u8 a.toNat) ∧ w'.cell? (bd.add p) = some (.int .u8 b.toNat))) (by kernel_rfl) (⟨a0_, b0_⟩) (fun hHeld => ?_)
      refine' wpAnyH_take (i := 0) (v := ?v0x1) ?hi0x1 ?hs0x1 ?hf0x1 ?hr0x1 ?hQ0x1 ?hy0x1 ?hS0x1 ?rest0x1
      case hi0x1 => (simp only [List.getElem?_toArray, List.getElem?_cons_succ, List.getElem?_cons_zero]; try rfl)
      case hs0x1 => kernel_rfl
      case hf0x1 => kernel_rfl
      case hr0x1 => kernel_rfl
      case hQ0x1 => exact fun _ _ _ h => h
      case hy0x1 => first | exact Or.inl ⟨by rfl, by (intro w hSw; (try dsimp only at hSw); go_simp; try rfl)⟩ | exact Or.inr ⟨by rfl, rfl⟩
      case hS0x1 => assumption
      (try simp only [Act.put, List.setIfInBounds_toArray, List.set_cons_zero, List.set_cons_succ])
      refine' wpAnyH_take (i := 1) (v := ?v1x2) ?hi1x2 ?hs1x2 ?hf1x2 ?hr1x2 ?hQ1x2 ?hy1x2 ?hS1x2 ?rest1x2
      case hi1x2 => (simp only [List.getElem?_toArray, List.getElem?_cons_succ, List.getElem?_cons_zero]; try rfl)
      case hs1x2 => kernel_rfl
      case hf1x2 => kernel_rfl
      case hr1x2 => kernel_rfl
      case hQ1x2 => exact fun _ _ _ h => h
      case hy1x2 => first | exact Or.inl ⟨by rfl, by (intro w hSw; (try dsimp only at hSw); go_simp; try rfl)⟩ | exact Or.inr ⟨by rfl, rfl⟩
      case hS1x2 => assumption
      (try simp only [Act.put, List.setIfInBounds_toArray, List.set_cons_zero, List.set_cons_succ])
      refine' wpAnyH_take (i := 2) (v := ?v2x3) ?hi2x3 ?hs2x3 ?hf2x3 ?hr2x3 ?hQ2x3 ?hy2x3 ?hS2x3 ?rest2x3
      case hi2x3 => (simp only [List.getElem?_toArray, List.getElem?_cons_succ, List.getElem?_cons_zero]; try rfl)
      case hs2x3 => kernel_rfl
      case hf2x3 => kernel_rfl
      case hr2x3 => kernel_rfl
      case hQ2x3 => exact fun _ _ _ h => h
      case hy2x3 => first | exact Or.inl ⟨by rfl, by (intro w hSw; (try dsimp only at hSw); go_simp; try rfl)⟩ | exact Or.inr ⟨by rfl, rfl⟩
      case hS2x3 => assumption
      (try simp only [Act.put, List.setIfInBounds_toArray, List.set_cons_zero, List.set_cons_succ])
      refine' wpAnyH_take (i := 3) (v := ?v3x4) ?hi3x4 ?hs3x4 ?hf3x4 ?hr3x4 ?hQ3x4 ?hy3x4 ?hS3x4 ?rest3x4
      case hi3x4 => (simp only [List.getElem?_toArray, List.getElem?_cons_succ, List.getElem?_cons_zero]; try rfl)
      case hs3x4 => kernel_rfl
      case hf3x4 => kernel_rfl
      case hr3x4 => kernel_rfl
      case hQ3x4 => exact fun _ _ _ h => h
      case hy3x4 => first | exact Or.inl ⟨by rfl, by (intro w hSw; (try dsimp only at hSw); go_simp; try rfl)⟩ | exact Or.inr ⟨by rfl, rfl⟩
      case hS3x4 => assumption
      (try simp only [Act.put, List.setIfInBounds_toArray, List.set_cons_zero, List.set_cons_succ])
      refine' wpAnyH_take (i := 4) (v := ?v4x5) ?hi4x5 ?hs4x5 ?hf4x5 ?hr4x5 ?hQ4x5 ?hy4x5 ?hS4x5 ?rest4x5
      case hi4x5 => (simp only [List.getElem?_toArray, List.getElem?_cons_succ, List.getElem?_cons_zero]; try rfl)
      case hs4x5 => kernel_rfl
      case hf4x5 => kernel_rfl
      case hr4x5 => kernel_rfl
      case hQ4x5 => exact fun _ _ _ h => h
      case hy4x5 => first | exact Or.inl ⟨by rfl, by (intro w hSw; (try dsimp only at hSw); go_simp; try rfl)⟩ | exact Or.inr ⟨by rfl, rfl⟩
      case hS4x5 => assumption
      (try simp only [Act.put, List.setIfInBounds_toArray, List.set_cons_zero, List.set_cons_succ])
      refine' wpAnyH_take (i := 5) (v := ?v5x6) ?hi5x6 ?hs5x6 ?hf5x6 ?hr5x6 ?hQ5x6 ?hy5x6 ?hS5x6 ?rest5x6
      case hi5x6 => (simp only [List.getElem?_toArray, List.getElem?_cons_succ, List.getElem?_cons_zero]; try rfl)
      case hs5x6 => kernel_rfl
      case hf5x6 => kernel_rfl
      case hr5x6 => kernel_rfl
      case hQ5x6 => exact fun _ _ _ h => h
      case hy5x6 => first | exact Or.inl ⟨by rfl, by (intro w hSw; (try dsimp only at hSw); go_simp; try rfl)⟩ | exact Or.inr ⟨by rfl, rfl⟩
      case hS5x6 => assumption
      (try simp only [Act.put, List.setIfInBounds_toArray, List.set_cons_zero, List.set_cons_succ])
      refine' wpAnyH_take (i := 6) (v := ?v6x7) ?hi6x7 ?hs6x7 ?hf6x7 ?hr6x7 ?hQ6x7 ?hy6x7 ?hS6x7 ?rest6x7
      case hi6x7 => (simp only [List.getElem?_toArray, List.getElem?_cons_succ, List.getElem?_cons_zero]; try rfl)
      case hs6x7 => kernel_rfl
      case hf6x7 => kernel_rfl
      case hr6x7 => kernel_rfl
      case hQ6x7 => exact fun _ _ _ h => h
      case hy6x7 => first | exact Or.inl ⟨by rfl, by (intro w hSw; (try dsimp only at hSw); go_simp; try rfl)⟩ | exact Or.inr ⟨by rfl, rfl⟩
      case hS6x7 => assumption
      (try simp only [Act.put, List.setIfInBounds_toArray, List.set_cons_zero, List.set_cons_succ])
      refine' wpAnyH_take (i := 7) (v := ?v7x8) ?hi7x8 ?hs7x8 ?hf7x8 ?hr7x8 ?hQ7x8 ?hy7x8 ?hS7x8 ?rest7x8
      case hi7x8 => (simp only [List.getElem?_toArray, List.getElem?_cons_succ, List.getElem?_cons_zero]; try rfl)
      case hs7x8 => kernel_rfl
      case hf7x8 => kernel_rfl
      case hr7x8 => kernel_rfl
      case hQ7x8 => exact fun _ _ _ h => h
      case hy7x8 => first | exact Or.inl ⟨by rfl, by (intro w hSw; (try dsimp only at hSw); go_simp; try rfl)⟩ | exact Or.inr ⟨by rfl, rfl⟩
      case hS7x8 => assumption
      (try simp only [Act.put, List.setIfInBounds_toArray, List.set_cons_zero, List.set_cons_succ])
      refine' wpAnyH_take (i := 8) (v := ?v8x9) ?hi8x9 ?hs8x9 ?hf8x9 ?hr8x9 ?hQ8x9 ?hy8x9 ?hS8x9 ?rest8x9
      case hi8x9 => (simp only [List.getElem?_toArray, List.getElem?_cons_succ, List.getElem?_cons_zero]; try rfl)
      case hs8x9 => kernel_rfl
      case hf8x9 => kernel_rfl
      case hr8x9 => kernel_rfl
      case hQ8x9 => exact fun _ _ _ h => h
      case hy8x9 => first | exact Or.inl ⟨by rfl, by (intro w hSw; (try dsimp only at hSw); go_simp; try rfl)⟩ | exact Or.inr ⟨by rfl, rfl⟩
      case hS8x9 => assumption
      (try simp only [Act.put, List.setIfInBounds_toArray, List.set_cons_zero, List.set_cons_succ])
      refine wpAnyH_done (by kernel_rfl) ?_ _
      refine NoPanic.normal ?_
      by_cases hlt2 : (a.toNat : Int) < (b.toNat : Int)
      · have hres := Lib.hid (show compareBytes x y = -1 by
          have h1 : a < b := by rw [UInt8.lt_iff_toNat_lt]; omega
          rw [hcmpH.out, hat.out, if_pos h1])
        go_wp2_with fail
        go_ret
        exact ⟨ret_int hres.out.symm, hbwH.out.drew⟩
      · go_wp2_with fail
        refine wp_region_noPanic ?_
        refine wp_region_held_drew (S := (fun w' => w'.cell? (ad.add p) = some (.int .u8 a.toNat) ∧ w'.cell? (bd.add p) = some (.int .u8 b.toNat))) (by kernel_rfl) (⟨a0_, b0_⟩) (fun hHeld => ?_)
        refine' wpAnyH_take (i := 0) (v := ?v0x10) ?hi0x10 ?hs0x10 ?hf0x10 ?hr0x10 ?hQ0x10 ?hy0x10 ?hS0x10 ?rest0x10
        case hi0x10 => (simp only [List.getElem?_toArray, List.getElem?_cons_succ, List.getElem?_cons_zero]; try rfl)
        case hs0x10 => kernel_rfl
        case hf0x10 => kernel_rfl
        case hr0x10 => kernel_rfl
        case hQ0x10 => exact fun _ _ _ h => h
        case hy0x10 => first | exact Or.inl ⟨by rfl, by (intro w hSw; (try dsimp only at hSw); go_simp; try rfl)⟩ | exact Or.inr ⟨by rfl, rfl⟩
        case hS0x10 => assumption
        (try simp only [Act.put, List.setIfInBounds_toArray, List.set_cons_zero, List.set_cons_succ])
        refine' wpAnyH_take (i := 1) (v := ?v1x11) ?hi1x11 ?hs1x11 ?hf1x11 ?hr1x11 ?hQ1x11 ?hy1x11 ?hS1x11 ?rest1x11
        case hi1x11 => (simp only [List.getElem?_toArray, List.getElem?_cons_succ, List.getElem?_cons_zero]; try rfl)
        case hs1x11 => kernel_rfl
        case hf1x11 => kernel_rfl
        case hr1x11 => kernel_rfl
        case hQ1x11 => exact fun _ _ _ h => h
        case hy1x11 => first | exact Or.inl ⟨by rfl, by (intro w hSw; (try dsimp only at hSw); go_simp; try rfl)⟩ | exact Or.inr ⟨by rfl, rfl⟩
        case hS1x11 => assumption
        (try simp only [Act.put, List.setIfInBounds_toArray, List.set_cons_zero, List.set_cons_succ])
        refine' wpAnyH_take (i := 2) (v := ?v2x12) ?hi2x12 ?hs2x12 ?hf2x12 ?hr2x12 ?hQ2x12 ?hy2x12 ?hS2x12 ?rest2x12
        case hi2x12 => (simp only [List.getElem?_toArray, List.getElem?_cons_succ, List.getElem?_cons_zero]; try rfl)
        case hs2x12 => kernel_rfl
        case hf2x12 => kernel_rfl
        case hr2x12 => kernel_rfl
        case hQ2x12 => exact fun _ _ _ h => h
        case hy2x12 => first | exact Or.inl ⟨by rfl, by (intro w hSw; (try dsimp only at hSw); go_simp; try rfl)⟩ | exact Or.inr ⟨by rfl, rfl⟩
        case hS2x12 => assumption
        (try simp only [Act.put, List.setIfInBounds_toArray, List.set_cons_zero, List.set_cons_succ])
        refine' wpAnyH_take (i := 3) (v := ?v3x13) ?hi3x13 ?hs3x13 ?hf3x13 ?hr3x13 ?hQ3x13 ?hy3x13 ?hS3x13 ?rest3x13
        case hi3x13 => (simp only [List.getElem?_toArray, List.getElem?_cons_succ, List.getElem?_cons_zero]; try rfl)
        case hs3x13 => kernel_rfl
        case hf3x13 => kernel_rfl
        case hr3x13 => kernel_rfl
        case hQ3x13 => exact fun _ _ _ h => h
        case hy3x13 => first | exact Or.inl ⟨by rfl, by (intro w hSw; (try dsimp only at hSw); go_simp; try rfl)⟩ | exact Or.inr ⟨by rfl, rfl⟩
        case hS3x13 => assumption
        (try simp only [Act.put, List.setIfInBounds_toArray, List.set_cons_zero, List.set_cons_succ])
        refine' wpAnyH_take (i := 4) (v := ?v4x14) ?hi4x14 ?hs4x14 ?hf4x14 ?hr4x14 ?hQ4x14 ?hy4x14 ?hS4x14 ?rest4x14
        case hi4x14 => (simp only [List.getElem?_toArray, List.getElem?_cons_succ, List.getElem?_cons_zero]; try rfl)
        case hs4x14 => kernel_rfl
        case hf4x14 => kernel_rfl
        case hr4x14 => kernel_rfl
        case hQ4x14 => exact fun _ _ _ h => h
        case hy4x14 => first | exact Or.inl ⟨by rfl, by (intro w hSw; (try dsimp only at hSw); go_simp; try rfl)⟩ | exact Or.inr ⟨by rfl, rfl⟩
        case hS4x14 => assumption
        (try simp only [Act.put, List.setIfInBounds_toArray, List.set_cons_zero, List.set_cons_succ])
        refine' wpAnyH_take (i := 5) (v := ?v5x15) ?hi5x15 ?hs5x15 ?hf5x15 ?hr5x15 ?hQ5x15 ?hy5x15 ?hS5x15 ?rest5x15
        case hi5x15 => (simp only [List.getElem?_toArray, List.getElem?_cons_succ, List.getElem?_cons_zero]; try rfl)
        case hs5x15 => kernel_rfl
        case hf5x15 => kernel_rfl
        case hr5x15 => kernel_rfl
        case hQ5x15 => exact fun _ _ _ h => h
        case hy5x15 => first | exact Or.inl ⟨by rfl, by (intro w hSw; (try dsimp only at hSw); go_simp; try rfl)⟩ | exact Or.inr ⟨by rfl, rfl⟩
        case hS5x15 => assumption
        (try simp only [Act.put, List.setIfInBounds_toArray, List.set_cons_zero, List.set_cons_succ])
        refine' wpAnyH_take (i := 6) (v := ?v6x16) ?hi6x16 ?hs6x16 ?hf6x16 ?hr6x16 ?hQ6x16 ?hy6x16 ?hS6x16 ?rest6x16
        case hi6x16 => (simp only [List.getElem?_toArray, List.getElem?_cons_succ, List.getElem?_cons_zero]; try rfl)
        case hs6x16 => kernel_rfl
        case hf6x16 => kernel_rfl
        case hr6x16 => kernel_rfl
        case hQ6x16 => exact fun _ _ _ h => h
        case hy6x16 => first | exact Or.inl ⟨by rfl, by (intro w hSw; (try dsimp only at hSw); go_simp; try rfl)⟩ | exact Or.inr ⟨by rfl, rfl⟩
        case hS6x16 => assumption
        (try simp only [Act.put, List.setIfInBounds_toArray, List.set_cons_zero, List.set_cons_succ])
        refine' wpAnyH_take (i := 7) (v := ?v7x17) ?hi7x17 ?hs7x17 ?hf7x17 ?hr7x17 ?hQ7x17 ?hy7x17 ?hS7x17 ?rest7x17
        case hi7x17 => (simp only [List.getElem?_toArray, List.getElem?_cons_succ, List.getElem?_cons_zero]; try rfl)
        case hs7x17 => kernel_rfl
        case hf7x17 => kernel_rfl
        case hr7x17 => kernel_rfl
        case hQ7x17 => exact fun _ _ _ h => h
        case hy7x17 => first | exact Or.inl ⟨by rfl, by (intro w hSw; (try dsimp only at hSw); go_simp; try rfl)⟩ | exact Or.inr ⟨by rfl, rfl⟩
        case hS7x17 => assumption
        (try simp only [Act.put, List.setIfInBounds_toArray, List.set_cons_zero, List.set_cons_succ])
        refine' wpAnyH_take (i := 8) (v := ?v8x18) ?hi8x18 ?hs8x18 ?hf8x18 ?hr8x18 ?hQ8x18 ?hy8x18 ?hS8x18 ?rest8x18
        case hi8x18 => (simp only [List.getElem?_toArray, List.getElem?_cons_succ, List.getElem?_cons_zero]; try rfl)
        case hs8x18 => kernel_rfl
        case hf8x18 => kernel_rfl
        case hr8x18 => kernel_rfl
        case hQ8x18 => exact fun _ _ _ h => h
        case hy8x18 => first | exact Or.inl ⟨by rfl, by (intro w hSw; (try dsimp only at hSw); go_simp; try rfl)⟩ | exact Or.inr ⟨by rfl, rfl⟩
        case hS8x18 => assumption
        (try simp only [Act.put, List.setIfInBounds_toArray, List.set_cons_zero, List.set_cons_succ])
        refine wpAnyH_done (by kernel_rfl) ?_ _
        refine NoPanic.normal ?_
        by_cases hgt : (b.toNat : Int) < (a.toNat : Int)
        · have hres := Lib.hid (show compareBytes x y = 1 by
            have h1 : ¬ a < b := by rw [UInt8.lt_iff_toNat_lt]; omega
            have h2 : b < a := by rw [UInt8.lt_iff_toNat_lt]; omega
            rw [hcmpH.out, hat.out, if_neg h1, if_pos h2])
          go_wp2_with fail
          go_ret
          exact ⟨ret_int hres.out.symm, hbwH.out.drew.drew⟩
        · have hres := Lib.hid (show compareBytes x y = compareBytes (x.drop (p + 1)) (y.drop (p + 1)) by
            have h1 : ¬ a < b := by rw [UInt8.lt_iff_toNat_lt]; omega
            have h2 : ¬ b < a := by rw [UInt8.lt_iff_toNat_lt]; omega
            rw [hcmpH.out, hat.out, if_neg h1, if_neg h2])
          go_wp2_with fail
          go_roundw
          case rel => exact ⟨p + 1, hx, hy, by go_num, hres.out, hbwH.out.drew.drew⟩
          case measure => simp [Go.RowKit.intOf]; omega
    · have hres := Lib.hid (show compareBytes x y = _ from hcmpH.out.trans (compare_end (p := p) (by omega) hp hq))
      by_cases h1 : x.length < y.length
      · have hr2 := Lib.hid (show compareBytes x y = -1 by rw [hres.out, if_pos h1])
        by_cases h3 : p < x.length
        · omega
        · go_wp2_with fail
          go_ret
          exact ⟨ret_int hr2.out.symm, hbwH.out⟩
      · by_cases h2 : y.length < x.length
        · have hr2 := Lib.hid (show compareBytes x y = 1 by rw [hres.out, if_neg h1, if_pos h2])
          have h3 : p < x.length := by omega
          have h4 : ¬ p < y.length := by omega
          go_wp2_with fail
          go_ret
          exact ⟨ret_int hr2.out.symm, hbwH.out⟩
        · have hr2 := Lib.hid (show compareBytes x y = 0 by rw [hres.out, if_neg h1, if_neg h2])
          have h3 : ¬ p < x.length := by omega
          go_wp2_with fail
          go_ret
          exact ⟨ret_int hr2.out.symm, hbwH.out⟩
theorem chk_kinded {d : Dat} (h : chk d = 0) : Kinded d := by
  unfold chk form at h
  unfold Kinded
  repeat' split at h
  all_goals first | omega | (simp_all; omega) | (simp_all)
end Go.Proofs.YtfkimemagbkcoaaDoor
