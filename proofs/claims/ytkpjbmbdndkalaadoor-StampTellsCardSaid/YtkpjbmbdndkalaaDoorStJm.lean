/-
  The document's own Join and Meet of layer 4: what they answer. Conditions: those written.
-/
import Derived.Test.YtkpjbmbdndkalaaDoorStChW
import Derived.Test.YtkpjbmbdndkalaaDoorStRef0
import Derived.Test.YtkpjbmbdndkalaaDoorStKn
import Derived.LoopTactic
import Derived.BigQuiet
import Derived.Deep.RegionHeld3
set_option linter.unusedVariables false
set_option linter.unusedSimpArgs false
namespace Go.Proofs.YtkpjbmbdndkalaaDoor
open Go.RowKit Go.Lib

theorem news1 (w : World) (b : Nat) (z : Int) (t : TypeId) (hb : b = w.heap.size) : ∀ j u, [uv z][j]? = some u → (w.alloc (.cells #[uv z] t)).cell? ((⟨b, 0, none⟩ : Addr).add j) = some u := by
  intro j u hj
  subst hb
  match j, hj with
  | 0, hj => simp only [List.getElem?_cons_zero, Option.some.injEq] at hj; subst hj; rw [add_zero, cell_new]; rfl
  | j + 1, hj => simp at hj
theorem HasC.append {w w' : World} {b B : Nat} {cs : List Value} {t : TypeId} {v : Value} {l : List Int} (h : HasC w b cs t) (ht : t ≠ 60) (ho : OwnW B v l w) (hg : w.grownBy w' v.ownBlock) : HasC w' b cs t := by
  refine (hg.block b h.lt (fun e => ?_)).trans h
  rcases ho.2 with ⟨rfl, _⟩ | ⟨g, cap, cur, rfl, _, hc, _⟩
  · cases e
  · obtain rfl : b = g := by simpa [Value.ownBlock] using e
    unfold HasC at h
    rw [hc] at h
    simp only [Option.some.injEq, Obj.cells.injEq] at h
    exact ht h.2.1.symm
theorem zipL_snoc (f : Int → Int → Int) : ∀ (l m : List Int) (p : Nat) (x y : Int), l[p]? = some x → m[p]? = some y → zipL f (l.take (p + 1)) (m.take (p + 1)) = zipL f (l.take p) (m.take p) ++ [f x y]
  | [], _, _, _, _, h, _ => by simp at h
  | _ :: _, [], _, _, _, _, h => by simp at h
  | a :: l, b :: m, 0, x, y, h, h' => by
    simp at h h'
    subst h h'
    simp [zipL]
  | a :: l, b :: m, p + 1, x, y, h, h' => by
    simp only [List.getElem?_cons_succ] at h h'
    simp only [List.take_succ_cons, zipL, List.cons_append, List.cons.injEq, true_and]
    exact zipL_snoc f l m p x y h h'
def RelJM (f : Int → Int → Int) (l m : List Int) (e : Int) (n tb B : Nat) (w0 : World) (i : Value) (wr : World) : Prop :=
  ∃ (p : Nat) (v : Value), i = .int .i64 (p : Int) ∧ p ≤ n ∧ HasC wr tb [.int .u64 e, v] 25 ∧ OwnW B v (zipL f (l.take p) (m.take p)) wr ∧ Below w0.heap.size w0 wr ∧ B ≤ wr.heap.size
set_option maxHeartbeats 2000000 in
set_option maxRecDepth 1000000 in
theorem refJoin_any (va vb : Value) (a b : Tm) (w : World) (ha : TmV w va a) (hb : TmV w vb b) (hs : a.l.length ≤ 1099511627776) :
    Calls Tryd.prog 17 #[va, vb] w fun e w' => ∃ v, e = .returned (.tuple #[.agg #[.int .u64 (chosenT max a b).e, v], .int .i64 (chosenE a b)]) ∧ OwnW w.heap.size v (chosenT max a b).l w' ∧ Below w.heap.size w w' := by
  obtain ⟨i0, hi, hz0, hz1, hz2⟩ := info_parts u32_info
  obtain ⟨ea, l⟩ := a
  obtain ⟨eb, m⟩ := b
  obtain ⟨sa, rfl, ha⟩ := ha
  obtain ⟨sb, rfl, hb⟩ := hb
  simp only at ha hb hs
  obtain ⟨A, n, ca, rfl, hn, hla, hca⟩ := ha.form
  obtain ⟨B, k, cb, rfl, hk, hlb, hcb⟩ := hb.form
  rw [hn] at hs
  obtain ⟨W0, hW0, hwW, hA, hB, hR, hzz⟩ := boxes3 w [.int .u64 ea, .slice A n ca] [.int .u64 eb, .slice B k cb] [.int .u64 0, .slice none 0 0] 25 25 25
  have haH := Lib.hid (ha.below hwW); have hbH := Lib.hid (hb.below hwW)
  have hAH := Lib.hid hA; have hBH := Lib.hid hB; have hRH := Lib.hid hR; have hwWH := Lib.hid hwW
  have hnH := Lib.hid hn; have hkH := Lib.hid hk
  have a0_ := hA.cell 0 rfl; have a1_ := hA.cell 1 rfl; have b0_ := hB.cell 0 rfl; have b1_ := hB.cell 1 rfl; have r0_ := hR.cell 0 rfl; have r1_ := hR.cell 1 rfl; have rf0_ := hR.free 0; have rf1_ := hR.free 1
  clear ha hb hA hB hR hwW hn hk
  by_cases hlen : n = k
  · subst hlen
    have hT : chosenT max ⟨ea, l⟩ ⟨eb, m⟩ = ⟨max ea eb, zipL max l m⟩ := if_pos (hnH.out.trans hkH.out.symm)
    have hE : chosenE ⟨ea, l⟩ ⟨eb, m⟩ = 0 := if_pos (hnH.out.trans hkH.out.symm)
    rw [hT, hE]
    clear hT hE
    go_enter Tryd.func17, Tryd.ntmps17
    go_wp2_with fail
    go_loopw [7] (fun i wr => RelJM max l m (max ea eb) n W0.heap.size (W0.heap.size + 1) W0 i wr) (fun i _ => n - (Go.RowKit.intOf i).toNat)
    case atStart => exact ⟨0, .slice none 0 0, rfl, Nat.zero_le _, has_at _ _ _ _ rfl, OwnW.nil _ _, by go_grown, by simp⟩
    case round =>
      unfold RelJM at hrel
      obtain ⟨p, v, rfl, hpn, hto, hvo, hbw, hBr⟩ := hrel
      clear a0_ a1_ b0_ b1_ r0_ r1_ rf0_ rf1_
      have a1_ := (hAH.out.below hbw).cell 1 rfl; have b1_ := (hBH.out.below hbw).cell 1 rfl; have t0_ := hto.cell 0 rfl; have t1_ := hto.cell 1 rfl; have tl_ := hto.lt
      replace hto := Lib.hid hto; replace hvo := Lib.hid hvo; have hbwH := Lib.hid hbw; replace hBr := Lib.hid hBr
      clear hbw
      by_cases hp : p < n
      · have h1 : p < l.length := by have := hnH.out; omega
        have h2 : p < m.length := by have := hkH.out; omega
        obtain ⟨ad, rfl, hba, ac_⟩ := (haH.out.below hbwH.out).at h1
        obtain ⟨bd, rfl, hbb, bc_⟩ := (hbH.out.below hbwH.out).at h2
        have hsn := zipL_snoc max l m p l[p] m[p] (by simp [h1]) (by simp [h2])
        have hax : ∀ w', Below W0.heap.size W0 w' → w'.cell? (ad.add p) = some (uv l[p]) := fun w' hb => by
          obtain ⟨ad2, e2, _, h⟩ := (haH.out.below hb).at h1
          cases e2
          exact h
        have hbx : ∀ w', Below W0.heap.size W0 w' → w'.cell? (bd.add p) = some (uv m[p]) := fun w' hb => by
          obtain ⟨ad2, e2, _, h⟩ := (hbH.out.below hb).at h2
          cases e2
          exact h
        have hzl : (zipL max (l.take p) (m.take p)).length ≤ 1099511627776 := by
          rw [zipL_len _ _ _ (by simp; omega), List.length_take]
          omega
        obtain ⟨x, hx⟩ : ∃ x, l[p] = x := ⟨_, rfl⟩
        obtain ⟨y, hy⟩ : ∃ y, m[p] = y := ⟨_, rfl⟩
        rw [hx] at ac_ hax hsn
        rw [hy] at bc_ hbx hsn
        replace hax := Lib.hid hax; replace hbx := Lib.hid hbx; replace hsn := Lib.hid hsn; replace hzl := Lib.hid hzl
        clear hx hy h1 h2
        go_upto_region 7 with fail
        refine wp_region_noPanic ?_
        refine wp_region_held_drew (S := (fun w' => w'.cell? ⟨w.heap.size, 1, none⟩ = some (.slice (some ad) n ca) ∧ w'.cell? ⟨w.heap.size + 1, 1, none⟩ = some (.slice (some bd) n cb) ∧ w'.cell? (ad.add p) = some (.int .u32 x) ∧ w'.cell? (bd.add p) = some (.int .u32 y))) (by kernel_rfl) (⟨a1_, b1_, ac_, bc_⟩) (fun hHeld => ?_)
        refine' wpAnyH_take (i := 0) (v := ?v0x1) ?hi0x1 ?hs0x1 ?hf0x1 ?hr0x1 ?hQ0x1 ?hy0x1 ?hS0x1 ?rest0x1
        case hi0x1 => (simp only [List.getElem?_toArray, List.getElem?_cons_succ, List.getElem?_cons_zero]; try rfl)
        case hs0x1 => kernel_rfl
        case hf0x1 => kernel_rfl
        case hr0x1 => kernel_rfl
        case hQ0x1 => exact fun _ _ _ h => h
        case hy0x1 => first | exact Or.inl ⟨by rfl, by (intro w hSw; (try dsimp only at hSw); go_simp; try rfl)⟩ | exact Or.inr ⟨by rfl, rfl⟩
        case hS0x1 => assumption
        (try simp only [Act.put, List.setIfInBounds_toArray, List.set_cons_zero, List.set_cons_succ])
        refine' wpAnyH_take (i := 2) (v := ?v2x2) ?hi2x2 ?hs2x2 ?hf2x2 ?hr2x2 ?hQ2x2 ?hy2x2 ?hS2x2 ?rest2x2
        case hi2x2 => (simp only [List.getElem?_toArray, List.getElem?_cons_succ, List.getElem?_cons_zero]; try rfl)
        case hs2x2 => kernel_rfl
        case hf2x2 => kernel_rfl
        case hr2x2 => kernel_rfl
        case hQ2x2 => exact fun _ _ _ h => h
        case hy2x2 => first | exact Or.inl ⟨by rfl, by (intro w hSw; (try dsimp only at hSw); go_simp; try rfl)⟩ | exact Or.inr ⟨by rfl, rfl⟩
        case hS2x2 => assumption
        (try simp only [Act.put, List.setIfInBounds_toArray, List.set_cons_zero, List.set_cons_succ])
        refine' wpAnyH_take (i := 3) (v := ?v3x3) ?hi3x3 ?hs3x3 ?hf3x3 ?hr3x3 ?hQ3x3 ?hy3x3 ?hS3x3 ?rest3x3
        case hi3x3 => (simp only [List.getElem?_toArray, List.getElem?_cons_succ, List.getElem?_cons_zero]; try rfl)
        case hs3x3 => kernel_rfl
        case hf3x3 => kernel_rfl
        case hr3x3 => kernel_rfl
        case hQ3x3 => exact fun _ _ _ h => h
        case hy3x3 => first | exact Or.inl ⟨by rfl, by (intro w hSw; (try dsimp only at hSw); go_simp; try rfl)⟩ | exact Or.inr ⟨by rfl, rfl⟩
        case hS3x3 => assumption
        (try simp only [Act.put, List.setIfInBounds_toArray, List.set_cons_zero, List.set_cons_succ])
        refine' wpAnyH_take (i := 4) (v := ?v4x4) ?hi4x4 ?hs4x4 ?hf4x4 ?hr4x4 ?hQ4x4 ?hy4x4 ?hS4x4 ?rest4x4
        case hi4x4 => (simp only [List.getElem?_toArray, List.getElem?_cons_succ, List.getElem?_cons_zero]; try rfl)
        case hs4x4 => kernel_rfl
        case hf4x4 => kernel_rfl
        case hr4x4 => kernel_rfl
        case hQ4x4 => exact fun _ _ _ h => h
        case hy4x4 => first | exact Or.inl ⟨by rfl, by (intro w hSw; (try dsimp only at hSw); go_simp; try rfl)⟩ | exact Or.inr ⟨by rfl, rfl⟩
        case hS4x4 => assumption
        (try simp only [Act.put, List.setIfInBounds_toArray, List.set_cons_zero, List.set_cons_succ])
        refine' wpAnyH_take (i := 5) (v := ?v5x5) ?hi5x5 ?hs5x5 ?hf5x5 ?hr5x5 ?hQ5x5 ?hy5x5 ?hS5x5 ?rest5x5
        case hi5x5 => (simp only [List.getElem?_toArray, List.getElem?_cons_succ, List.getElem?_cons_zero]; try rfl)
        case hs5x5 => kernel_rfl
        case hf5x5 => kernel_rfl
        case hr5x5 => kernel_rfl
        case hQ5x5 => exact fun _ _ _ h => h
        case hy5x5 => first | exact Or.inl ⟨by rfl, by (intro w hSw; (try dsimp only at hSw); go_simp; try rfl)⟩ | exact Or.inr ⟨by rfl, rfl⟩
        case hS5x5 => assumption
        (try simp only [Act.put, List.setIfInBounds_toArray, List.set_cons_zero, List.set_cons_succ])
        refine' wpAnyH_take (i := 6) (v := ?v6x6) ?hi6x6 ?hs6x6 ?hf6x6 ?hr6x6 ?hQ6x6 ?hy6x6 ?hS6x6 ?rest6x6
        case hi6x6 => (simp only [List.getElem?_toArray, List.getElem?_cons_succ, List.getElem?_cons_zero]; try rfl)
        case hs6x6 => kernel_rfl
        case hf6x6 => kernel_rfl
        case hr6x6 => kernel_rfl
        case hQ6x6 => exact fun _ _ _ h => h
        case hy6x6 => first | exact Or.inl ⟨by rfl, by (intro w hSw; (try dsimp only at hSw); go_simp; try rfl)⟩ | exact Or.inr ⟨by rfl, rfl⟩
        case hS6x6 => assumption
        (try simp only [Act.put, List.setIfInBounds_toArray, List.set_cons_zero, List.set_cons_succ])
        refine' wpAnyH_take (i := 7) (v := ?v7x7) ?hi7x7 ?hs7x7 ?hf7x7 ?hr7x7 ?hQ7x7 ?hy7x7 ?hS7x7 ?rest7x7
        case hi7x7 => (simp only [List.getElem?_toArray, List.getElem?_cons_succ, List.getElem?_cons_zero]; try rfl)
        case hs7x7 => kernel_rfl
        case hf7x7 => kernel_rfl
        case hr7x7 => kernel_rfl
        case hQ7x7 => exact fun _ _ _ h => h
        case hy7x7 => first | exact Or.inl ⟨by rfl, by (intro w hSw; (try dsimp only at hSw); go_simp; try rfl)⟩ | exact Or.inr ⟨by rfl, rfl⟩
        case hS7x7 => assumption
        (try simp only [Act.put, List.setIfInBounds_toArray, List.set_cons_zero, List.set_cons_succ])
        refine' wpAnyH_take (i := 8) (v := ?v8x8) ?hi8x8 ?hs8x8 ?hf8x8 ?hr8x8 ?hQ8x8 ?hy8x8 ?hS8x8 ?rest8x8
        case hi8x8 => (simp only [List.getElem?_toArray, List.getElem?_cons_succ, List.getElem?_cons_zero]; try rfl)
        case hs8x8 => kernel_rfl
        case hf8x8 => kernel_rfl
        case hr8x8 => kernel_rfl
        case hQ8x8 => exact fun _ _ _ h => h
        case hy8x8 => first | exact Or.inl ⟨by rfl, by (intro w hSw; (try dsimp only at hSw); go_simp; try rfl)⟩ | exact Or.inr ⟨by rfl, rfl⟩
        case hS8x8 => assumption
        (try simp only [Act.put, List.setIfInBounds_toArray, List.set_cons_zero, List.set_cons_succ])
        refine' wpAnyH_take (i := 9) (v := ?v9x9) ?hi9x9 ?hs9x9 ?hf9x9 ?hr9x9 ?hQ9x9 ?hy9x9 ?hS9x9 ?rest9x9
        case hi9x9 => (simp only [List.getElem?_toArray, List.getElem?_cons_succ, List.getElem?_cons_zero]; try rfl)
        case hs9x9 => kernel_rfl
        case hf9x9 => kernel_rfl
        case hr9x9 => kernel_rfl
        case hQ9x9 => exact fun _ _ _ h => h
        case hy9x9 => first | exact Or.inl ⟨by rfl, by (intro w hSw; (try dsimp only at hSw); go_simp; try rfl)⟩ | exact Or.inr ⟨by rfl, rfl⟩
        case hS9x9 => assumption
        (try simp only [Act.put, List.setIfInBounds_toArray, List.set_cons_zero, List.set_cons_succ])
        refine' wpAnyH_take (i := 10) (v := ?v10x10) ?hi10x10 ?hs10x10 ?hf10x10 ?hr10x10 ?hQ10x10 ?hy10x10 ?hS10x10 ?rest10x10
        case hi10x10 => (simp only [List.getElem?_toArray, List.getElem?_cons_succ, List.getElem?_cons_zero]; try rfl)
        case hs10x10 => kernel_rfl
        case hf10x10 => kernel_rfl
        case hr10x10 => kernel_rfl
        case hQ10x10 => exact fun _ _ _ h => h
        case hy10x10 => first | exact Or.inl ⟨by rfl, by (intro w hSw; (try dsimp only at hSw); go_simp; try rfl)⟩ | exact Or.inr ⟨by rfl, rfl⟩
        case hS10x10 => assumption
        (try simp only [Act.put, List.setIfInBounds_toArray, List.set_cons_zero, List.set_cons_succ])
        refine' wpAnyH_take (i := 11) (v := ?v11x11) ?hi11x11 ?hs11x11 ?hf11x11 ?hr11x11 ?hQ11x11 ?hy11x11 ?hS11x11 ?rest11x11
        case hi11x11 => (simp only [List.getElem?_toArray, List.getElem?_cons_succ, List.getElem?_cons_zero]; try rfl)
        case hs11x11 => kernel_rfl
        case hf11x11 => kernel_rfl
        case hr11x11 => kernel_rfl
        case hQ11x11 => exact fun _ _ _ h => h
        case hy11x11 => first | exact Or.inl ⟨by rfl, by (intro w hSw; (try dsimp only at hSw); go_simp; try rfl)⟩ | exact Or.inr ⟨by rfl, rfl⟩
        case hS11x11 => assumption
        (try simp only [Act.put, List.setIfInBounds_toArray, List.set_cons_zero, List.set_cons_succ])
        refine' wpAnyH_take (i := 12) (v := ?v12x12) ?hi12x12 ?hs12x12 ?hf12x12 ?hr12x12 ?hQ12x12 ?hy12x12 ?hS12x12 ?rest12x12
        case hi12x12 => (simp only [List.getElem?_toArray, List.getElem?_cons_succ, List.getElem?_cons_zero]; try rfl)
        case hs12x12 => kernel_rfl
        case hf12x12 => kernel_rfl
        case hr12x12 => kernel_rfl
        case hQ12x12 => exact fun _ _ _ h => h
        case hy12x12 => first | exact Or.inl ⟨by rfl, by (intro w hSw; (try dsimp only at hSw); go_simp; try rfl)⟩ | exact Or.inr ⟨by rfl, rfl⟩
        case hS12x12 => assumption
        (try simp only [Act.put, List.setIfInBounds_toArray, List.set_cons_zero, List.set_cons_succ])
        refine wpAnyH_ready (rs := [1, 13]) (by kernel_rfl) (by simp) ?_
        refine' (AllReadyH.cons (i := 1) ?ho1x13 (fun K hK => ?st1x13) (AllReadyH.cons (i := 13) ?ho13x14 (fun K hK => ?st13x14) AllReadyH.nil))
        case ho1x13 => (simp only [List.getElem?_toArray, List.getElem?_cons_succ, List.getElem?_cons_zero]; try rfl)
        case ho13x14 => (simp only [List.getElem?_toArray, List.getElem?_cons_succ, List.getElem?_cons_zero]; try rfl)
        case st1x13 =>
          go_simp
          refine hK.out _ _ ?_ (fun hHeld => ?_)
          · exact ⟨(hAH.out.below (by have hb0 := hbwH.out; have hs0 := hb0.size; first | exact hb0 | exact hb0.drew | go_grown)).cell 1 rfl, (hBH.out.below (by have hb0 := hbwH.out; have hs0 := hb0.size; first | exact hb0 | exact hb0.drew | go_grown)).cell 1 rfl, hax.out _ (by have hb0 := hbwH.out; have hs0 := hb0.size; first | exact hb0 | exact hb0.drew | go_grown), hbx.out _ (by have hb0 := hbwH.out; have hs0 := hb0.size; first | exact hb0 | exact hb0.drew | go_grown)⟩
          clear hK K
          (try simp only [Act.put, List.setIfInBounds_toArray, List.set_cons_zero, List.set_cons_succ])
          refine wpAnyH_ready (rs := [13]) (by kernel_rfl) (by simp) ?_
          refine' (AllReadyH.cons (i := 13) ?ho13x15 (fun K hK => ?st13x15) AllReadyH.nil)
          case ho13x15 => (simp only [List.getElem?_toArray, List.getElem?_cons_succ, List.getElem?_cons_zero]; try rfl)
          case st13x15 =>
            go_simp
            refine hK.out _ _ ?_ (fun hHeld => ?_)
            · exact ⟨(hAH.out.below (by have hb0 := hbwH.out; have hs0 := hb0.size; first | exact hb0 | exact hb0.drew | go_grown)).cell 1 rfl, (hBH.out.below (by have hb0 := hbwH.out; have hs0 := hb0.size; first | exact hb0 | exact hb0.drew | go_grown)).cell 1 rfl, hax.out _ (by have hb0 := hbwH.out; have hs0 := hb0.size; first | exact hb0 | exact hb0.drew | go_grown), hbx.out _ (by have hb0 := hbwH.out; have hs0 := hb0.size; first | exact hb0 | exact hb0.drew | go_grown)⟩
            clear hK K
            (try simp only [Act.put, List.setIfInBounds_toArray, List.set_cons_zero, List.set_cons_succ])
            refine wpAnyH_ready (rs := [14]) (by kernel_rfl) (by simp) ?_
            refine' (AllReadyH.cons (i := 14) ?ho14x16 (fun K hK => ?st14x16) AllReadyH.nil)
            case ho14x16 => (simp only [List.getElem?_toArray, List.getElem?_cons_succ, List.getElem?_cons_zero]; try rfl)
            case st14x16 =>
              refine wp_append_own _ _ _ 23 rfl (W0.heap.size + 1) 60 i0 (.int .u32 0) 1 4 Tryd.underlying23 hi hz0 hz1 hz2 rfl (by decide) _ _ _ (by rfl) (hvo.out.below (by first | exact Below.refl _ _ | exact (Below.refl _ _).drew | go_grown)) ⟨wr.heap.size, 0, none⟩ 1 1 [uv (max x y)] (by rfl) rfl (news1 _ _ _ _ (by first | rfl | simp)) (uv_one [_]) (by have := hzl.out; unfold maxLen; omega) (by have := hzl.out; omega) (by have := hBr.out; simp; omega) ?_
              intro v2 wA ho2 hg2 _
              have hbA := Lib.hid (below_grown (B := W0.heap.size) (w0 := W0) (by have hb0 := hbwH.out; have hs0 := hb0.size; first | exact hb0 | exact hb0.drew | go_grown) (ownsRow_low (B' := W0.heap.size) (hvo.out.below (by go_grown)) (by omega)) (by have := hbwH.out.size; simp; omega) hg2)
              have hoA : Hid (OwnW (W0.heap.size + 1) v2 (zipL max (l.take (p + 1)) (m.take (p + 1))) wA) := Lib.hid (by
                unfold OwnW
                rw [hsn.out, List.length_append, List.map_append]
                exact ho2)
              have htA := Lib.hid (HasC.append (hto.out.below (by go_grown)) (by decide) (hvo.out.below (by go_grown)) hg2)
              have hsA := Lib.hid (Nat.le_trans hBr.out (Nat.le_trans (by simp) hg2.size : wr.heap.size ≤ wA.heap.size))
              obtain ⟨gv, cv, hv2, _⟩ := hoA.out.row (by rw [hsn.out]; simp)
              obtain ⟨nv, hnv⟩ : ∃ nv, (zipL max (l.take (p + 1)) (m.take (p + 1))).length = nv := ⟨_, rfl⟩
              rw [hnv] at hv2
              subst hv2
              clear ho2 hg2 hnv
              refine hK.out _ _ ?_ (fun hHeld => ?_)
              · exact ⟨(hAH.out.below hbA.out).cell 1 rfl, (hBH.out.below hbA.out).cell 1 rfl, hax.out _ hbA.out, hbx.out _ hbA.out⟩
              clear hK K
              (try simp only [Act.put, List.setIfInBounds_toArray, List.set_cons_zero, List.set_cons_succ])
              clear t0_ t1_ tl_
              have t0_ := htA.out.cell 0 rfl; have t1_ := htA.out.cell 1 rfl; have tf0_ := htA.out.free 0; have tf1_ := htA.out.free 1; have tl_ := htA.out.lt
              refine' wpAnyH_take (i := 15) (v := ?v15x17) ?hi15x17 ?hs15x17 ?hf15x17 ?hr15x17 ?hQ15x17 ?hy15x17 ?hS15x17 ?rest15x17
              case hi15x17 => (simp only [List.getElem?_toArray, List.getElem?_cons_succ, List.getElem?_cons_zero]; try rfl)
              case hs15x17 => kernel_rfl
              case hf15x17 => kernel_rfl
              case hr15x17 => kernel_rfl
              case hQ15x17 => exact fun _ _ _ h => h
              case hy15x17 => first | exact Or.inl ⟨by rfl, by (intro w hSw; (try dsimp only at hSw); go_simp; try rfl)⟩ | exact Or.inr ⟨by rfl, rfl⟩
              case hS15x17 => assumption
              (try simp only [Act.put, List.setIfInBounds_toArray, List.set_cons_zero, List.set_cons_succ])
              refine wpAnyH_ready (rs := [16]) (by kernel_rfl) (by simp) ?_
              refine' (AllReadyH.cons (i := 16) ?ho16x18 (fun K hK => ?st16x18) AllReadyH.nil)
              case ho16x18 => (simp only [List.getElem?_toArray, List.getElem?_cons_succ, List.getElem?_cons_zero]; try rfl)
              case st16x18 =>
                go_simp
                refine hK.out _ _ ?_ (fun hHeld => ?_)
                · exact ⟨(hAH.out.below (hbA.out.setCell (Nat.le_refl _) _)).cell 1 rfl, (hBH.out.below (hbA.out.setCell (Nat.le_refl _) _)).cell 1 rfl, hax.out _ (hbA.out.setCell (Nat.le_refl _) _), hbx.out _ (hbA.out.setCell (Nat.le_refl _) _)⟩
                clear hK K
                (try simp only [Act.put, List.setIfInBounds_toArray, List.set_cons_zero, List.set_cons_succ])
                refine wpAnyH_done (by kernel_rfl) ?_ _
                refine NoPanic.normal ?_
                go_wp2_with fail
                go_roundw
                case rel => exact ⟨p + 1, _, by go_num, by omega, htA.out.set 1 _, hoA.out.far htA.out (by decide) 1 _, hbA.out.setCell (Nat.le_refl _) _, by simpa using hsA.out⟩
                case measure => simp [Go.RowKit.intOf]; omega
        case st13x14 =>
          go_simp
          refine hK.out _ _ ?_ (fun hHeld => ?_)
          · exact ⟨(hAH.out.below (by have hb0 := hbwH.out; have hs0 := hb0.size; first | exact hb0 | exact hb0.drew | go_grown)).cell 1 rfl, (hBH.out.below (by have hb0 := hbwH.out; have hs0 := hb0.size; first | exact hb0 | exact hb0.drew | go_grown)).cell 1 rfl, hax.out _ (by have hb0 := hbwH.out; have hs0 := hb0.size; first | exact hb0 | exact hb0.drew | go_grown), hbx.out _ (by have hb0 := hbwH.out; have hs0 := hb0.size; first | exact hb0 | exact hb0.drew | go_grown)⟩
          clear hK K
          (try simp only [Act.put, List.setIfInBounds_toArray, List.set_cons_zero, List.set_cons_succ])
          refine wpAnyH_ready (rs := [1]) (by kernel_rfl) (by simp) ?_
          refine' (AllReadyH.cons (i := 1) ?ho1x19 (fun K hK => ?st1x19) AllReadyH.nil)
          case ho1x19 => (simp only [List.getElem?_toArray, List.getElem?_cons_succ, List.getElem?_cons_zero]; try rfl)
          case st1x19 =>
            go_simp
            refine hK.out _ _ ?_ (fun hHeld => ?_)
            · exact ⟨(hAH.out.below (by have hb0 := hbwH.out; have hs0 := hb0.size; first | exact hb0 | exact hb0.drew | go_grown)).cell 1 rfl, (hBH.out.below (by have hb0 := hbwH.out; have hs0 := hb0.size; first | exact hb0 | exact hb0.drew | go_grown)).cell 1 rfl, hax.out _ (by have hb0 := hbwH.out; have hs0 := hb0.size; first | exact hb0 | exact hb0.drew | go_grown), hbx.out _ (by have hb0 := hbwH.out; have hs0 := hb0.size; first | exact hb0 | exact hb0.drew | go_grown)⟩
            clear hK K
            (try simp only [Act.put, List.setIfInBounds_toArray, List.set_cons_zero, List.set_cons_succ])
            refine wpAnyH_ready (rs := [14]) (by kernel_rfl) (by simp) ?_
            refine' (AllReadyH.cons (i := 14) ?ho14x20 (fun K hK => ?st14x20) AllReadyH.nil)
            case ho14x20 => (simp only [List.getElem?_toArray, List.getElem?_cons_succ, List.getElem?_cons_zero]; try rfl)
            case st14x20 =>
              refine wp_append_own _ _ _ 23 rfl (W0.heap.size + 1) 60 i0 (.int .u32 0) 1 4 Tryd.underlying23 hi hz0 hz1 hz2 rfl (by decide) _ _ _ (by rfl) (hvo.out.below (by first | exact Below.refl _ _ | exact (Below.refl _ _).drew | go_grown)) ⟨wr.heap.size, 0, none⟩ 1 1 [uv (max x y)] (by rfl) rfl (news1 _ _ _ _ (by first | rfl | simp)) (uv_one [_]) (by have := hzl.out; unfold maxLen; omega) (by have := hzl.out; omega) (by have := hBr.out; simp; omega) ?_
              intro v2 wA ho2 hg2 _
              have hbA := Lib.hid (below_grown (B := W0.heap.size) (w0 := W0) (by have hb0 := hbwH.out; have hs0 := hb0.size; first | exact hb0 | exact hb0.drew | go_grown) (ownsRow_low (B' := W0.heap.size) (hvo.out.below (by go_grown)) (by omega)) (by have := hbwH.out.size; simp; omega) hg2)
              have hoA : Hid (OwnW (W0.heap.size + 1) v2 (zipL max (l.take (p + 1)) (m.take (p + 1))) wA) := Lib.hid (by
                unfold OwnW
                rw [hsn.out, List.length_append, List.map_append]
                exact ho2)
              have htA := Lib.hid (HasC.append (hto.out.below (by go_grown)) (by decide) (hvo.out.below (by go_grown)) hg2)
              have hsA := Lib.hid (Nat.le_trans hBr.out (Nat.le_trans (by simp) hg2.size : wr.heap.size ≤ wA.heap.size))
              obtain ⟨gv, cv, hv2, _⟩ := hoA.out.row (by rw [hsn.out]; simp)
              obtain ⟨nv, hnv⟩ : ∃ nv, (zipL max (l.take (p + 1)) (m.take (p + 1))).length = nv := ⟨_, rfl⟩
              rw [hnv] at hv2
              subst hv2
              clear ho2 hg2 hnv
              refine hK.out _ _ ?_ (fun hHeld => ?_)
              · exact ⟨(hAH.out.below hbA.out).cell 1 rfl, (hBH.out.below hbA.out).cell 1 rfl, hax.out _ hbA.out, hbx.out _ hbA.out⟩
              clear hK K
              (try simp only [Act.put, List.setIfInBounds_toArray, List.set_cons_zero, List.set_cons_succ])
              clear t0_ t1_ tl_
              have t0_ := htA.out.cell 0 rfl; have t1_ := htA.out.cell 1 rfl; have tf0_ := htA.out.free 0; have tf1_ := htA.out.free 1; have tl_ := htA.out.lt
              refine' wpAnyH_take (i := 15) (v := ?v15x21) ?hi15x21 ?hs15x21 ?hf15x21 ?hr15x21 ?hQ15x21 ?hy15x21 ?hS15x21 ?rest15x21
              case hi15x21 => (simp only [List.getElem?_toArray, List.getElem?_cons_succ, List.getElem?_cons_zero]; try rfl)
              case hs15x21 => kernel_rfl
              case hf15x21 => kernel_rfl
              case hr15x21 => kernel_rfl
              case hQ15x21 => exact fun _ _ _ h => h
              case hy15x21 => first | exact Or.inl ⟨by rfl, by (intro w hSw; (try dsimp only at hSw); go_simp; try rfl)⟩ | exact Or.inr ⟨by rfl, rfl⟩
              case hS15x21 => assumption
              (try simp only [Act.put, List.setIfInBounds_toArray, List.set_cons_zero, List.set_cons_succ])
              refine wpAnyH_ready (rs := [16]) (by kernel_rfl) (by simp) ?_
              refine' (AllReadyH.cons (i := 16) ?ho16x22 (fun K hK => ?st16x22) AllReadyH.nil)
              case ho16x22 => (simp only [List.getElem?_toArray, List.getElem?_cons_succ, List.getElem?_cons_zero]; try rfl)
              case st16x22 =>
                go_simp
                refine hK.out _ _ ?_ (fun hHeld => ?_)
                · exact ⟨(hAH.out.below (hbA.out.setCell (Nat.le_refl _) _)).cell 1 rfl, (hBH.out.below (hbA.out.setCell (Nat.le_refl _) _)).cell 1 rfl, hax.out _ (hbA.out.setCell (Nat.le_refl _) _), hbx.out _ (hbA.out.setCell (Nat.le_refl _) _)⟩
                clear hK K
                (try simp only [Act.put, List.setIfInBounds_toArray, List.set_cons_zero, List.set_cons_succ])
                refine wpAnyH_done (by kernel_rfl) ?_ _
                refine NoPanic.normal ?_
                go_wp2_with fail
                go_roundw
                case rel => exact ⟨p + 1, _, by go_num, by omega, htA.out.set 1 _, hoA.out.far htA.out (by decide) 1 _, hbA.out.setCell (Nat.le_refl _) _, by simpa using hsA.out⟩
                case measure => simp [Go.RowKit.intOf]; omega
      · obtain rfl : p = n := by omega
        have hfin := Lib.hid (show OwnW w.heap.size v (zipL max l m) wr from by
          have := hvo.out.low (B' := w.heap.size) (by have := hwWH.out.size; omega)
          rwa [List.take_of_length_le (by have := hnH.out; omega), List.take_of_length_le (by have := hkH.out; omega)] at this)
        obtain ⟨Av, nv, cv, rfl, _, _, _⟩ := hvo.out.words.form
        have r0_ := (hRH.out.below hbwH.out).cell 0 rfl; have r1_ := (hRH.out.below hbwH.out).cell 1 rfl; have rf0_ := (hRH.out.below hbwH.out).free 0; have rf1_ := (hRH.out.below hbwH.out).free 1; have rl_ := (hRH.out.below hbwH.out).lt
        have q1 := (hRH.out.below hbwH.out).set 0 (.int .u64 (max ea eb)); have q2 := q1.set 1 (.slice Av nv cv)
        have q0_ := q1.cell 0 rfl; have q1_ := q2.cell 0 rfl; have q2_ := q2.cell 1 rfl
        have q1H := Lib.hid q1
        clear q1 q2
        go_wp2_with fail
        refine bodyPost_ret (v := .tuple #[.agg #[.int .u64 (max ea eb), .slice Av nv cv], .int .i64 0]) (by simp [results, Tryd.results17, go_sem, q0_, q1_, q2_]) rfl ?_
        exact ⟨_, rfl, (hfin.out.far (hRH.out.below hbwH.out) (by decide) _ _).far q1H.out (by decide) _ _, ((hwWH.out.trans (hbwH.out.mono hwWH.out.size)).setCell (by simp; omega) _).setCell (by simp; omega) _⟩
  · have hT : chosenT max ⟨ea, l⟩ ⟨eb, m⟩ = ⟨0, []⟩ := if_neg (by have := hnH.out; have := hkH.out; simp only; omega)
    have hE : chosenE ⟨ea, l⟩ ⟨eb, m⟩ = 40 := if_neg (by have := hnH.out; have := hkH.out; simp only; omega)
    rw [hT, hE]
    have hlb : ((n : Int) == (k : Int)) = false := by simp only [beq_eq_false_iff_ne]; omega
    have q1 := hRH.out.set 0 (.int .u64 0); have q2 := q1.set 1 (.slice none 0 0)
    have q0_ := q1.cell 0 rfl; have q1_ := q2.cell 0 rfl; have q2_ := q2.cell 1 rfl
    clear hT hE q1 q2
    go_enter Tryd.func17, Tryd.ntmps17
    go_wp2_with fail
    refine bodyPost_ret (v := .tuple #[.agg #[.int .u64 0, .slice none 0 0], .int .i64 40]) (by simp [results, Tryd.results17, go_sem, q0_, q1_, q2_]) rfl ?_
    exact ⟨_, rfl, OwnW.nil _ _, (hwWH.out.setCell (by simp; omega) _).setCell (by simp; omega) _⟩
set_option maxHeartbeats 2000000 in
set_option maxRecDepth 1000000 in
theorem refMeet_any (va vb : Value) (a b : Tm) (w : World) (ha : TmV w va a) (hb : TmV w vb b) (hs : a.l.length ≤ 1099511627776) :
    Calls Tryd.prog 18 #[va, vb] w fun e w' => ∃ v, e = .returned (.tuple #[.agg #[.int .u64 (chosenT min a b).e, v], .int .i64 (chosenE a b)]) ∧ OwnW w.heap.size v (chosenT min a b).l w' ∧ Below w.heap.size w w' := by
  obtain ⟨i0, hi, hz0, hz1, hz2⟩ := info_parts u32_info
  obtain ⟨ea, l⟩ := a
  obtain ⟨eb, m⟩ := b
  obtain ⟨sa, rfl, ha⟩ := ha
  obtain ⟨sb, rfl, hb⟩ := hb
  simp only at ha hb hs
  obtain ⟨A, n, ca, rfl, hn, hla, hca⟩ := ha.form
  obtain ⟨B, k, cb, rfl, hk, hlb, hcb⟩ := hb.form
  rw [hn] at hs
  obtain ⟨W0, hW0, hwW, hA, hB, hR, hzz⟩ := boxes3 w [.int .u64 ea, .slice A n ca] [.int .u64 eb, .slice B k cb] [.int .u64 0, .slice none 0 0] 25 25 25
  have haH := Lib.hid (ha.below hwW); have hbH := Lib.hid (hb.below hwW)
  have hAH := Lib.hid hA; have hBH := Lib.hid hB; have hRH := Lib.hid hR; have hwWH := Lib.hid hwW
  have hnH := Lib.hid hn; have hkH := Lib.hid hk
  have a0_ := hA.cell 0 rfl; have a1_ := hA.cell 1 rfl; have b0_ := hB.cell 0 rfl; have b1_ := hB.cell 1 rfl; have r0_ := hR.cell 0 rfl; have r1_ := hR.cell 1 rfl; have rf0_ := hR.free 0; have rf1_ := hR.free 1
  clear ha hb hA hB hR hwW hn hk
  by_cases hlen : n = k
  · subst hlen
    have hT : chosenT min ⟨ea, l⟩ ⟨eb, m⟩ = ⟨min ea eb, zipL min l m⟩ := if_pos (hnH.out.trans hkH.out.symm)
    have hE : chosenE ⟨ea, l⟩ ⟨eb, m⟩ = 0 := if_pos (hnH.out.trans hkH.out.symm)
    rw [hT, hE]
    clear hT hE
    go_enter Tryd.func18, Tryd.ntmps18
    go_wp2_with fail
    go_loopw [7] (fun i wr => RelJM min l m (min ea eb) n W0.heap.size (W0.heap.size + 1) W0 i wr) (fun i _ => n - (Go.RowKit.intOf i).toNat)
    case atStart => exact ⟨0, .slice none 0 0, rfl, Nat.zero_le _, has_at _ _ _ _ rfl, OwnW.nil _ _, by go_grown, by simp⟩
    case round =>
      unfold RelJM at hrel
      obtain ⟨p, v, rfl, hpn, hto, hvo, hbw, hBr⟩ := hrel
      clear a0_ a1_ b0_ b1_ r0_ r1_ rf0_ rf1_
      have a1_ := (hAH.out.below hbw).cell 1 rfl; have b1_ := (hBH.out.below hbw).cell 1 rfl; have t0_ := hto.cell 0 rfl; have t1_ := hto.cell 1 rfl; have tl_ := hto.lt
      replace hto := Lib.hid hto; replace hvo := Lib.hid hvo; have hbwH := Lib.hid hbw; replace hBr := Lib.hid hBr
      clear hbw
      by_cases hp : p < n
      · have h1 : p < l.length := by have := hnH.out; omega
        have h2 : p < m.length := by have := hkH.out; omega
        obtain ⟨ad, rfl, hba, ac_⟩ := (haH.out.below hbwH.out).at h1
        obtain ⟨bd, rfl, hbb, bc_⟩ := (hbH.out.below hbwH.out).at h2
        have hsn := zipL_snoc min l m p l[p] m[p] (by simp [h1]) (by simp [h2])
        have hax : ∀ w', Below W0.heap.size W0 w' → w'.cell? (ad.add p) = some (uv l[p]) := fun w' hb => by
          obtain ⟨ad2, e2, _, h⟩ := (haH.out.below hb).at h1
          cases e2
          exact h
        have hbx : ∀ w', Below W0.heap.size W0 w' → w'.cell? (bd.add p) = some (uv m[p]) := fun w' hb => by
          obtain ⟨ad2, e2, _, h⟩ := (hbH.out.below hb).at h2
          cases e2
          exact h
        have hzl : (zipL min (l.take p) (m.take p)).length ≤ 1099511627776 := by
          rw [zipL_len _ _ _ (by simp; omega), List.length_take]
          omega
        obtain ⟨x, hx⟩ : ∃ x, l[p] = x := ⟨_, rfl⟩
        obtain ⟨y, hy⟩ : ∃ y, m[p] = y := ⟨_, rfl⟩
        rw [hx] at ac_ hax hsn
        rw [hy] at bc_ hbx hsn
        replace hax := Lib.hid hax; replace hbx := Lib.hid hbx; replace hsn := Lib.hid hsn; replace hzl := Lib.hid hzl
        clear hx hy h1 h2
        go_upto_region 7 with fail
        refine wp_region_noPanic ?_
        refine wp_region_held_drew (S := (fun w' => w'.cell? ⟨w.heap.size, 1, none⟩ = some (.slice (some ad) n ca) ∧ w'.cell? ⟨w.heap.size + 1, 1, none⟩ = some (.slice (some bd) n cb) ∧ w'.cell? (ad.add p) = some (.int .u32 x) ∧ w'.cell? (bd.add p) = some (.int .u32 y))) (by kernel_rfl) (⟨a1_, b1_, ac_, bc_⟩) (fun hHeld => ?_)
        refine' wpAnyH_take (i := 0) (v := ?v0x23) ?hi0x23 ?hs0x23 ?hf0x23 ?hr0x23 ?hQ0x23 ?hy0x23 ?hS0x23 ?rest0x23
        case hi0x23 => (simp only [List.getElem?_toArray, List.getElem?_cons_succ, List.getElem?_cons_zero]; try rfl)
        case hs0x23 => kernel_rfl
        case hf0x23 => kernel_rfl
        case hr0x23 => kernel_rfl
        case hQ0x23 => exact fun _ _ _ h => h
        case hy0x23 => first | exact Or.inl ⟨by rfl, by (intro w hSw; (try dsimp only at hSw); go_simp; try rfl)⟩ | exact Or.inr ⟨by rfl, rfl⟩
        case hS0x23 => assumption
        (try simp only [Act.put, List.setIfInBounds_toArray, List.set_cons_zero, List.set_cons_succ])
        refine' wpAnyH_take (i := 2) (v := ?v2x24) ?hi2x24 ?hs2x24 ?hf2x24 ?hr2x24 ?hQ2x24 ?hy2x24 ?hS2x24 ?rest2x24
        case hi2x24 => (simp only [List.getElem?_toArray, List.getElem?_cons_succ, List.getElem?_cons_zero]; try rfl)
        case hs2x24 => kernel_rfl
        case hf2x24 => kernel_rfl
        case hr2x24 => kernel_rfl
        case hQ2x24 => exact fun _ _ _ h => h
        case hy2x24 => first | exact Or.inl ⟨by rfl, by (intro w hSw; (try dsimp only at hSw); go_simp; try rfl)⟩ | exact Or.inr ⟨by rfl, rfl⟩
        case hS2x24 => assumption
        (try simp only [Act.put, List.setIfInBounds_toArray, List.set_cons_zero, List.set_cons_succ])
        refine' wpAnyH_take (i := 3) (v := ?v3x25) ?hi3x25 ?hs3x25 ?hf3x25 ?hr3x25 ?hQ3x25 ?hy3x25 ?hS3x25 ?rest3x25
        case hi3x25 => (simp only [List.getElem?_toArray, List.getElem?_cons_succ, List.getElem?_cons_zero]; try rfl)
        case hs3x25 => kernel_rfl
        case hf3x25 => kernel_rfl
        case hr3x25 => kernel_rfl
        case hQ3x25 => exact fun _ _ _ h => h
        case hy3x25 => first | exact Or.inl ⟨by rfl, by (intro w hSw; (try dsimp only at hSw); go_simp; try rfl)⟩ | exact Or.inr ⟨by rfl, rfl⟩
        case hS3x25 => assumption
        (try simp only [Act.put, List.setIfInBounds_toArray, List.set_cons_zero, List.set_cons_succ])
        refine' wpAnyH_take (i := 4) (v := ?v4x26) ?hi4x26 ?hs4x26 ?hf4x26 ?hr4x26 ?hQ4x26 ?hy4x26 ?hS4x26 ?rest4x26
        case hi4x26 => (simp only [List.getElem?_toArray, List.getElem?_cons_succ, List.getElem?_cons_zero]; try rfl)
        case hs4x26 => kernel_rfl
        case hf4x26 => kernel_rfl
        case hr4x26 => kernel_rfl
        case hQ4x26 => exact fun _ _ _ h => h
        case hy4x26 => first | exact Or.inl ⟨by rfl, by (intro w hSw; (try dsimp only at hSw); go_simp; try rfl)⟩ | exact Or.inr ⟨by rfl, rfl⟩
        case hS4x26 => assumption
        (try simp only [Act.put, List.setIfInBounds_toArray, List.set_cons_zero, List.set_cons_succ])
        refine' wpAnyH_take (i := 5) (v := ?v5x27) ?hi5x27 ?hs5x27 ?hf5x27 ?hr5x27 ?hQ5x27 ?hy5x27 ?hS5x27 ?rest5x27
        case hi5x27 => (simp only [List.getElem?_toArray, List.getElem?_cons_succ, List.getElem?_cons_zero]; try rfl)
        case hs5x27 => kernel_rfl
        case hf5x27 => kernel_rfl
        case hr5x27 => kernel_rfl
        case hQ5x27 => exact fun _ _ _ h => h
        case hy5x27 => first | exact Or.inl ⟨by rfl, by (intro w hSw; (try dsimp only at hSw); go_simp; try rfl)⟩ | exact Or.inr ⟨by rfl, rfl⟩
        case hS5x27 => assumption
        (try simp only [Act.put, List.setIfInBounds_toArray, List.set_cons_zero, List.set_cons_succ])
        refine' wpAnyH_take (i := 6) (v := ?v6x28) ?hi6x28 ?hs6x28 ?hf6x28 ?hr6x28 ?hQ6x28 ?hy6x28 ?hS6x28 ?rest6x28
        case hi6x28 => (simp only [List.getElem?_toArray, List.getElem?_cons_succ, List.getElem?_cons_zero]; try rfl)
        case hs6x28 => kernel_rfl
        case hf6x28 => kernel_rfl
        case hr6x28 => kernel_rfl
        case hQ6x28 => exact fun _ _ _ h => h
        case hy6x28 => first | exact Or.inl ⟨by rfl, by (intro w hSw; (try dsimp only at hSw); go_simp; try rfl)⟩ | exact Or.inr ⟨by rfl, rfl⟩
        case hS6x28 => assumption
        (try simp only [Act.put, List.setIfInBounds_toArray, List.set_cons_zero, List.set_cons_succ])
        refine' wpAnyH_take (i := 7) (v := ?v7x29) ?hi7x29 ?hs7x29 ?hf7x29 ?hr7x29 ?hQ7x29 ?hy7x29 ?hS7x29 ?rest7x29
        case hi7x29 => (simp only [List.getElem?_toArray, List.getElem?_cons_succ, List.getElem?_cons_zero]; try rfl)
        case hs7x29 => kernel_rfl
        case hf7x29 => kernel_rfl
        case hr7x29 => kernel_rfl
        case hQ7x29 => exact fun _ _ _ h => h
        case hy7x29 => first | exact Or.inl ⟨by rfl, by (intro w hSw; (try dsimp only at hSw); go_simp; try rfl)⟩ | exact Or.inr ⟨by rfl, rfl⟩
        case hS7x29 => assumption
        (try simp only [Act.put, List.setIfInBounds_toArray, List.set_cons_zero, List.set_cons_succ])
        refine' wpAnyH_take (i := 8) (v := ?v8x30) ?hi8x30 ?hs8x30 ?hf8x30 ?hr8x30 ?hQ8x30 ?hy8x30 ?hS8x30 ?rest8x30
        case hi8x30 => (simp only [List.getElem?_toArray, List.getElem?_cons_succ, List.getElem?_cons_zero]; try rfl)
        case hs8x30 => kernel_rfl
        case hf8x30 => kernel_rfl
        case hr8x30 => kernel_rfl
        case hQ8x30 => exact fun _ _ _ h => h
        case hy8x30 => first | exact Or.inl ⟨by rfl, by (intro w hSw; (try dsimp only at hSw); go_simp; try rfl)⟩ | exact Or.inr ⟨by rfl, rfl⟩
        case hS8x30 => assumption
        (try simp only [Act.put, List.setIfInBounds_toArray, List.set_cons_zero, List.set_cons_succ])
        refine' wpAnyH_take (i := 9) (v := ?v9x31) ?hi9x31 ?hs9x31 ?hf9x31 ?hr9x31 ?hQ9x31 ?hy9x31 ?hS9x31 ?rest9x31
        case hi9x31 => (simp only [List.getElem?_toArray, List.getElem?_cons_succ, List.getElem?_cons_zero]; try rfl)
        case hs9x31 => kernel_rfl
        case hf9x31 => kernel_rfl
        case hr9x31 => kernel_rfl
        case hQ9x31 => exact fun _ _ _ h => h
        case hy9x31 => first | exact Or.inl ⟨by rfl, by (intro w hSw; (try dsimp only at hSw); go_simp; try rfl)⟩ | exact Or.inr ⟨by rfl, rfl⟩
        case hS9x31 => assumption
        (try simp only [Act.put, List.setIfInBounds_toArray, List.set_cons_zero, List.set_cons_succ])
        refine' wpAnyH_take (i := 10) (v := ?v10x32) ?hi10x32 ?hs10x32 ?hf10x32 ?hr10x32 ?hQ10x32 ?hy10x32 ?hS10x32 ?rest10x32
        case hi10x32 => (simp only [List.getElem?_toArray, List.getElem?_cons_succ, List.getElem?_cons_zero]; try rfl)
        case hs10x32 => kernel_rfl
        case hf10x32 => kernel_rfl
        case hr10x32 => kernel_rfl
        case hQ10x32 => exact fun _ _ _ h => h
        case hy10x32 => first | exact Or.inl ⟨by rfl, by (intro w hSw; (try dsimp only at hSw); go_simp; try rfl)⟩ | exact Or.inr ⟨by rfl, rfl⟩
        case hS10x32 => assumption
        (try simp only [Act.put, List.setIfInBounds_toArray, List.set_cons_zero, List.set_cons_succ])
        refine' wpAnyH_take (i := 11) (v := ?v11x33) ?hi11x33 ?hs11x33 ?hf11x33 ?hr11x33 ?hQ11x33 ?hy11x33 ?hS11x33 ?rest11x33
        case hi11x33 => (simp only [List.getElem?_toArray, List.getElem?_cons_succ, List.getElem?_cons_zero]; try rfl)
        case hs11x33 => kernel_rfl
        case hf11x33 => kernel_rfl
        case hr11x33 => kernel_rfl
        case hQ11x33 => exact fun _ _ _ h => h
        case hy11x33 => first | exact Or.inl ⟨by rfl, by (intro w hSw; (try dsimp only at hSw); go_simp; try rfl)⟩ | exact Or.inr ⟨by rfl, rfl⟩
        case hS11x33 => assumption
        (try simp only [Act.put, List.setIfInBounds_toArray, List.set_cons_zero, List.set_cons_succ])
        refine' wpAnyH_take (i := 12) (v := ?v12x34) ?hi12x34 ?hs12x34 ?hf12x34 ?hr12x34 ?hQ12x34 ?hy12x34 ?hS12x34 ?rest12x34
        case hi12x34 => (simp only [List.getElem?_toArray, List.getElem?_cons_succ, List.getElem?_cons_zero]; try rfl)
        case hs12x34 => kernel_rfl
        case hf12x34 => kernel_rfl
        case hr12x34 => kernel_rfl
        case hQ12x34 => exact fun _ _ _ h => h
        case hy12x34 => first | exact Or.inl ⟨by rfl, by (intro w hSw; (try dsimp only at hSw); go_simp; try rfl)⟩ | exact Or.inr ⟨by rfl, rfl⟩
        case hS12x34 => assumption
        (try simp only [Act.put, List.setIfInBounds_toArray, List.set_cons_zero, List.set_cons_succ])
        refine wpAnyH_ready (rs := [1, 13]) (by kernel_rfl) (by simp) ?_
        refine' (AllReadyH.cons (i := 1) ?ho1x35 (fun K hK => ?st1x35) (AllReadyH.cons (i := 13) ?ho13x36 (fun K hK => ?st13x36) AllReadyH.nil))
        case ho1x35 => (simp only [List.getElem?_toArray, List.getElem?_cons_succ, List.getElem?_cons_zero]; try rfl)
        case ho13x36 => (simp only [List.getElem?_toArray, List.getElem?_cons_succ, List.getElem?_cons_zero]; try rfl)
        case st1x35 =>
          go_simp
          refine hK.out _ _ ?_ (fun hHeld => ?_)
          · exact ⟨(hAH.out.below (by have hb0 := hbwH.out; have hs0 := hb0.size; first | exact hb0 | exact hb0.drew | go_grown)).cell 1 rfl, (hBH.out.below (by have hb0 := hbwH.out; have hs0 := hb0.size; first | exact hb0 | exact hb0.drew | go_grown)).cell 1 rfl, hax.out _ (by have hb0 := hbwH.out; have hs0 := hb0.size; first | exact hb0 | exact hb0.drew | go_grown), hbx.out _ (by have hb0 := hbwH.out; have hs0 := hb0.size; first | exact hb0 | exact hb0.drew | go_grown)⟩
          clear hK K
          (try simp only [Act.put, List.setIfInBounds_toArray, List.set_cons_zero, List.set_cons_succ])
          refine wpAnyH_ready (rs := [13]) (by kernel_rfl) (by simp) ?_
          refine' (AllReadyH.cons (i := 13) ?ho13x37 (fun K hK => ?st13x37) AllReadyH.nil)
          case ho13x37 => (simp only [List.getElem?_toArray, List.getElem?_cons_succ, List.getElem?_cons_zero]; try rfl)
          case st13x37 =>
            go_simp
            refine hK.out _ _ ?_ (fun hHeld => ?_)
            · exact ⟨(hAH.out.below (by have hb0 := hbwH.out; have hs0 := hb0.size; first | exact hb0 | exact hb0.drew | go_grown)).cell 1 rfl, (hBH.out.below (by have hb0 := hbwH.out; have hs0 := hb0.size; first | exact hb0 | exact hb0.drew | go_grown)).cell 1 rfl, hax.out _ (by have hb0 := hbwH.out; have hs0 := hb0.size; first | exact hb0 | exact hb0.drew | go_grown), hbx.out _ (by have hb0 := hbwH.out; have hs0 := hb0.size; first | exact hb0 | exact hb0.drew | go_grown)⟩
            clear hK K
            (try simp only [Act.put, List.setIfInBounds_toArray, List.set_cons_zero, List.set_cons_succ])
            refine wpAnyH_ready (rs := [14]) (by kernel_rfl) (by simp) ?_
            refine' (AllReadyH.cons (i := 14) ?ho14x38 (fun K hK => ?st14x38) AllReadyH.nil)
            case ho14x38 => (simp only [List.getElem?_toArray, List.getElem?_cons_succ, List.getElem?_cons_zero]; try rfl)
            case st14x38 =>
              refine wp_append_own _ _ _ 23 rfl (W0.heap.size + 1) 60 i0 (.int .u32 0) 1 4 Tryd.underlying23 hi hz0 hz1 hz2 rfl (by decide) _ _ _ (by rfl) (hvo.out.below (by first | exact Below.refl _ _ | exact (Below.refl _ _).drew | go_grown)) ⟨wr.heap.size, 0, none⟩ 1 1 [uv (min x y)] (by rfl) rfl (news1 _ _ _ _ (by first | rfl | simp)) (uv_one [_]) (by have := hzl.out; unfold maxLen; omega) (by have := hzl.out; omega) (by have := hBr.out; simp; omega) ?_
              intro v2 wA ho2 hg2 _
              have hbA := Lib.hid (below_grown (B := W0.heap.size) (w0 := W0) (by have hb0 := hbwH.out; have hs0 := hb0.size; first | exact hb0 | exact hb0.drew | go_grown) (ownsRow_low (B' := W0.heap.size) (hvo.out.below (by go_grown)) (by omega)) (by have := hbwH.out.size; simp; omega) hg2)
              have hoA : Hid (OwnW (W0.heap.size + 1) v2 (zipL min (l.take (p + 1)) (m.take (p + 1))) wA) := Lib.hid (by
                unfold OwnW
                rw [hsn.out, List.length_append, List.map_append]
                exact ho2)
              have htA := Lib.hid (HasC.append (hto.out.below (by go_grown)) (by decide) (hvo.out.below (by go_grown)) hg2)
              have hsA := Lib.hid (Nat.le_trans hBr.out (Nat.le_trans (by simp) hg2.size : wr.heap.size ≤ wA.heap.size))
              obtain ⟨gv, cv, hv2, _⟩ := hoA.out.row (by rw [hsn.out]; simp)
              obtain ⟨nv, hnv⟩ : ∃ nv, (zipL min (l.take (p + 1)) (m.take (p + 1))).length = nv := ⟨_, rfl⟩
              rw [hnv] at hv2
              subst hv2
              clear ho2 hg2 hnv
              refine hK.out _ _ ?_ (fun hHeld => ?_)
              · exact ⟨(hAH.out.below hbA.out).cell 1 rfl, (hBH.out.below hbA.out).cell 1 rfl, hax.out _ hbA.out, hbx.out _ hbA.out⟩
              clear hK K
              (try simp only [Act.put, List.setIfInBounds_toArray, List.set_cons_zero, List.set_cons_succ])
              clear t0_ t1_ tl_
              have t0_ := htA.out.cell 0 rfl; have t1_ := htA.out.cell 1 rfl; have tf0_ := htA.out.free 0; have tf1_ := htA.out.free 1; have tl_ := htA.out.lt
              refine' wpAnyH_take (i := 15) (v := ?v15x39) ?hi15x39 ?hs15x39 ?hf15x39 ?hr15x39 ?hQ15x39 ?hy15x39 ?hS15x39 ?rest15x39
              case hi15x39 => (simp only [List.getElem?_toArray, List.getElem?_cons_succ, List.getElem?_cons_zero]; try rfl)
              case hs15x39 => kernel_rfl
              case hf15x39 => kernel_rfl
              case hr15x39 => kernel_rfl
              case hQ15x39 => exact fun _ _ _ h => h
              case hy15x39 => first | exact Or.inl ⟨by rfl, by (intro w hSw; (try dsimp only at hSw); go_simp; try rfl)⟩ | exact Or.inr ⟨by rfl, rfl⟩
              case hS15x39 => assumption
              (try simp only [Act.put, List.setIfInBounds_toArray, List.set_cons_zero, List.set_cons_succ])
              refine wpAnyH_ready (rs := [16]) (by kernel_rfl) (by simp) ?_
              refine' (AllReadyH.cons (i := 16) ?ho16x40 (fun K hK => ?st16x40) AllReadyH.nil)
              case ho16x40 => (simp only [List.getElem?_toArray, List.getElem?_cons_succ, List.getElem?_cons_zero]; try rfl)
              case st16x40 =>
                go_simp
                refine hK.out _ _ ?_ (fun hHeld => ?_)
                · exact ⟨(hAH.out.below (hbA.out.setCell (Nat.le_refl _) _)).cell 1 rfl, (hBH.out.below (hbA.out.setCell (Nat.le_refl _) _)).cell 1 rfl, hax.out _ (hbA.out.setCell (Nat.le_refl _) _), hbx.out _ (hbA.out.setCell (Nat.le_refl _) _)⟩
                clear hK K
                (try simp only [Act.put, List.setIfInBounds_toArray, List.set_cons_zero, List.set_cons_succ])
                refine wpAnyH_done (by kernel_rfl) ?_ _
                refine NoPanic.normal ?_
                go_wp2_with fail
                go_roundw
                case rel => exact ⟨p + 1, _, by go_num, by omega, htA.out.set 1 _, hoA.out.far htA.out (by decide) 1 _, hbA.out.setCell (Nat.le_refl _) _, by simpa using hsA.out⟩
                case measure => simp [Go.RowKit.intOf]; omega
        case st13x36 =>
          go_simp
          refine hK.out _ _ ?_ (fun hHeld => ?_)
          · exact ⟨(hAH.out.below (by have hb0 := hbwH.out; have hs0 := hb0.size; first | exact hb0 | exact hb0.drew | go_grown)).cell 1 rfl, (hBH.out.below (by have hb0 := hbwH.out; have hs0 := hb0.size; first | exact hb0 | exact hb0.drew | go_grown)).cell 1 rfl, hax.out _ (by have hb0 := hbwH.out; have hs0 := hb0.size; first | exact hb0 | exact hb0.drew | go_grown), hbx.out _ (by have hb0 := hbwH.out; have hs0 := hb0.size; first | exact hb0 | exact hb0.drew | go_grown)⟩
          clear hK K
          (try simp only [Act.put, List.setIfInBounds_toArray, List.set_cons_zero, List.set_cons_succ])
          refine wpAnyH_ready (rs := [1]) (by kernel_rfl) (by simp) ?_
          refine' (AllReadyH.cons (i := 1) ?ho1x41 (fun K hK => ?st1x41) AllReadyH.nil)
          case ho1x41 => (simp only [List.getElem?_toArray, List.getElem?_cons_succ, List.getElem?_cons_zero]; try rfl)
          case st1x41 =>
            go_simp
            refine hK.out _ _ ?_ (fun hHeld => ?_)
            · exact ⟨(hAH.out.below (by have hb0 := hbwH.out; have hs0 := hb0.size; first | exact hb0 | exact hb0.drew | go_grown)).cell 1 rfl, (hBH.out.below (by have hb0 := hbwH.out; have hs0 := hb0.size; first | exact hb0 | exact hb0.drew | go_grown)).cell 1 rfl, hax.out _ (by have hb0 := hbwH.out; have hs0 := hb0.size; first | exact hb0 | exact hb0.drew | go_grown), hbx.out _ (by have hb0 := hbwH.out; have hs0 := hb0.size; first | exact hb0 | exact hb0.drew | go_grown)⟩
            clear hK K
            (try simp only [Act.put, List.setIfInBounds_toArray, List.set_cons_zero, List.set_cons_succ])
            refine wpAnyH_ready (rs := [14]) (by kernel_rfl) (by simp) ?_
            refine' (AllReadyH.cons (i := 14) ?ho14x42 (fun K hK => ?st14x42) AllReadyH.nil)
            case ho14x42 => (simp only [List.getElem?_toArray, List.getElem?_cons_succ, List.getElem?_cons_zero]; try rfl)
            case st14x42 =>
              refine wp_append_own _ _ _ 23 rfl (W0.heap.size + 1) 60 i0 (.int .u32 0) 1 4 Tryd.underlying23 hi hz0 hz1 hz2 rfl (by decide) _ _ _ (by rfl) (hvo.out.below (by first | exact Below.refl _ _ | exact (Below.refl _ _).drew | go_grown)) ⟨wr.heap.size, 0, none⟩ 1 1 [uv (min x y)] (by rfl) rfl (news1 _ _ _ _ (by first | rfl | simp)) (uv_one [_]) (by have := hzl.out; unfold maxLen; omega) (by have := hzl.out; omega) (by have := hBr.out; simp; omega) ?_
              intro v2 wA ho2 hg2 _
              have hbA := Lib.hid (below_grown (B := W0.heap.size) (w0 := W0) (by have hb0 := hbwH.out; have hs0 := hb0.size; first | exact hb0 | exact hb0.drew | go_grown) (ownsRow_low (B' := W0.heap.size) (hvo.out.below (by go_grown)) (by omega)) (by have := hbwH.out.size; simp; omega) hg2)
              have hoA : Hid (OwnW (W0.heap.size + 1) v2 (zipL min (l.take (p + 1)) (m.take (p + 1))) wA) := Lib.hid (by
                unfold OwnW
                rw [hsn.out, List.length_append, List.map_append]
                exact ho2)
              have htA := Lib.hid (HasC.append (hto.out.below (by go_grown)) (by decide) (hvo.out.below (by go_grown)) hg2)
              have hsA := Lib.hid (Nat.le_trans hBr.out (Nat.le_trans (by simp) hg2.size : wr.heap.size ≤ wA.heap.size))
              obtain ⟨gv, cv, hv2, _⟩ := hoA.out.row (by rw [hsn.out]; simp)
              obtain ⟨nv, hnv⟩ : ∃ nv, (zipL min (l.take (p + 1)) (m.take (p + 1))).length = nv := ⟨_, rfl⟩
              rw [hnv] at hv2
              subst hv2
              clear ho2 hg2 hnv
              refine hK.out _ _ ?_ (fun hHeld => ?_)
              · exact ⟨(hAH.out.below hbA.out).cell 1 rfl, (hBH.out.below hbA.out).cell 1 rfl, hax.out _ hbA.out, hbx.out _ hbA.out⟩
              clear hK K
              (try simp only [Act.put, List.setIfInBounds_toArray, List.set_cons_zero, List.set_cons_succ])
              clear t0_ t1_ tl_
              have t0_ := htA.out.cell 0 rfl; have t1_ := htA.out.cell 1 rfl; have tf0_ := htA.out.free 0; have tf1_ := htA.out.free 1; have tl_ := htA.out.lt
              refine' wpAnyH_take (i := 15) (v := ?v15x43) ?hi15x43 ?hs15x43 ?hf15x43 ?hr15x43 ?hQ15x43 ?hy15x43 ?hS15x43 ?rest15x43
              case hi15x43 => (simp only [List.getElem?_toArray, List.getElem?_cons_succ, List.getElem?_cons_zero]; try rfl)
              case hs15x43 => kernel_rfl
              case hf15x43 => kernel_rfl
              case hr15x43 => kernel_rfl
              case hQ15x43 => exact fun _ _ _ h => h
              case hy15x43 => first | exact Or.inl ⟨by rfl, by (intro w hSw; (try dsimp only at hSw); go_simp; try rfl)⟩ | exact Or.inr ⟨by rfl, rfl⟩
              case hS15x43 => assumption
              (try simp only [Act.put, List.setIfInBounds_toArray, List.set_cons_zero, List.set_cons_succ])
              refine wpAnyH_ready (rs := [16]) (by kernel_rfl) (by simp) ?_
              refine' (AllReadyH.cons (i := 16) ?ho16x44 (fun K hK => ?st16x44) AllReadyH.nil)
              case ho16x44 => (simp only [List.getElem?_toArray, List.getElem?_cons_succ, List.getElem?_cons_zero]; try rfl)
              case st16x44 =>
                go_simp
                refine hK.out _ _ ?_ (fun hHeld => ?_)
                · exact ⟨(hAH.out.below (hbA.out.setCell (Nat.le_refl _) _)).cell 1 rfl, (hBH.out.below (hbA.out.setCell (Nat.le_refl _) _)).cell 1 rfl, hax.out _ (hbA.out.setCell (Nat.le_refl _) _), hbx.out _ (hbA.out.setCell (Nat.le_refl _) _)⟩
                clear hK K
                (try simp only [Act.put, List.setIfInBounds_toArray, List.set_cons_zero, List.set_cons_succ])
                refine wpAnyH_done (by kernel_rfl) ?_ _
                refine NoPanic.normal ?_
                go_wp2_with fail
                go_roundw
                case rel => exact ⟨p + 1, _, by go_num, by omega, htA.out.set 1 _, hoA.out.far htA.out (by decide) 1 _, hbA.out.setCell (Nat.le_refl _) _, by simpa using hsA.out⟩
                case measure => simp [Go.RowKit.intOf]; omega
      · obtain rfl : p = n := by omega
        have hfin := Lib.hid (show OwnW w.heap.size v (zipL min l m) wr from by
          have := hvo.out.low (B' := w.heap.size) (by have := hwWH.out.size; omega)
          rwa [List.take_of_length_le (by have := hnH.out; omega), List.take_of_length_le (by have := hkH.out; omega)] at this)
        obtain ⟨Av, nv, cv, rfl, _, _, _⟩ := hvo.out.words.form
        have r0_ := (hRH.out.below hbwH.out).cell 0 rfl; have r1_ := (hRH.out.below hbwH.out).cell 1 rfl; have rf0_ := (hRH.out.below hbwH.out).free 0; have rf1_ := (hRH.out.below hbwH.out).free 1; have rl_ := (hRH.out.below hbwH.out).lt
        have q1 := (hRH.out.below hbwH.out).set 0 (.int .u64 (min ea eb)); have q2 := q1.set 1 (.slice Av nv cv)
        have q0_ := q1.cell 0 rfl; have q1_ := q2.cell 0 rfl; have q2_ := q2.cell 1 rfl
        have q1H := Lib.hid q1
        clear q1 q2
        go_wp2_with fail
        refine bodyPost_ret (v := .tuple #[.agg #[.int .u64 (min ea eb), .slice Av nv cv], .int .i64 0]) (by simp [results, Tryd.results18, go_sem, q0_, q1_, q2_]) rfl ?_
        exact ⟨_, rfl, (hfin.out.far (hRH.out.below hbwH.out) (by decide) _ _).far q1H.out (by decide) _ _, ((hwWH.out.trans (hbwH.out.mono hwWH.out.size)).setCell (by simp; omega) _).setCell (by simp; omega) _⟩
  · have hT : chosenT min ⟨ea, l⟩ ⟨eb, m⟩ = ⟨0, []⟩ := if_neg (by have := hnH.out; have := hkH.out; simp only; omega)
    have hE : chosenE ⟨ea, l⟩ ⟨eb, m⟩ = 40 := if_neg (by have := hnH.out; have := hkH.out; simp only; omega)
    rw [hT, hE]
    have hlb : ((n : Int) == (k : Int)) = false := by simp only [beq_eq_false_iff_ne]; omega
    have q1 := hRH.out.set 0 (.int .u64 0); have q2 := q1.set 1 (.slice none 0 0)
    have q0_ := q1.cell 0 rfl; have q1_ := q2.cell 0 rfl; have q2_ := q2.cell 1 rfl
    clear hT hE q1 q2
    go_enter Tryd.func18, Tryd.ntmps18
    go_wp2_with fail
    refine bodyPost_ret (v := .tuple #[.agg #[.int .u64 0, .slice none 0 0], .int .i64 40]) (by simp [results, Tryd.results18, go_sem, q0_, q1_, q2_]) rfl ?_
    exact ⟨_, rfl, OwnW.nil _ _, (hwWH.out.setCell (by simp; omega) _).setCell (by simp; omega) _⟩
end Go.Proofs.YtkpjbmbdndkalaaDoor
