/-
  The law DatumSides answers true, at this program, at all data, where it asks something. Condition: the tables of Go's library lie as their initialisers lay them.
-/
import Derived.Test.YtmdloaioejahdaaDoorSidesA
set_option linter.unusedVariables false
set_option linter.unusedSimpArgs false
namespace Go.Proofs.YtmdloaioejahdaaDoor
open Go.RowKit Go.Lib

theorem fits_self {d : Dat} (h : chk d = 0) : fitsD d.k d = true := by unfold fitsD okD; simp [h]
theorem fits_same {d : Dat} {k : Int} (h : chk d = 0) (hk : k = d.k) : fitsD k d = true := by unfold fitsD okD; simp [h, hk]
/-- What the rounds of the first loop hold: so many answers lie in the variable. -/
def RelA (W0 : World) (B : Nat) (h0 h1 h2 h3 h4 h5 : Bool) (i : Value) (wr : World) : Prop :=
  (i = .int .i64 0 ∧ Arr wr B false false false false false false ∧ Below W0.heap.size W0 wr) ∨ (i = .int .i64 1 ∧ Arr wr B h0 false false false false false ∧ Below W0.heap.size W0 wr) ∨ (i = .int .i64 2 ∧ Arr wr B h0 h1 false false false false ∧ Below W0.heap.size W0 wr) ∨ (i = .int .i64 3 ∧ Arr wr B h0 h1 h2 false false false ∧ Below W0.heap.size W0 wr) ∨ (i = .int .i64 4 ∧ Arr wr B h0 h1 h2 h3 false false ∧ Below W0.heap.size W0 wr) ∨ (i = .int .i64 5 ∧ Arr wr B h0 h1 h2 h3 h4 false ∧ Below W0.heap.size W0 wr) ∨ (i = .int .i64 6 ∧ Arr wr B h0 h1 h2 h3 h4 h5 ∧ Below W0.heap.size W0 wr)
/-- What the rounds of the second loop hold: so many answers of less, same, greater were true. -/
def RelN (n0 n1 n2 n3 n4 n5 n6 : Int) (n i : Value) : Prop :=
  (i = .int .i64 0 ∧ n = .int .i64 n0) ∨ (i = .int .i64 1 ∧ n = .int .i64 n1) ∨ (i = .int .i64 2 ∧ n = .int .i64 n2) ∨ (i = .int .i64 3 ∧ n = .int .i64 n3) ∨ (i = .int .i64 4 ∧ n = .int .i64 n4) ∨ (i = .int .i64 5 ∧ n = .int .i64 n5) ∨ (i = .int .i64 6 ∧ n = .int .i64 n6)

set_option maxHeartbeats 16000000 in
set_option maxRecDepth 100000 in
theorem sides_go (ka : Int) (ba : Bool) (na : Int) (sa : ByteArray) (kb : Int) (bb : Bool) (nb : Int) (sb : ByteArray) (w : World) (hT : Tabs w) (ha : sa.size ≤ 9223372036854775807) (hb : sb.size ≤ 9223372036854775807) (hac : chk ⟨ka, ba, na, sa⟩ = 0) (hbc : chk ⟨kb, bb, nb, sb⟩ = 0) (hk : ka = kb) (hk' : ¬ ka = 1) :
    Calls Tryd.prog 12 #[.agg #[.int .u8 ka, .bool ba, .int .i64 na, .string sa], .agg #[.int .u8 kb, .bool bb, .int .i64 nb, .string sb]] w fun e w' => e = .returned (.bool true) ∧ Below w.heap.size w w'  := by
  have hca : (chk ⟨ka, ba, na, sa⟩ != 0) = false := by simpa using hac
  have hda : (chk ⟨ka, ba, na, sa⟩ == 0) = true := by simpa using hac
  have g1H := Lib.hid (fits_self hac)
  have e1 := hac
  clear hac
  have hcb : (chk ⟨kb, bb, nb, sb⟩ != 0) = false := by simpa using hbc
  have hdb : (chk ⟨kb, bb, nb, sb⟩ == 0) = true := by simpa using hbc
  have g2H := Lib.hid (fits_same hbc hk)
  have e2 := hbc
  clear hbc
  have k1H := Lib.hid (show (ka == 1) = false by simpa using hk')
  have k2H := Lib.hid (show (kb == 1) = false by rw [← hk]; simpa using hk')
  obtain ⟨c, hc⟩ : ∃ c, cmpS ⟨ka, ba, na, sa⟩ ⟨kb, bb, nb, sb⟩ = c := ⟨_, rfl⟩
  have hrc := cmpS_range ⟨ka, ba, na, sa⟩ ⟨kb, bb, nb, sb⟩
  rw [hc] at hrc
  have hrcH := Lib.hid hrc
  clear hrc
  have hcmp := Lib.hid hc
  clear hc
  obtain ⟨h0, hq0⟩ : ∃ h, holdsS 11 c = h := ⟨_, rfl⟩
  have hh0 := Lib.hid hq0
  clear hq0
  obtain ⟨h1, hq1⟩ : ∃ h, holdsS 12 c = h := ⟨_, rfl⟩
  have hh1 := Lib.hid hq1
  clear hq1
  obtain ⟨h2, hq2⟩ : ∃ h, holdsS 13 c = h := ⟨_, rfl⟩
  have hh2 := Lib.hid hq2
  clear hq2
  obtain ⟨h3, hq3⟩ : ∃ h, holdsS 14 c = h := ⟨_, rfl⟩
  have hh3 := Lib.hid hq3
  clear hq3
  obtain ⟨h4, hq4⟩ : ∃ h, holdsS 15 c = h := ⟨_, rfl⟩
  have hh4 := Lib.hid hq4
  clear hq4
  obtain ⟨h5, hq5⟩ : ∃ h, holdsS 16 c = h := ⟨_, rfl⟩
  have hh5 := Lib.hid hq5
  clear hq5
  have hk1 : (ka != kb) = false := by simp [hk]
  have hk2 : (ka == kb) = true := by simp [hk]
  have hk3 : (ka == 1) = false := by simpa using hk'
  have hk4 : ¬ ka = 1 := hk'
  clear hk hk'
  have haH := Lib.hid ha; have hbbH := Lib.hid hb
  obtain ⟨W0, hW0, hwW, hA, hB⟩ := twoBoxes w ka ba na sa kb bb nb sb
  have hAH := Lib.hid hA; have hBH := Lib.hid hB; have hTH := Lib.hid (hT.below hwW); have hwWH := Lib.hid hwW
  clear hA hB hT hwW ha hb
  have hb := Below.refl W0.heap.size W0
  have hs := hb.size
  obtain ⟨a0, a1, a2, a3⟩ := hAH.out.cells
  obtain ⟨b0, b1, b2, b3⟩ := hBH.out.cells
  go_enter Tryd.func12, Tryd.ntmps12
  go_wp2_with (first | (go_at_call 16; go_must (refine (check_any _ _ _ _ _ (hTH.out.below hb) (by first | exact haH.out | exact hbbH.out)).mono ?_; rintro e w' ⟨rfl, hb'⟩; replace hb := chainB hb hb' hb.size; replace hs := hb.size; clear hb' a0 a1 a2 a3 b0 b1 b2 b3; obtain ⟨a0, a1, a2, a3⟩ := (hAH.out.below hb).cells; obtain ⟨b0, b1, b2, b3⟩ := (hBH.out.below hb).cells)) | (go_at_call 15; go_must (refine (known_any _ (hTH.out.below hb)).mono ?_; rintro e w' ⟨rfl, hb'⟩; replace hb := chainB hb hb' hb.size; replace hs := hb.size; clear hb' a0 a1 a2 a3 b0 b1 b2 b3; obtain ⟨a0, a1, a2, a3⟩ := (hAH.out.below hb).cells; obtain ⟨b0, b1, b2, b3⟩ := (hBH.out.below hb).cells)))
  (try rw [e1]); (try rw [e2])
  clear e1 e2 hca hda hcb hdb hk1 hk2 hk3 hk4
  go_loopw [6] (fun i wr => RelA W0 w'.heap.size h0 h1 h2 h3 h4 h5 i wr) (fun i _ => 6 - (Go.RowKit.intOf i).toNat)
  case atStart => exact .inl ⟨rfl, heap_alloc_new w' _, hb.alloc hb.size _⟩
  case round =>
    unfold RelA at hrel
    have hs0 := Lib.hid hb.size
    clear hb hs a0 a1 a2 a3 b0 b1 b2 b3
    rcases hrel with ⟨rfl, hArr0, hb⟩ | ⟨rfl, hArr0, hb⟩ | ⟨rfl, hArr0, hb⟩ | ⟨rfl, hArr0, hb⟩ | ⟨rfl, hArr0, hb⟩ | ⟨rfl, hArr0, hb⟩ | ⟨rfl, hArr0, hb⟩
    · have hArr := Lib.hid hArr0
      clear hArr0
      obtain ⟨a0, a1, a2, a3⟩ := (hAH.out.below hb).cells; obtain ⟨b0, b1, b2, b3⟩ := (hBH.out.below hb).cells; have hs := hb.size; obtain ⟨l0, l1, l2, l3, l4, l5⟩ := hArr.out.cells; obtain ⟨z0, z1, z2, z3, z4, z5⟩ := hArr.out.free; have hlt := hArr.out.lt
      go_wp2_with (go_at_call 41; go_must (refine (compare_go ka ba na sa kb bb nb sb 11 _ (hTH.out.below hb) haH.out hbbH.out (by decide) (by decide) g1H.out g2H.out k1H.out k2H.out).mono ?_; rw [hcmp.out, hh0.out]; rintro e w' ⟨rfl, hb'⟩; have hb'0 := hb'; replace hb := chainB hb hb' hb.size; replace hs := hb.size; clear hb' a0 a1 a2 a3 b0 b1 b2 b3; obtain ⟨a0, a1, a2, a3⟩ := (hAH.out.below hb).cells; obtain ⟨b0, b1, b2, b3⟩ := (hBH.out.below hb).cells; replace hArr := Lib.hid (hArr.out.below hb'0); (try clear l0 l1 l2 l3 l4 l5 z0 z1 z2 z3 z4 z5 hlt); obtain ⟨l0, l1, l2, l3, l4, l5⟩ := hArr.out.cells; obtain ⟨z0, z1, z2, z3, z4, z5⟩ := hArr.out.free; have hlt := hArr.out.lt))
      go_roundw
      case rel => exact .inr (.inl ⟨rfl, (hArr.out.set0 h0).alloc _, (hb.setCell (p := ⟨_, 0, none⟩) hs0.out _).alloc (by simp; exact hb.size) _⟩)
      case measure => simp [Go.RowKit.intOf]
    · have hArr := Lib.hid hArr0
      clear hArr0
      obtain ⟨a0, a1, a2, a3⟩ := (hAH.out.below hb).cells; obtain ⟨b0, b1, b2, b3⟩ := (hBH.out.below hb).cells; have hs := hb.size; obtain ⟨l0, l1, l2, l3, l4, l5⟩ := hArr.out.cells; obtain ⟨z0, z1, z2, z3, z4, z5⟩ := hArr.out.free; have hlt := hArr.out.lt
      go_wp2_with (go_at_call 41; go_must (refine (compare_go ka ba na sa kb bb nb sb 12 _ (hTH.out.below hb) haH.out hbbH.out (by decide) (by decide) g1H.out g2H.out k1H.out k2H.out).mono ?_; rw [hcmp.out, hh1.out]; rintro e w' ⟨rfl, hb'⟩; have hb'0 := hb'; replace hb := chainB hb hb' hb.size; replace hs := hb.size; clear hb' a0 a1 a2 a3 b0 b1 b2 b3; obtain ⟨a0, a1, a2, a3⟩ := (hAH.out.below hb).cells; obtain ⟨b0, b1, b2, b3⟩ := (hBH.out.below hb).cells; replace hArr := Lib.hid (hArr.out.below hb'0); (try clear l0 l1 l2 l3 l4 l5 z0 z1 z2 z3 z4 z5 hlt); obtain ⟨l0, l1, l2, l3, l4, l5⟩ := hArr.out.cells; obtain ⟨z0, z1, z2, z3, z4, z5⟩ := hArr.out.free; have hlt := hArr.out.lt))
      go_roundw
      case rel => exact .inr (.inr (.inl ⟨rfl, (hArr.out.set1 h1).alloc _, (hb.setCell (p := ⟨_, 1, none⟩) hs0.out _).alloc (by simp; exact hb.size) _⟩))
      case measure => simp [Go.RowKit.intOf]
    · have hArr := Lib.hid hArr0
      clear hArr0
      obtain ⟨a0, a1, a2, a3⟩ := (hAH.out.below hb).cells; obtain ⟨b0, b1, b2, b3⟩ := (hBH.out.below hb).cells; have hs := hb.size; obtain ⟨l0, l1, l2, l3, l4, l5⟩ := hArr.out.cells; obtain ⟨z0, z1, z2, z3, z4, z5⟩ := hArr.out.free; have hlt := hArr.out.lt
      go_wp2_with (go_at_call 41; go_must (refine (compare_go ka ba na sa kb bb nb sb 13 _ (hTH.out.below hb) haH.out hbbH.out (by decide) (by decide) g1H.out g2H.out k1H.out k2H.out).mono ?_; rw [hcmp.out, hh2.out]; rintro e w' ⟨rfl, hb'⟩; have hb'0 := hb'; replace hb := chainB hb hb' hb.size; replace hs := hb.size; clear hb' a0 a1 a2 a3 b0 b1 b2 b3; obtain ⟨a0, a1, a2, a3⟩ := (hAH.out.below hb).cells; obtain ⟨b0, b1, b2, b3⟩ := (hBH.out.below hb).cells; replace hArr := Lib.hid (hArr.out.below hb'0); (try clear l0 l1 l2 l3 l4 l5 z0 z1 z2 z3 z4 z5 hlt); obtain ⟨l0, l1, l2, l3, l4, l5⟩ := hArr.out.cells; obtain ⟨z0, z1, z2, z3, z4, z5⟩ := hArr.out.free; have hlt := hArr.out.lt))
      go_roundw
      case rel => exact .inr (.inr (.inr (.inl ⟨rfl, (hArr.out.set2 h2).alloc _, (hb.setCell (p := ⟨_, 2, none⟩) hs0.out _).alloc (by simp; exact hb.size) _⟩)))
      case measure => simp [Go.RowKit.intOf]
    · have hArr := Lib.hid hArr0
      clear hArr0
      obtain ⟨a0, a1, a2, a3⟩ := (hAH.out.below hb).cells; obtain ⟨b0, b1, b2, b3⟩ := (hBH.out.below hb).cells; have hs := hb.size; obtain ⟨l0, l1, l2, l3, l4, l5⟩ := hArr.out.cells; obtain ⟨z0, z1, z2, z3, z4, z5⟩ := hArr.out.free; have hlt := hArr.out.lt
      go_wp2_with (go_at_call 41; go_must (refine (compare_go ka ba na sa kb bb nb sb 14 _ (hTH.out.below hb) haH.out hbbH.out (by decide) (by decide) g1H.out g2H.out k1H.out k2H.out).mono ?_; rw [hcmp.out, hh3.out]; rintro e w' ⟨rfl, hb'⟩; have hb'0 := hb'; replace hb := chainB hb hb' hb.size; replace hs := hb.size; clear hb' a0 a1 a2 a3 b0 b1 b2 b3; obtain ⟨a0, a1, a2, a3⟩ := (hAH.out.below hb).cells; obtain ⟨b0, b1, b2, b3⟩ := (hBH.out.below hb).cells; replace hArr := Lib.hid (hArr.out.below hb'0); (try clear l0 l1 l2 l3 l4 l5 z0 z1 z2 z3 z4 z5 hlt); obtain ⟨l0, l1, l2, l3, l4, l5⟩ := hArr.out.cells; obtain ⟨z0, z1, z2, z3, z4, z5⟩ := hArr.out.free; have hlt := hArr.out.lt))
      go_roundw
      case rel => exact .inr (.inr (.inr (.inr (.inl ⟨rfl, (hArr.out.set3 h3).alloc _, (hb.setCell (p := ⟨_, 3, none⟩) hs0.out _).alloc (by simp; exact hb.size) _⟩))))
      case measure => simp [Go.RowKit.intOf]
    · have hArr := Lib.hid hArr0
      clear hArr0
      obtain ⟨a0, a1, a2, a3⟩ := (hAH.out.below hb).cells; obtain ⟨b0, b1, b2, b3⟩ := (hBH.out.below hb).cells; have hs := hb.size; obtain ⟨l0, l1, l2, l3, l4, l5⟩ := hArr.out.cells; obtain ⟨z0, z1, z2, z3, z4, z5⟩ := hArr.out.free; have hlt := hArr.out.lt
      go_wp2_with (go_at_call 41; go_must (refine (compare_go ka ba na sa kb bb nb sb 15 _ (hTH.out.below hb) haH.out hbbH.out (by decide) (by decide) g1H.out g2H.out k1H.out k2H.out).mono ?_; rw [hcmp.out, hh4.out]; rintro e w' ⟨rfl, hb'⟩; have hb'0 := hb'; replace hb := chainB hb hb' hb.size; replace hs := hb.size; clear hb' a0 a1 a2 a3 b0 b1 b2 b3; obtain ⟨a0, a1, a2, a3⟩ := (hAH.out.below hb).cells; obtain ⟨b0, b1, b2, b3⟩ := (hBH.out.below hb).cells; replace hArr := Lib.hid (hArr.out.below hb'0); (try clear l0 l1 l2 l3 l4 l5 z0 z1 z2 z3 z4 z5 hlt); obtain ⟨l0, l1, l2, l3, l4, l5⟩ := hArr.out.cells; obtain ⟨z0, z1, z2, z3, z4, z5⟩ := hArr.out.free; have hlt := hArr.out.lt))
      go_roundw
      case rel => exact .inr (.inr (.inr (.inr (.inr (.inl ⟨rfl, (hArr.out.set4 h4).alloc _, (hb.setCell (p := ⟨_, 4, none⟩) hs0.out _).alloc (by simp; exact hb.size) _⟩)))))
      case measure => simp [Go.RowKit.intOf]
    · have hArr := Lib.hid hArr0
      clear hArr0
      obtain ⟨a0, a1, a2, a3⟩ := (hAH.out.below hb).cells; obtain ⟨b0, b1, b2, b3⟩ := (hBH.out.below hb).cells; have hs := hb.size; obtain ⟨l0, l1, l2, l3, l4, l5⟩ := hArr.out.cells; obtain ⟨z0, z1, z2, z3, z4, z5⟩ := hArr.out.free; have hlt := hArr.out.lt
      go_wp2_with (go_at_call 41; go_must (refine (compare_go ka ba na sa kb bb nb sb 16 _ (hTH.out.below hb) haH.out hbbH.out (by decide) (by decide) g1H.out g2H.out k1H.out k2H.out).mono ?_; rw [hcmp.out, hh5.out]; rintro e w' ⟨rfl, hb'⟩; have hb'0 := hb'; replace hb := chainB hb hb' hb.size; replace hs := hb.size; clear hb' a0 a1 a2 a3 b0 b1 b2 b3; obtain ⟨a0, a1, a2, a3⟩ := (hAH.out.below hb).cells; obtain ⟨b0, b1, b2, b3⟩ := (hBH.out.below hb).cells; replace hArr := Lib.hid (hArr.out.below hb'0); (try clear l0 l1 l2 l3 l4 l5 z0 z1 z2 z3 z4 z5 hlt); obtain ⟨l0, l1, l2, l3, l4, l5⟩ := hArr.out.cells; obtain ⟨z0, z1, z2, z3, z4, z5⟩ := hArr.out.free; have hlt := hArr.out.lt))
      go_roundw
      case rel => exact .inr (.inr (.inr (.inr (.inr (.inr (⟨rfl, (hArr.out.set5 h5).alloc _, (hb.setCell (p := ⟨_, 5, none⟩) hs0.out _).alloc (by simp; exact hb.size) _⟩))))))
      case measure => simp [Go.RowKit.intOf]
    · have hArr := Lib.hid hArr0
      clear hArr0
      obtain ⟨a0, a1, a2, a3⟩ := (hAH.out.below hb).cells; obtain ⟨b0, b1, b2, b3⟩ := (hBH.out.below hb).cells; have hs := hb.size; obtain ⟨l0, l1, l2, l3, l4, l5⟩ := hArr.out.cells; obtain ⟨z0, z1, z2, z3, z4, z5⟩ := hArr.out.free; have hlt := hArr.out.lt
      go_wp2_with fail
      clear a0 a1 a2 a3 b0 b1 b2 b3
      have hbH := Lib.hid hb
      rcases (show c = -1 ∨ c = 0 ∨ c = 1 by have := hrcH.out; omega) with rfl | rfl | rfl
      · obtain rfl : h0 = false := hh0.out.symm.trans holds_0_0; obtain rfl : h1 = true := hh1.out.symm.trans holds_0_1; obtain rfl : h2 = true := hh2.out.symm.trans holds_0_2; obtain rfl : h3 = true := hh3.out.symm.trans holds_0_3; obtain rfl : h4 = false := hh4.out.symm.trans holds_0_4; obtain rfl : h5 = false := hh5.out.symm.trans holds_0_5
        go_loop [9, 10] (fun n i => RelN 0 0 0 1 1 1 1 n i) (fun _ i => 6 - (Go.RowKit.intOf i).toNat)
        case atStart => exact .inl ⟨rfl, rfl⟩
        case round =>
          unfold RelN at hrel
          rcases hrel with ⟨rfl, rfl⟩ | ⟨rfl, rfl⟩ | ⟨rfl, rfl⟩ | ⟨rfl, rfl⟩ | ⟨rfl, rfl⟩ | ⟨rfl, rfl⟩ | ⟨rfl, rfl⟩
          · go_wp2
            go_round
            case rel => exact .inr (.inl ⟨rfl, rfl⟩)
            case measure => simp [Go.RowKit.intOf]
          · go_wp2
            go_round
            case rel => exact .inr (.inr (.inl ⟨rfl, rfl⟩))
            case measure => simp [Go.RowKit.intOf]
          · go_wp2
            go_round
            case rel => exact .inr (.inr (.inr (.inl ⟨rfl, rfl⟩)))
            case measure => simp [Go.RowKit.intOf]
          · go_wp2
            go_round
            case rel => exact .inr (.inr (.inr (.inr (.inl ⟨rfl, rfl⟩))))
            case measure => simp [Go.RowKit.intOf]
          · go_wp2
            go_round
            case rel => exact .inr (.inr (.inr (.inr (.inr (.inl ⟨rfl, rfl⟩)))))
            case measure => simp [Go.RowKit.intOf]
          · go_wp2
            go_round
            case rel => exact .inr (.inr (.inr (.inr (.inr (.inr (⟨rfl, rfl⟩))))))
            case measure => simp [Go.RowKit.intOf]
          · obtain ⟨a0, a1, a2, a3⟩ := (hAH.out.below hb).cells
            obtain ⟨b0, b1, b2, b3⟩ := (hBH.out.below hb).cells
            go_wp2_with (first | (go_at_call 18; go_must (refine (cmp_any _ _ _ _ _ _ _ _ _).mono ?_; rw [hcmp.out]; rintro e w' ⟨rfl, hb'⟩; have hb'0 := hb'; replace hb := chainB hb hb' hb.size; replace hs := hb.size; clear hb' a0 a1 a2 a3 b0 b1 b2 b3; obtain ⟨a0, a1, a2, a3⟩ := (hAH.out.below hb).cells; obtain ⟨b0, b1, b2, b3⟩ := (hBH.out.below hb).cells; replace hArr := Lib.hid (hArr.out.below hb'0); (try clear l0 l1 l2 l3 l4 l5 z0 z1 z2 z3 z4 z5 hlt); obtain ⟨l0, l1, l2, l3, l4, l5⟩ := hArr.out.cells; obtain ⟨z0, z1, z2, z3, z4, z5⟩ := hArr.out.free; have hlt := hArr.out.lt)) | (go_at_call 15; go_must (refine (known_any _ (hTH.out.below hb)).mono ?_; rintro e w' ⟨rfl, hb'⟩; have hb'0 := hb'; replace hb := chainB hb hb' hb.size; replace hs := hb.size; clear hb' a0 a1 a2 a3 b0 b1 b2 b3; obtain ⟨a0, a1, a2, a3⟩ := (hAH.out.below hb).cells; obtain ⟨b0, b1, b2, b3⟩ := (hBH.out.below hb).cells; replace hArr := Lib.hid (hArr.out.below hb'0); (try clear l0 l1 l2 l3 l4 l5 z0 z1 z2 z3 z4 z5 hlt); obtain ⟨l0, l1, l2, l3, l4, l5⟩ := hArr.out.cells; obtain ⟨z0, z1, z2, z3, z4, z5⟩ := hArr.out.free; have hlt := hArr.out.lt)))
            go_ret
            exact ⟨rfl, chainB hwWH.out hb hwWH.out.size⟩
      · obtain rfl : h0 = true := hh0.out.symm.trans holds_1_0; obtain rfl : h1 = false := hh1.out.symm.trans holds_1_1; obtain rfl : h2 = false := hh2.out.symm.trans holds_1_2; obtain rfl : h3 = true := hh3.out.symm.trans holds_1_3; obtain rfl : h4 = false := hh4.out.symm.trans holds_1_4; obtain rfl : h5 = true := hh5.out.symm.trans holds_1_5
        go_loop [9, 10] (fun n i => RelN 0 1 1 1 1 1 1 n i) (fun _ i => 6 - (Go.RowKit.intOf i).toNat)
        case atStart => exact .inl ⟨rfl, rfl⟩
        case round =>
          unfold RelN at hrel
          rcases hrel with ⟨rfl, rfl⟩ | ⟨rfl, rfl⟩ | ⟨rfl, rfl⟩ | ⟨rfl, rfl⟩ | ⟨rfl, rfl⟩ | ⟨rfl, rfl⟩ | ⟨rfl, rfl⟩
          · go_wp2
            go_round
            case rel => exact .inr (.inl ⟨rfl, rfl⟩)
            case measure => simp [Go.RowKit.intOf]
          · go_wp2
            go_round
            case rel => exact .inr (.inr (.inl ⟨rfl, rfl⟩))
            case measure => simp [Go.RowKit.intOf]
          · go_wp2
            go_round
            case rel => exact .inr (.inr (.inr (.inl ⟨rfl, rfl⟩)))
            case measure => simp [Go.RowKit.intOf]
          · go_wp2
            go_round
            case rel => exact .inr (.inr (.inr (.inr (.inl ⟨rfl, rfl⟩))))
            case measure => simp [Go.RowKit.intOf]
          · go_wp2
            go_round
            case rel => exact .inr (.inr (.inr (.inr (.inr (.inl ⟨rfl, rfl⟩)))))
            case measure => simp [Go.RowKit.intOf]
          · go_wp2
            go_round
            case rel => exact .inr (.inr (.inr (.inr (.inr (.inr (⟨rfl, rfl⟩))))))
            case measure => simp [Go.RowKit.intOf]
          · obtain ⟨a0, a1, a2, a3⟩ := (hAH.out.below hb).cells
            obtain ⟨b0, b1, b2, b3⟩ := (hBH.out.below hb).cells
            go_wp2_with (first | (go_at_call 18; go_must (refine (cmp_any _ _ _ _ _ _ _ _ _).mono ?_; rw [hcmp.out]; rintro e w' ⟨rfl, hb'⟩; have hb'0 := hb'; replace hb := chainB hb hb' hb.size; replace hs := hb.size; clear hb' a0 a1 a2 a3 b0 b1 b2 b3; obtain ⟨a0, a1, a2, a3⟩ := (hAH.out.below hb).cells; obtain ⟨b0, b1, b2, b3⟩ := (hBH.out.below hb).cells; replace hArr := Lib.hid (hArr.out.below hb'0); (try clear l0 l1 l2 l3 l4 l5 z0 z1 z2 z3 z4 z5 hlt); obtain ⟨l0, l1, l2, l3, l4, l5⟩ := hArr.out.cells; obtain ⟨z0, z1, z2, z3, z4, z5⟩ := hArr.out.free; have hlt := hArr.out.lt)) | (go_at_call 15; go_must (refine (known_any _ (hTH.out.below hb)).mono ?_; rintro e w' ⟨rfl, hb'⟩; have hb'0 := hb'; replace hb := chainB hb hb' hb.size; replace hs := hb.size; clear hb' a0 a1 a2 a3 b0 b1 b2 b3; obtain ⟨a0, a1, a2, a3⟩ := (hAH.out.below hb).cells; obtain ⟨b0, b1, b2, b3⟩ := (hBH.out.below hb).cells; replace hArr := Lib.hid (hArr.out.below hb'0); (try clear l0 l1 l2 l3 l4 l5 z0 z1 z2 z3 z4 z5 hlt); obtain ⟨l0, l1, l2, l3, l4, l5⟩ := hArr.out.cells; obtain ⟨z0, z1, z2, z3, z4, z5⟩ := hArr.out.free; have hlt := hArr.out.lt)))
            go_ret
            exact ⟨rfl, chainB hwWH.out hb hwWH.out.size⟩
      · obtain rfl : h0 = false := hh0.out.symm.trans holds_2_0; obtain rfl : h1 = true := hh1.out.symm.trans holds_2_1; obtain rfl : h2 = false := hh2.out.symm.trans holds_2_2; obtain rfl : h3 = false := hh3.out.symm.trans holds_2_3; obtain rfl : h4 = true := hh4.out.symm.trans holds_2_4; obtain rfl : h5 = true := hh5.out.symm.trans holds_2_5
        go_loop [9, 10] (fun n i => RelN 0 0 0 0 0 1 1 n i) (fun _ i => 6 - (Go.RowKit.intOf i).toNat)
        case atStart => exact .inl ⟨rfl, rfl⟩
        case round =>
          unfold RelN at hrel
          rcases hrel with ⟨rfl, rfl⟩ | ⟨rfl, rfl⟩ | ⟨rfl, rfl⟩ | ⟨rfl, rfl⟩ | ⟨rfl, rfl⟩ | ⟨rfl, rfl⟩ | ⟨rfl, rfl⟩
          · go_wp2
            go_round
            case rel => exact .inr (.inl ⟨rfl, rfl⟩)
            case measure => simp [Go.RowKit.intOf]
          · go_wp2
            go_round
            case rel => exact .inr (.inr (.inl ⟨rfl, rfl⟩))
            case measure => simp [Go.RowKit.intOf]
          · go_wp2
            go_round
            case rel => exact .inr (.inr (.inr (.inl ⟨rfl, rfl⟩)))
            case measure => simp [Go.RowKit.intOf]
          · go_wp2
            go_round
            case rel => exact .inr (.inr (.inr (.inr (.inl ⟨rfl, rfl⟩))))
            case measure => simp [Go.RowKit.intOf]
          · go_wp2
            go_round
            case rel => exact .inr (.inr (.inr (.inr (.inr (.inl ⟨rfl, rfl⟩)))))
            case measure => simp [Go.RowKit.intOf]
          · go_wp2
            go_round
            case rel => exact .inr (.inr (.inr (.inr (.inr (.inr (⟨rfl, rfl⟩))))))
            case measure => simp [Go.RowKit.intOf]
          · obtain ⟨a0, a1, a2, a3⟩ := (hAH.out.below hb).cells
            obtain ⟨b0, b1, b2, b3⟩ := (hBH.out.below hb).cells
            go_wp2_with (first | (go_at_call 18; go_must (refine (cmp_any _ _ _ _ _ _ _ _ _).mono ?_; rw [hcmp.out]; rintro e w' ⟨rfl, hb'⟩; have hb'0 := hb'; replace hb := chainB hb hb' hb.size; replace hs := hb.size; clear hb' a0 a1 a2 a3 b0 b1 b2 b3; obtain ⟨a0, a1, a2, a3⟩ := (hAH.out.below hb).cells; obtain ⟨b0, b1, b2, b3⟩ := (hBH.out.below hb).cells; replace hArr := Lib.hid (hArr.out.below hb'0); (try clear l0 l1 l2 l3 l4 l5 z0 z1 z2 z3 z4 z5 hlt); obtain ⟨l0, l1, l2, l3, l4, l5⟩ := hArr.out.cells; obtain ⟨z0, z1, z2, z3, z4, z5⟩ := hArr.out.free; have hlt := hArr.out.lt)) | (go_at_call 15; go_must (refine (known_any _ (hTH.out.below hb)).mono ?_; rintro e w' ⟨rfl, hb'⟩; have hb'0 := hb'; replace hb := chainB hb hb' hb.size; replace hs := hb.size; clear hb' a0 a1 a2 a3 b0 b1 b2 b3; obtain ⟨a0, a1, a2, a3⟩ := (hAH.out.below hb).cells; obtain ⟨b0, b1, b2, b3⟩ := (hBH.out.below hb).cells; replace hArr := Lib.hid (hArr.out.below hb'0); (try clear l0 l1 l2 l3 l4 l5 z0 z1 z2 z3 z4 z5 hlt); obtain ⟨l0, l1, l2, l3, l4, l5⟩ := hArr.out.cells; obtain ⟨z0, z1, z2, z3, z4, z5⟩ := hArr.out.free; have hlt := hArr.out.lt)))
            go_ret
            exact ⟨rfl, chainB hwWH.out hb hwWH.out.size⟩
theorem sides_any (ka : Int) (ba : Bool) (na : Int) (sa : ByteArray) (kb : Int) (bb : Bool) (nb : Int) (sb : ByteArray) (w : World) (hT : Tabs w) (ha : sa.size ≤ 9223372036854775807) (hna : I64 na) (hka : 0 ≤ ka ∧ ka ≤ 255) (hb : sb.size ≤ 9223372036854775807) (hnb : I64 nb) (hkb : 0 ≤ kb ∧ kb ≤ 255) :
    Calls Tryd.prog 12 #[.agg #[.int .u8 ka, .bool ba, .int .i64 na, .string sa], .agg #[.int .u8 kb, .bool bb, .int .i64 nb, .string sb]] w fun e w' => e = .returned (.bool true) ∧ Below w.heap.size w w'  := by
  by_cases h1 : chk ⟨ka, ba, na, sa⟩ = 0
  · by_cases h2 : chk ⟨kb, bb, nb, sb⟩ = 0
    · by_cases h3 : ka = kb
      · by_cases h4 : ka = 1
        · exact sides_n ka ba na sa kb bb nb sb w hT ha hb h1 h2 h4 (h3 ▸ h4)
        · exact sides_go ka ba na sa kb bb nb sb w hT ha hb h1 h2 h3 h4
      · exact sides_k ka ba na sa kb bb nb sb w hT ha hb h1 h2 h3
    · exact sides_b ka ba na sa kb bb nb sb w hT ha hb h1 h2
  · exact sides_a ka ba na sa kb bb nb sb w hT ha hb h1
end Go.Proofs.YtmdloaioejahdaaDoor
