/-
  Texts that belong together: RwS. What each one says stands ahead of it.
-/
import Derived.Test.YtpmfbmigdpmloaaGreatDoorPc03
import Derived.Test.YtpmfbmigdpmloaaGreatDoorPc07
/-
  What row.Sum answers, at this program: the same rows put together, in order, in new memory. Conditions: those written.
-/
set_option linter.unusedVariables false
set_option linter.unusedSimpArgs false
namespace Go.Proofs.YtpmfbmigdpmloaaGreatDoor
open Go.RowKit Go.Lib Go.Proofs

/-- What the rounds hold: what is put together up to a place, the last key's bytes, where each row stands. -/
def RelS (ds : List Cd) (w0 : World) (s3 s5 s14 : Value) (wr : World) : Prop :=
  ∃ (p : Nat) (kb : List UInt8), p ≤ ds.length ∧ s14 = .int .i64 (p : Int) ∧ (sumD (ds.take p) = [] → s3 = .slice none 0 0) ∧ OwnCs w0.heap.size s3 (sumD (ds.take p)) wr ∧ OwnU w0.heap.size s5 kb wr ∧ MpI w0.heap.size (((sumD (ds.take p)).map cnD).map keyN) wr ∧ Below w0.heap.size w0 wr
/-- What the last rounds hold: the first ones' rows are new. -/
def RelSu (r : List Cd) (g cap : Nat) (w0 : World) (s61 : Value) (wr : World) : Prop :=
  ∃ (p : Nat) (f : List Cd), p ≤ r.length ∧ s61 = .int .i64 (p : Int) ∧ f.map cnD = (r.take p).map cnD ∧ FreshL w0.heap.size wr f ∧ OwnC g cap ((f ++ r.drop p).map (·.1)) wr ∧ Below w0.heap.size w0 wr
theorem text_of (l : List UInt8) : (⟨l.toArray⟩ : ByteArray).data.toList = l := rfl
theorem lookI_in {keys : List (List UInt8)} {key : List UInt8} (h : key ∈ keys) : lookI keys key = (((placeN keys key : Nat) : Int), true) := by unfold lookI placeN; rw [if_pos h, if_pos h]
theorem lookI_out {keys : List (List UInt8)} {key : List UInt8} (h : key ∉ keys) : lookI keys key = (0, false) := by unfold lookI; rw [if_neg h]
theorem placeN_out {keys : List (List UInt8)} {key : List UInt8} (h : key ∉ keys) : placeN keys key = keys.length := by unfold placeN; rw [if_neg h]
set_option maxHeartbeats 8000000 in
set_option maxRecDepth 1000000 in
theorem sum_any (v : Value) (ds : List Cd) (w : World) (h : CtsV w v ds) (hn : ds.length ≤ 1099511627776) (hne : ds ≠ []) (hl : ∀ d ∈ ds, d.2.length ≤ 1099511627776) (hw : ∀ d ∈ ds, ∀ x ∈ d.2, Wide x) (hs : ∀ d ∈ ds, szR d.2 ≤ 70368744177664) :
    Calls Tryz.prog 38 #[v] w fun e w' => ∃ v' r, e = .returned v' ∧ SumOf (ds.map cnD) (r.map cnD) ∧ OwnCs w.heap.size v' r w' ∧ FreshL w.heap.size w' r ∧ Below w.heap.size w w' := by
  obtain ⟨A, ca, rfl, hla⟩ := h.form
  have hH := Lib.hid h; have hwH := Lib.hid hw; have hsH := Lib.hid hs; have hlH := Lib.hid hl
  clear h hw hs hl
  obtain ⟨W1, hW1⟩ : ∃ W1, w.alloc (.map #[] 0) = W1 := ⟨_, rfl⟩
  have hM1 := Lib.hid (show MpI w.heap.size [] W1 from hW1 ▸ MpI.made w)
  have hb1 := Lib.hid (show Below w.heap.size w W1 from hW1 ▸ (Below.refl _ w).alloc (Nat.le_refl _) _)
  have hmm := @run_makeMap Tryz.prog
  go_enter Tryz.func38, Tryz.ntmps38
  go_wp2_with fail
  go_loopw [3, 5, 7, 8, 9, 14] (fun s3 s5 s7 s8 s9 s14 wr => RelS ds w s3 s5 s14 wr) (fun _ _ _ _ _ s14 _ => ds.length - (Go.RowKit.intOf s14).toNat)
  case atStart => exact ⟨0, [], by omega, rfl, fun _ => rfl, OwnCs.nil _ _, World.ownsRow_nil _ _ _ _, hM1.out, hb1.out⟩
  case round =>
    unfold RelS at hrel
    obtain ⟨p, kb, hp, rfl, hz, ho, hk, hm, hb⟩ := hrel
    have hoH := Lib.hid ho; have hkH := Lib.hid hk; have hmH := Lib.hid hm; have hbH := Lib.hid hb
    have hB := hb.size
    obtain ⟨A3, c3, rfl⟩ := ho.len
    obtain ⟨A5, c5, rfl⟩ := OwnU.form hk
    have hz0 := Lib.hid hz
    clear ho hk hm hb hz
    by_cases hlt : p < ds.length
    · obtain ⟨d, hd⟩ : ∃ d, ds[p]? = some d := ⟨_, List.getElem?_eq_getElem hlt⟩
      obtain ⟨ad, rfl, hba, a0_, a1_⟩ := (hH.out.below hbH.out).at hd
      have hdH := Lib.hid hd
      have hwd := Lib.hid (hwH.out d (List.mem_of_getElem? hd)); have hsd := Lib.hid (hsH.out d (List.mem_of_getElem? hd))
      have hrd := Lib.hid (hH.out.2 d (List.mem_of_getElem? hd))
      have hst := Lib.hid (sumD_take hd)
      clear hd
      obtain ⟨⟨dA, dk, dc, dn⟩, r⟩ := d
      simp only [valD] at a0_ a1_
      obtain ⟨acc, hacc⟩ : ∃ acc, sumD (ds.take p) = acc := ⟨_, rfl⟩
      have hal := Lib.hid (show acc.length ≤ 1099511627776 by rw [← hacc]; have := sumD_len (ds.take p); rw [List.length_take] at this; omega)
      rw [hacc] at hoH hmH hst hz0 ⊢
      clear hacc
      have hltH := Lib.hid hlt
      obtain ⟨wd, hwdE⟩ : ∃ wd, wr.alloc (.cells #[.slice dA dk dc, .int .i64 dn] 74) = wd := ⟨_, rfl⟩
      have hvD := Lib.hid (show OwnC wr.heap.size 1 [⟨dA, dk, dc, dn⟩] wd from hwdE ▸ OwnC.box wr ⟨dA, dk, dc, dn⟩)
      have hoD := Lib.hid (show OwnCs w.heap.size (.slice A3 acc.length c3) acc wd from hwdE ▸ hoH.out.alloc _)
      have hkD := Lib.hid (show OwnU w.heap.size (.slice A5 kb.length c5) kb wd from hwdE ▸ hkH.out.alloc _)
      have hmD := Lib.hid (show MpI w.heap.size ((acc.map cnD).map keyN) wd from hwdE ▸ hmH.out.alloc _)
      have hbD := Lib.hid (show Below w.heap.size w wd from hwdE ▸ hbH.out.alloc hB _)
      have hsz := Lib.hid (show wr.heap.size < wd.heap.size by rw [← hwdE]; simp)
      have hgo := Lib.hid (own_lt hoH.out)
      have hk0 := Lib.hid (show OwnB w.heap.size (.slice A5 0 c5) [] wd.drew wd.drew from OwnK.start (w := wd.drew) (OwnK.cut0 (w := wd.drew) hkD.out) (show w.heap.size ≤ wd.heap.size by have := hsz.out; omega))
      obtain ⟨v0_, v1_⟩ := OwnC.cells hvD.out (i := 0) rfl
      simp only [Nat.zero_mul, Nat.zero_add] at v0_ v1_
      go_wp2_with fail
      refine wp_region_noPanic ?_
      refine wp_region_held_drew (S := (fun w' => w'.cell? ⟨wr.heap.size, 0, none⟩ = some (.slice dA dk dc))) (by kernel_rfl) (v0_) (fun hHeld => ?_)
      refine' wpAnyH_take (i := 0) (v := ?v0x1) ?hi0x1 ?hs0x1 ?hf0x1 ?hr0x1 ?hQ0x1 ?hy0x1 ?hS0x1 ?rest0x1
      case hi0x1 => (simp only [List.getElem?_toArray, List.getElem?_cons_succ, List.getElem?_cons_zero]; try rfl)
      case hs0x1 => kernel_rfl
      case hf0x1 => kernel_rfl
      case hr0x1 => kernel_rfl
      case hQ0x1 => exact fun _ _ _ h => h
      case hy0x1 => first | exact Or.inl ⟨by rfl, by (intro w hSw; (try dsimp only at hSw); go_simp; try rfl)⟩ | exact Or.inr ⟨by rfl, rfl⟩
      case hS0x1 => assumption
      (try simp only [Act.put, List.setIfInBounds_toArray, List.set_cons_zero, List.set_cons_succ])
      refine' wpAnyH_take (i := 1) (v := ?v1x2) ?hi1x2 ?hs1x2 ?hf1x2 ?hr1x2 ?hQ1x2 ?hy1x2 ?hS1x2 ?rest1x2
      case hi1x2 => (simp only [List.getElem?_toArray, List.getElem?_cons_succ, List.getElem?_cons_zero]; try rfl)
      case hs1x2 => kernel_rfl
      case hf1x2 => kernel_rfl
      case hr1x2 => kernel_rfl
      case hQ1x2 => exact fun _ _ _ h => h
      case hy1x2 => first | exact Or.inl ⟨by rfl, by (intro w hSw; (try dsimp only at hSw); go_simp; try rfl)⟩ | exact Or.inr ⟨by rfl, rfl⟩
      case hS1x2 => assumption
      (try simp only [Act.put, List.setIfInBounds_toArray, List.set_cons_zero, List.set_cons_succ])
      refine' wpAnyH_take (i := 2) (v := ?v2x3) ?hi2x3 ?hs2x3 ?hf2x3 ?hr2x3 ?hQ2x3 ?hy2x3 ?hS2x3 ?rest2x3
      case hi2x3 => (simp only [List.getElem?_toArray, List.getElem?_cons_succ, List.getElem?_cons_zero]; try rfl)
      case hs2x3 => kernel_rfl
      case hf2x3 => kernel_rfl
      case hr2x3 => kernel_rfl
      case hQ2x3 => exact fun _ _ _ h => h
      case hy2x3 => first | exact Or.inl ⟨by rfl, by (intro w hSw; (try dsimp only at hSw); go_simp; try rfl)⟩ | exact Or.inr ⟨by rfl, rfl⟩
      case hS2x3 => assumption
      (try simp only [Act.put, List.setIfInBounds_toArray, List.set_cons_zero, List.set_cons_succ])
      refine' wpAnyH_take (i := 3) (v := ?v3x4) ?hi3x4 ?hs3x4 ?hf3x4 ?hr3x4 ?hQ3x4 ?hy3x4 ?hS3x4 ?rest3x4
      case hi3x4 => (simp only [List.getElem?_toArray, List.getElem?_cons_succ, List.getElem?_cons_zero]; try rfl)
      case hs3x4 => kernel_rfl
      case hf3x4 => kernel_rfl
      case hr3x4 => kernel_rfl
      case hQ3x4 => exact fun _ _ _ h => h
      case hy3x4 => first | exact Or.inl ⟨by rfl, by (intro w hSw; (try dsimp only at hSw); go_simp; try rfl)⟩ | exact Or.inr ⟨by rfl, rfl⟩
      case hS3x4 => assumption
      (try simp only [Act.put, List.setIfInBounds_toArray, List.set_cons_zero, List.set_cons_succ])
      refine wpAnyH_ready (rs := [4]) (by kernel_rfl) (by simp) ?_
      refine' (AllReadyH.cons (i := 4) ?ho4x5 (fun K hK => ?st4x5) AllReadyH.nil)
      case ho4x5 => (simp only [List.getElem?_toArray, List.getElem?_cons_succ, List.getElem?_cons_zero]; try rfl)
      case st4x5 =>
        go_simp
        refine (appendKey_any w.heap.size (.slice A5 0 c5) _ [] r w wd.drew hk0.out hrd.out hbD.out.drew (Nat.le_refl _) hwd.out (by have := hsd.out; simpa using this)).mono ?_
        rintro e w2 ⟨v2, rfl, hq⟩
        obtain ⟨A2, c2, rfl⟩ := hq.form
        have hoth : OthersKept 5 none wd w2 := hq.2.2.2
        have ho2 := Lib.hid (ownsRow_others hoD.out hoth (by decide))
        have hv2 := Lib.hid (OwnL.others hvD.out hoth (by decide))
        have hm2 := Lib.hid (MpI.others hmD.out hoth)
        have hk2 := Lib.hid (show OwnU w.heap.size (.slice A2 (keyR r).length c2) (keyR r) w2 from hq.1)
        have hb2 := Lib.hid (hbD.out.drew.trans hq.2.1)
        have hs2 := Lib.hid (show wd.heap.size ≤ w2.heap.size from hq.2.1.size)
        clear hq hoth
        refine hK.out _ _ ?_ (fun hHeld => ?_)
        · exact (by simpa using (OwnC.cells hv2.out (i := 0) rfl).1)
        clear hK K
        (try simp only [Act.put, List.setIfInBounds_toArray, List.set_cons_zero, List.set_cons_succ])
        refine' wpAnyH_take (i := 5) (v := ?v5x6) ?hi5x6 ?hs5x6 ?hf5x6 ?hr5x6 ?hQ5x6 ?hy5x6 ?hS5x6 ?rest5x6
        case hi5x6 => (simp only [List.getElem?_toArray, List.getElem?_cons_succ, List.getElem?_cons_zero]; try rfl)
        case hs5x6 => kernel_rfl
        case hf5x6 => kernel_rfl
        case hr5x6 => kernel_rfl
        case hQ5x6 => exact fun _ _ _ h => h
        case hy5x6 => first | exact Or.inl ⟨by rfl, by (intro w hSw; (try dsimp only at hSw); go_simp; try rfl)⟩ | exact Or.inr ⟨by rfl, rfl⟩
        case hS5x6 => assumption
        (try simp only [Act.put, List.setIfInBounds_toArray, List.set_cons_zero, List.set_cons_succ])
        refine wpAnyH_done (by kernel_rfl) ?_ _
        refine NoPanic.normal ?_
        have hcv := conv_key hk2.out
        have hszK := Lib.hid (show (⟨(keyR r).toArray⟩ : ByteArray).size ≤ 140737488355328 by
          have h1 := keyR_le r
          have h2 : szR r ≤ 70368744177664 := hsd.out
          show (keyR r).toArray.size ≤ _
          rw [List.size_toArray]
          omega)
        obtain ⟨keys, hkeys⟩ : ∃ keys, (acc.map cnD).map keyN = keys := ⟨_, rfl⟩
        have hkl := Lib.hid (show keys.length = acc.length by rw [← hkeys]; simp)
        have hkeysH := Lib.hid hkeys
        rw [hkeys] at hm2
        clear hkeys
        obtain ⟨kt, hkt⟩ : ∃ kt : ByteArray, (⟨(keyR r).toArray⟩ : ByteArray) = kt := ⟨_, rfl⟩
        rw [hkt] at hcv hszK
        have hktl := Lib.hid (show kt.data.toList = keyR r by rw [← hkt])
        clear hkt v0_ v1_ hHeld
        have hB2 := Lib.hid hb2.out.size
        by_cases hin : keyR r ∈ keys
        · have hlk := Lib.hid (show lookI keys kt.data.toList = (((placeN keys (keyR r) : Nat) : Int), true) by rw [hktl.out]; exact lookI_in hin)
          obtain ⟨i, hi⟩ : ∃ i, placeN keys (keyR r) = i := ⟨_, rfl⟩
          have hil : i < acc.length := by
            have := place_in (acc := acc) (r := r) (hkeysH.out.symm ▸ hin)
            rw [hkeysH.out, hi] at this
            exact this
          rw [hi] at hlk
          obtain ⟨y, hy⟩ : ∃ y, acc[i]? = some y := ⟨_, List.getElem?_eq_getElem hil⟩
          obtain ⟨g, rfl, _, hgB, hoC⟩ := OwnCs.row ho2.out (by omega)
          obtain ⟨y0_, y1_⟩ := OwnC.two hoC hy
          obtain ⟨x0_, x1_⟩ := OwnC.cells hv2.out (i := 0) rfl
          simp only [Nat.zero_mul, Nat.zero_add] at x0_ x1_
          have hgl := hoC.lt
          have hfr := OwnL.free hoC (i * 2 + 1)
          have hgw := Lib.hid (Nat.ne_of_lt (hgo.out g rfl).2)
          have hadd := Lib.hid (show addD acc (⟨dA, dk, dc, dn⟩, r) = acc.modify i (fun y => setN y (wrap64 (y.1.n + dn))) by
            unfold addD
            rw [withD_seen (hkeysH.out.symm ▸ hin), hkeysH.out, hi])
          have hks := Lib.hid (show ((addD acc (⟨dA, dk, dc, dn⟩, r)).map cnD).map keyN = keys by rw [keys_seen (hkeysH.out.symm ▸ hin), hkeysH.out])
          obtain ⟨⟨yA, yk, yc, yn⟩, yr⟩ := y
          simp only at y0_ y1_
          have hoCH := Lib.hid hoC; have hyH := Lib.hid hy
          clear hoC hy hi hin
          go_wp2_with (at_lookup; refine wpList_mpi_look _ rfl _ _ rfl w.heap.size _ rfl hm2.out kt rfl hszK.out ?_; rw [hlk.out])
          refine wp_region_noPanic ?_
          refine wp_region_held_drew (S := (fun w' => w'.cell? ⟨wr.heap.size, 1, none⟩ = some (.int .i64 dn))) (by kernel_rfl) (x1_) (fun hHeld => ?_)
          refine' wpAnyH_take (i := 0) (v := ?v0x7) ?hi0x7 ?hs0x7 ?hf0x7 ?hr0x7 ?hQ0x7 ?hy0x7 ?hS0x7 ?rest0x7
          case hi0x7 => (simp only [List.getElem?_toArray, List.getElem?_cons_succ, List.getElem?_cons_zero]; try rfl)
          case hs0x7 => kernel_rfl
          case hf0x7 => kernel_rfl
          case hr0x7 => kernel_rfl
          case hQ0x7 => exact fun _ _ _ h => h
          case hy0x7 => first | exact Or.inl ⟨by rfl, by (intro w hSw; (try dsimp only at hSw); go_simp; try rfl)⟩ | exact Or.inr ⟨by rfl, rfl⟩
          case hS0x7 => assumption
          (try simp only [Act.put, List.setIfInBounds_toArray, List.set_cons_zero, List.set_cons_succ])
          refine' wpAnyH_take (i := 1) (v := ?v1x8) ?hi1x8 ?hs1x8 ?hf1x8 ?hr1x8 ?hQ1x8 ?hy1x8 ?hS1x8 ?rest1x8
          case hi1x8 => (simp only [List.getElem?_toArray, List.getElem?_cons_succ, List.getElem?_cons_zero]; try rfl)
          case hs1x8 => kernel_rfl
          case hf1x8 => kernel_rfl
          case hr1x8 => kernel_rfl
          case hQ1x8 => exact fun _ _ _ h => h
          case hy1x8 => first | exact Or.inl ⟨by rfl, by (intro w hSw; (try dsimp only at hSw); go_simp; try rfl)⟩ | exact Or.inr ⟨by rfl, rfl⟩
          case hS1x8 => assumption
          (try simp only [Act.put, List.setIfInBounds_toArray, List.set_cons_zero, List.set_cons_succ])
          refine' wpAnyH_take (i := 2) (v := ?v2x9) ?hi2x9 ?hs2x9 ?hf2x9 ?hr2x9 ?hQ2x9 ?hy2x9 ?hS2x9 ?rest2x9
          case hi2x9 => (simp only [List.getElem?_toArray, List.getElem?_cons_succ, List.getElem?_cons_zero]; try rfl)
          case hs2x9 => kernel_rfl
          case hf2x9 => kernel_rfl
          case hr2x9 => kernel_rfl
          case hQ2x9 => exact fun _ _ _ h => h
          case hy2x9 => first | exact Or.inl ⟨by rfl, by (intro w hSw; (try dsimp only at hSw); go_simp; try rfl)⟩ | exact Or.inr ⟨by rfl, rfl⟩
          case hS2x9 => assumption
          (try simp only [Act.put, List.setIfInBounds_toArray, List.set_cons_zero, List.set_cons_succ])
          refine' wpAnyH_take (i := 3) (v := ?v3x10) ?hi3x10 ?hs3x10 ?hf3x10 ?hr3x10 ?hQ3x10 ?hy3x10 ?hS3x10 ?rest3x10
          case hi3x10 => (simp only [List.getElem?_toArray, List.getElem?_cons_succ, List.getElem?_cons_zero]; try rfl)
          case hs3x10 => kernel_rfl
          case hf3x10 => kernel_rfl
          case hr3x10 => kernel_rfl
          case hQ3x10 => exact fun _ _ _ h => h
          case hy3x10 => first | exact Or.inl ⟨by rfl, by (intro w hSw; (try dsimp only at hSw); go_simp; try rfl)⟩ | exact Or.inr ⟨by rfl, rfl⟩
          case hS3x10 => assumption
          (try simp only [Act.put, List.setIfInBounds_toArray, List.set_cons_zero, List.set_cons_succ])
          refine' wpAnyH_take (i := 5) (v := ?v5x11) ?hi5x11 ?hs5x11 ?hf5x11 ?hr5x11 ?hQ5x11 ?hy5x11 ?hS5x11 ?rest5x11
          case hi5x11 => (simp only [List.getElem?_toArray, List.getElem?_cons_succ, List.getElem?_cons_zero]; try rfl)
          case hs5x11 => kernel_rfl
          case hf5x11 => kernel_rfl
          case hr5x11 => kernel_rfl
          case hQ5x11 => exact fun _ _ _ h => h
          case hy5x11 => first | exact Or.inl ⟨by rfl, by (intro w hSw; (try dsimp only at hSw); go_simp; try rfl)⟩ | exact Or.inr ⟨by rfl, rfl⟩
          case hS5x11 => assumption
          (try simp only [Act.put, List.setIfInBounds_toArray, List.set_cons_zero, List.set_cons_succ])
          refine' wpAnyH_take (i := 6) (v := ?v6x12) ?hi6x12 ?hs6x12 ?hf6x12 ?hr6x12 ?hQ6x12 ?hy6x12 ?hS6x12 ?rest6x12
          case hi6x12 => (simp only [List.getElem?_toArray, List.getElem?_cons_succ, List.getElem?_cons_zero]; try rfl)
          case hs6x12 => kernel_rfl
          case hf6x12 => kernel_rfl
          case hr6x12 => kernel_rfl
          case hQ6x12 => exact fun _ _ _ h => h
          case hy6x12 => first | exact Or.inl ⟨by rfl, by (intro w hSw; (try dsimp only at hSw); go_simp; try rfl)⟩ | exact Or.inr ⟨by rfl, rfl⟩
          case hS6x12 => assumption
          (try simp only [Act.put, List.setIfInBounds_toArray, List.set_cons_zero, List.set_cons_succ])
          refine wpAnyH_ready (rs := [4]) (by kernel_rfl) (by simp) ?_
          refine' (AllReadyH.cons (i := 4) ?ho4x13 (fun K hK => ?st4x13) AllReadyH.nil)
          case ho4x13 => (simp only [List.getElem?_toArray, List.getElem?_cons_succ, List.getElem?_cons_zero]; try rfl)
          case st4x13 =>
            go_simp
            refine hK.out _ _ ?_ (fun hHeld => ?_)
            · exact (by simpa using (OwnC.cells hv2.out (i := 0) rfl).2)
            clear hK K
            (try simp only [Act.put, List.setIfInBounds_toArray, List.set_cons_zero, List.set_cons_succ])
            refine' wpAnyH_take (i := 7) (v := ?v7x14) ?hi7x14 ?hs7x14 ?hf7x14 ?hr7x14 ?hQ7x14 ?hy7x14 ?hS7x14 ?rest7x14
            case hi7x14 => (simp only [List.getElem?_toArray, List.getElem?_cons_succ, List.getElem?_cons_zero]; try rfl)
            case hs7x14 => kernel_rfl
            case hf7x14 => kernel_rfl
            case hr7x14 => kernel_rfl
            case hQ7x14 => exact fun _ _ _ h => h
            case hy7x14 => first | exact Or.inl ⟨by rfl, by (intro w hSw; (try dsimp only at hSw); go_simp; try rfl)⟩ | exact Or.inr ⟨by rfl, rfl⟩
            case hS7x14 => assumption
            (try simp only [Act.put, List.setIfInBounds_toArray, List.set_cons_zero, List.set_cons_succ])
            refine' wpAnyH_take (i := 8) (v := ?v8x15) ?hi8x15 ?hs8x15 ?hf8x15 ?hr8x15 ?hQ8x15 ?hy8x15 ?hS8x15 ?rest8x15
            case hi8x15 => (simp only [List.getElem?_toArray, List.getElem?_cons_succ, List.getElem?_cons_zero]; try rfl)
            case hs8x15 => kernel_rfl
            case hf8x15 => kernel_rfl
            case hr8x15 => kernel_rfl
            case hQ8x15 => exact fun _ _ _ h => h
            case hy8x15 => first | exact Or.inl ⟨by rfl, by (intro w hSw; (try dsimp only at hSw); go_simp; try rfl)⟩ | exact Or.inr ⟨by rfl, rfl⟩
            case hS8x15 => assumption
            (try simp only [Act.put, List.setIfInBounds_toArray, List.set_cons_zero, List.set_cons_succ])
            refine' wpAnyH_take (i := 9) (v := ?v9x16) ?hi9x16 ?hs9x16 ?hf9x16 ?hr9x16 ?hQ9x16 ?hy9x16 ?hS9x16 ?rest9x16
            case hi9x16 => (simp only [List.getElem?_toArray, List.getElem?_cons_succ, List.getElem?_cons_zero]; try rfl)
            case hs9x16 => kernel_rfl
            case hf9x16 => kernel_rfl
            case hr9x16 => kernel_rfl
            case hQ9x16 => exact fun _ _ _ h => h
            case hy9x16 => first | exact Or.inl ⟨by rfl, by (intro w hSw; (try dsimp only at hSw); go_simp; try rfl)⟩ | exact Or.inr ⟨by rfl, rfl⟩
            case hS9x16 => assumption
            (try simp only [Act.put, List.setIfInBounds_toArray, List.set_cons_zero, List.set_cons_succ])
            refine wpAnyH_ready (rs := [10]) (by kernel_rfl) (by simp) ?_
            refine' (AllReadyH.cons (i := 10) ?ho10x17 (fun K hK => ?st10x17) AllReadyH.nil)
            case ho10x17 => (simp only [List.getElem?_toArray, List.getElem?_cons_succ, List.getElem?_cons_zero]; try rfl)
            case st10x17 =>
              go_simp
              refine hK.out _ _ ?_ (fun hHeld => ?_)
              · exact (by simpa using (OwnC.cells (OwnL.setOther hv2.out (Ne.symm hgw.out) _ _) (i := 0) rfl).2)
              clear hK K
              (try simp only [Act.put, List.setIfInBounds_toArray, List.set_cons_zero, List.set_cons_succ])
              refine wpAnyH_done (by kernel_rfl) ?_ _
              refine NoPanic.normal ?_
              go_wp2_with fail
              go_roundw
              case rel =>
                refine ⟨p + 1, keyR r, hltH.out, by go_num, fun q => (by have h1 := congrArg List.length q; rw [hst.out, hadd.out, List.length_modify, List.length_nil] at h1; first | omega | simp at h1), ?_, ?_, ?_, ?_⟩
                · rw [hst.out, hadd.out]
                  have q1 := OwnC.bump hoCH.out hyH.out (fun n => wrap64 (n + dn))
                  skip
                  exact OwnCs.of' q1 hgB (by rw [List.length_modify])
                · have q1 := ownsRow_grown (w' := w2.setCell ⟨g, i * 2 + 1, none⟩ (.int .i64 (wrap64 (yn + dn)))) hk2.out ho2.out (grown_setCell (grown_refl _ _) _ _) (by decide)
                  exact q1
                · rw [hst.out, hks.out]
                  have q1 := MpI.setCell (a := ⟨g, i * 2 + 1, none⟩) hm2.out (fun q => MpI.noRow hm2.out ho2.out (congrArg some q)) (.int .i64 (wrap64 (yn + dn)))
                  exact q1
                · have q1 := Below.setCell (p := ⟨g, i * 2 + 1, none⟩) hb2.out hgB (.int .i64 (wrap64 (yn + dn)))
                  exact q1.drew
              case measure => simp [Go.RowKit.intOf]; omega
        · have hlk := Lib.hid (show lookI keys kt.data.toList = (0, false) by rw [hktl.out]; exact lookI_out hin)
          have hpl := Lib.hid (show placeN keys (keyR r) = acc.length from (placeN_out hin).trans hkl.out)
          have hnew := Lib.hid (show kt.data.toList ∉ keys by rw [hktl.out]; exact hin)
          have hadd := Lib.hid (show addD acc (⟨dA, dk, dc, dn⟩, r) = (acc ++ [((⟨dA, dk, dc, 0⟩, r) : Cd)]).modify acc.length (fun y => setN y (wrap64 (y.1.n + dn))) by
            unfold addD
            rw [withD_new (hkeysH.out.symm ▸ hin), hkeysH.out, hpl.out]
            rfl)
          have hks := Lib.hid (show ((addD acc (⟨dA, dk, dc, dn⟩, r)).map cnD).map keyN = keys ++ [kt.data.toList] by rw [keys_new (hkeysH.out.symm ▸ hin), hkeysH.out, hktl.out])
          clear hin
          go_wp2_with first | (at_lookup; refine wpList_mpi_look _ rfl _ _ rfl w.heap.size _ rfl hm2.out kt rfl hszK.out ?_; rw [hlk.out]) | (at_mapUpdate; refine wpList_mpi_put _ rfl _ _ _ rfl w.heap.size keys rfl hm2.out kt rfl hszK.out hnew.out (by rw [hkl.out]; rfl) (by rw [hkl.out]; exact hal.out) ?_; intro w3 hm3 hg3; have hm3H := Lib.hid hm3; have ho3 := Lib.hid (ho2.out.kept hg3 (.inr (fun q => MpI.noRow hm2.out ho2.out q.symm))); have hk3 := Lib.hid (hk2.out.kept hg3 (.inr (fun q => MpI.noRow hm2.out hk2.out q.symm))); have hv3 := Lib.hid (OwnL.kept hv2.out hg3 (fun q => by have := MpI.lt hmH.out; injection q; omega)); have hs3 := Lib.hid (show wr.heap.size < w3.heap.size from Nat.lt_of_lt_of_le hsz.out (Nat.le_trans hs2.out hg3.size)); have hb3 := Lib.hid (hb2.out.trans (below_of_grown hg3 (Nat.le_refl _) hB2.out)); have x0_ := (OwnC.cells hv3.out (i := 0) rfl).1; simp only [Nat.zero_mul, Nat.zero_add] at x0_; clear hm3 hg3) | (at_builtin; refine wpList_count rfl _ _ rfl w.heap.size _ acc w3 (⟨dA, dk, dc, 0⟩, r) _ rfl ho3.out rfl rfl hal.out hb3.out.size ?_; intro v4 w4 ho4 hn4 hg4; have ho4H := Lib.hid ho4; have hn4H := Lib.hid hn4; clear hn4; have ho4H := Lib.hid ho4; have hm4 := Lib.hid (MpI.kept hm3H.out hg4 (MpI.noRow hm3H.out ho3.out)); have hk4 := Lib.hid (ownsRow_grown hk3.out ho3.out hg4 (by decide)); have hv4 := Lib.hid (OwnL.kept hv3.out hg4 (fun q => by have := (hgo.out _ q.symm).2; omega)); have hb4 := Lib.hid (hb3.out.grown hg4 hb3.out.size (fun j hj => (own_lt ho3.out j hj).1)); clear x0_; obtain ⟨A4, c4, N, hNl, rfl⟩ := OwnCs.lenN ho4 (n := acc.length + 1) (by simp); have hNlH := Lib.hid hNl; clear hNl)
          obtain ⟨g, rfl, hln, hgB, hoC⟩ := OwnCs.row ho4H.out (by simp)
          have hil : acc.length < N := by have := hNlH.out; omega
          have hlnH := Lib.hid hln
          clear hln
          obtain ⟨y0_, y1_⟩ := OwnC.two hoC (i := acc.length) (y := (⟨dA, dk, dc, 0⟩, r)) (by simp)
          have hyH : Hid ((acc ++ [((⟨dA, dk, dc, 0⟩, r) : Cd)])[acc.length]? = some (⟨dA, dk, dc, 0⟩, r)) := Lib.hid (by simp)
          obtain ⟨x0_, x1_⟩ := OwnC.cells hv4.out (i := 0) rfl
          simp only [Nat.zero_mul, Nat.zero_add] at x0_ x1_
          simp only at y0_ y1_
          have hgl := hoC.lt
          have hfr := OwnL.free hoC (acc.length * 2 + 1)
          have hgw : Hid (g ≠ wr.heap.size) := Lib.hid (fun q => by
            by_cases ha : acc = []
            · have hnil := hz0.out ha
              have h1 := (own_lt (hn4H.out hnil) g rfl).1
              have h2 := hb3.out.size
              have h3 := hs3.out
              omega
            · subst q
              have h1 := OwnL.cap_of hv4.out hoC
              have h2 := hoC.len
              have h3 := List.length_pos_iff.2 ha
              simp at h2
              omega)
          have hoCH := Lib.hid hoC
          clear hoC
          go_wp2_with fail
          refine wp_region_noPanic ?_
          refine wp_region_held_drew (S := (fun w' => w'.cell? ⟨wr.heap.size, 1, none⟩ = some (.int .i64 dn))) (by kernel_rfl) (x1_) (fun hHeld => ?_)
          refine' wpAnyH_take (i := 0) (v := ?v0x18) ?hi0x18 ?hs0x18 ?hf0x18 ?hr0x18 ?hQ0x18 ?hy0x18 ?hS0x18 ?rest0x18
          case hi0x18 => (simp only [List.getElem?_toArray, List.getElem?_cons_succ, List.getElem?_cons_zero]; try rfl)
          case hs0x18 => kernel_rfl
          case hf0x18 => kernel_rfl
          case hr0x18 => kernel_rfl
          case hQ0x18 => exact fun _ _ _ h => h
          case hy0x18 => first | exact Or.inl ⟨by rfl, by (intro w hSw; (try dsimp only at hSw); go_simp; try rfl)⟩ | exact Or.inr ⟨by rfl, rfl⟩
          case hS0x18 => assumption
          (try simp only [Act.put, List.setIfInBounds_toArray, List.set_cons_zero, List.set_cons_succ])
          refine' wpAnyH_take (i := 1) (v := ?v1x19) ?hi1x19 ?hs1x19 ?hf1x19 ?hr1x19 ?hQ1x19 ?hy1x19 ?hS1x19 ?rest1x19
          case hi1x19 => (simp only [List.getElem?_toArray, List.getElem?_cons_succ, List.getElem?_cons_zero]; try rfl)
          case hs1x19 => kernel_rfl
          case hf1x19 => kernel_rfl
          case hr1x19 => kernel_rfl
          case hQ1x19 => exact fun _ _ _ h => h
          case hy1x19 => first | exact Or.inl ⟨by rfl, by (intro w hSw; (try dsimp only at hSw); go_simp; try rfl)⟩ | exact Or.inr ⟨by rfl, rfl⟩
          case hS1x19 => assumption
          (try simp only [Act.put, List.setIfInBounds_toArray, List.set_cons_zero, List.set_cons_succ])
          refine' wpAnyH_take (i := 2) (v := ?v2x20) ?hi2x20 ?hs2x20 ?hf2x20 ?hr2x20 ?hQ2x20 ?hy2x20 ?hS2x20 ?rest2x20
          case hi2x20 => (simp only [List.getElem?_toArray, List.getElem?_cons_succ, List.getElem?_cons_zero]; try rfl)
          case hs2x20 => kernel_rfl
          case hf2x20 => kernel_rfl
          case hr2x20 => kernel_rfl
          case hQ2x20 => exact fun _ _ _ h => h
          case hy2x20 => first | exact Or.inl ⟨by rfl, by (intro w hSw; (try dsimp only at hSw); go_simp; try rfl)⟩ | exact Or.inr ⟨by rfl, rfl⟩
          case hS2x20 => assumption
          (try simp only [Act.put, List.setIfInBounds_toArray, List.set_cons_zero, List.set_cons_succ])
          refine' wpAnyH_take (i := 3) (v := ?v3x21) ?hi3x21 ?hs3x21 ?hf3x21 ?hr3x21 ?hQ3x21 ?hy3x21 ?hS3x21 ?rest3x21
          case hi3x21 => (simp only [List.getElem?_toArray, List.getElem?_cons_succ, List.getElem?_cons_zero]; try rfl)
          case hs3x21 => kernel_rfl
          case hf3x21 => kernel_rfl
          case hr3x21 => kernel_rfl
          case hQ3x21 => exact fun _ _ _ h => h
          case hy3x21 => first | exact Or.inl ⟨by rfl, by (intro w hSw; (try dsimp only at hSw); go_simp; try rfl)⟩ | exact Or.inr ⟨by rfl, rfl⟩
          case hS3x21 => assumption
          (try simp only [Act.put, List.setIfInBounds_toArray, List.set_cons_zero, List.set_cons_succ])
          refine' wpAnyH_take (i := 5) (v := ?v5x22) ?hi5x22 ?hs5x22 ?hf5x22 ?hr5x22 ?hQ5x22 ?hy5x22 ?hS5x22 ?rest5x22
          case hi5x22 => (simp only [List.getElem?_toArray, List.getElem?_cons_succ, List.getElem?_cons_zero]; try rfl)
          case hs5x22 => kernel_rfl
          case hf5x22 => kernel_rfl
          case hr5x22 => kernel_rfl
          case hQ5x22 => exact fun _ _ _ h => h
          case hy5x22 => first | exact Or.inl ⟨by rfl, by (intro w hSw; (try dsimp only at hSw); go_simp; try rfl)⟩ | exact Or.inr ⟨by rfl, rfl⟩
          case hS5x22 => assumption
          (try simp only [Act.put, List.setIfInBounds_toArray, List.set_cons_zero, List.set_cons_succ])
          refine' wpAnyH_take (i := 6) (v := ?v6x23) ?hi6x23 ?hs6x23 ?hf6x23 ?hr6x23 ?hQ6x23 ?hy6x23 ?hS6x23 ?rest6x23
          case hi6x23 => (simp only [List.getElem?_toArray, List.getElem?_cons_succ, List.getElem?_cons_zero]; try rfl)
          case hs6x23 => kernel_rfl
          case hf6x23 => kernel_rfl
          case hr6x23 => kernel_rfl
          case hQ6x23 => exact fun _ _ _ h => h
          case hy6x23 => first | exact Or.inl ⟨by rfl, by (intro w hSw; (try dsimp only at hSw); go_simp; try rfl)⟩ | exact Or.inr ⟨by rfl, rfl⟩
          case hS6x23 => assumption
          (try simp only [Act.put, List.setIfInBounds_toArray, List.set_cons_zero, List.set_cons_succ])
          refine wpAnyH_ready (rs := [4]) (by kernel_rfl) (by simp) ?_
          refine' (AllReadyH.cons (i := 4) ?ho4x24 (fun K hK => ?st4x24) AllReadyH.nil)
          case ho4x24 => (simp only [List.getElem?_toArray, List.getElem?_cons_succ, List.getElem?_cons_zero]; try rfl)
          case st4x24 =>
            go_simp
            refine hK.out _ _ ?_ (fun hHeld => ?_)
            · exact (by simpa using (OwnC.cells hv4.out (i := 0) rfl).2)
            clear hK K
            (try simp only [Act.put, List.setIfInBounds_toArray, List.set_cons_zero, List.set_cons_succ])
            refine' wpAnyH_take (i := 7) (v := ?v7x25) ?hi7x25 ?hs7x25 ?hf7x25 ?hr7x25 ?hQ7x25 ?hy7x25 ?hS7x25 ?rest7x25
            case hi7x25 => (simp only [List.getElem?_toArray, List.getElem?_cons_succ, List.getElem?_cons_zero]; try rfl)
            case hs7x25 => kernel_rfl
            case hf7x25 => kernel_rfl
            case hr7x25 => kernel_rfl
            case hQ7x25 => exact fun _ _ _ h => h
            case hy7x25 => first | exact Or.inl ⟨by rfl, by (intro w hSw; (try dsimp only at hSw); go_simp; try rfl)⟩ | exact Or.inr ⟨by rfl, rfl⟩
            case hS7x25 => assumption
            (try simp only [Act.put, List.setIfInBounds_toArray, List.set_cons_zero, List.set_cons_succ])
            refine' wpAnyH_take (i := 8) (v := ?v8x26) ?hi8x26 ?hs8x26 ?hf8x26 ?hr8x26 ?hQ8x26 ?hy8x26 ?hS8x26 ?rest8x26
            case hi8x26 => (simp only [List.getElem?_toArray, List.getElem?_cons_succ, List.getElem?_cons_zero]; try rfl)
            case hs8x26 => kernel_rfl
            case hf8x26 => kernel_rfl
            case hr8x26 => kernel_rfl
            case hQ8x26 => exact fun _ _ _ h => h
            case hy8x26 => first | exact Or.inl ⟨by rfl, by (intro w hSw; (try dsimp only at hSw); go_simp; try rfl)⟩ | exact Or.inr ⟨by rfl, rfl⟩
            case hS8x26 => assumption
            (try simp only [Act.put, List.setIfInBounds_toArray, List.set_cons_zero, List.set_cons_succ])
            refine' wpAnyH_take (i := 9) (v := ?v9x27) ?hi9x27 ?hs9x27 ?hf9x27 ?hr9x27 ?hQ9x27 ?hy9x27 ?hS9x27 ?rest9x27
            case hi9x27 => (simp only [List.getElem?_toArray, List.getElem?_cons_succ, List.getElem?_cons_zero]; try rfl)
            case hs9x27 => kernel_rfl
            case hf9x27 => kernel_rfl
            case hr9x27 => kernel_rfl
            case hQ9x27 => exact fun _ _ _ h => h
            case hy9x27 => first | exact Or.inl ⟨by rfl, by (intro w hSw; (try dsimp only at hSw); go_simp; try rfl)⟩ | exact Or.inr ⟨by rfl, rfl⟩
            case hS9x27 => assumption
            (try simp only [Act.put, List.setIfInBounds_toArray, List.set_cons_zero, List.set_cons_succ])
            refine wpAnyH_ready (rs := [10]) (by kernel_rfl) (by simp) ?_
            refine' (AllReadyH.cons (i := 10) ?ho10x28 (fun K hK => ?st10x28) AllReadyH.nil)
            case ho10x28 => (simp only [List.getElem?_toArray, List.getElem?_cons_succ, List.getElem?_cons_zero]; try rfl)
            case st10x28 =>
              go_simp
              refine hK.out _ _ ?_ (fun hHeld => ?_)
              · exact (by simpa using (OwnC.cells (OwnL.setOther hv4.out (Ne.symm hgw.out) _ _) (i := 0) rfl).2)
              clear hK K
              (try simp only [Act.put, List.setIfInBounds_toArray, List.set_cons_zero, List.set_cons_succ])
              refine wpAnyH_done (by kernel_rfl) ?_ _
              refine NoPanic.normal ?_
              go_wp2_with fail
              go_roundw
              case rel =>
                refine ⟨p + 1, keyR r, hltH.out, by go_num, fun q => (by have h1 := congrArg List.length q; rw [hst.out, hadd.out, List.length_modify, List.length_nil] at h1; first | omega | simp at h1), ?_, ?_, ?_, ?_⟩
                · rw [hst.out, hadd.out]
                  have q1 := OwnC.bump hoCH.out hyH.out (fun n => wrap64 (n + dn))
                  simp only [Int.zero_add] at q1
                  exact OwnCs.of' q1 hgB (by rw [List.length_modify]; exact hlnH.out.symm)
                · have q1 := ownsRow_grown (w' := w4.setCell ⟨g, acc.length * 2 + 1, none⟩ (.int .i64 (wrap64 dn))) hk4.out ho4H.out (grown_setCell (grown_refl _ _) _ _) (by decide)
                  exact q1
                · rw [hst.out, hks.out]
                  have q1 := MpI.setCell (a := ⟨g, acc.length * 2 + 1, none⟩) hm4.out (fun q => MpI.noRow hm4.out ho4H.out (congrArg some q)) (.int .i64 (wrap64 dn))
                  exact q1
                · have q1 := Below.setCell (p := ⟨g, acc.length * 2 + 1, none⟩) hb4.out hgB (.int .i64 (wrap64 dn))
                  exact q1.drew
              case measure => simp [Go.RowKit.intOf]; omega
    · obtain rfl : p = ds.length := by omega
      have hfull := Lib.hid (show ds.take ds.length = ds from List.take_length)
      rw [hfull.out] at hoH hmH hz0 ⊢
      have hpos := sumD_pos hne
      have hrows := Lib.hid (sumD_rows (w := w) hH.out.2)
      have hmem := Lib.hid (sumD_mem (l := ds))
      have hcn := Lib.hid (sumD_cn ds)
      have hal := Lib.hid (sumD_len ds)
      obtain ⟨acc, hacc⟩ : ∃ acc, sumD ds = acc := ⟨_, rfl⟩
      rw [hacc] at hoH hmH hz0 hpos hrows hmem hcn hal ⊢
      clear hacc hne hmH hkH hz0
      obtain ⟨g, rfl, _, hgB, hoC⟩ := OwnCs.row hoH.out hpos
      have hD := deleteC_any g c3 (acc.map (·.1)) wr hoC (by rw [List.length_map]; have := hal.out; omega)
      have hfm : (acc.map (·.1)).filter keepV = (acc.filter (fun d => keepV d.1)).map (·.1) := by rw [List.filter_map]; rfl
      rw [hfm] at hD
      simp only [List.length_map] at hD
      have hacn := Lib.hid (show (acc.filter (fun d => keepV d.1)).map cnD = (sumN (ds.map cnD)).filter (fun x => x.2 != 0) by
        rw [← hcn.out, List.filter_map]
        rfl)
      have hasub := Lib.hid (show ∀ a ∈ acc.filter (fun d => keepV d.1), a ∈ acc from fun a ha => (List.mem_filter.1 ha).1)
      have ha2l := Lib.hid (show (acc.filter (fun d => keepV d.1)).length ≤ 1099511627776 by have h1 := List.length_filter_le (fun d : Cd => keepV d.1) acc; have := hal.out; omega)
      obtain ⟨a2, ha2⟩ : ∃ a2, acc.filter (fun d => keepV d.1) = a2 := ⟨_, rfl⟩
      rw [ha2] at hD hacn hasub ha2l
      obtain ⟨N, hN⟩ : ∃ N, a2.length = N := ⟨_, rfl⟩
      have hNH := Lib.hid hN
      rw [hN] at hD
      have hDH := Lib.hid hD
      have hgl := Lib.hid hoC.lt
      clear hfm ha2 hD hoC hoH hN hcn
      go_wp2_with fail
      refine hDH.out.mono ?_
      rintro e w2 ⟨rfl, ho2, hg2⟩
      have ho2H := Lib.hid ho2
      have hb2 := Lib.hid (hbH.out.trans (below_of_grown hg2 hgB hB))
      clear ho2 hg2 hDH
      go_wp2_with fail
      have hS := sortC_any g c3 a2 w w2 ho2H.out (fun d hd => hrows.out d (hasub.out d hd)) hb2.out hgB ha2l.out
      rw [hNH.out] at hS
      refine hS.mono ?_
      clear hS
      rintro e w3 ⟨rfl, r, hperm, hpw, ho3, hg3⟩
      have hrl := Lib.hid (show r.length = N from hperm.length_eq.trans hNH.out)
      have ho3H := Lib.hid ho3
      have hb3 := Lib.hid (hb2.out.trans (below_of_grown hg3 hgB hb2.out.size))
      have hsum := Lib.hid (show SumOf (ds.map cnD) (r.map cnD) from sum_of (fun x hx => by obtain ⟨d, hd, rfl⟩ := List.mem_map.1 hx; exact hwH.out d hd) (hacn.out ▸ hperm.map cnD) (by rw [List.pairwise_map]; exact hpw))
      have hin := Lib.hid (show ∀ d ∈ r, RowV w (valD d) d.2 ∧ d.2.length ≤ 1099511627776 ∧ ∀ x ∈ d.2, x.s.size ≤ 281474976710656 from fun d hd => by
        have h1 := hasub.out d (hperm.mem_iff.1 hd)
        obtain ⟨b, hb, e⟩ := hmem.out d h1
        refine ⟨hrows.out d h1, by rw [e]; exact hlH.out b hb, fun x hx => ?_⟩
        rw [e] at hx
        have h2 := szR_mem hx
        have h3 := hsH.out b hb
        unfold szD at h2
        omega)
      have hN2 : N ≤ 1099511627776 := by have := ha2l.out; have := hNH.out; omega
      clear hperm hpw ho3 hg3 ho2H hacn hrows hmem hasub
      go_wp2_with fail
      go_loopw [10, 61] (fun s10 s61 wr => RelSu r g c3 w s61 wr) (fun _ s61 _ => r.length - (Go.RowKit.intOf s61).toNat)
      case atStart => exact ⟨0, [], by omega, rfl, rfl, ⟨by simp, by simp⟩, by simpa using ho3H.out, hb3.out⟩
      case round =>
        unfold RelSu at hrel
        obtain ⟨p, f, hp, rfl, hf, hfr, ho, hb⟩ := hrel
        have hfl := Lib.hid (show f.length = p by have := congrArg List.length hf; simpa [List.length_take, hp] using this)
        have hfH := Lib.hid hf; have hfrH := Lib.hid hfr; have hoR := Lib.hid ho; have hbR := Lib.hid hb
        clear hf hfr ho hb
        by_cases hlt : p < r.length
        · obtain ⟨d, hd⟩ : ∃ d, r[p]? = some d := ⟨_, List.getElem?_eq_getElem hlt⟩
          have hat := Lib.hid ((mix_at (r := r) hfl.out).trans hd)
          obtain ⟨y0_, y1_⟩ := OwnC.two hoR.out hat.out
          obtain ⟨q1, q2, q3⟩ := hin.out d (List.mem_of_getElem? hd)
          have q1H := Lib.hid q1; have q2H := Lib.hid q2; have q3H := Lib.hid q3
          have hdH := Lib.hid hd
          clear hd q1 q2 q3
          obtain ⟨⟨dA, dk, dc, dn⟩, l⟩ := d
          simp only at y0_ y1_ q2H q3H
          have hgl3 := hoR.out.lt
          have hpN : p < N := by have := hrl.out; omega
          have hltH := Lib.hid hlt
          clear hlt
          go_wp2_with fail
          refine (freshRow_any _ l _ (q1H.out.below hbR.out) q2H.out q3H.out).mono ?_
          rintro e w4 ⟨gn, rfl, hgn, hown, hb4⟩
          have hnewD := Lib.hid (show FreshD w.heap.size w4 (⟨some ⟨gn, 0, none⟩, l.length, l.length, dn⟩, l) from ⟨gn, rfl, rfl, rfl, Nat.le_trans hbR.out.size hgn, hown⟩)
          have hfr4 := Lib.hid (FreshL.snoc (d := (⟨some ⟨gn, 0, none⟩, l.length, l.length, dn⟩, l)) hfrH.out hb4 rfl hgn hnewD.out)
          have ho4 := Lib.hid (OwnL.below hoR.out hb4)
          have hb4H := Lib.hid (hbR.out.trans (hb4.mono hbR.out.size))
          obtain ⟨z0_, z1_⟩ := OwnC.two (xs := f ++ r.drop p) ho4.out hat.out
          have fz := OwnL.free ho4.out (p * 2)
          have hgl4 := OwnL.lt ho4.out
          have hset := Lib.hid (mix_set (f := f) (r := r) hfl.out hltH.out ((⟨some ⟨gn, 0, none⟩, l.length, l.length, dn⟩, l) : Cd))
          have htk := Lib.hid (show (f ++ [((⟨some ⟨gn, 0, none⟩, l.length, l.length, dn⟩, l) : Cd)]).map cnD = (r.take (p + 1)).map cnD by
            obtain ⟨h1, h2⟩ := List.getElem?_eq_some_iff.1 hdH.out
            rw [List.take_succ_eq_append_getElem h1, List.map_append, List.map_append, hfH.out, h2]
            rfl)
          clear hown hb4 y0_ y1_
          go_wp2_with fail
          go_roundw
          case rel =>
            refine ⟨p + 1, _, hltH.out, by go_num, htk.out, FreshL.setOther hfr4.out ho4.out _ _, ?_, hb4H.out.setCell hgB _⟩
            have h1 := OwnC.lay (xs := f ++ r.drop p) ho4.out hat.out (some ⟨gn, 0, none⟩) l.length l.length
            rw [hset.out] at h1
            exact h1
          case measure => have := hltH.out; simp [Go.RowKit.intOf]; omega
        · obtain rfl : p = r.length := by omega
          have hnot : ¬ (r.length < N) := by have := hrl.out; omega
          go_wp2_with fail
          go_ret
          refine ⟨_, f, rfl, ?_, ?_, hfrH.out, hbR.out⟩
          · rw [hfH.out, List.take_length]; exact hsum.out
          · have h1 := hoR.out
            rw [List.drop_length, List.append_nil] at h1
            exact OwnCs.of' h1 hgB (hfl.out.trans hrl.out)
end Go.Proofs.YtpmfbmigdpmloaaGreatDoor
