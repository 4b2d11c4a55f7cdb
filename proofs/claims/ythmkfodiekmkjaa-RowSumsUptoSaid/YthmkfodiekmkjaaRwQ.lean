/-
  row.Sum of no rows; the document's Sum, at this program. Conditions: those written.
-/
import Derived.Test.YthmkfodiekmkjaaRwZ
import Derived.Test.YthmkfodiekmkjaaRwS
import Derived.Shelf.SlSortCmp.NoneTotal
set_option linter.unusedVariables false
set_option linter.unusedSimpArgs false
namespace Go.Proofs.Ythmkfodiekmkjaa
open Go.RowKit Go.Lib Go.Proofs Go.Shelf

set_option maxHeartbeats 2000000 in
theorem indexNone_any (w : World) : Calls Try.prog 40 #[.slice none 0 0, .func (.func 24) #[] #[]] w fun e w' => e = .returned (.int .i64 (-1)) ∧ Below w.heap.size w w' := by
  go_enter Try.func40, Try.ntmps40
  go_wp2_with fail
  go_loopw [5, 8] (fun s5 s8 wr => s8 = .int .i64 0 ∧ wr = w) (fun _ _ _ => 0)
  case atStart => exact ⟨rfl, rfl⟩
  case round =>
    obtain ⟨rfl, rfl⟩ := hrel
    go_wp2_with fail
    go_ret
    exact ⟨rfl, Below.refl _ _⟩
set_option maxHeartbeats 2000000 in
theorem deleteNone_any (w : World) : Calls Try.prog 23 #[.slice none 0 0, .func (.func 24) #[] #[]] w fun e w' => e = .returned (.slice none 0 0) ∧ Below w.heap.size w w' := by
  go_enter Try.func23, Try.ntmps23
  go_wp2_with fail
  refine (indexNone_any w).mono ?_
  rintro e w1 ⟨rfl, hb⟩
  go_wp2_with fail
  go_ret
  exact ⟨rfl, hb⟩
set_option maxHeartbeats 4000000 in
theorem sumNone_any (A : Option Addr) (ca : Nat) (w : World) : Calls Try.prog 11 #[.slice A 0 ca] w fun e w' => e = .returned (.slice none 0 0) ∧ Below w.heap.size w w' := by
  obtain ⟨W1, hW1⟩ : ∃ W1, w.alloc (.map #[] 0) = W1 := ⟨_, rfl⟩
  have hb1 := Lib.hid (show Below w.heap.size w W1 from hW1 ▸ (Below.refl _ w).alloc (Nat.le_refl _) _)
  have hmm := @run_makeMap Try.prog
  go_enter Try.func11, Try.ntmps11
  go_wp2_with fail
  go_loopw [3, 5, 7, 8, 9, 14] (fun s3 s5 s7 s8 s9 s14 wr => s3 = .slice none 0 0 ∧ s14 = .int .i64 0 ∧ wr = W1) (fun _ _ _ _ _ _ _ => 0)
  case atStart => exact ⟨rfl, rfl, rfl⟩
  case round =>
    obtain ⟨rfl, rfl, rfl⟩ := hrel
    clear hW1
    go_wp2_with fail
    refine (deleteNone_any _).mono ?_
    rintro e w2 ⟨rfl, hb2⟩
    have hb2H := Lib.hid (hb1.out.trans (hb2.mono hb1.out.size))
    clear hb2
    go_wp2_with fail
    have hS : Calls Try.prog 25 #[.slice none 0 0, .func (.func 26) #[] #[]] w2 (fun e w' => e = .returned (.tuple #[]) ∧ w' = w2) := AnyF.slices_SortFunc_none Try.sortC none 0 (.func (.func 26) #[] #[]) w2
    refine hS.mono ?_
    rintro e w3 ⟨rfl, rfl⟩
    go_wp2_with fail
    go_loopw [10, 61] (fun s10 s61 wr => s61 = .int .i64 0 ∧ wr = w3) (fun _ _ _ => 0)
    case atStart => exact ⟨rfl, rfl⟩
    case round =>
      obtain ⟨rfl, rfl⟩ := hrel
      go_wp2_with fail
      go_ret
      exact ⟨rfl, hb2H.out⟩
def SumPost (w : World) (ds : List Cd) (e : Ending) (w' : World) : Prop := ∃ v' r, e = .returned v' ∧ SumOf (ds.map cnD) (r.map cnD) ∧ OwnCs w.heap.size v' r w' ∧ FreshL w.heap.size w' r ∧ Below w.heap.size w w'
/-- row.Sum of any counted rows. -/
theorem sumAny_any (v : Value) (ds : List Cd) (w : World) (h : CtsV w v ds) (hn : ds.length ≤ 1099511627776) (hl : ∀ d ∈ ds, d.2.length ≤ 1099511627776) (hw : ∀ d ∈ ds, ∀ x ∈ d.2, Wide x) (hs : ∀ d ∈ ds, szR d.2 ≤ 70368744177664) :
    Calls Try.prog 11 #[v] w (SumPost w ds) := by
  by_cases hne : ds = []
  · subst hne
    obtain ⟨A, c, rfl, _⟩ := h.form
    refine (sumNone_any A c w).mono ?_
    rintro e w' ⟨rfl, hb⟩
    exact ⟨_, [], rfl, ⟨List.Perm.refl _, List.Pairwise.nil⟩, OwnCs.nil _ _, ⟨by simp, by simp⟩, hb⟩
  · exact sum_any v ds w h hn hne hl hw hs
/-- The document's Add, behind a slice of the call's own. -/
theorem refAdd_any (B : Nat) (v : Value) (ds : List Cd) (A : Option Addr) (k c : Nat) (n : Int) (l : List Dat) (w : World) (h : OwnCs B v ds w) (hrs : ∀ d ∈ ds, RowV w (valD d) d.2) (hr : RowV w (.slice A k c) l) (hn : ds.length ≤ 549755813888) :
    Calls Try.prog 29 #[v, .slice A k c, .int .i64 n] w (AddPost w ds (⟨A, k, c, n⟩, l)) := by
  rcases h.slice with ⟨rfl, rfl⟩ | ⟨g, cap, rfl, hB, ho⟩
  · exact refAdd_nil A k c n l w hr
  · exact refAdd_some _ cap ds A k c n l w ⟨own_slV h, hrs⟩ hr hn
def RelRA (ds : List Cd) (w0 : World) (s3 s4 : Value) (wr : World) : Prop :=
  ∃ (p : Nat) (acc : List Cd), p ≤ ds.length ∧ s4 = .int .i64 (p : Int) ∧ acc.map cnD = ((ds.take p).map cnD).foldl addI [] ∧ acc.length ≤ p ∧ (∀ a ∈ acc, RowV w0 (valD a) a.2) ∧ OwnCs w0.heap.size s3 acc wr ∧ Below w0.heap.size w0 wr
def RelRB (acc : List Cd) (B : Nat) (w1 : World) (s5 s6 : Value) (wr : World) : Prop :=
  ∃ p : Nat, p ≤ acc.length ∧ s6 = .int .i64 (p : Int) ∧ OwnKC B s5 ((acc.take p).filter (fun d => d.1.n != 0)) w1 wr
def RefSumPost (w : World) (ds : List Cd) (e : Ending) (w' : World) : Prop := ∃ v' r, e = .returned v' ∧ r.map cnD = refSum (ds.map cnD) ∧ CtsV w' v' r ∧ Below w.heap.size w w'
set_option maxHeartbeats 8000000 in
set_option maxRecDepth 1000000 in
theorem refSum_any (v : Value) (ds : List Cd) (w : World) (h : CtsV w v ds) (hn : ds.length ≤ 549755813888) :
    Calls Try.prog 13 #[v] w (RefSumPost w ds) := by
  obtain ⟨A, ca, rfl, hla⟩ := h.form
  have hH := Lib.hid h
  clear h
  go_enter Try.func13, Try.ntmps13
  go_wp2_with fail
  go_loopw [3, 4] (fun s3 s4 wr => RelRA ds w s3 s4 wr) (fun _ s4 _ => ds.length - (Go.RowKit.intOf s4).toNat)
  case atStart => exact ⟨0, [], by omega, rfl, rfl, by simp, by simp, OwnCs.nil _ _, Below.refl _ _⟩
  case round =>
    unfold RelRA at hrel
    obtain ⟨p, acc, hp, rfl, hcn, hal, hrs, ho, hb⟩ := hrel
    obtain ⟨A3, c3, rfl⟩ := OwnCs.len ho
    have hcnH := Lib.hid hcn; have hrsH := Lib.hid hrs; have hoH := Lib.hid ho; have hbH := Lib.hid hb; have halH := Lib.hid hal
    have hB := hb.size
    clear hcn hrs ho hb hal
    by_cases hlt : p < ds.length
    · obtain ⟨d, hd⟩ : ∃ d, ds[p]? = some d := ⟨_, List.getElem?_eq_getElem hlt⟩
      obtain ⟨ad, rfl, hba, a0_, a1_⟩ := (hH.out.below hbH.out).at hd
      obtain ⟨_, e_, hbo, -, -⟩ := hH.out.at hd
      cases e_
      have hrd := Lib.hid (hH.out.2 d (List.mem_of_getElem? hd))
      have hst := Lib.hid (show ((ds.take (p + 1)).map cnD).foldl addI [] = addI (((ds.take p).map cnD).foldl addI []) (cnD d) by
        obtain ⟨h1, rfl⟩ := List.getElem?_eq_some_iff.1 hd
        rw [List.take_succ_eq_append_getElem h1, List.map_append, List.foldl_append]
        rfl)
      have hltH := Lib.hid hlt
      clear hd hlt
      obtain ⟨⟨dA, dk, dc, n⟩, l⟩ := d
      simp only [valD] at a0_ a1_
      go_wp2_with fail
      refine wp_region_noPanic ?_
      refine wp_region_held_drew (S := (fun w' => w'.cell? (ad.add (p * 2)) = some (.slice dA dk dc) ∧ w'.cell? ⟨(ad.add (p * 2)).block, (ad.add (p * 2)).off + 1, none⟩ = some (.int .i64 n))) (by kernel_rfl) (⟨a0_, a1_⟩) (fun hHeld => ?_)
      refine' wpAnyH_take (i := 0) (v := ?v0x1) ?hi0x1 ?hs0x1 ?hf0x1 ?hr0x1 ?hQ0x1 ?hy0x1 ?hS0x1 ?rest0x1
      case hi0x1 => (simp only [List.getElem?_toArray, List.getElem?_cons_succ, List.getElem?_cons_zero]; try rfl)
      case hs0x1 => kernel_rfl
      case hf0x1 => kernel_rfl
      case hr0x1 => kernel_rfl
      case hQ0x1 => exact fun _ _ _ h => h
      case hy0x1 => first | exact Or.inl ⟨by rfl, by (intro w hSw; (try dsimp only at hSw); go_simp; try rfl)⟩ | exact Or.inr ⟨by rfl, rfl⟩
      case hS0x1 => assumption
      (try simp only [Act.put, List.setIfInBounds_toArray, List.set_cons_zero, List.set_cons_succ])
      refine' wpAnyH_take (i := 1) (v := ?v1x2) ?hi1x2 ?hs1x2 ?hf1x2 ?hr1x2 ?hQ1x2 ?hy1x2 ?hS1x2 ?rest1x2
      case hi1x2 => (simp only [List.getElem?_toArray, List.getElem?_cons_succ, List.getElem?_cons_zero]; try rfl)
      case hs1x2 => kernel_rfl
      case hf1x2 => kernel_rfl
      case hr1x2 => kernel_rfl
      case hQ1x2 => exact fun _ _ _ h => h
      case hy1x2 => first | exact Or.inl ⟨by rfl, by (intro w hSw; (try dsimp only at hSw); go_simp; try rfl)⟩ | exact Or.inr ⟨by rfl, rfl⟩
      case hS1x2 => assumption
      (try simp only [Act.put, List.setIfInBounds_toArray, List.set_cons_zero, List.set_cons_succ])
      refine' wpAnyH_take (i := 2) (v := ?v2x3) ?hi2x3 ?hs2x3 ?hf2x3 ?hr2x3 ?hQ2x3 ?hy2x3 ?hS2x3 ?rest2x3
      case hi2x3 => (simp only [List.getElem?_toArray, List.getElem?_cons_succ, List.getElem?_cons_zero]; try rfl)
      case hs2x3 => kernel_rfl
      case hf2x3 => kernel_rfl
      case hr2x3 => kernel_rfl
      case hQ2x3 => exact fun _ _ _ h => h
      case hy2x3 => first | exact Or.inl ⟨by rfl, by (intro w hSw; (try dsimp only at hSw); go_simp; try rfl)⟩ | exact Or.inr ⟨by rfl, rfl⟩
      case hS2x3 => assumption
      (try simp only [Act.put, List.setIfInBounds_toArray, List.set_cons_zero, List.set_cons_succ])
      refine' wpAnyH_take (i := 3) (v := ?v3x4) ?hi3x4 ?hs3x4 ?hf3x4 ?hr3x4 ?hQ3x4 ?hy3x4 ?hS3x4 ?rest3x4
      case hi3x4 => (simp only [List.getElem?_toArray, List.getElem?_cons_succ, List.getElem?_cons_zero]; try rfl)
      case hs3x4 => kernel_rfl
      case hf3x4 => kernel_rfl
      case hr3x4 => kernel_rfl
      case hQ3x4 => exact fun _ _ _ h => h
      case hy3x4 => first | exact Or.inl ⟨by rfl, by (intro w hSw; (try dsimp only at hSw); go_simp; try rfl)⟩ | exact Or.inr ⟨by rfl, rfl⟩
      case hS3x4 => assumption
      (try simp only [Act.put, List.setIfInBounds_toArray, List.set_cons_zero, List.set_cons_succ])
      refine' wpAnyH_take (i := 4) (v := ?v4x5) ?hi4x5 ?hs4x5 ?hf4x5 ?hr4x5 ?hQ4x5 ?hy4x5 ?hS4x5 ?rest4x5
      case hi4x5 => (simp only [List.getElem?_toArray, List.getElem?_cons_succ, List.getElem?_cons_zero]; try rfl)
      case hs4x5 => kernel_rfl
      case hf4x5 => kernel_rfl
      case hr4x5 => kernel_rfl
      case hQ4x5 => exact fun _ _ _ h => h
      case hy4x5 => first | exact Or.inl ⟨by rfl, by (intro w hSw; (try dsimp only at hSw); go_simp; try rfl)⟩ | exact Or.inr ⟨by rfl, rfl⟩
      case hS4x5 => assumption
      (try simp only [Act.put, List.setIfInBounds_toArray, List.set_cons_zero, List.set_cons_succ])
      refine' wpAnyH_take (i := 5) (v := ?v5x6) ?hi5x6 ?hs5x6 ?hf5x6 ?hr5x6 ?hQ5x6 ?hy5x6 ?hS5x6 ?rest5x6
      case hi5x6 => (simp only [List.getElem?_toArray, List.getElem?_cons_succ, List.getElem?_cons_zero]; try rfl)
      case hs5x6 => kernel_rfl
      case hf5x6 => kernel_rfl
      case hr5x6 => kernel_rfl
      case hQ5x6 => exact fun _ _ _ h => h
      case hy5x6 => first | exact Or.inl ⟨by rfl, by (intro w hSw; (try dsimp only at hSw); go_simp; try rfl)⟩ | exact Or.inr ⟨by rfl, rfl⟩
      case hS5x6 => assumption
      (try simp only [Act.put, List.setIfInBounds_toArray, List.set_cons_zero, List.set_cons_succ])
      refine' wpAnyH_take (i := 6) (v := ?v6x7) ?hi6x7 ?hs6x7 ?hf6x7 ?hr6x7 ?hQ6x7 ?hy6x7 ?hS6x7 ?rest6x7
      case hi6x7 => (simp only [List.getElem?_toArray, List.getElem?_cons_succ, List.getElem?_cons_zero]; try rfl)
      case hs6x7 => kernel_rfl
      case hf6x7 => kernel_rfl
      case hr6x7 => kernel_rfl
      case hQ6x7 => exact fun _ _ _ h => h
      case hy6x7 => first | exact Or.inl ⟨by rfl, by (intro w hSw; (try dsimp only at hSw); go_simp; try rfl)⟩ | exact Or.inr ⟨by rfl, rfl⟩
      case hS6x7 => assumption
      (try simp only [Act.put, List.setIfInBounds_toArray, List.set_cons_zero, List.set_cons_succ])
      refine' wpAnyH_take (i := 7) (v := ?v7x8) ?hi7x8 ?hs7x8 ?hf7x8 ?hr7x8 ?hQ7x8 ?hy7x8 ?hS7x8 ?rest7x8
      case hi7x8 => (simp only [List.getElem?_toArray, List.getElem?_cons_succ, List.getElem?_cons_zero]; try rfl)
      case hs7x8 => kernel_rfl
      case hf7x8 => kernel_rfl
      case hr7x8 => kernel_rfl
      case hQ7x8 => exact fun _ _ _ h => h
      case hy7x8 => first | exact Or.inl ⟨by rfl, by (intro w hSw; (try dsimp only at hSw); go_simp; try rfl)⟩ | exact Or.inr ⟨by rfl, rfl⟩
      case hS7x8 => assumption
      (try simp only [Act.put, List.setIfInBounds_toArray, List.set_cons_zero, List.set_cons_succ])
      refine' wpAnyH_take (i := 8) (v := ?v8x9) ?hi8x9 ?hs8x9 ?hf8x9 ?hr8x9 ?hQ8x9 ?hy8x9 ?hS8x9 ?rest8x9
      case hi8x9 => (simp only [List.getElem?_toArray, List.getElem?_cons_succ, List.getElem?_cons_zero]; try rfl)
      case hs8x9 => kernel_rfl
      case hf8x9 => kernel_rfl
      case hr8x9 => kernel_rfl
      case hQ8x9 => exact fun _ _ _ h => h
      case hy8x9 => first | exact Or.inl ⟨by rfl, by (intro w hSw; (try dsimp only at hSw); go_simp; try rfl)⟩ | exact Or.inr ⟨by rfl, rfl⟩
      case hS8x9 => assumption
      (try simp only [Act.put, List.setIfInBounds_toArray, List.set_cons_zero, List.set_cons_succ])
      refine' wpAnyH_take (i := 9) (v := ?v9x10) ?hi9x10 ?hs9x10 ?hf9x10 ?hr9x10 ?hQ9x10 ?hy9x10 ?hS9x10 ?rest9x10
      case hi9x10 => (simp only [List.getElem?_toArray, List.getElem?_cons_succ, List.getElem?_cons_zero]; try rfl)
      case hs9x10 => kernel_rfl
      case hf9x10 => kernel_rfl
      case hr9x10 => kernel_rfl
      case hQ9x10 => exact fun _ _ _ h => h
      case hy9x10 => first | exact Or.inl ⟨by rfl, by (intro w hSw; (try dsimp only at hSw); go_simp; try rfl)⟩ | exact Or.inr ⟨by rfl, rfl⟩
      case hS9x10 => assumption
      (try simp only [Act.put, List.setIfInBounds_toArray, List.set_cons_zero, List.set_cons_succ])
      refine' wpAnyH_take (i := 10) (v := ?v10x11) ?hi10x11 ?hs10x11 ?hf10x11 ?hr10x11 ?hQ10x11 ?hy10x11 ?hS10x11 ?rest10x11
      case hi10x11 => (simp only [List.getElem?_toArray, List.getElem?_cons_succ, List.getElem?_cons_zero]; try rfl)
      case hs10x11 => kernel_rfl
      case hf10x11 => kernel_rfl
      case hr10x11 => kernel_rfl
      case hQ10x11 => exact fun _ _ _ h => h
      case hy10x11 => first | exact Or.inl ⟨by rfl, by (intro w hSw; (try dsimp only at hSw); go_simp; try rfl)⟩ | exact Or.inr ⟨by rfl, rfl⟩
      case hS10x11 => assumption
      (try simp only [Act.put, List.setIfInBounds_toArray, List.set_cons_zero, List.set_cons_succ])
      refine wpAnyH_ready (rs := [11]) (by kernel_rfl) (by simp) ?_
      refine' (AllReadyH.cons (i := 11) ?ho11x12 (fun K hK => ?st11x12) AllReadyH.nil)
      case ho11x12 => (simp only [List.getElem?_toArray, List.getElem?_cons_succ, List.getElem?_cons_zero]; try rfl)
      case st11x12 =>
        go_simp
        refine (refAdd_any w.heap.size _ acc dA dk dc n l wr.drew hoH.out (fun a ha => (hrsH.out a ha).below hbH.out.drew) (hrd.out.below hbH.out.drew) (by have := halH.out; omega)).mono ?_
        rintro e w2 ⟨v2, r2, rfl, ho2, hcn2, hrw2, hb2⟩
        have ho2H := Lib.hid (show OwnCs w.heap.size v2 r2 w2 from ownsRow_low ho2 hB)
        have hcn2H := Lib.hid hcn2
        have hrw2H := Lib.hid (hrw2 w hrsH.out hrd.out)
        have hb2H := Lib.hid (show Below w.heap.size wr w2 from ((Below.refl _ wr).drew.trans hb2).mono hB)
        clear ho2 hcn2 hrw2 hb2
        refine hK.out _ _ ?_ (fun hHeld => ?_)
        · exact ⟨(hb2H.out.cell (p := ad.add (p * 2)) hbo).trans a0_, (hb2H.out.cell (p := ⟨(ad.add (p * 2)).block, (ad.add (p * 2)).off + 1, none⟩) hbo).trans a1_⟩
        clear hK K
        (try simp only [Act.put, List.setIfInBounds_toArray, List.set_cons_zero, List.set_cons_succ])
        refine' wpAnyH_take (i := 12) (v := ?v12x13) ?hi12x13 ?hs12x13 ?hf12x13 ?hr12x13 ?hQ12x13 ?hy12x13 ?hS12x13 ?rest12x13
        case hi12x13 => (simp only [List.getElem?_toArray, List.getElem?_cons_succ, List.getElem?_cons_zero]; try rfl)
        case hs12x13 => kernel_rfl
        case hf12x13 => kernel_rfl
        case hr12x13 => kernel_rfl
        case hQ12x13 => exact fun _ _ _ h => h
        case hy12x13 => first | exact Or.inl ⟨by rfl, by (intro w hSw; (try dsimp only at hSw); go_simp; try rfl)⟩ | exact Or.inr ⟨by rfl, rfl⟩
        case hS12x13 => assumption
        (try simp only [Act.put, List.setIfInBounds_toArray, List.set_cons_zero, List.set_cons_succ])
        refine wpAnyH_done (by kernel_rfl) ?_ _
        refine NoPanic.normal ?_
        go_wp2_with fail
        go_roundw
        case rel =>
          refine ⟨p + 1, r2, hltH.out, by go_num, ?_, ?_, hrw2H.out, ho2H.out, hbH.out.trans hb2H.out⟩
          · rw [hst.out, ← hcnH.out]; exact hcn2H.out
          · have h1 := addI_len (acc.map cnD) (cnD (⟨dA, dk, dc, n⟩, l))
            have h2 := congrArg List.length hcn2H.out
            rw [List.length_map] at h2
            rw [List.length_map] at h1
            have := halH.out
            omega
        case measure => have := hltH.out; simp [Go.RowKit.intOf]; omega
    · obtain rfl : p = ds.length := by omega
      rw [List.take_length] at hcnH
      obtain ⟨Wm, rfl⟩ : ∃ Wm, Wm = wr := ⟨_, rfl⟩
      have hal2 : acc.length ≤ 549755813888 := by have := halH.out; omega
      go_wp2_with fail
      go_loopw [5, 6] (fun s5 s6 wq => RelRB acc Wm.heap.size Wm s5 s6 wq) (fun _ s6 _ => acc.length - (Go.RowKit.intOf s6).toNat)
      case atStart => exact ⟨0, by omega, rfl, OwnK.start (World.ownsRow_nil _ _ _ _) (Nat.le_refl _)⟩
      case round =>
        unfold RelRB at hrel
        obtain ⟨q, hq, rfl, hl⟩ := hrel
        obtain ⟨A5, c5, rfl⟩ := hl.form
        have hlH := Lib.hid hl
        clear hl
        by_cases hlq : q < acc.length
        · obtain ⟨d, hd⟩ : ∃ d, acc[q]? = some d := ⟨_, List.getElem?_eq_getElem hlq⟩
          obtain ⟨g, rfl, -, -, hoC⟩ := OwnCs.row hoH.out (by omega)
          obtain ⟨y0_, y1_⟩ := OwnC.two (OwnL.below hoC hlH.out.2.1) hd
          have hst := Lib.hid (show (acc.take (q + 1)).filter (fun d => d.1.n != 0) = (acc.take q).filter (fun d => d.1.n != 0) ++ (if d.1.n != 0 then [d] else []) by
            obtain ⟨h1, rfl⟩ := List.getElem?_eq_some_iff.1 hd
            rw [List.take_succ_eq_append_getElem h1, List.filter_append]
            simp [List.filter_cons])
          obtain ⟨lf, hlf⟩ : ∃ lf, (acc.take q).filter (fun d => d.1.n != 0) = lf := ⟨_, rfl⟩
          have hlfl : lf.length ≤ 1099511627776 := by
            rw [← hlf]
            have h1 := List.length_filter_le (fun d : Cd => d.1.n != 0) (acc.take q)
            rw [List.length_take] at h1
            omega
          rw [hlf] at hlH hst ⊢
          have hlqH := Lib.hid hlq
          clear hlf hoC hd
          obtain ⟨⟨dA, dk, dc, n⟩, l⟩ := d
          simp only at y0_ y1_
          by_cases hz : n = 0
          · subst hz
            have hst2 := Lib.hid (show (acc.take (q + 1)).filter (fun d => d.1.n != 0) = lf by rw [hst.out]; simp)
            go_wp2_with fail
            go_roundw
            case rel => exact ⟨q + 1, hlqH.out, by go_num, by rw [hst2.out]; exact hlH.out⟩
            case measure => have := hlqH.out; simp [Go.RowKit.intOf]; omega
          · have hst2 := Lib.hid (show (acc.take (q + 1)).filter (fun d => d.1.n != 0) = lf ++ [(⟨dA, dk, dc, n⟩, l)] by rw [hst.out]; simp [hz])
            go_wp2_with (at_builtin; refine wpList_countK rfl _ _ rfl Wm.heap.size _ lf Wm _ (⟨dA, dk, dc, n⟩, l) _ rfl hlH.out rfl rfl hlfl ?_; intro v6 w6 hq6; have hl6 := Lib.hid hq6; clear hq6)
            go_roundw
            case rel => exact ⟨q + 1, hlqH.out, by go_num, by rw [hst2.out]; exact hl6.out⟩
            case measure => have := hlqH.out; simp [Go.RowKit.intOf]; omega
        · obtain rfl : q = acc.length := by omega
          rw [List.take_length] at hlH ⊢
          go_wp2_with fail
          go_ret
          refine ⟨_, acc.filter (fun d => d.1.n != 0), rfl, ?_, ?_, hbH.out.trans (hlH.out.2.1.mono hB)⟩
          · unfold refSum sumI
            rw [← hcnH.out, List.filter_map]
            rfl
          · refine OwnKC.cts hlH.out (fun d hd => ?_)
            exact (hrsH.out d (List.mem_filter.1 hd).1).below (hbH.out.trans (hlH.out.2.1.mono hB))
end Go.Proofs.Ythmkfodiekmkjaa
