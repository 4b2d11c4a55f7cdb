/-
  Lent lists of counters and lent times: what LentWords and LentTime answer, that what is lent is whole, and SameTime. Conditions: those written.
-/
import Derived.Test.YtdfhchpimpbgfaaGreatDoorChRef0
import Derived.Test.YtdfhchpimpbgfaaGreatDoorStCat
import Derived.Test.YtdfhchpimpbgfaaGreatDoorChK0
import Derived.Deep.DeepCutAuto
import Derived.Laws.MakeOwn
import Derived.Laws.OwnMore
import Derived.Deep.RegionHeld3
set_option linter.unusedVariables false
set_option linter.unusedSimpArgs false
namespace Go.Proofs.YtdfhchpimpbgfaaGreatDoor
open Go.RowKit Go.Lib

/-- What is lent: a row of its own with two of room behind it, that have marks. -/
def LentW (B : Nat) (v : Value) (l : List Int) (w : World) : Prop := ∃ g cap, v = .slice (some ⟨g, 0, none⟩) l.length cap ∧ OwnW B (.slice (some ⟨g, 0, none⟩) (l.length + 2) cap) (l ++ [771, 772]) w
theorem LentW.below {B : Nat} {v : Value} {l : List Int} {w w' : World} (h : LentW B v l w) (hb : Below w.heap.size w w') : LentW B v l w' := by
  obtain ⟨g, cap, rfl, h⟩ := h
  exact ⟨g, cap, rfl, h.below hb⟩
theorem LentW.words {B : Nat} {v : Value} {l : List Int} {w : World} (h : LentW B v l w) : WordsV w v l := by
  obtain ⟨g, cap, rfl, h⟩ := h
  have h2 := h.words.take (n := l.length) (by simp)
  simpa using h2
theorem LentW.form {B : Nat} {v : Value} {l : List Int} {w : World} (h : LentW B v l w) : ∃ g cap, v = .slice (some ⟨g, 0, none⟩) l.length cap ∧ l.length + 2 ≤ cap ∧ cap ≤ 9223372036854775807 ∧ B ≤ g ∧ w.cell? ⟨g, l.length, none⟩ = some (uv 771) ∧ w.cell? ⟨g, l.length + 1, none⟩ = some (uv 772) ∧ g < w.heap.size := by
  obtain ⟨g, cap, rfl, h⟩ := h
  obtain ⟨g', cap', e, hc1, hc2, hB, hg, hcs, _, _⟩ := h.row (by simp)
  obtain ⟨e1, _, e2⟩ := Value.slice.inj e
  obtain rfl : g = g' := by simpa using e1
  subst e2
  exact ⟨g, cap, rfl, by simpa using hc1, hc2, hB, hcs l.length 771 (by simp), hcs (l.length + 1) 772 (by simp), hg⟩
set_option maxHeartbeats 2000000 in
set_option maxRecDepth 1000000 in
theorem sameTime_any (va vb : Value) (a b : Tm) (w : World) (ha : TmV w va a) (hb : TmV w vb b) :
    Calls Tryz.prog 23 #[va, vb] w fun e w' => e = .returned (.bool (decide (a.e = b.e ∧ a.l = b.l))) ∧ Below w.heap.size w w' := by
  obtain ⟨ae, al⟩ := a
  obtain ⟨be, bl⟩ := b
  obtain ⟨ss, rfl, has⟩ := ha
  obtain ⟨bs, rfl, hbs⟩ := hb
  simp only at has hbs
  obtain ⟨A, i, ca, rfl, hi, hic, hca⟩ := has.form
  obtain ⟨B, j, cb, rfl, hj, hjc, hcb⟩ := hbs.form
  obtain ⟨W0, hW0, hwW, hA, hB, hzz⟩ := boxes2 w [.int .u64 ae, .slice A i ca] [.int .u64 be, .slice B j cb] 26 26
  have hva := Lib.hid (has.below hwW); have hvb := Lib.hid (hbs.below hwW)
  have hba := Lib.hid hA; have hbb := Lib.hid hB; have hall := Lib.hid hwW
  clear has hbs hA hB hwW hzz
  go_enter Tryz.func23, Tryz.ntmps23
  have a0_ := hba.out.cell 0 rfl; have a1_ := hba.out.cell 1 rfl; have al_ := hba.out.lt
  have b0_ := hbb.out.cell 0 rfl; have b1_ := hbb.out.cell 1 rfl; have bl_ := hbb.out.lt
  go_upto_region 1 with fail
  by_cases e1 : ae = be
  · subst e1
    go_wp2_with fail
    clear a0_ a1_ b0_ b1_ al_ bl_
    refine (sameWords_any _ _ al bl _ (hva.out.below (by first | exact Below.refl _ _ | go_grown)) (hvb.out.below (by first | exact Below.refl _ _ | go_grown))).mono ?_
    rintro e_ w1 ⟨rfl, hb_⟩
    have hc_ : Below W0.heap.size W0 w1 := chainB (by first | exact Below.refl _ _ | go_grown) hb_ (by first | exact Nat.le_refl _ | (simp; done) | (simp; omega))
    replace hva := Lib.hid (hva.out.below hc_)
    replace hvb := Lib.hid (hvb.out.below hc_)
    replace hba := Lib.hid (hba.out.below hc_)
    replace hbb := Lib.hid (hbb.out.below hc_)
    replace hall := Lib.hid (chainB hall.out hc_ hall.out.size)
    clear hc_
    clear hb_
    have a0_ := hba.out.cell 0 rfl; have a1_ := hba.out.cell 1 rfl; have al_ := hba.out.lt
    have b0_ := hbb.out.cell 0 rfl; have b1_ := hbb.out.cell 1 rfl; have bl_ := hbb.out.lt
    go_wp2_with fail
    go_ret
    exact ⟨ret_bool (by simp), chainB hall.out (by first | exact Below.refl _ _ | go_grown) hall.out.size⟩
  · have e1b : (ae == be) = false := by simpa using e1
    go_wp2_with fail
    go_ret
    exact ⟨ret_bool (by simp [e1]), chainB hall.out (by first | exact Below.refl _ _ | go_grown) hall.out.size⟩
set_option maxHeartbeats 2000000 in
set_option maxRecDepth 1000000 in
theorem wholeWords_any (B : Nat) (va vb : Value) (l : List Int) (w : World) (ha : LentW B va l w) (hb : WordsV w vb l) (hs : l.length ≤ 1099511627776) :
    Calls Tryz.prog 90 #[va, vb] w fun e w' => e = .returned (.bool true) ∧ Below w.heap.size w w' := by
  obtain ⟨g, cap, rfl, hc1, hc2, hB, h1, h2, hg⟩ := ha.form
  obtain ⟨n, hn⟩ : ∃ n, l.length = n := ⟨_, rfl⟩
  obtain ⟨D, m, d, rfl, hm, hmd, hd⟩ := hb.form
  rw [hn] at hc1 h1 h2 hs ⊢
  have hA := Lib.hid (hn ▸ ha.words); have hBV := Lib.hid hb; have hnH := Lib.hid hn
  have hcc : (n : Int) + 2 ≤ cap := by omega
  have hall := Lib.hid (Below.refl w.heap.size w)
  clear ha hb hn hm
  go_enter Tryz.func90, Tryz.ntmps90
  go_wp2_with fail
  refine (sameWords_any _ _ l l _ (hA.out.below (by first | exact Below.refl _ _ | go_grown)) (hBV.out.below (by first | exact Below.refl _ _ | go_grown))).mono ?_
  rintro e_ w1 ⟨rfl, hb_⟩
  have hc_ : Below w.heap.size w w1 := chainB (by first | exact Below.refl _ _ | go_grown) hb_ (by first | exact Nat.le_refl _ | (simp; done) | (simp; omega))
  replace hA := Lib.hid (hA.out.below hc_)
  replace hBV := Lib.hid (hBV.out.below hc_)
  replace hall := Lib.hid (chainB hall.out hc_ hall.out.size)
  clear hc_
  clear hb_
  go_wp2_with fail
  go_ret
  exact ⟨ret_bool (by simp), hall.out⟩
/-- What is lent of a time. -/
def LentT (B : Nat) (v : Value) (t : Tm) (w : World) : Prop := ∃ s, v = .agg #[.int .u64 t.e, s] ∧ LentW B s t.l w
theorem LentT.below {B : Nat} {v : Value} {t : Tm} {w w' : World} (h : LentT B v t w) (hb : Below w.heap.size w w') : LentT B v t w' := by
  obtain ⟨s, rfl, h⟩ := h
  exact ⟨s, rfl, h.below hb⟩
theorem LentT.time {B : Nat} {v : Value} {t : Tm} {w : World} (h : LentT B v t w) : TmV w v t := by
  obtain ⟨s, rfl, h⟩ := h
  exact ⟨s, rfl, h.words⟩
set_option maxHeartbeats 2000000 in
set_option maxRecDepth 1000000 in
theorem wholeTime_any (B : Nat) (va vb : Value) (t : Tm) (w : World) (ha : LentT B va t w) (hb : TmV w vb t) (hs : t.l.length ≤ 1099511627776) :
    Calls Tryz.prog 49 #[va, vb] w fun e w' => e = .returned (.bool true) ∧ Below w.heap.size w w' := by
  obtain ⟨xs, rfl, hxs⟩ := ha
  obtain ⟨be, bl⟩ := t
  obtain ⟨bs, rfl, hbs⟩ := hb
  simp only at hxs hbs hs
  obtain ⟨g, cap, rfl, hc1, hc2, hB, h1, h2, hg⟩ := hxs.form
  obtain ⟨D, j, cb, rfl, hj, hjc, hcb⟩ := hbs.form
  obtain ⟨n, hn⟩ : ∃ n, bl.length = n := ⟨_, rfl⟩
  rw [hn] at hxs hc1 h1 h2 ⊢
  obtain ⟨W0, hW0, hwW, hA, hB, hzz⟩ := boxes2 w [.int .u64 be, .slice (some ⟨g, 0, none⟩) n cap] [.int .u64 be, .slice D j cb] 26 26
  have hva := Lib.hid (hxs.below hwW); have hvb := Lib.hid (hbs.below hwW)
  have hba := Lib.hid hA; have hbb := Lib.hid hB; have hall := Lib.hid hwW; have hsH := Lib.hid hs
  clear hxs hbs hA hB hwW hzz
  go_enter Tryz.func49, Tryz.ntmps49
  have a0_ := hba.out.cell 0 rfl; have a1_ := hba.out.cell 1 rfl; have al_ := hba.out.lt
  have b0_ := hbb.out.cell 0 rfl; have b1_ := hbb.out.cell 1 rfl; have bl_ := hbb.out.lt
  go_wp2_with fail
  clear a0_ a1_ b0_ b1_ al_ bl_
  refine (wholeWords_any _ _ _ bl _ (hva.out.below (by first | exact Below.refl _ _ | go_grown)) (hvb.out.below (by first | exact Below.refl _ _ | go_grown)) hsH.out).mono ?_
  rintro e_ w1 ⟨rfl, hb_⟩
  have hc_ : Below W0.heap.size W0 w1 := chainB (by first | exact Below.refl _ _ | go_grown) hb_ (by first | exact Nat.le_refl _ | (simp; done) | (simp; omega))
  replace hva := Lib.hid (hva.out.below hc_)
  replace hvb := Lib.hid (hvb.out.below hc_)
  replace hba := Lib.hid (hba.out.below hc_)
  replace hbb := Lib.hid (hbb.out.below hc_)
  replace hall := Lib.hid (chainB hall.out hc_ hall.out.size)
  clear hc_
  clear hb_
  have a0_ := hba.out.cell 0 rfl; have a1_ := hba.out.cell 1 rfl; have al_ := hba.out.lt
  have b0_ := hbb.out.cell 0 rfl; have b1_ := hbb.out.cell 1 rfl; have bl_ := hbb.out.lt
  go_wp2_with fail
  go_ret
  exact ⟨rfl, chainB hall.out (by first | exact Below.refl _ _ | go_grown) hall.out.size⟩
theorem make_room (n : Nat) (hn : n ≤ 1099511627776) (W : World) : (Instr.makeSlice 24 (.int .i64 0) (.int .i64 ((n : Int) + 2))).run Tryz.prog W = .ok (.slice (some ⟨W.heap.size, 0, none⟩) 0 (n + 2)) (W.alloc (.cells (Array.replicate (n + 2) (uv 0)) 86)) := by
  obtain ⟨i0, hi, hz0, hz1, hz2⟩ := info_parts u32_info
  rw [run_make W _ _ i0 _ Tryz.underlying24 hi hz0 .i64 .i64 0 ((n : Int) + 2) (by omega) (by omega) (by rw [hz2]; omega) (by omega), hz1]
  have h : madeCells (Value.int .u32 0).cells (n + 2) = Array.replicate (n + 2) (uv 0) := by
    apply Array.ext'
    rw [show (Value.int .u32 0).cells = #[Value.int .u32 0] from rfl, toList_madeCells_one]
    simp
  simp only [show ((n : Int) + 2).toNat = n + 2 by omega, Nat.mul_one, h, Int.toNat_zero]
theorem room_own (n : Nat) (hn : n ≤ 1099511627776) (W : World) : OwnW W.heap.size (.slice (some ⟨W.heap.size, 0, none⟩) 0 (n + 2)) [] (W.alloc (.cells (Array.replicate (n + 2) (uv 0)) 86)) :=
  ⟨rfl, .inr ⟨W.heap.size, n + 2, _, rfl, Nat.le_refl _, heap_alloc_new W _, Nat.zero_le _, by unfold maxLen; omega, by simp, by simp⟩⟩
set_option maxHeartbeats 2000000 in
set_option maxRecDepth 1000000 in
theorem lentWords_any (v : Value) (l : List Int) (w : World) (h : WordsV w v l) (hs : l.length ≤ 1099511627776) :
    Calls Tryz.prog 77 #[v] w fun e w' => ∃ u, e = .returned u ∧ LentW w.heap.size u l w' ∧ Below w.heap.size w w' := by
  obtain ⟨i0, hi, hz0, hz1, hz2⟩ := info_parts u32_info
  obtain ⟨A, n, c, rfl, hn, hnc, hc⟩ := h.form
  rw [hn] at hs
  have hmk := make_room n hs w
  have hvH := Lib.hid (h.alloc (.cells (Array.replicate (n + 2) (uv 0)) 86)); have hnH := Lib.hid hn
  have hown := Lib.hid (room_own n hs w)
  clear h hn
  go_enter Tryz.func77, Tryz.ntmps77
  go_upto_region 2 with (at_builtin; go_loud (refine wpList_append_sl rfl _ _ 24 rfl w.heap.size 86 i0 (.int .u32 0) 1 4 Tryz.underlying24 hi hz0 hz1 hz2 rfl (by decide) _ _ _ (by rfl) _ _ _ _ hown.out (by rfl) hvH.out (uv_one _) (by have := hnH.out; unfold maxLen; simp; omega) (by have := hnH.out; simp; omega) (by simp) ?_); intro v1 w1 ho1 hg1)
  have hb1 : Below w.heap.size w w1 := below_grown (by go_grown) hown.out (by simp) hg1
  have ho1H : Hid (OwnW w.heap.size v1 l w1) := Lib.hid (by
    unfold OwnW
    simpa using ho1)
  have hb1H := Lib.hid hb1
  have hs1 : w.heap.size ≤ w1.heap.size := hb1.size
  clear ho1 hg1 hb1 hown hvH hmk
  go_upto_region 3 with (at_builtin; refine wpList_append_sl rfl _ _ 24 rfl w.heap.size 86 i0 (.int .u32 0) 1 4 Tryz.underlying24 hi hz0 hz1 hz2 rfl (by decide) _ _ _ (by rfl) _ _ _ _ (ho1H.out.below (by go_grown)) (by rfl) (lit2 w1 771 772) (uv_one _) (by have := hnH.out; unfold maxLen; simp; omega) (by have := hnH.out; simp; omega) (by simp; omega) ?_; intro v2 w2 ho2 hg2)
  have hb2 : Below w.heap.size w w2 := below_grown (chainB hb1H.out (by go_grown) hs1) (ho1H.out.below (by go_grown)) (by simp; omega) hg2
  have ho2H : OwnW w.heap.size v2 (l ++ [771, 772]) w2 := by
    unfold OwnW
    simpa using ho2
  obtain ⟨g, cap, rfl, h1, h2, _⟩ := ho2H.row (by simp)
  have e2 : (l ++ [771, 772]).length = n + 2 := by have := hnH.out; simp; omega
  rw [e2] at h1 ho2H ⊢
  have ho3H := Lib.hid ho2H; have hb2H := Lib.hid hb2
  have hcc : (n : Int) ≤ cap := by omega
  clear ho2 hg2 ho2H hb2 ho1H hb1H e2
  go_wp2_with fail
  go_ret
  exact ⟨_, rfl, ⟨g, cap, (by rw [hnH.out]; rfl), by rw [hnH.out]; exact ho3H.out⟩, hb2H.out⟩
theorem LentW.low {B B' : Nat} {v : Value} {l : List Int} {w : World} (h : LentW B v l w) (hB : B' ≤ B) : LentW B' v l w := by
  obtain ⟨g, cap, rfl, h⟩ := h
  exact ⟨g, cap, rfl, h.low hB⟩
theorem LentW.far {B : Nat} {v : Value} {l : List Int} {w : World} {b : Nat} {cs : List Value} {t : TypeId} (h : LentW B v l w) (hb : HasC w b cs t) (ht : t ≠ 86) (i : Nat) (x : Value) : LentW B v l (w.setCell ⟨b, i, none⟩ x) := by
  obtain ⟨g, cap, rfl, h⟩ := h
  exact ⟨g, cap, rfl, h.far hb ht i x⟩
set_option maxHeartbeats 2000000 in
set_option maxRecDepth 1000000 in
theorem lentTime_any (v : Value) (t : Tm) (w : World) (h : TmV w v t) (hs : t.l.length ≤ 1099511627776) :
    Calls Tryz.prog 37 #[v] w fun e w' => ∃ u, e = .returned u ∧ LentT w.heap.size u t w' ∧ Below w.heap.size w w' := by
  obtain ⟨te, tl⟩ := t
  obtain ⟨ss, rfl, hss⟩ := h
  simp only at hss hs
  obtain ⟨A, n, c, rfl, hn, hnc, hc⟩ := hss.form
  obtain ⟨W0, hW0, hwW, hA, hB, hzz⟩ := boxes2 w [.int .u64 te, .slice A n c] [.int .u64 0, .slice none 0 0] 26 26
  have hva := Lib.hid (hss.below hwW)
  have hba := Lib.hid hA; have hbr := Lib.hid hB; have hall := Lib.hid hwW; have hsH := Lib.hid hs
  clear hss hA hB hwW hzz hn
  go_enter Tryz.func37, Tryz.ntmps37
  have a0_ := hba.out.cell 0 rfl; have a1_ := hba.out.cell 1 rfl; have al_ := hba.out.lt
  have r0_ := hbr.out.cell 0 rfl; have r1_ := hbr.out.cell 1 rfl; have rl_ := hbr.out.lt
  go_upto_region 1 with fail
  have hb := Below.refl W0.heap.size W0
  refine wp_region_noPanic ?_
  refine wp_region_held_drew (S := (fun w' => w'.cell? ⟨w.heap.size, 0, none⟩ = some (.int .u64 te) ∧ w'.cell? ⟨w.heap.size, 1, none⟩ = some (.slice A n c))) (by kernel_rfl) (⟨a0_, a1_⟩) (fun hHeld => ?_)
  refine' wpAnyH_take (i := 0) (v := ?v0x1) ?hi0x1 ?hs0x1 ?hf0x1 ?hr0x1 ?hQ0x1 ?hy0x1 ?hS0x1 ?rest0x1
  case hi0x1 => (simp only [List.getElem?_toArray, List.getElem?_cons_succ, List.getElem?_cons_zero]; try rfl)
  case hs0x1 => kernel_rfl
  case hf0x1 => kernel_rfl
  case hr0x1 => kernel_rfl
  case hQ0x1 => exact fun _ _ _ h => h
  case hy0x1 => first | exact Or.inl ⟨by rfl, by (intro w hSw; (try dsimp only at hSw); go_simp; try rfl)⟩ | exact Or.inr ⟨by rfl, rfl⟩
  case hS0x1 => assumption
  (try simp only [Act.put, List.setIfInBounds_toArray, List.set_cons_zero, List.set_cons_succ])
  refine' wpAnyH_take (i := 1) (v := ?v1x2) ?hi1x2 ?hs1x2 ?hf1x2 ?hr1x2 ?hQ1x2 ?hy1x2 ?hS1x2 ?rest1x2
  case hi1x2 => (simp only [List.getElem?_toArray, List.getElem?_cons_succ, List.getElem?_cons_zero]; try rfl)
  case hs1x2 => kernel_rfl
  case hf1x2 => kernel_rfl
  case hr1x2 => kernel_rfl
  case hQ1x2 => exact fun _ _ _ h => h
  case hy1x2 => first | exact Or.inl ⟨by rfl, by (intro w hSw; (try dsimp only at hSw); go_simp; try rfl)⟩ | exact Or.inr ⟨by rfl, rfl⟩
  case hS1x2 => assumption
  (try simp only [Act.put, List.setIfInBounds_toArray, List.set_cons_zero, List.set_cons_succ])
  refine' wpAnyH_take (i := 2) (v := ?v2x3) ?hi2x3 ?hs2x3 ?hf2x3 ?hr2x3 ?hQ2x3 ?hy2x3 ?hS2x3 ?rest2x3
  case hi2x3 => (simp only [List.getElem?_toArray, List.getElem?_cons_succ, List.getElem?_cons_zero]; try rfl)
  case hs2x3 => kernel_rfl
  case hf2x3 => kernel_rfl
  case hr2x3 => kernel_rfl
  case hQ2x3 => exact fun _ _ _ h => h
  case hy2x3 => first | exact Or.inl ⟨by rfl, by (intro w hSw; (try dsimp only at hSw); go_simp; try rfl)⟩ | exact Or.inr ⟨by rfl, rfl⟩
  case hS2x3 => assumption
  (try simp only [Act.put, List.setIfInBounds_toArray, List.set_cons_zero, List.set_cons_succ])
  refine' wpAnyH_take (i := 3) (v := ?v3x4) ?hi3x4 ?hs3x4 ?hf3x4 ?hr3x4 ?hQ3x4 ?hy3x4 ?hS3x4 ?rest3x4
  case hi3x4 => (simp only [List.getElem?_toArray, List.getElem?_cons_succ, List.getElem?_cons_zero]; try rfl)
  case hs3x4 => kernel_rfl
  case hf3x4 => kernel_rfl
  case hr3x4 => kernel_rfl
  case hQ3x4 => exact fun _ _ _ h => h
  case hy3x4 => first | exact Or.inl ⟨by rfl, by (intro w hSw; (try dsimp only at hSw); go_simp; try rfl)⟩ | exact Or.inr ⟨by rfl, rfl⟩
  case hS3x4 => assumption
  (try simp only [Act.put, List.setIfInBounds_toArray, List.set_cons_zero, List.set_cons_succ])
  refine wpAnyH_ready (rs := [4]) (by kernel_rfl) (by simp) ?_
  refine' (AllReadyH.cons (i := 4) ?ho4x5 (fun K hK => ?st4x5) AllReadyH.nil)
  case ho4x5 => (simp only [List.getElem?_toArray, List.getElem?_cons_succ, List.getElem?_cons_zero]; try rfl)
  case st4x5 =>
    go_simp
    refine (lentWords_any _ tl _ (hva.out.below (by first | exact hb | go_grown)) hsH.out).mono ?_; rintro e_ w_ ⟨u, rfl, hl_, hb_⟩; obtain ⟨g, cap, rfl, hl2_⟩ := hl_; have hl := Lib.hid (LentW.low (B' := w.heap.size) (show LentW _ _ tl w_ from ⟨g, cap, rfl, hl2_⟩) (by have := hall.out.size; simp; omega)); clear hl2_; replace hb := chainB (B := W0.heap.size) (a := W0) (by go_grown) hb_ (by have := hb.size; first | (simp; done) | (simp; omega)); clear hb_
    refine hK.out _ _ ?_ (fun hHeld => ?_)
    · exact ⟨(hba.out.below hb).cell 0 rfl, (hba.out.below hb).cell 1 rfl⟩
    clear hK K
    (try simp only [Act.put, List.setIfInBounds_toArray, List.set_cons_zero, List.set_cons_succ])
    clear r0_ r1_ rl_
    have r0_ := (hbr.out.below hb).cell 0 rfl; have r1_ := (hbr.out.below hb).cell 1 rfl; have rf0_ := (hbr.out.below hb).free 0; have rf1_ := (hbr.out.below hb).free 1; have rl_ := (hbr.out.below hb).lt
    refine' wpAnyH_take (i := 5) (v := ?v5x6) ?hi5x6 ?hs5x6 ?hf5x6 ?hr5x6 ?hQ5x6 ?hy5x6 ?hS5x6 ?rest5x6
    case hi5x6 => (simp only [List.getElem?_toArray, List.getElem?_cons_succ, List.getElem?_cons_zero]; try rfl)
    case hs5x6 => kernel_rfl
    case hf5x6 => kernel_rfl
    case hr5x6 => kernel_rfl
    case hQ5x6 => exact fun _ _ _ h => h
    case hy5x6 => first | exact Or.inl ⟨by rfl, by (intro w hSw; (try dsimp only at hSw); go_simp; try rfl)⟩ | exact Or.inr ⟨by rfl, rfl⟩
    case hS5x6 => assumption
    (try simp only [Act.put, List.setIfInBounds_toArray, List.set_cons_zero, List.set_cons_succ])
    refine wpAnyH_ready (rs := [6]) (by kernel_rfl) (by simp) ?_
    refine' (AllReadyH.cons (i := 6) ?ho6x7 (fun K hK => ?st6x7) AllReadyH.nil)
    case ho6x7 => (simp only [List.getElem?_toArray, List.getElem?_cons_succ, List.getElem?_cons_zero]; try rfl)
    case st6x7 =>
      go_simp
      refine hK.out _ _ ?_ (fun hHeld => ?_)
      · exact ⟨(((hba.out.below hb).far (p := ⟨w.heap.size + 1, 0, none⟩) (by simp) _).far (p := ⟨w.heap.size + 1, 1, none⟩) (by simp) _).cell 0 rfl, (((hba.out.below hb).far (p := ⟨w.heap.size + 1, 0, none⟩) (by simp) _).far (p := ⟨w.heap.size + 1, 1, none⟩) (by simp) _).cell 1 rfl⟩
      clear hK K
      (try simp only [Act.put, List.setIfInBounds_toArray, List.set_cons_zero, List.set_cons_succ])
      refine wpAnyH_done (by kernel_rfl) ?_ _
      refine NoPanic.normal ?_
      have q_ := ((hbr.out.below hb).set 0 (.int .u64 te)).set 1 (.slice (some ⟨g, 0, none⟩) tl.length cap)
      have p0_ := ((hbr.out.below hb).set 0 (.int .u64 te)).cell 0 rfl; have q0_ := q_.cell 0 rfl; have q1_ := q_.cell 1 rfl
      go_wp2_with fail
      refine bodyPost_ret (v := .agg #[.int .u64 te, .slice (some ⟨g, 0, none⟩) tl.length cap]) (by simp [results, Tryz.results37, go_sem, p0_, q0_, q1_]) rfl ?_
      exact ⟨_, rfl, ⟨_, rfl, (hl.out.far (hbr.out.below hb) (by decide) _ _).far ((hbr.out.below hb).set 0 _) (by decide) _ _⟩, ((hall.out.trans (hb.mono hall.out.size)).setCell (by simp) _).setCell (by simp) _⟩
end Go.Proofs.YtdfhchpimpbgfaaGreatDoor
