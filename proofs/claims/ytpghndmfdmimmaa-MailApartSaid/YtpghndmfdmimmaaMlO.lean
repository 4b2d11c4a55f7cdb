/-
  A message of one number, and its copy: message, strings.Clone of nothing, ownRow, ownTime, ownUpdates, own. Conditions: those written.
-/
import Derived.Test.YtpghndmfdmimmaaMlV
set_option linter.unusedVariables false
set_option linter.unusedSimpArgs false
namespace Go.Proofs.Ytpghndmfdmimmaa
open Go.RowKit Go.Lib
theorem RowV.far_ {w : World} {v : Value} {z : Int} (h : RowV w v z) {g : Nat} {cs : List Value} {t : TypeId} (hg : HasC w g cs t) (ht : t ≠ 89) (i : Nat) (x : Value) : RowV (w.setCell ⟨g, i, none⟩ x) v z := by
  obtain ⟨Y, c, ys, h1, h2, h3, h4⟩ := h
  exact ⟨Y, c, ys, h1, h2, h3, h4.far (h4.types hg (Ne.symm ht)) x⟩
theorem message_any (n : Int) (w : World) :
    Calls Try.prog 27 #[.int .i64 n] w fun e w' => ∃ u, e = .returned (.agg (msgC u).toArray) ∧ UpdV w' u n ∧ Below w.heap.size w w' := by
  go_enter Try.func27, Try.ntmps27
  go_wp2
  refine bodyPost_ret (v := .agg (msgC (.slice (some ⟨w.heap.size + 1 + 1, 0, none⟩) 1 1)).toArray) (by simp [results, Try.results27, go_sem]) rfl ⟨_, rfl, ⟨_, 1, [], .slice (some ⟨w.heap.size + 1, 0, none⟩) 1 1, rfl, Nat.le_refl _, by decide, ?_, ⟨_, 1, [], rfl, Nat.le_refl _, by decide, ?_⟩⟩, ?_⟩
  · exact has_at _ _ (updC (.slice (some ⟨w.heap.size + 1, 0, none⟩) 1 1)) 37 (by simp)
  · exact (has_at _ _ (datC n) 89 (by simp)).alloc _
  · go_grown
theorem clone_any (w : World) :
    Calls Try.prog 67 #[.string ⟨#[]⟩] w fun e w' => e = .returned (.string ⟨#[]⟩) ∧ w = w' := by
  go_enter Try.func67, Try.ntmps67
  go_wp2
  go_ret
  exact ⟨rfl, rfl⟩
theorem ownRow_any (v : Value) (z : Int) (w : World) (hv : RowV w v z) :
    Calls Try.prog 66 #[v] w fun e w' => ∃ u, e = .returned u ∧ RowV w' u z ∧ Below w.heap.size w w' := by
  obtain ⟨Y, c, ys, rfl, hc1, hc2, hY⟩ := hv
  have hYH := Lib.hid hY
  clear hY
  go_enter Try.func66, Try.ntmps66
  go_wp2_with (at_builtin; refine wpList_append_copy rfl _ _ 35 89 rfl _ 4 32 Try.underlying35 datum_info _ rfl _ _ _ rfl (datC z) rfl (news_of hYH.out) (by decide) (by decide) (by decide) ?_; intro cap zs w1 hs1 hcap hcm hG hb)
  have hGc := hG
  have hGH := Lib.hid hG
  have hbH := Lib.hid hb
  have hs1H := Lib.hid hs1
  clear hG hb hs1
  have g0 := hGH.out.cell 0 rfl; have g1 := hGH.out.cell 1 rfl; have g2 := hGH.out.cell 2 rfl; have g3 := hGH.out.cell 3 rfl
  have f3 := hGH.out.free 3
  clear hGc
  refine wp_loop_rounds 2 ?_
  rw [rounds_succ]
  go_wp2_with (go_at_call 67; refine (clone_any _).mono ?_; rintro e w' ⟨rfl, rfl⟩)
  rw [rounds_succ]
  go_wp2
  go_ret
  exact ⟨_, rfl, ⟨_, cap, zs, rfl, hcap, hcm, by simpa using hGH.out.set 3 (.string ⟨#[]⟩)⟩, hbH.out.setCell (Nat.le_refl _) _⟩
theorem ownTime_any (w : World) :
    Calls Try.prog 63 #[.agg #[.int .u64 0, .slice none 0 0]] w fun e w' => e = .returned (.agg #[.int .u64 0, .slice none 0 0]) ∧ Below w.heap.size w w' := by
  go_enter Try.func63, Try.ntmps63
  go_wp2_with (at_builtin; refine wpList_append_nils rfl _ _ 26 115 rfl _ 1 4 Try.underlying26 word_info _ rfl rfl ?_)
  refine bodyPost_ret (v := .agg #[.int .u64 0, .slice none 0 0]) (by simp [results, Try.results63, go_sem]) rfl ⟨rfl, ?_⟩
  go_grown
theorem ownNone_any (w : World) :
    Calls Try.prog 64 #[.slice none 0 0] w fun e w' => e = .returned (.slice none 0 0) ∧ w = w' := by
  go_enter Try.func64, Try.ntmps64
  go_wp2_with (at_builtin; refine wpList_append_nils rfl _ _ 29 37 rfl _ 4 64 Try.underlying29 update_info _ rfl rfl ?_)
  refine wp_loop_rounds 1 ?_
  rw [rounds_succ]
  go_wp2
  go_ret
  exact ⟨rfl, rfl⟩
theorem ownUpdates_any (v : Value) (z : Int) (w : World) (hv : UpdV w v z) :
    Calls Try.prog 64 #[v] w fun e w' => ∃ u, e = .returned u ∧ UpdV w' u z ∧ Below w.heap.size w w' := by
  obtain ⟨Y, c, ys, r, rfl, hc1, hc2, hY, hr⟩ := hv
  have hYH := Lib.hid hY
  have hrH := Lib.hid hr
  clear hY hr
  go_enter Try.func64, Try.ntmps64
  go_wp2_with (at_builtin; refine wpList_append_copy rfl _ _ 29 37 rfl _ 4 64 Try.underlying29 update_info _ rfl _ _ _ rfl (updC r) rfl (news_of hYH.out) (by decide) (by decide) (by decide) ?_; intro cap zs w1 hs1 hcap hcm hG hb)
  have hGH := Lib.hid hG
  have hbH := Lib.hid hb
  have hs1H := Lib.hid hs1
  replace hrH := Lib.hid (hrH.out.below hb)
  clear hG hb hs1
  refine wp_loop_rounds 2 ?_
  rw [rounds_succ]
  have g0 := hGH.out.cell 0 rfl
  go_wp2_with fail
  refine (ownRow_any r z _ hrH.out).mono ?_
  rintro e w2 ⟨u, rfl, hu, hb2⟩
  have hG2 := Lib.hid (hGH.out.below hb2)
  have huH := Lib.hid hu
  replace hbH := Lib.hid (chainB hbH.out hb2 (by have := hs1H.out; omega))
  have hlt := Lib.hid (Nat.lt_of_lt_of_le hGH.out.lt hb2.size)
  obtain ⟨A, cu, rfl, hc3, hc4⟩ := hu.form
  clear g0 hu hb2
  have g0 := hG2.out.cell 0 rfl; have f0 := hG2.out.free 0; have g1 := hG2.out.cell 1 rfl; have g2 := hG2.out.cell 2 rfl
  go_wp2_with fail
  refine (ownTime_any _).mono ?_
  rintro e w3 ⟨rfl, hb3⟩
  have hG3 := Lib.hid ((hG2.out.set 0 (.slice (some A) 1 cu)).below hb3)
  have hu3 := Lib.hid ((huH.out.far_ hG2.out (by decide) 0 (.slice (some A) 1 cu)).below hb3)
  replace hbH := Lib.hid (chainB (hbH.out.setCell (Nat.le_refl _) (p := ⟨w.heap.size, 0, none⟩) (.slice (some A) 1 cu)) hb3 (by have := hlt.out; simp; omega))
  replace hlt := Lib.hid (show w.heap.size < w3.heap.size from Nat.lt_of_lt_of_le (by simpa using hlt.out) hb3.size)
  clear g0 f0 g1 g2 hb3 hG2 huH
  have g0 := hG3.out.cell 0 rfl; have f1 := hG3.out.free 1; have f2 := hG3.out.free 2; have g1 := hG3.out.cell 1 rfl; have g2 := hG3.out.cell 2 rfl
  go_wp2_with fail
  rw [rounds_succ]
  go_wp2_with fail
  go_ret
  refine ⟨_, rfl, ⟨_, cap, zs, _, rfl, hcap, hcm, (hG3.out.set 1 (.int .u64 0)).set 2 (.slice none 0 0), (hu3.out.far_ hG3.out (by decide) 1 _).far_ (hG3.out.set 1 _) (by decide) 2 _⟩, (hbH.out.setCell (Nat.le_refl _) _).setCell (Nat.le_refl _) _⟩
theorem UpdV.far_ {w : World} {v : Value} {z : Int} (h : UpdV w v z) {g : Nat} {cs : List Value} {t : TypeId} (hg : HasC w g cs t) (ht : t ≠ 89) (hu : t ≠ 37) (i : Nat) (x : Value) : UpdV (w.setCell ⟨g, i, none⟩ x) v z := by
  obtain ⟨X, c, xs, r, h1, h2, h3, h4, h5⟩ := h
  exact ⟨X, c, xs, r, h1, h2, h3, h4.far (h4.types hg (Ne.symm hu)) x, h5.far_ hg ht i x⟩
theorem UpdV.put7 {w : World} {v : Value} {z : Int} (h : UpdV w v z) {g : Nat} {cs : List Value} {t : TypeId} (hg : HasC w g cs t) (ht : t ≠ 89) (hu : t ≠ 37) (x0 x1 x2 x3 x4 x5 x6 : Value) :
    UpdV (((((((w.setCell ⟨g, 0, none⟩ x0).setCell ⟨g, 1, none⟩ x1).setCell ⟨g, 2, none⟩ x2).setCell ⟨g, 3, none⟩ x3).setCell ⟨g, 4, none⟩ x4).setCell ⟨g, 5, none⟩ x5).setCell ⟨g, 6, none⟩ x6) v z := by
  have h0 := h.far_ hg ht hu 0 x0
  replace hg := hg.set 0 x0
  have h1 := h0.far_ hg ht hu 1 x1
  replace hg := hg.set 1 x1
  have h2 := h1.far_ hg ht hu 2 x2
  replace hg := hg.set 2 x2
  have h3 := h2.far_ hg ht hu 3 x3
  replace hg := hg.set 3 x3
  have h4 := h3.far_ hg ht hu 4 x4
  replace hg := hg.set 4 x4
  have h5 := h4.far_ hg ht hu 5 x5
  replace hg := hg.set 5 x5
  exact h5.far_ hg ht hu 6 x6
theorem own_any (v : Value) (z : Int) (w : World) (hv : UpdV w v z) :
    Calls Try.prog 40 #[.agg (msgC v).toArray] w fun e w' => ∃ u, e = .returned (.agg (msgC u).toArray) ∧ UpdV w' u z ∧ Below w.heap.size w w' := by
  obtain ⟨W0, hW0, hwW, hA, hR, hzz⟩ := boxes2 w (msgC v) (msgC (.slice none 0 0)) 31 31
  have hvH := Lib.hid (hv.below hwW)
  have hAH := Lib.hid hA; have hRH := Lib.hid hR; have hbH := Lib.hid hwW; have hzH := Lib.hid hzz
  obtain ⟨Av, cv, rfl, hc1, hc2⟩ := hv.form
  clear hv hA hR hwW hzz
  have a3 := hAH.out.cell 3 rfl; have a4 := hAH.out.cell 4 rfl; have f3 := hAH.out.free 3; have f4 := hAH.out.free 4; have a5 := hAH.out.cell 5 rfl; have f5 := hAH.out.free 5
  go_enter Try.func40, Try.ntmps40
  go_wp2_with fail
  refine (ownTime_any _).mono ?_
  rintro e w1 ⟨rfl, hb1⟩
  have hA1 := Lib.hid (hAH.out.below hb1)
  have hR1 := Lib.hid (hRH.out.below hb1)
  replace hvH := Lib.hid (hvH.out.below hb1)
  replace hbH := Lib.hid (chainB hbH.out hb1 hbH.out.size)
  have hz1 := Lib.hid (show w.heap.size + 1 < w1.heap.size by have := hb1.size; have := hzH.out; omega)
  clear a3 a4 a5 f3 f4 f5 hb1 hAH hRH hW0
  have a0 := hA1.out.cell 0 rfl; have a1 := hA1.out.cell 1 rfl; have a2 := hA1.out.cell 2 rfl; have a3 := hA1.out.cell 3 rfl; have a4 := hA1.out.cell 4 rfl; have a5 := hA1.out.cell 5 rfl; have a6 := hA1.out.cell 6 rfl; have f3 := hA1.out.free 3; have f4 := hA1.out.free 4; have f5 := hA1.out.free 5; have f6 := hA1.out.free 6
  go_wp2_with fail
  have hA2 := Lib.hid ((hA1.out.set 3 (.int .u64 0)).set 4 (.slice none 0 0))
  have hv2 := Lib.hid ((hvH.out.far_ hA1.out (by decide) (by decide) 3 (.int .u64 0)).far_ (hA1.out.set 3 (.int .u64 0)) (by decide) (by decide) 4 (.slice none 0 0))
  refine (ownUpdates_any _ z _ hv2.out).mono ?_
  rintro e w2 ⟨u, rfl, hu, hb2⟩
  obtain ⟨Au, cu, rfl, hc3, hc4⟩ := hu.form
  have hA3 := Lib.hid (hA2.out.below hb2)
  have hR3 := Lib.hid (((hR1.out.far (by simp) (.int .u64 0)).far (p := ⟨w.heap.size, 4, none⟩) (by simp) (.slice none 0 0)).below hb2)
  have hu3 := Lib.hid hu
  replace hbH := Lib.hid (chainB ((hbH.out.setCell (Nat.le_refl _) (p := ⟨w.heap.size, 3, none⟩) (.int .u64 0)).setCell (Nat.le_refl _) (p := ⟨w.heap.size, 4, none⟩) (.slice none 0 0)) hb2 (by have := hz1.out; simp; omega))
  replace hz1 := Lib.hid (show w.heap.size + 1 < w2.heap.size from Nat.lt_of_lt_of_le (by simpa using hz1.out) hb2.size)
  clear a0 a1 a2 a3 a4 a5 a6 f3 f4 f5 f6 hb2 hA1 hR1 hA2 hv2 hvH hu
  have a0 := hA3.out.cell 0 rfl; have a1 := hA3.out.cell 1 rfl; have a2 := hA3.out.cell 2 rfl; have a3 := hA3.out.cell 3 rfl; have a4 := hA3.out.cell 4 rfl; have a5 := hA3.out.cell 5 rfl; have a6 := hA3.out.cell 6 rfl; have f3 := hA3.out.free 3; have f4 := hA3.out.free 4; have f5 := hA3.out.free 5; have f6 := hA3.out.free 6
  go_wp2_with fail
  refine (ownNone_any _).mono ?_
  rintro e w3 ⟨rfl, rfl⟩
  have hA4 := Lib.hid (hA3.out.set 5 (.slice (some Au) 1 cu))
  have hu4 := Lib.hid (hu3.out.far_ hA3.out (by decide) (by decide) 5 (.slice (some Au) 1 cu))
  have hR4 := Lib.hid (hR3.out.far (p := ⟨w.heap.size, 5, none⟩) (by simp) (.slice (some Au) 1 cu))
  replace hbH := Lib.hid (hbH.out.setCell (Nat.le_refl _) (p := ⟨w.heap.size, 5, none⟩) (.slice (some Au) 1 cu))
  generalize hw4 : w2.setCell ⟨w.heap.size, 5, none⟩ (.slice (some Au) 1 cu) = w4 at *
  replace hz1 := Lib.hid (show w.heap.size + 1 < w4.heap.size by rw [← hw4]; simpa using hz1.out)
  clear a0 a1 a2 a3 a4 a5 a6 f3 f4 f5 f6 hA3 hu3 hR3 hw4
  have a0 := hA4.out.cell 0 rfl; have a1 := hA4.out.cell 1 rfl; have a2 := hA4.out.cell 2 rfl; have a3 := hA4.out.cell 3 rfl; have a4 := hA4.out.cell 4 rfl; have a5 := hA4.out.cell 5 rfl; have a6 := hA4.out.cell 6 rfl
  have f6 := hA4.out.free 6
  have r0 := hR4.out.cell 0 rfl; have r1 := hR4.out.cell 1 rfl; have r2 := hR4.out.cell 2 rfl; have r3 := hR4.out.cell 3 rfl; have r4 := hR4.out.cell 4 rfl; have r5 := hR4.out.cell 5 rfl; have r6 := hR4.out.cell 6 rfl
  have q0 := hR4.out.free 0; have q1 := hR4.out.free 1; have q2 := hR4.out.free 2; have q3 := hR4.out.free 3; have q4 := hR4.out.free 4; have q5 := hR4.out.free 5; have q6 := hR4.out.free 6
  have hl := hR4.out.lt
  go_wp2_with fail
  refine bodyPost_ret (v := .agg (msgC (.slice (some Au) 1 cu)).toArray) (by simp [results, Try.results40, go_sem, r0, r1, r2, r3, r4, r5, r6, hl]) rfl ⟨_, rfl, ?_, ?_⟩
  · exact (hu4.out.far_ hA4.out (by decide) (by decide) 6 _).put7 (hR4.out.far (by simp) _) (by decide) (by decide) _ _ _ _ _ _ _
  · have hb := hbH.out
    clear hbH hA4 hu4 hR4
    go_grown
end Go.Proofs.Ytpghndmfdmimmaa
