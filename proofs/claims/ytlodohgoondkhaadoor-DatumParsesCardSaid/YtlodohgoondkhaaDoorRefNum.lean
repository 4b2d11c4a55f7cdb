/-
  What the document's numbers and over answer, at this program. Condition: the texts have at most 2^47 bytes.
-/
import Derived.Test.YtlodohgoondkhaaDoorRefNot
import Derived.Test.YtlodohgoondkhaaDoorNum
import Derived.Test.YtlodohgoondkhaaDoorArith
set_option linter.unusedVariables false
set_option linter.unusedSimpArgs false
namespace Go.Proofs.YtlodohgoondkhaaDoor
open Go.RowKit Go.Lib

theorem box0 (w : World) :
    ∃ W0, w.alloc (.cells #[.int .u8 0, .bool false, .int .i64 0, .string ⟨#[]⟩] 24) = W0 ∧ Below w.heap.size w W0 ∧ Has W0 w.heap.size (.int .u8 0) (.bool false) (.int .i64 0) (.string ⟨#[]⟩) ∧ w.heap.size < W0.heap.size :=
  ⟨_, rfl, by go_grown, Has.new _ _ _ _ _, by simp⟩
theorem refOver_any (x : Bool) (w : World) :
    Calls Tryd.prog 77 #[.bool x] w fun e w' => e = .returned (.int .i64 (if x = true then 10 else 0)) ∧ w = w' := by
  cases x
  all_goals
    go_enter Tryd.func77, Tryd.ntmps77
    go_wp2
    go_ret
    exact ⟨rfl, rfl⟩

set_option maxRecDepth 100000 in
set_option maxHeartbeats 8000000 in
theorem refNum1_bad (x : Int) (e0 : Int) (k0 : Int) (b0 : Bool) (n0 : Int) (s0 : ByteArray) (bk : Nat) (T : TypeId) (w : World) (hbk : w.heap[bk]? = some (.cells #[.int .u8 k0, .bool b0, .int .i64 n0, .string s0] T (0, 0))) (hs0 : s0.size ≤ 140737488355328) (hf : fitsD 3 ⟨k0, b0, n0, s0⟩ = false) :
    Calls Tryd.prog 76 #[.int .i64 x, .int .i64 e0, .slice (some ⟨bk, 0, none⟩) 1 1] w fun e w' => e = .returned (refV (numS (intD 0) ⟨k0, b0, n0, s0⟩ (x, e0))) ∧ Below w.heap.size w w' := by
  have hoH := Lib.hid (show ofS 3 [⟨k0, b0, n0, s0⟩] = -1 by unfold ofS; simp [List.all, hf])
  rw [refV_mk (show numS (intD 0) ⟨k0, b0, n0, s0⟩ (x, e0) = (⟨0, false, 0, ⟨#[]⟩⟩, 13) by exact numS_bad2 (show fitsD 3 (intD 0) = true by decide) hf)]
  have hs0H := Lib.hid hs0
  obtain ⟨W0, hW0, hwW, hR, hzz⟩ := box0 w
  have hbkH := Lib.hid (show W0.heap[bk]? = some (.cells #[.int .u8 k0, .bool b0, .int .i64 n0, .string s0] T (0, 0)) by rw [← hW0]; exact (Lib.alloc_old w _ bk (Go.Proofs.YtlodohgoondkhaaDoor.lt_of_blk hbk)).trans hbk)
  have hRH := Lib.hid hR; have hz0 := Lib.hid hzz; have hwWH := Lib.hid hwW
  clear hR hzz hwW hbk hs0 hf
  have hb := Below.refl W0.heap.size W0
  obtain ⟨r0_, r1_, r2_, r3_⟩ := (hRH.out.below hb).cells; obtain ⟨f0_, f1_, f2_, f3_⟩ := (hRH.out.below hb).free; have hz := Nat.lt_of_lt_of_le hz0.out hb.size
  go_enter Tryd.func76, Tryd.ntmps76
  go_wp2_with (first
    | (go_at_call 83; go_must (refine (refOf1 3 k0 b0 n0 s0 _ _ _ hbkH.out hs0H.out).mono ?_; rw [hoH.out]; rintro e w' ⟨rfl, hb'⟩; replace hb := chainB (B := W0.heap.size) (a := W0) (by go_grown) hb' (by have := hb.size; first | omega | (simp; done) | (simp; omega)); clear hb' r0_ r1_ r2_ r3_ f0_ f1_ f2_ f3_ hz; obtain ⟨r0_, r1_, r2_, r3_⟩ := (hRH.out.below hb).cells; obtain ⟨f0_, f1_, f2_, f3_⟩ := (hRH.out.below hb).free; have hz := Nat.lt_of_lt_of_le hz0.out hb.size))
    | (go_at_call 66; go_must (refine (refNull_any _).mono ?_; rintro e w' ⟨rfl, hb'⟩; replace hb := chainB (B := W0.heap.size) (a := W0) (by go_grown) hb' (by have := hb.size; first | omega | (simp; done) | (simp; omega)); clear hb' r0_ r1_ r2_ r3_ f0_ f1_ f2_ f3_ hz; obtain ⟨r0_, r1_, r2_, r3_⟩ := (hRH.out.below hb).cells; obtain ⟨f0_, f1_, f2_, f3_⟩ := (hRH.out.below hb).free; have hz := Nat.lt_of_lt_of_le hz0.out hb.size)))
  refine bodyPost_ret (v := .tuple #[.agg #[.int .u8 0, .bool false, .int .i64 0, .string ⟨#[]⟩], .int .i64 13]) (by simp [results, Tryd.results76, go_sem, r0_, r1_, r2_, r3_, hz]) rfl ⟨rfl, ?_⟩
  have hbw := hwWH.out.trans (hb.mono hwWH.out.size)
  clear hb
  go_grown

set_option maxRecDepth 100000 in
set_option maxHeartbeats 8000000 in
theorem refNum1_null (x : Int) (e0 : Int) (k0 : Int) (b0 : Bool) (n0 : Int) (s0 : ByteArray) (bk : Nat) (T : TypeId) (w : World) (hbk : w.heap[bk]? = some (.cells #[.int .u8 k0, .bool b0, .int .i64 n0, .string s0] T (0, 0))) (hs0 : s0.size ≤ 140737488355328) (f0 : fitsD 3 ⟨k0, b0, n0, s0⟩ = true) (hn : k0 = 1) :
    Calls Tryd.prog 76 #[.int .i64 x, .int .i64 e0, .slice (some ⟨bk, 0, none⟩) 1 1] w fun e w' => e = .returned (refV (numS (intD 0) ⟨k0, b0, n0, s0⟩ (x, e0))) ∧ Below w.heap.size w w' := by
  have hoH := Lib.hid (show ofS 3 [⟨k0, b0, n0, s0⟩] = 1 by unfold ofS; rw [if_pos (by simp [f0]), if_pos (by simp; exact hn)])
  rw [refV_mk (show numS (intD 0) ⟨k0, b0, n0, s0⟩ (x, e0) = (⟨1, false, 0, ⟨#[]⟩⟩, 0) by exact numS_null2 (show fitsD 3 (intD 0) = true by decide) f0 (show ¬ (intD 0).k = 1 by decide) hn)]
  have hs0H := Lib.hid hs0
  obtain ⟨W0, hW0, hwW, hR, hzz⟩ := box0 w
  have hbkH := Lib.hid (show W0.heap[bk]? = some (.cells #[.int .u8 k0, .bool b0, .int .i64 n0, .string s0] T (0, 0)) by rw [← hW0]; exact (Lib.alloc_old w _ bk (Go.Proofs.YtlodohgoondkhaaDoor.lt_of_blk hbk)).trans hbk)
  have hRH := Lib.hid hR; have hz0 := Lib.hid hzz; have hwWH := Lib.hid hwW
  clear hR hzz hwW hbk hs0 f0 hn
  have hb := Below.refl W0.heap.size W0
  obtain ⟨r0_, r1_, r2_, r3_⟩ := (hRH.out.below hb).cells; obtain ⟨f0_, f1_, f2_, f3_⟩ := (hRH.out.below hb).free; have hz := Nat.lt_of_lt_of_le hz0.out hb.size
  go_enter Tryd.func76, Tryd.ntmps76
  go_wp2_with (first
    | (go_at_call 83; go_must (refine (refOf1 3 k0 b0 n0 s0 _ _ _ hbkH.out hs0H.out).mono ?_; rw [hoH.out]; rintro e w' ⟨rfl, hb'⟩; replace hb := chainB (B := W0.heap.size) (a := W0) (by go_grown) hb' (by have := hb.size; first | omega | (simp; done) | (simp; omega)); clear hb' r0_ r1_ r2_ r3_ f0_ f1_ f2_ f3_ hz; obtain ⟨r0_, r1_, r2_, r3_⟩ := (hRH.out.below hb).cells; obtain ⟨f0_, f1_, f2_, f3_⟩ := (hRH.out.below hb).free; have hz := Nat.lt_of_lt_of_le hz0.out hb.size))
    | (go_at_call 66; go_must (refine (refNull_any _).mono ?_; rintro e w' ⟨rfl, hb'⟩; replace hb := chainB (B := W0.heap.size) (a := W0) (by go_grown) hb' (by have := hb.size; first | omega | (simp; done) | (simp; omega)); clear hb' r0_ r1_ r2_ r3_ f0_ f1_ f2_ f3_ hz; obtain ⟨r0_, r1_, r2_, r3_⟩ := (hRH.out.below hb).cells; obtain ⟨f0_, f1_, f2_, f3_⟩ := (hRH.out.below hb).free; have hz := Nat.lt_of_lt_of_le hz0.out hb.size)))
  refine bodyPost_ret (v := .tuple #[.agg #[.int .u8 1, .bool false, .int .i64 0, .string ⟨#[]⟩], .int .i64 0]) (by simp [results, Tryd.results76, go_sem, r0_, r1_, r2_, r3_, hz]) rfl ⟨rfl, ?_⟩
  have hbw := hwWH.out.trans (hb.mono hwWH.out.size)
  clear hb
  go_grown

set_option maxRecDepth 100000 in
set_option maxHeartbeats 8000000 in
theorem refNum1_err (x : Int) (e0 : Int) (k0 : Int) (b0 : Bool) (n0 : Int) (s0 : ByteArray) (bk : Nat) (T : TypeId) (w : World) (hbk : w.heap[bk]? = some (.cells #[.int .u8 k0, .bool b0, .int .i64 n0, .string s0] T (0, 0))) (hs0 : s0.size ≤ 140737488355328) (f0 : fitsD 3 ⟨k0, b0, n0, s0⟩ = true) (c0 : ¬ k0 = 1) (he : ¬ e0 = 0) (hg : (e0 != 0) = true) :
    Calls Tryd.prog 76 #[.int .i64 x, .int .i64 e0, .slice (some ⟨bk, 0, none⟩) 1 1] w fun e w' => e = .returned (refV (numS (intD 0) ⟨k0, b0, n0, s0⟩ (x, e0))) ∧ Below w.heap.size w w' := by
  have hoH := Lib.hid (show ofS 3 [⟨k0, b0, n0, s0⟩] = 0 by unfold ofS; simp [List.all, f0, c0])
  rw [refV_mk (show numS (intD 0) ⟨k0, b0, n0, s0⟩ (x, e0) = (⟨0, false, 0, ⟨#[]⟩⟩, e0) by exact numS_err (show fitsD 3 (intD 0) = true by decide) f0 (show ¬ (intD 0).k = 1 by decide) c0 he)]
  have hs0H := Lib.hid hs0
  obtain ⟨W0, hW0, hwW, hR, hzz⟩ := box0 w
  have hbkH := Lib.hid (show W0.heap[bk]? = some (.cells #[.int .u8 k0, .bool b0, .int .i64 n0, .string s0] T (0, 0)) by rw [← hW0]; exact (Lib.alloc_old w _ bk (Go.Proofs.YtlodohgoondkhaaDoor.lt_of_blk hbk)).trans hbk)
  have hRH := Lib.hid hR; have hz0 := Lib.hid hzz; have hwWH := Lib.hid hwW
  clear hR hzz hwW hbk hs0 f0 c0 he
  have hb := Below.refl W0.heap.size W0
  obtain ⟨r0_, r1_, r2_, r3_⟩ := (hRH.out.below hb).cells; obtain ⟨f0_, f1_, f2_, f3_⟩ := (hRH.out.below hb).free; have hz := Nat.lt_of_lt_of_le hz0.out hb.size
  go_enter Tryd.func76, Tryd.ntmps76
  go_wp2_with (first
    | (go_at_call 83; go_must (refine (refOf1 3 k0 b0 n0 s0 _ _ _ hbkH.out hs0H.out).mono ?_; rw [hoH.out]; rintro e w' ⟨rfl, hb'⟩; replace hb := chainB (B := W0.heap.size) (a := W0) (by go_grown) hb' (by have := hb.size; first | omega | (simp; done) | (simp; omega)); clear hb' r0_ r1_ r2_ r3_ f0_ f1_ f2_ f3_ hz; obtain ⟨r0_, r1_, r2_, r3_⟩ := (hRH.out.below hb).cells; obtain ⟨f0_, f1_, f2_, f3_⟩ := (hRH.out.below hb).free; have hz := Nat.lt_of_lt_of_le hz0.out hb.size))
    | (go_at_call 66; go_must (refine (refNull_any _).mono ?_; rintro e w' ⟨rfl, hb'⟩; replace hb := chainB (B := W0.heap.size) (a := W0) (by go_grown) hb' (by have := hb.size; first | omega | (simp; done) | (simp; omega)); clear hb' r0_ r1_ r2_ r3_ f0_ f1_ f2_ f3_ hz; obtain ⟨r0_, r1_, r2_, r3_⟩ := (hRH.out.below hb).cells; obtain ⟨f0_, f1_, f2_, f3_⟩ := (hRH.out.below hb).free; have hz := Nat.lt_of_lt_of_le hz0.out hb.size)))
  refine bodyPost_ret (v := .tuple #[.agg #[.int .u8 0, .bool false, .int .i64 0, .string ⟨#[]⟩], .int .i64 e0]) (by simp [results, Tryd.results76, go_sem, r0_, r1_, r2_, r3_, hz]) rfl ⟨rfl, ?_⟩
  have hbw := hwWH.out.trans (hb.mono hwWH.out.size)
  clear hb
  go_grown

set_option maxRecDepth 100000 in
set_option maxHeartbeats 8000000 in
theorem refNum1_ok (x : Int) (k0 : Int) (b0 : Bool) (n0 : Int) (s0 : ByteArray) (bk : Nat) (T : TypeId) (w : World) (hbk : w.heap[bk]? = some (.cells #[.int .u8 k0, .bool b0, .int .i64 n0, .string s0] T (0, 0))) (hs0 : s0.size ≤ 140737488355328) (f0 : fitsD 3 ⟨k0, b0, n0, s0⟩ = true) (c0 : ¬ k0 = 1) :
    Calls Tryd.prog 76 #[.int .i64 x, .int .i64 0, .slice (some ⟨bk, 0, none⟩) 1 1] w fun e w' => e = .returned (refV (numS (intD 0) ⟨k0, b0, n0, s0⟩ (x, 0))) ∧ Below w.heap.size w w' := by
  have hoH := Lib.hid (show ofS 3 [⟨k0, b0, n0, s0⟩] = 0 by unfold ofS; simp [List.all, f0, c0])
  rw [refV_mk (show numS (intD 0) ⟨k0, b0, n0, s0⟩ (x, 0) = (⟨3, false, x, ⟨#[]⟩⟩, 0) by exact numS_ok (show fitsD 3 (intD 0) = true by decide) f0 (show ¬ (intD 0).k = 1 by decide) c0 rfl)]
  have hs0H := Lib.hid hs0
  obtain ⟨W0, hW0, hwW, hR, hzz⟩ := box0 w
  have hbkH := Lib.hid (show W0.heap[bk]? = some (.cells #[.int .u8 k0, .bool b0, .int .i64 n0, .string s0] T (0, 0)) by rw [← hW0]; exact (Lib.alloc_old w _ bk (Go.Proofs.YtlodohgoondkhaaDoor.lt_of_blk hbk)).trans hbk)
  have hRH := Lib.hid hR; have hz0 := Lib.hid hzz; have hwWH := Lib.hid hwW
  clear hR hzz hwW hbk hs0 f0 c0
  have hb := Below.refl W0.heap.size W0
  obtain ⟨r0_, r1_, r2_, r3_⟩ := (hRH.out.below hb).cells; obtain ⟨f0_, f1_, f2_, f3_⟩ := (hRH.out.below hb).free; have hz := Nat.lt_of_lt_of_le hz0.out hb.size
  go_enter Tryd.func76, Tryd.ntmps76
  go_wp2_with (first
    | (go_at_call 83; go_must (refine (refOf1 3 k0 b0 n0 s0 _ _ _ hbkH.out hs0H.out).mono ?_; rw [hoH.out]; rintro e w' ⟨rfl, hb'⟩; replace hb := chainB (B := W0.heap.size) (a := W0) (by go_grown) hb' (by have := hb.size; first | omega | (simp; done) | (simp; omega)); clear hb' r0_ r1_ r2_ r3_ f0_ f1_ f2_ f3_ hz; obtain ⟨r0_, r1_, r2_, r3_⟩ := (hRH.out.below hb).cells; obtain ⟨f0_, f1_, f2_, f3_⟩ := (hRH.out.below hb).free; have hz := Nat.lt_of_lt_of_le hz0.out hb.size))
    | (go_at_call 66; go_must (refine (refNull_any _).mono ?_; rintro e w' ⟨rfl, hb'⟩; replace hb := chainB (B := W0.heap.size) (a := W0) (by go_grown) hb' (by have := hb.size; first | omega | (simp; done) | (simp; omega)); clear hb' r0_ r1_ r2_ r3_ f0_ f1_ f2_ f3_ hz; obtain ⟨r0_, r1_, r2_, r3_⟩ := (hRH.out.below hb).cells; obtain ⟨f0_, f1_, f2_, f3_⟩ := (hRH.out.below hb).free; have hz := Nat.lt_of_lt_of_le hz0.out hb.size))
    | (go_at_call 51; go_must (refine (refInt_any _ _).mono ?_; rintro e w' ⟨rfl, hb'⟩; replace hb := chainB (B := W0.heap.size) (a := W0) (by go_grown) hb' (by have := hb.size; first | omega | (simp; done) | (simp; omega)); clear hb' r0_ r1_ r2_ r3_ f0_ f1_ f2_ f3_ hz; obtain ⟨r0_, r1_, r2_, r3_⟩ := (hRH.out.below hb).cells; obtain ⟨f0_, f1_, f2_, f3_⟩ := (hRH.out.below hb).free; have hz := Nat.lt_of_lt_of_le hz0.out hb.size)))
  refine bodyPost_ret (v := .tuple #[.agg #[.int .u8 3, .bool false, .int .i64 x, .string ⟨#[]⟩], .int .i64 0]) (by simp [results, Tryd.results76, go_sem, r0_, r1_, r2_, r3_, hz]) rfl ⟨rfl, ?_⟩
  have hbw := hwWH.out.trans (hb.mono hwWH.out.size)
  clear hb
  go_grown

theorem refNum1_any (x e0 : Int) (k0 : Int) (b0 : Bool) (n0 : Int) (s0 : ByteArray) (bk : Nat) (T : TypeId) (w : World) (hbk : w.heap[bk]? = some (.cells #[.int .u8 k0, .bool b0, .int .i64 n0, .string s0] T (0, 0))) (hs0 : s0.size ≤ 140737488355328) :
    Calls Tryd.prog 76 #[.int .i64 x, .int .i64 e0, .slice (some ⟨bk, 0, none⟩) 1 1] w fun e w' => e = .returned (refV (numS (intD 0) ⟨k0, b0, n0, s0⟩ (x, e0))) ∧ Below w.heap.size w w' := by
  by_cases hf : fitsD 3 ⟨k0, b0, n0, s0⟩ = false
  · exact refNum1_bad x e0 k0 b0 n0 s0 bk T w hbk hs0 hf
  rw [Bool.not_eq_false] at hf
  by_cases c0 : k0 = 1
  · exact refNum1_null x e0 k0 b0 n0 s0 bk T w hbk hs0 hf c0
  by_cases he : e0 = 0
  · subst he
    exact refNum1_ok x k0 b0 n0 s0 bk T w hbk hs0 hf c0
  · exact refNum1_err x e0 k0 b0 n0 s0 bk T w hbk hs0 hf c0 he (by simpa using he)

set_option maxRecDepth 100000 in
set_option maxHeartbeats 8000000 in
theorem refNum2_bad (x : Int) (e0 : Int) (k0 : Int) (b0 : Bool) (n0 : Int) (s0 : ByteArray) (k1 : Int) (b1 : Bool) (n1 : Int) (s1 : ByteArray) (bk : Nat) (T : TypeId) (w : World) (hbk : w.heap[bk]? = some (.cells #[.int .u8 k0, .bool b0, .int .i64 n0, .string s0, .int .u8 k1, .bool b1, .int .i64 n1, .string s1] T (0, 0))) (hs0 : s0.size ≤ 140737488355328) (hs1 : s1.size ≤ 140737488355328) (hf : (fitsD 3 ⟨k0, b0, n0, s0⟩ && fitsD 3 ⟨k1, b1, n1, s1⟩) = false) :
    Calls Tryd.prog 76 #[.int .i64 x, .int .i64 e0, .slice (some ⟨bk, 0, none⟩) 2 2] w fun e w' => e = .returned (refV (numS ⟨k0, b0, n0, s0⟩ ⟨k1, b1, n1, s1⟩ (x, e0))) ∧ Below w.heap.size w w' := by
  have hoH := Lib.hid (show ofS 3 [⟨k0, b0, n0, s0⟩, ⟨k1, b1, n1, s1⟩] = -1 by unfold ofS; simp [List.all, hf])
  rw [refV_mk (show numS ⟨k0, b0, n0, s0⟩ ⟨k1, b1, n1, s1⟩ (x, e0) = (⟨0, false, 0, ⟨#[]⟩⟩, 13) by rw [Bool.and_eq_false_iff] at hf; by_cases g : fitsD 3 ⟨k0, b0, n0, s0⟩ = false; exact numS_bad1 g; exact numS_bad2 (by simpa using g) (hf.resolve_left g))]
  have hs0H := Lib.hid hs0; have hs1H := Lib.hid hs1
  obtain ⟨W0, hW0, hwW, hR, hzz⟩ := box0 w
  have hbkH := Lib.hid (show W0.heap[bk]? = some (.cells #[.int .u8 k0, .bool b0, .int .i64 n0, .string s0, .int .u8 k1, .bool b1, .int .i64 n1, .string s1] T (0, 0)) by rw [← hW0]; exact (Lib.alloc_old w _ bk (Go.Proofs.YtlodohgoondkhaaDoor.lt_of_blk hbk)).trans hbk)
  have hRH := Lib.hid hR; have hz0 := Lib.hid hzz; have hwWH := Lib.hid hwW
  clear hR hzz hwW hbk hs0 hs1 hf
  have hb := Below.refl W0.heap.size W0
  obtain ⟨r0_, r1_, r2_, r3_⟩ := (hRH.out.below hb).cells; obtain ⟨f0_, f1_, f2_, f3_⟩ := (hRH.out.below hb).free; have hz := Nat.lt_of_lt_of_le hz0.out hb.size
  go_enter Tryd.func76, Tryd.ntmps76
  go_wp2_with (first
    | (go_at_call 83; go_must (refine (refOf2 3 k0 b0 n0 s0 k1 b1 n1 s1 _ _ _ hbkH.out hs0H.out hs1H.out).mono ?_; rw [hoH.out]; rintro e w' ⟨rfl, hb'⟩; replace hb := chainB (B := W0.heap.size) (a := W0) (by go_grown) hb' (by have := hb.size; first | omega | (simp; done) | (simp; omega)); clear hb' r0_ r1_ r2_ r3_ f0_ f1_ f2_ f3_ hz; obtain ⟨r0_, r1_, r2_, r3_⟩ := (hRH.out.below hb).cells; obtain ⟨f0_, f1_, f2_, f3_⟩ := (hRH.out.below hb).free; have hz := Nat.lt_of_lt_of_le hz0.out hb.size))
    | (go_at_call 66; go_must (refine (refNull_any _).mono ?_; rintro e w' ⟨rfl, hb'⟩; replace hb := chainB (B := W0.heap.size) (a := W0) (by go_grown) hb' (by have := hb.size; first | omega | (simp; done) | (simp; omega)); clear hb' r0_ r1_ r2_ r3_ f0_ f1_ f2_ f3_ hz; obtain ⟨r0_, r1_, r2_, r3_⟩ := (hRH.out.below hb).cells; obtain ⟨f0_, f1_, f2_, f3_⟩ := (hRH.out.below hb).free; have hz := Nat.lt_of_lt_of_le hz0.out hb.size)))
  refine bodyPost_ret (v := .tuple #[.agg #[.int .u8 0, .bool false, .int .i64 0, .string ⟨#[]⟩], .int .i64 13]) (by simp [results, Tryd.results76, go_sem, r0_, r1_, r2_, r3_, hz]) rfl ⟨rfl, ?_⟩
  have hbw := hwWH.out.trans (hb.mono hwWH.out.size)
  clear hb
  go_grown

set_option maxRecDepth 100000 in
set_option maxHeartbeats 8000000 in
theorem refNum2_null (x : Int) (e0 : Int) (k0 : Int) (b0 : Bool) (n0 : Int) (s0 : ByteArray) (k1 : Int) (b1 : Bool) (n1 : Int) (s1 : ByteArray) (bk : Nat) (T : TypeId) (w : World) (hbk : w.heap[bk]? = some (.cells #[.int .u8 k0, .bool b0, .int .i64 n0, .string s0, .int .u8 k1, .bool b1, .int .i64 n1, .string s1] T (0, 0))) (hs0 : s0.size ≤ 140737488355328) (hs1 : s1.size ≤ 140737488355328) (f0 : fitsD 3 ⟨k0, b0, n0, s0⟩ = true) (f1 : fitsD 3 ⟨k1, b1, n1, s1⟩ = true) (hn : k0 = 1 ∨ k1 = 1) :
    Calls Tryd.prog 76 #[.int .i64 x, .int .i64 e0, .slice (some ⟨bk, 0, none⟩) 2 2] w fun e w' => e = .returned (refV (numS ⟨k0, b0, n0, s0⟩ ⟨k1, b1, n1, s1⟩ (x, e0))) ∧ Below w.heap.size w w' := by
  have hoH := Lib.hid (show ofS 3 [⟨k0, b0, n0, s0⟩, ⟨k1, b1, n1, s1⟩] = 1 by unfold ofS; rw [if_pos (by simp [f0, f1]), if_pos (by simp; exact hn)])
  rw [refV_mk (show numS ⟨k0, b0, n0, s0⟩ ⟨k1, b1, n1, s1⟩ (x, e0) = (⟨1, false, 0, ⟨#[]⟩⟩, 0) by by_cases h : k0 = 1; exact numS_null1 f0 f1 h; exact numS_null2 f0 f1 h (hn.resolve_left h))]
  have hs0H := Lib.hid hs0; have hs1H := Lib.hid hs1
  obtain ⟨W0, hW0, hwW, hR, hzz⟩ := box0 w
  have hbkH := Lib.hid (show W0.heap[bk]? = some (.cells #[.int .u8 k0, .bool b0, .int .i64 n0, .string s0, .int .u8 k1, .bool b1, .int .i64 n1, .string s1] T (0, 0)) by rw [← hW0]; exact (Lib.alloc_old w _ bk (Go.Proofs.YtlodohgoondkhaaDoor.lt_of_blk hbk)).trans hbk)
  have hRH := Lib.hid hR; have hz0 := Lib.hid hzz; have hwWH := Lib.hid hwW
  clear hR hzz hwW hbk hs0 hs1 f0 f1 hn
  have hb := Below.refl W0.heap.size W0
  obtain ⟨r0_, r1_, r2_, r3_⟩ := (hRH.out.below hb).cells; obtain ⟨f0_, f1_, f2_, f3_⟩ := (hRH.out.below hb).free; have hz := Nat.lt_of_lt_of_le hz0.out hb.size
  go_enter Tryd.func76, Tryd.ntmps76
  go_wp2_with (first
    | (go_at_call 83; go_must (refine (refOf2 3 k0 b0 n0 s0 k1 b1 n1 s1 _ _ _ hbkH.out hs0H.out hs1H.out).mono ?_; rw [hoH.out]; rintro e w' ⟨rfl, hb'⟩; replace hb := chainB (B := W0.heap.size) (a := W0) (by go_grown) hb' (by have := hb.size; first | omega | (simp; done) | (simp; omega)); clear hb' r0_ r1_ r2_ r3_ f0_ f1_ f2_ f3_ hz; obtain ⟨r0_, r1_, r2_, r3_⟩ := (hRH.out.below hb).cells; obtain ⟨f0_, f1_, f2_, f3_⟩ := (hRH.out.below hb).free; have hz := Nat.lt_of_lt_of_le hz0.out hb.size))
    | (go_at_call 66; go_must (refine (refNull_any _).mono ?_; rintro e w' ⟨rfl, hb'⟩; replace hb := chainB (B := W0.heap.size) (a := W0) (by go_grown) hb' (by have := hb.size; first | omega | (simp; done) | (simp; omega)); clear hb' r0_ r1_ r2_ r3_ f0_ f1_ f2_ f3_ hz; obtain ⟨r0_, r1_, r2_, r3_⟩ := (hRH.out.below hb).cells; obtain ⟨f0_, f1_, f2_, f3_⟩ := (hRH.out.below hb).free; have hz := Nat.lt_of_lt_of_le hz0.out hb.size)))
  refine bodyPost_ret (v := .tuple #[.agg #[.int .u8 1, .bool false, .int .i64 0, .string ⟨#[]⟩], .int .i64 0]) (by simp [results, Tryd.results76, go_sem, r0_, r1_, r2_, r3_, hz]) rfl ⟨rfl, ?_⟩
  have hbw := hwWH.out.trans (hb.mono hwWH.out.size)
  clear hb
  go_grown

set_option maxRecDepth 100000 in
set_option maxHeartbeats 8000000 in
theorem refNum2_err (x : Int) (e0 : Int) (k0 : Int) (b0 : Bool) (n0 : Int) (s0 : ByteArray) (k1 : Int) (b1 : Bool) (n1 : Int) (s1 : ByteArray) (bk : Nat) (T : TypeId) (w : World) (hbk : w.heap[bk]? = some (.cells #[.int .u8 k0, .bool b0, .int .i64 n0, .string s0, .int .u8 k1, .bool b1, .int .i64 n1, .string s1] T (0, 0))) (hs0 : s0.size ≤ 140737488355328) (hs1 : s1.size ≤ 140737488355328) (f0 : fitsD 3 ⟨k0, b0, n0, s0⟩ = true) (f1 : fitsD 3 ⟨k1, b1, n1, s1⟩ = true) (c0 : ¬ k0 = 1) (c1 : ¬ k1 = 1) (he : ¬ e0 = 0) (hg : (e0 != 0) = true) :
    Calls Tryd.prog 76 #[.int .i64 x, .int .i64 e0, .slice (some ⟨bk, 0, none⟩) 2 2] w fun e w' => e = .returned (refV (numS ⟨k0, b0, n0, s0⟩ ⟨k1, b1, n1, s1⟩ (x, e0))) ∧ Below w.heap.size w w' := by
  have hoH := Lib.hid (show ofS 3 [⟨k0, b0, n0, s0⟩, ⟨k1, b1, n1, s1⟩] = 0 by unfold ofS; simp [List.all, f0, f1, c0, c1])
  rw [refV_mk (show numS ⟨k0, b0, n0, s0⟩ ⟨k1, b1, n1, s1⟩ (x, e0) = (⟨0, false, 0, ⟨#[]⟩⟩, e0) by exact numS_err f0 f1 c0 c1 he)]
  have hs0H := Lib.hid hs0; have hs1H := Lib.hid hs1
  obtain ⟨W0, hW0, hwW, hR, hzz⟩ := box0 w
  have hbkH := Lib.hid (show W0.heap[bk]? = some (.cells #[.int .u8 k0, .bool b0, .int .i64 n0, .string s0, .int .u8 k1, .bool b1, .int .i64 n1, .string s1] T (0, 0)) by rw [← hW0]; exact (Lib.alloc_old w _ bk (Go.Proofs.YtlodohgoondkhaaDoor.lt_of_blk hbk)).trans hbk)
  have hRH := Lib.hid hR; have hz0 := Lib.hid hzz; have hwWH := Lib.hid hwW
  clear hR hzz hwW hbk hs0 hs1 f0 f1 c0 c1 he
  have hb := Below.refl W0.heap.size W0
  obtain ⟨r0_, r1_, r2_, r3_⟩ := (hRH.out.below hb).cells; obtain ⟨f0_, f1_, f2_, f3_⟩ := (hRH.out.below hb).free; have hz := Nat.lt_of_lt_of_le hz0.out hb.size
  go_enter Tryd.func76, Tryd.ntmps76
  go_wp2_with (first
    | (go_at_call 83; go_must (refine (refOf2 3 k0 b0 n0 s0 k1 b1 n1 s1 _ _ _ hbkH.out hs0H.out hs1H.out).mono ?_; rw [hoH.out]; rintro e w' ⟨rfl, hb'⟩; replace hb := chainB (B := W0.heap.size) (a := W0) (by go_grown) hb' (by have := hb.size; first | omega | (simp; done) | (simp; omega)); clear hb' r0_ r1_ r2_ r3_ f0_ f1_ f2_ f3_ hz; obtain ⟨r0_, r1_, r2_, r3_⟩ := (hRH.out.below hb).cells; obtain ⟨f0_, f1_, f2_, f3_⟩ := (hRH.out.below hb).free; have hz := Nat.lt_of_lt_of_le hz0.out hb.size))
    | (go_at_call 66; go_must (refine (refNull_any _).mono ?_; rintro e w' ⟨rfl, hb'⟩; replace hb := chainB (B := W0.heap.size) (a := W0) (by go_grown) hb' (by have := hb.size; first | omega | (simp; done) | (simp; omega)); clear hb' r0_ r1_ r2_ r3_ f0_ f1_ f2_ f3_ hz; obtain ⟨r0_, r1_, r2_, r3_⟩ := (hRH.out.below hb).cells; obtain ⟨f0_, f1_, f2_, f3_⟩ := (hRH.out.below hb).free; have hz := Nat.lt_of_lt_of_le hz0.out hb.size)))
  refine bodyPost_ret (v := .tuple #[.agg #[.int .u8 0, .bool false, .int .i64 0, .string ⟨#[]⟩], .int .i64 e0]) (by simp [results, Tryd.results76, go_sem, r0_, r1_, r2_, r3_, hz]) rfl ⟨rfl, ?_⟩
  have hbw := hwWH.out.trans (hb.mono hwWH.out.size)
  clear hb
  go_grown

set_option maxRecDepth 100000 in
set_option maxHeartbeats 8000000 in
theorem refNum2_ok (x : Int) (k0 : Int) (b0 : Bool) (n0 : Int) (s0 : ByteArray) (k1 : Int) (b1 : Bool) (n1 : Int) (s1 : ByteArray) (bk : Nat) (T : TypeId) (w : World) (hbk : w.heap[bk]? = some (.cells #[.int .u8 k0, .bool b0, .int .i64 n0, .string s0, .int .u8 k1, .bool b1, .int .i64 n1, .string s1] T (0, 0))) (hs0 : s0.size ≤ 140737488355328) (hs1 : s1.size ≤ 140737488355328) (f0 : fitsD 3 ⟨k0, b0, n0, s0⟩ = true) (f1 : fitsD 3 ⟨k1, b1, n1, s1⟩ = true) (c0 : ¬ k0 = 1) (c1 : ¬ k1 = 1) :
    Calls Tryd.prog 76 #[.int .i64 x, .int .i64 0, .slice (some ⟨bk, 0, none⟩) 2 2] w fun e w' => e = .returned (refV (numS ⟨k0, b0, n0, s0⟩ ⟨k1, b1, n1, s1⟩ (x, 0))) ∧ Below w.heap.size w w' := by
  have hoH := Lib.hid (show ofS 3 [⟨k0, b0, n0, s0⟩, ⟨k1, b1, n1, s1⟩] = 0 by unfold ofS; simp [List.all, f0, f1, c0, c1])
  rw [refV_mk (show numS ⟨k0, b0, n0, s0⟩ ⟨k1, b1, n1, s1⟩ (x, 0) = (⟨3, false, x, ⟨#[]⟩⟩, 0) by exact numS_ok f0 f1 c0 c1 rfl)]
  have hs0H := Lib.hid hs0; have hs1H := Lib.hid hs1
  obtain ⟨W0, hW0, hwW, hR, hzz⟩ := box0 w
  have hbkH := Lib.hid (show W0.heap[bk]? = some (.cells #[.int .u8 k0, .bool b0, .int .i64 n0, .string s0, .int .u8 k1, .bool b1, .int .i64 n1, .string s1] T (0, 0)) by rw [← hW0]; exact (Lib.alloc_old w _ bk (Go.Proofs.YtlodohgoondkhaaDoor.lt_of_blk hbk)).trans hbk)
  have hRH := Lib.hid hR; have hz0 := Lib.hid hzz; have hwWH := Lib.hid hwW
  clear hR hzz hwW hbk hs0 hs1 f0 f1 c0 c1
  have hb := Below.refl W0.heap.size W0
  obtain ⟨r0_, r1_, r2_, r3_⟩ := (hRH.out.below hb).cells; obtain ⟨f0_, f1_, f2_, f3_⟩ := (hRH.out.below hb).free; have hz := Nat.lt_of_lt_of_le hz0.out hb.size
  go_enter Tryd.func76, Tryd.ntmps76
  go_wp2_with (first
    | (go_at_call 83; go_must (refine (refOf2 3 k0 b0 n0 s0 k1 b1 n1 s1 _ _ _ hbkH.out hs0H.out hs1H.out).mono ?_; rw [hoH.out]; rintro e w' ⟨rfl, hb'⟩; replace hb := chainB (B := W0.heap.size) (a := W0) (by go_grown) hb' (by have := hb.size; first | omega | (simp; done) | (simp; omega)); clear hb' r0_ r1_ r2_ r3_ f0_ f1_ f2_ f3_ hz; obtain ⟨r0_, r1_, r2_, r3_⟩ := (hRH.out.below hb).cells; obtain ⟨f0_, f1_, f2_, f3_⟩ := (hRH.out.below hb).free; have hz := Nat.lt_of_lt_of_le hz0.out hb.size))
    | (go_at_call 66; go_must (refine (refNull_any _).mono ?_; rintro e w' ⟨rfl, hb'⟩; replace hb := chainB (B := W0.heap.size) (a := W0) (by go_grown) hb' (by have := hb.size; first | omega | (simp; done) | (simp; omega)); clear hb' r0_ r1_ r2_ r3_ f0_ f1_ f2_ f3_ hz; obtain ⟨r0_, r1_, r2_, r3_⟩ := (hRH.out.below hb).cells; obtain ⟨f0_, f1_, f2_, f3_⟩ := (hRH.out.below hb).free; have hz := Nat.lt_of_lt_of_le hz0.out hb.size))
    | (go_at_call 51; go_must (refine (refInt_any _ _).mono ?_; rintro e w' ⟨rfl, hb'⟩; replace hb := chainB (B := W0.heap.size) (a := W0) (by go_grown) hb' (by have := hb.size; first | omega | (simp; done) | (simp; omega)); clear hb' r0_ r1_ r2_ r3_ f0_ f1_ f2_ f3_ hz; obtain ⟨r0_, r1_, r2_, r3_⟩ := (hRH.out.below hb).cells; obtain ⟨f0_, f1_, f2_, f3_⟩ := (hRH.out.below hb).free; have hz := Nat.lt_of_lt_of_le hz0.out hb.size)))
  refine bodyPost_ret (v := .tuple #[.agg #[.int .u8 3, .bool false, .int .i64 x, .string ⟨#[]⟩], .int .i64 0]) (by simp [results, Tryd.results76, go_sem, r0_, r1_, r2_, r3_, hz]) rfl ⟨rfl, ?_⟩
  have hbw := hwWH.out.trans (hb.mono hwWH.out.size)
  clear hb
  go_grown

theorem refNum2_any (x e0 : Int) (k0 : Int) (b0 : Bool) (n0 : Int) (s0 : ByteArray) (k1 : Int) (b1 : Bool) (n1 : Int) (s1 : ByteArray) (bk : Nat) (T : TypeId) (w : World) (hbk : w.heap[bk]? = some (.cells #[.int .u8 k0, .bool b0, .int .i64 n0, .string s0, .int .u8 k1, .bool b1, .int .i64 n1, .string s1] T (0, 0))) (hs0 : s0.size ≤ 140737488355328) (hs1 : s1.size ≤ 140737488355328) :
    Calls Tryd.prog 76 #[.int .i64 x, .int .i64 e0, .slice (some ⟨bk, 0, none⟩) 2 2] w fun e w' => e = .returned (refV (numS ⟨k0, b0, n0, s0⟩ ⟨k1, b1, n1, s1⟩ (x, e0))) ∧ Below w.heap.size w w' := by
  by_cases hf : (fitsD 3 ⟨k0, b0, n0, s0⟩ && fitsD 3 ⟨k1, b1, n1, s1⟩) = false
  · exact refNum2_bad x e0 k0 b0 n0 s0 k1 b1 n1 s1 bk T w hbk hs0 hs1 hf
  rw [Bool.not_eq_false, Bool.and_eq_true] at hf
  by_cases c0 : k0 = 1
  · exact refNum2_null x e0 k0 b0 n0 s0 k1 b1 n1 s1 bk T w hbk hs0 hs1 hf.1 hf.2 (.inl c0)
  by_cases c1 : k1 = 1
  · exact refNum2_null x e0 k0 b0 n0 s0 k1 b1 n1 s1 bk T w hbk hs0 hs1 hf.1 hf.2 (.inr c1)
  by_cases he : e0 = 0
  · subst he
    exact refNum2_ok x k0 b0 n0 s0 k1 b1 n1 s1 bk T w hbk hs0 hs1 hf.1 hf.2 c0 c1
  · exact refNum2_err x e0 k0 b0 n0 s0 k1 b1 n1 s1 bk T w hbk hs0 hs1 hf.1 hf.2 c0 c1 he (by simpa using he)

end Go.Proofs.YtlodohgoondkhaaDoor
