/-
  What stamp.Cmp answers, at this program: of any two times. No condition.
-/
import Derived.Test.YtdfhchpimpbgfaaGreatDoorStCmp
import Derived.Deep.RegionHeld3
set_option linter.unusedVariables false
set_option linter.unusedSimpArgs false
namespace Go.Proofs.YtdfhchpimpbgfaaGreatDoor
open Go.RowKit Go.Lib

theorem SlV.lit (w : World) (xs : List Value) (t : TypeId) (h : xs.length ≤ 9223372036854775807) : SlV (w.alloc (.cells xs.toArray t)) 1 (.slice (some ⟨w.heap.size, 0, none⟩) xs.length xs.length) xs.length xs := by
  refine ⟨by simp, _, _, rfl, Nat.le_refl _, h, (fun h => by cases h), fun _ => ⟨_, rfl, ?_, fun j u hj => ?_⟩⟩
  · show w.heap.size < _
    simp
  · rw [show (⟨w.heap.size, 0, none⟩ : Addr).add j = ⟨w.heap.size, j, none⟩ by unfold Addr.add; split <;> simp_all]
    rw [cell_new]
    simpa using hj
theorem lit3 (w : World) (x y z : Value) (t : TypeId) : SlV (w.alloc (.cells #[x, y, z] t)).drew 1 (.slice (some ⟨w.heap.size, 0, none⟩) 3 3) 3 [x, y, z] := (SlV.lit w [x, y, z] t (by simp)).drew
theorem firstNZ3 (x y z : Int) : firstNZ [x, y, z] = orI x (orI y z) := by
  unfold orI
  rw [firstNZ]
  split
  · rw [firstNZ]
    split
    · rw [firstNZ]
      split
      · next h => rw [h]; rfl
      · rfl
    · rfl
  · rfl
set_option maxHeartbeats 2000000 in
set_option maxRecDepth 1000000 in
theorem stampCmp_any (va vb : Value) (a b : Tm) (w : World) (ha : TmV w va a) (hb : TmV w vb b) :
    Calls Tryz.prog 42 #[va, vb] w fun e w' => e = .returned (.int .i64 (cmpT a b)) ∧ Below w.heap.size w w' := by
  obtain ⟨ea, l⟩ := a
  obtain ⟨eb, m⟩ := b
  obtain ⟨sa, rfl, ha⟩ := ha
  obtain ⟨sb, rfl, hb⟩ := hb
  simp only at ha hb ⊢
  obtain ⟨A, n, ca, rfl, hn, hla, hca⟩ := ha.form
  obtain ⟨B, k, cb, rfl, hk, hlb, hcb⟩ := hb.form
  obtain ⟨r, hr⟩ : ∃ r, cmpT ⟨ea, l⟩ ⟨eb, m⟩ = r := ⟨_, rfl⟩
  rw [hr]
  obtain ⟨x1, hx1⟩ : ∃ x, c3 (n : Int) (k : Int) = x := ⟨_, rfl⟩
  obtain ⟨x2, hx2⟩ : ∃ x, c3 ea eb = x := ⟨_, rfl⟩
  obtain ⟨x3, hx3⟩ : ∃ x, cmpW l m = x := ⟨_, rfl⟩
  have hrH := Lib.hid (show firstNZ [x1, x2, x3] = r by rw [firstNZ3, ← hr]; unfold cmpT; simp only [hn, hk]; rw [hx1, hx2, hx3])
  have h1H := Lib.hid hx1; have h2H := Lib.hid hx2; have h3H := Lib.hid hx3
  clear hn hk hr hx1 hx2 hx3
  obtain ⟨W0, hW0, hwW, hA, hB, hzz⟩ := boxes2 w [.int .u64 ea, .slice A n ca] [.int .u64 eb, .slice B k cb] 26 26
  have haH := Lib.hid (ha.below hwW); have hbH := Lib.hid (hb.below hwW)
  have hAH := Lib.hid hA; have hBH := Lib.hid hB; have hwWH := Lib.hid hwW; have hz0 := Lib.hid hzz
  clear ha hb hA hB hwW hzz
  have hb := Below.refl W0.heap.size W0
  have a0_ := (hAH.out.below hb).cell 0 rfl; have a1_ := (hAH.out.below hb).cell 1 rfl; have b0_ := (hBH.out.below hb).cell 0 rfl; have b1_ := (hBH.out.below hb).cell 1 rfl; have hz := Nat.lt_of_lt_of_le hz0.out hb.size; have hs := hb.size
  go_enter Tryz.func42, Tryz.ntmps42
  go_wp2_with fail
  go_region_held3 (fun w' => w'.cell? ⟨w.heap.size, 0, none⟩ = some (.int .u64 ea) ∧ w'.cell? ⟨w.heap.size, 1, none⟩ = some (.slice A n ca) ∧ w'.cell? ⟨w.heap.size + 1, 0, none⟩ = some (.int .u64 eb) ∧ w'.cell? ⟨w.heap.size + 1, 1, none⟩ = some (.slice B k cb)) (first | exact ⟨a0_, a1_, b0_, b1_⟩ | go_keep) (first
    | (go_at_call 82; go_must (refine (compare_i64 _ _ _).mono ?_; rw [h1H.out]; rintro e w' ⟨rfl, rfl⟩))
    | (go_at_call 83; go_must (refine (compare_u64 _ _ _).mono ?_; rw [h2H.out]; rintro e w' ⟨rfl, rfl⟩))
    | (go_at_call 84; go_must (refine (compareWords_any _ _ l m _ (haH.out.below hb.drew) (hbH.out.below hb.drew)).mono ?_; rw [h3H.out]; rintro e w' ⟨rfl, rfl⟩))
    | (go_at_call 81; go_must (refine (or_any _ 3 [x1, x2, x3] _ (lit3 _ _ _ _ _)).mono ?_; rw [hrH.out]; rintro e w' ⟨rfl, rfl⟩)))
  go_wp2_with fail
  go_ret
  have hwW := hwWH.out
  clear hb
  exact ⟨rfl, by go_grown⟩
end Go.Proofs.YtdfhchpimpbgfaaGreatDoor
