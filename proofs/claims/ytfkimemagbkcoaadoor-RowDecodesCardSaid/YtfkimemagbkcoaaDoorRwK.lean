/-
  The two function values of row.Sum, at this program: whether a count is 0; the order of the rows of two counted ones. No condition.
-/
import Derived.Test.YtfkimemagbkcoaaDoorRwC
set_option linter.unusedVariables false
set_option linter.unusedSimpArgs false
namespace Go.Proofs.YtfkimemagbkcoaaDoor
open Go.RowKit Go.Lib

set_option maxHeartbeats 2000000 in
theorem sumZero_any (A : Option Addr) (k c : Nat) (n : Int) (w : World) :
    Calls Tryd.prog 42 #[.agg #[.slice A k c, .int .i64 n]] w fun e w' => e = .returned (.bool (n == 0)) ∧ Below w.heap.size w w' := by
  go_enter Tryd.func42, Tryd.ntmps42
  go_wp2
  go_ret
  exact ⟨rfl, by go_grown⟩
set_option maxHeartbeats 2000000 in
theorem sumCmp_any (A : Option Addr) (k c : Nat) (n : Int) (B : Option Addr) (k' c' : Nat) (n' : Int) (l m : List Dat) (w : World) (ha : RowV w (.slice A k c) l) (hb : RowV w (.slice B k' c') m) :
    Calls Tryd.prog 44 #[.agg #[.slice A k c, .int .i64 n], .agg #[.slice B k' c', .int .i64 n']] w fun e w' => e = .returned (.int .i64 (cmpR l m)) ∧ Rose w.heap.size w w' := by
  have haH := Lib.hid ha; have hbH := Lib.hid hb
  clear ha hb
  obtain ⟨r, hr⟩ : ∃ r, cmpR l m = r := ⟨_, rfl⟩
  rw [hr]
  have hrH := Lib.hid hr
  clear hr
  go_enter Tryd.func44, Tryd.ntmps44
  go_wp2_with fail
  refine (rowCmpD_any _ _ l m _ (haH.out.below (by go_grown)) (hbH.out.below (by go_grown))).mono ?_
  rw [hrH.out]
  rintro e w' ⟨rfl, hb'⟩
  go_wp2
  go_ret
  exact ⟨rfl, (((Rose.refl _ _).alloc (Nat.le_refl _) _).alloc (by simp) _).trans (hb'.mono (by simp; omega))⟩
end Go.Proofs.YtfkimemagbkcoaaDoor
