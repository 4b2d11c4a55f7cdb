/-
  row.Sum of any rows, at this program. Conditions: those written.
-/
import Derived.Test.YtfkimemagbkcoaaDoorRwS
import Derived.Shelf.SlSortCmp.NoneTotal
set_option linter.unusedVariables false
set_option linter.unusedSimpArgs false
namespace Go.Proofs.YtfkimemagbkcoaaDoor
open Go.RowKit Go.Lib Go.Proofs Go.Shelf

set_option maxHeartbeats 2000000 in
theorem indexNone_any (w : World) : Calls Tryd.prog 78 #[.slice none 0 0, .func (.func 42) #[] #[]] w fun e w' => e = .returned (.int .i64 (-1)) ∧ Below w.heap.size w w' := by
  go_enter Tryd.func78, Tryd.ntmps78
  go_wp2_with fail
  go_loopw [5, 8] (fun s5 s8 wr => s8 = .int .i64 0 ∧ wr = w) (fun _ _ _ => 0)
  case atStart => exact ⟨rfl, rfl⟩
  case round =>
    obtain ⟨rfl, rfl⟩ := hrel
    go_wp2_with fail
    go_ret
    exact ⟨rfl, Below.refl _ _⟩
set_option maxHeartbeats 2000000 in
theorem deleteNone_any (w : World) : Calls Tryd.prog 41 #[.slice none 0 0, .func (.func 42) #[] #[]] w fun e w' => e = .returned (.slice none 0 0) ∧ Below w.heap.size w w' := by
  go_enter Tryd.func41, Tryd.ntmps41
  go_wp2_with fail
  refine (indexNone_any w).mono ?_
  rintro e w1 ⟨rfl, hb⟩
  go_wp2_with fail
  go_ret
  exact ⟨rfl, hb⟩
set_option maxHeartbeats 4000000 in
theorem sumNone_any (A : Option Addr) (ca : Nat) (w : World) : Calls Tryd.prog 18 #[.slice A 0 ca] w fun e w' => e = .returned (.slice none 0 0) ∧ Below w.heap.size w w' := by
  obtain ⟨W1, hW1⟩ : ∃ W1, w.alloc (.map #[] 0) = W1 := ⟨_, rfl⟩
  have hb1 := Lib.hid (show Below w.heap.size w W1 from hW1 ▸ (Below.refl _ w).alloc (Nat.le_refl _) _)
  have hmm := @run_makeMap Tryd.prog
  go_enter Tryd.func18, Tryd.ntmps18
  go_wp2_with fail
  go_loopw [3, 5, 7, 8, 9, 14] (fun s3 s5 s7 s8 s9 s14 wr => s3 = .slice none 0 0 ∧ s14 = .int .i64 0 ∧ wr = W1) (fun _ _ _ _ _ _ _ => 0)
  case atStart => exact ⟨rfl, rfl, rfl⟩
  case round =>
    obtain ⟨rfl, rfl, rfl⟩ := hrel
    clear hW1
    go_wp2_with fail
    refine (deleteNone_any _).mono ?_
    rintro e w2 ⟨rfl, hb2⟩
    have hb2H := Lib.hid (hb1.out.trans (hb2.mono hb1.out.size))
    clear hb2
    go_wp2_with fail
    have hS : Calls Tryd.prog 43 #[.slice none 0 0, .func (.func 44) #[] #[]] w2 (fun e w' => e = .returned (.tuple #[]) ∧ w' = w2) := AnyF.slices_SortFunc_none Tryd.sortC none 0 (.func (.func 44) #[] #[]) w2
    refine hS.mono ?_
    rintro e w3 ⟨rfl, rfl⟩
    go_wp2_with fail
    go_loopw [10, 61] (fun s10 s61 wr => s61 = .int .i64 0 ∧ wr = w3) (fun _ _ _ => 0)
    case atStart => exact ⟨rfl, rfl⟩
    case round =>
      obtain ⟨rfl, rfl⟩ := hrel
      go_wp2_with fail
      go_ret
      exact ⟨rfl, hb2H.out⟩
def SumPost (w : World) (ds : List Cd) (e : Ending) (w' : World) : Prop := ∃ v' r, e = .returned v' ∧ SumOf (ds.map cnD) (r.map cnD) ∧ OwnCs w.heap.size v' r w' ∧ FreshL w.heap.size w' r ∧ Below w.heap.size w w'
/-- row.Sum of any counted rows. -/
theorem sumAny_any (v : Value) (ds : List Cd) (w : World) (h : CtsV w v ds) (hn : ds.length ≤ 1099511627776) (hl : ∀ d ∈ ds, d.2.length ≤ 1099511627776) (hw : ∀ d ∈ ds, ∀ x ∈ d.2, Wide x) (hs : ∀ d ∈ ds, szR d.2 ≤ 70368744177664) :
    Calls Tryd.prog 18 #[v] w (SumPost w ds) := by
  by_cases hne : ds = []
  · subst hne
    obtain ⟨A, c, rfl, _⟩ := h.form
    refine (sumNone_any A c w).mono ?_
    rintro e w' ⟨rfl, hb⟩
    exact ⟨_, [], rfl, ⟨List.Perm.refl _, List.Pairwise.nil⟩, OwnCs.nil _ _, ⟨by simp, by simp⟩, hb⟩
  · exact sum_any v ds w h hn hne hl hw hs
end Go.Proofs.YtfkimemagbkcoaaDoor
