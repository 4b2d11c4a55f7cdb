/-
  What the document's own Check answers, at this program: of every datum with a text of at most 2^47 bytes.
-/
import Derived.Test.YtfkimemagbkcoaaDoorRefRunes
import Derived.Test.YtfkimemagbkcoaaDoorLite
set_option linter.unusedVariables false
set_option linter.unusedSimpArgs false
namespace Go.Proofs.YtfkimemagbkcoaaDoor
open Go.RowKit Go.Lib

theorem validD_empty {s : ByteArray} (h : s.size = 0) : validD s.data.toList = true := by
  have : s.data.toList = [] := List.eq_nil_of_length_eq_zero (by rw [size_list]; exact h)
  rw [this]; exact validD_nil
theorem form_valid {k : Int} {b : Bool} {n : Int} {s : ByteArray} (h : form ⟨k, b, n, s⟩ = true) : validD s.data.toList = true := by
  by_cases h4 : k = 4
  · subst h4
    have : form ⟨4, b, n, s⟩ = (!b && decide (n = 0) && validD s.data.toList) := by simp [form]
    rw [this] at h
    simp at h
    exact h.2
  · apply validD_empty
    unfold form at h
    simp only at h
    repeat' split at h
    all_goals simp_all
/-- Where the document's Check comes to the runes: the rest of the form is right. -/
theorem form_parts (k : Int) (b : Bool) (n : Int) (s : ByteArray) : form ⟨k, b, n, s⟩ = (decide (1 ≤ k) && decide (k ≤ 4) && (decide (k = 2) || !b) && (decide (k = 3) || decide (n = 0)) && (decide (k = 4) || decide (s.size = 0)) && validD s.data.toList) := by
  by_cases he : s.size = 0
  · have hv := validD_empty he
    unfold form
    simp only [hv, he]
    by_cases h1 : k = 1 <;> by_cases h2 : k = 2 <;> by_cases h3 : k = 3 <;> by_cases h4 : k = 4 <;> cases b <;> simp_all <;> omega
  · unfold form
    simp only [he]
    by_cases h1 : k = 1 <;> by_cases h2 : k = 2 <;> by_cases h3 : k = 3 <;> by_cases h4 : k = 4 <;> cases b <;> simp_all <;> omega
theorem runesS_neg (s : ByteArray) : runesS s < 0 ↔ validD s.data.toList = false := by
  unfold runesS
  by_cases h : validD s.data.toList = true
  · rw [if_pos h]; simp [h]
  · rw [if_neg h]; simp [h]

set_option maxRecDepth 100000 in
set_option maxHeartbeats 4000000 in
theorem refCheck_any (k : Int) (b : Bool) (n : Int) (s : ByteArray) (w : World) (hs : s.size ≤ 140737488355328) :
    Calls Tryd.prog 35 #[.agg #[.int .u8 k, .bool b, .int .i64 n, .string s]] w fun e w' => e = .returned (.int .i64 (chk ⟨k, b, n, s⟩)) ∧ Below w.heap.size w w' := by
  obtain ⟨r, hr⟩ : ∃ r, chk ⟨k, b, n, s⟩ = r := ⟨_, rfl⟩
  rw [hr]
  have hrH := Lib.hid hr
  clear hr
  obtain ⟨u, hu⟩ : ∃ u, runesS s = u := ⟨_, rfl⟩
  have huH := Lib.hid hu
  have hvH := Lib.hid (hu ▸ runesS_neg s : u < 0 ↔ validD s.data.toList = false)
  clear hu
  go_enter Tryd.func35, Tryd.ntmps35
  go_wp2_with (go_at_call 70; go_must (refine (refRunes_any s _ hs).mono ?_; rw [huH.out]; rintro e w' ⟨rfl, hb'⟩; have hb : Below w.heap.size w w' := chainB (by go_grown) hb' (by simp); have hcell : w'.cell? ⟨w.heap.size, 3, none⟩ = some (.string s) := (by rw [hb'.cell (by simp)]; exact cell_new w _ _ 3); clear hb'))
  all_goals
    go_ret
    refine ⟨ret_i64 ?_, by go_grown⟩
    rw [← hrH.out]
    have hv := hvH.out
    have he := toList_size s
    unfold chk
    rw [form_parts]
    simp only []
    generalize validD s.data.toList = v at hv
    generalize s.toList.isEmpty = z at *
    clear hrH huH hvH
    cases v <;> cases b <;> simp_all <;> first | omega | (rename_i h; rcases h with h | h; exact absurd h (by omega); exact h)
end Go.Proofs.YtfkimemagbkcoaaDoor
