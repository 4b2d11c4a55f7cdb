/-
  What the document's own Cmp answers: of any two data. No condition.
-/
import Derived.Test.YthmkfodiekmkjaaRefSign
import Derived.Test.YthmkfodiekmkjaaCmp
set_option linter.unusedVariables false
set_option linter.unusedSimpArgs false
namespace Go.Proofs.Ythmkfodiekmkjaa
open Go.RowKit Go.Lib

theorem less_compare : ∀ x y : List UInt8, (if Op.bytesLess x y = true then (-1 : Int) else if x = y then 0 else 1) = compareBytes x y
  | [], [] => by simp [Op.bytesLess, compareBytes]
  | [], _ :: _ => by simp [Op.bytesLess, compareBytes]
  | _ :: _, [] => by simp [Op.bytesLess, compareBytes]
  | a :: x, b :: y => by
    have ih := less_compare x y
    unfold Op.bytesLess compareBytes
    rcases (show a < b ∨ b < a ∨ a = b by rw [UInt8.lt_iff_toNat_lt, UInt8.lt_iff_toNat_lt, ← UInt8.toNat_inj]; omega) with h | h | h
    · simp [h]
    · have h1 : ¬ a < b := fun g => absurd (UInt8.lt_trans g h) (UInt8.lt_irrefl a)
      have h2 : ¬ a = b := fun g => absurd (g ▸ h) (UInt8.lt_irrefl b)
      simp [h, h1, h2]
    · subst h
      rw [← ih]
      simp [UInt8.lt_irrefl]

set_option maxHeartbeats 2000000 in
theorem refCmp_any (ka : Int) (ba : Bool) (na : Int) (sa : ByteArray) (kb : Int) (bb : Bool) (nb : Int) (sb : ByteArray) (w : World) :
    Calls Try.prog 20 #[.agg #[.int .u8 ka, .bool ba, .int .i64 na, .string sa], .agg #[.int .u8 kb, .bool bb, .int .i64 nb, .string sb]] w
      fun e w' => e = .returned (.int .i64 (cmpS ⟨ka, ba, na, sa⟩ ⟨kb, bb, nb, sb⟩)) ∧ Below w.heap.size w w' := by
  obtain ⟨r, hr⟩ : ∃ r, cmpS ⟨ka, ba, na, sa⟩ ⟨kb, bb, nb, sb⟩ = r := ⟨_, rfl⟩
  rw [hr]
  have hrH := Lib.hid hr
  clear hr
  go_enter Try.func20, Try.ntmps20
  go_wp2_with (go_at_call 39; go_must (refine (refSign_any _ _ _).mono ?_; rintro e w' ⟨rfl, rfl⟩))
  all_goals
    go_ret
    refine ⟨ret_int ?_, by go_grown⟩
    rw [← hrH.out]
    simp_all [cmpS, signS, cmp3, cmpB]
    try first
      | (cases bb <;> rfl)
      | (rw [ByteArray.toList_eq, ByteArray.toList_eq]; exact less_compare _ _)
end Go.Proofs.Ythmkfodiekmkjaa
