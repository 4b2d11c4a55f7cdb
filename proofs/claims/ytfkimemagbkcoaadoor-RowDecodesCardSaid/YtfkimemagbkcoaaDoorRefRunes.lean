/-
  What the document's count of runes answers, at this program: of every text of at most 2^47 bytes.
-/
import Derived.Test.YtfkimemagbkcoaaDoorRefLong
set_option linter.unusedVariables false
set_option linter.unusedSimpArgs false
namespace Go.Proofs.YtfkimemagbkcoaaDoor
open Go.RowKit Go.Lib

/-- What the rounds hold: so many runes up to a place; what lies behind it is UTF-8 just if all is. -/
def RelR (s : ByteArray) (w0 : World) (n i : Value) (wr : World) : Prop :=
  ∃ p c : Nat, n = .int .i64 (c : Int) ∧ i = .int .i64 (p : Int) ∧ p ≤ s.size ∧ c + cntS s p = runeCount s ∧ validD (s.data.toList.drop p) = validD s.data.toList ∧ c ≤ p ∧ Below w0.heap.size w0 wr

set_option maxRecDepth 100000 in
set_option maxHeartbeats 4000000 in
theorem refRunes_any (s : ByteArray) (w : World) (hs : s.size ≤ 140737488355328) :
    Calls Tryd.prog 70 #[.string s] w fun e w' => e = .returned (.int .i64 (runesS s)) ∧ Below w.heap.size w w' := by
  obtain ⟨r, hr⟩ : ∃ r, runesS s = r := ⟨_, rfl⟩
  rw [hr]
  have hrH := Lib.hid hr
  clear hr
  go_enter Tryd.func70, Tryd.ntmps70
  go_wp2_with fail
  go_loopw [3, 4] (fun n i wr => RelR s w n i wr) (fun _ i _ => s.size - (Go.RowKit.intOf i).toNat)
  case atStart => exact ⟨0, 0, rfl, rfl, Nat.zero_le _, by simp [cntS_zero], by simp, Nat.le_refl _, Below.refl _ _⟩
  case round =>
    unfold RelR at hrel
    obtain ⟨p, c, rfl, rfl, hp, hc, hv, hcp, hb⟩ := hrel
    have hcH := Lib.hid hc; have hvH := Lib.hid hv; have hb0 := Lib.hid hb
    clear hc hv hb
    have hsz := hb0.out.size
    by_cases hlt : p < s.size
    · by_cases hl : longS s p = 0
      · have hlH := Lib.hid hl
        clear hl
        go_wp2_with (go_at_call 87; go_must (refine (refLong_any s p _ hlt hs).mono ?_; rw [hlH.out]; rintro e w' ⟨rfl, hb'⟩; have hb := hb0.out.trans (hb'.mono hsz); clear hb'))
        go_ret
        refine ⟨ret_i64 ?_, hb⟩
        rw [← hrH.out]
        unfold runesS
        rw [← hvH.out, runes_bad hlt hlH.out]
        rfl
      · obtain ⟨e1, e2, e3, e4, e5⟩ := runes_good hlt hl
        obtain ⟨k, hk⟩ : ∃ k, longS s p = k := ⟨_, rfl⟩
        rw [hk] at hl e2 e3 e4 e5
        have hkH := Lib.hid hk; have e2H := Lib.hid e2; have e4H := Lib.hid e4
        clear hk e1 e2 e4
        go_wp2_with (go_at_call 87; go_must (refine (refLong_any s p _ hlt hs).mono ?_; rw [hkH.out]; rintro e w' ⟨rfl, hb'⟩; have hb := hb0.out.trans (hb'.mono hsz); clear hb'))
        go_roundw
        case rel => exact ⟨p + k, c + 1, by go_num, by go_num, e3, by have := hcH.out; have := e4H.out; omega, by rw [← e2H.out]; exact hvH.out, by omega, hb⟩
        case measure => simp [Go.RowKit.intOf]; omega
    · go_wp2_with fail
      go_ret
      refine ⟨ret_i64 ?_, hb0.out⟩
      rw [← hrH.out]
      unfold runesS
      have h1 : s.data.toList.drop p = [] := List.drop_eq_nil_of_le (by rw [size_list]; omega)
      have h2 := hvH.out
      rw [h1] at h2
      rw [← h2, if_pos validD_nil, ← hcH.out, cntS_end s p hlt]
      omega
end Go.Proofs.YtfkimemagbkcoaaDoor
