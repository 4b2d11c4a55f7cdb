/-
  The law RowCmps, walked at this program: of any two rows. No condition.
-/
import Derived.Test.YthmkfodiekmkjaaRwP
set_option linter.unusedVariables false
set_option linter.unusedSimpArgs false
namespace Go.Proofs.Ythmkfodiekmkjaa
open Go.RowKit Go.Lib Go.Proofs

set_option maxHeartbeats 8000000 in
set_option maxRecDepth 1000000 in
theorem rowCmps_any (va vb : Value) (l m : List Dat) (w : World) (ha : RowV w va l) (hb : RowV w vb m) (_ : ∀ d ∈ l, Wide d ∧ d.s.size ≤ 9223372036854775807) (_ : ∀ d ∈ m, Wide d ∧ d.s.size ≤ 9223372036854775807) :
    Calls Try.prog 3 #[va, vb] w fun e w' => e = .returned (.bool true) ∧ Below w.heap.size w w' := by
  obtain ⟨A, ca, rfl, hla⟩ := ha.form
  obtain ⟨B, cb, rfl, hlb⟩ := hb.form
  have haH := Lib.hid ha; have hbH := Lib.hid hb
  clear ha hb
  obtain ⟨r, hr⟩ : ∃ r, cmpR l m = r := ⟨_, rfl⟩
  have hrH := Lib.hid hr
  clear hr
  obtain ⟨n, hn⟩ : ∃ n : Int, IntKind.i64.wrap ((l.length : Int) + (m.length : Int)) = n := ⟨_, rfl⟩
  by_cases hbig : 4000 < n
  · go_enter Try.func3, Try.ntmps3
    go_wp2_with fail
    go_ret
    exact ⟨rfl, by go_grown⟩
  · go_enter Try.func3, Try.ntmps3
    go_wp2_with fail
    refine (known_any _).mono ?_
    rintro e w1 ⟨rfl, hb1⟩
    have hb1H := Lib.hid hb1
    clear hb1
    go_wp2_with fail
    refine (rowCmp_any _ _ l m _ (haH.out.below hb1H.out) (hbH.out.below hb1H.out)).mono ?_
    rw [hrH.out]
    rintro e w2 ⟨rfl, hb2⟩
    have hb2H := Lib.hid (hb1H.out.trans (hb2.mono hb1H.out.size))
    clear hb2
    go_wp2_with fail
    refine (refRowCmp_any _ _ l m _ (haH.out.below hb2H.out) (hbH.out.below hb2H.out)).mono ?_
    rw [hrH.out]
    rintro e w3 ⟨rfl, hb3⟩
    have hb3H := Lib.hid (hb2H.out.trans (hb3.mono hb2H.out.size))
    clear hb3
    go_wp2_with fail
    go_ret
    exact ⟨rfl, hb3H.out⟩
end Go.Proofs.Ythmkfodiekmkjaa
