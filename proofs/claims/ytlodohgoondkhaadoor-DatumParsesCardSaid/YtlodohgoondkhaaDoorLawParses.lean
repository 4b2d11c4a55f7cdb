/-
  The law DatumParses answers true, at this program, at every text. Condition: the tables of Go's library lie as their initialisers lay them; the variables strconv.ErrSyntax and strconv.ErrRange hold errors.
-/
import Derived.Test.YtlodohgoondkhaaDoorIs
import Derived.Test.YtlodohgoondkhaaDoorKnown
import Derived.Test.YtlodohgoondkhaaDoorMem
import Derived.Test.YtlodohgoondkhaaDoorRefParse
set_option linter.unusedVariables false
set_option linter.unusedSimpArgs false
namespace Go.Proofs.YtlodohgoondkhaaDoor
open Go.RowKit Go.Lib

theorem ParsedR.u16 {s : ByteArray} {d : Dat} {z : Int} (h : ParsedR s d z) : U16 z := by
  rcases h with ⟨_, _, _, rfl⟩ | ⟨_, rfl, _⟩ <;> exact ⟨by omega, by omega⟩
set_option maxHeartbeats 8000000 in
set_option maxRecDepth 100000 in
theorem parses_any (s : ByteArray) (w : World) (hT : Tabs w) (hV : VarsE w) (hs0 : s.size ≤ 9223372036854775807) :
    Calls Tryd.prog 4 #[.string s] w fun e w' => e = .returned (.bool true) ∧ Below w.heap.size w w' := by
  by_cases hbig : (s.size : Int) > 1048576
  · go_enter Tryd.func4, Tryd.ntmps4
    go_wp2
    go_ret
    exact ⟨rfl, by go_grown⟩
  · have hsz := Lib.hid (show s.size ≤ 1099511627776 by omega)
    have hTH := Lib.hid hT
    have hVH := Lib.hid hV
    clear hT hV
    have hb := Below.refl w.heap.size w
    have hs := hb.size
    have hM : Hid (Mem w []) := Lib.hid trivial
    go_enter Tryd.func4, Tryd.ntmps4
    go_wp2_with fail
    refine (parse_any s _ (by exact hTH.out.below (by go_grown)) (by exact hVH.out.below (by go_grown)) hsz.out).mono ?_
    rintro e w' ⟨⟨⟨k, b, n, t⟩, z, rfl, hd⟩, hb'⟩
    have hdH := Lib.hid hd
    clear hd
    rw [resV_eq]
    replace hb := chainB (B := w.heap.size) (a := w) (by go_grown) hb' (by have := hb.size; go_size); replace hs := hb.size; (try clear f0_0 f0_1 f0_2 f0_3 f0_4); (try clear f1_0 f1_1 f1_2 f1_3 f1_4); (try clear f2_0 f2_1 f2_2 f2_3 f2_4); (try clear f3_0 f3_1 f3_2 f3_3 f3_4); (try clear f4_0 f4_1 f4_2 f4_3 f4_4); (try clear f5_0 f5_1 f5_2 f5_3 f5_4); (try clear f6_0 f6_1 f6_2 f6_3 f6_4); (try clear f7_0 f7_1 f7_2 f7_3 f7_4); (first | replace hM := mem2 hM hb' | replace hM := mem1 hM hb' | replace hM := mem0 hM hb' | replace hM := mem2 (l := []) (Lib.hid trivial) hb'); have hF := hM.out.facts; (try simp only [MemF, World.size_alloc] at hF); (try rcases hF with ⟨f0_0, f0_1, f0_2, f0_3, f0_4, hF⟩); (try rcases hF with ⟨f1_0, f1_1, f1_2, f1_3, f1_4, hF⟩); (try rcases hF with ⟨f2_0, f2_1, f2_2, f2_3, f2_4, hF⟩); (try rcases hF with ⟨f3_0, f3_1, f3_2, f3_3, f3_4, hF⟩); (try rcases hF with ⟨f4_0, f4_1, f4_2, f4_3, f4_4, hF⟩); (try rcases hF with ⟨f5_0, f5_1, f5_2, f5_3, f5_4, hF⟩); (try rcases hF with ⟨f6_0, f6_1, f6_2, f6_3, f6_4, hF⟩); (try rcases hF with ⟨f7_0, f7_1, f7_2, f7_3, f7_4, hF⟩); (try clear hF); clear hb'
    go_wp2_with fail
    refine (refParse_any s _ hsz.out).mono ?_
    rintro e w' ⟨⟨d2, z2, rfl, hd2⟩, hb'⟩
    obtain ⟨q1, q2⟩ := hd2.one hdH.out
    subst q1 q2
    have hX := Lib.hid hd2.u16
    clear hd2 hdH
    rw [refV_eq]
    replace hb := chainB (B := w.heap.size) (a := w) (by go_grown) hb' (by have := hb.size; go_size); replace hs := hb.size; (try clear f0_0 f0_1 f0_2 f0_3 f0_4); (try clear f1_0 f1_1 f1_2 f1_3 f1_4); (try clear f2_0 f2_1 f2_2 f2_3 f2_4); (try clear f3_0 f3_1 f3_2 f3_3 f3_4); (try clear f4_0 f4_1 f4_2 f4_3 f4_4); (try clear f5_0 f5_1 f5_2 f5_3 f5_4); (try clear f6_0 f6_1 f6_2 f6_3 f6_4); (try clear f7_0 f7_1 f7_2 f7_3 f7_4); (first | replace hM := mem2 hM hb' | replace hM := mem1 hM hb' | replace hM := mem0 hM hb' | replace hM := mem2 (l := []) (Lib.hid trivial) hb'); have hF := hM.out.facts; (try simp only [MemF, World.size_alloc] at hF); (try rcases hF with ⟨f0_0, f0_1, f0_2, f0_3, f0_4, hF⟩); (try rcases hF with ⟨f1_0, f1_1, f1_2, f1_3, f1_4, hF⟩); (try rcases hF with ⟨f2_0, f2_1, f2_2, f2_3, f2_4, hF⟩); (try rcases hF with ⟨f3_0, f3_1, f3_2, f3_3, f3_4, hF⟩); (try rcases hF with ⟨f4_0, f4_1, f4_2, f4_3, f4_4, hF⟩); (try rcases hF with ⟨f5_0, f5_1, f5_2, f5_3, f5_4, hF⟩); (try rcases hF with ⟨f6_0, f6_1, f6_2, f6_3, f6_4, hF⟩); (try rcases hF with ⟨f7_0, f7_1, f7_2, f7_3, f7_4, hF⟩); (try clear hF); clear hb'
    go_wp2_with (first
      | (go_at_call 24; go_must (refine (is_same _ _ _ _ _ _ hX.out).mono ?_; rintro e w' ⟨rfl, hb'⟩; replace hb := chainB (B := w.heap.size) (a := w) (by go_grown) hb' (by have := hb.size; go_size); replace hs := hb.size; (try clear f0_0 f0_1 f0_2 f0_3 f0_4); (try clear f1_0 f1_1 f1_2 f1_3 f1_4); (try clear f2_0 f2_1 f2_2 f2_3 f2_4); (try clear f3_0 f3_1 f3_2 f3_3 f3_4); (try clear f4_0 f4_1 f4_2 f4_3 f4_4); (try clear f5_0 f5_1 f5_2 f5_3 f5_4); (try clear f6_0 f6_1 f6_2 f6_3 f6_4); (try clear f7_0 f7_1 f7_2 f7_3 f7_4); (first | replace hM := mem2 hM hb' | replace hM := mem1 hM hb' | replace hM := mem0 hM hb' | replace hM := mem2 (l := []) (Lib.hid trivial) hb'); have hF := hM.out.facts; (try simp only [MemF, World.size_alloc] at hF); (try rcases hF with ⟨f0_0, f0_1, f0_2, f0_3, f0_4, hF⟩); (try rcases hF with ⟨f1_0, f1_1, f1_2, f1_3, f1_4, hF⟩); (try rcases hF with ⟨f2_0, f2_1, f2_2, f2_3, f2_4, hF⟩); (try rcases hF with ⟨f3_0, f3_1, f3_2, f3_3, f3_4, hF⟩); (try rcases hF with ⟨f4_0, f4_1, f4_2, f4_3, f4_4, hF⟩); (try rcases hF with ⟨f5_0, f5_1, f5_2, f5_3, f5_4, hF⟩); (try rcases hF with ⟨f6_0, f6_1, f6_2, f6_3, f6_4, hF⟩); (try rcases hF with ⟨f7_0, f7_1, f7_2, f7_3, f7_4, hF⟩); (try clear hF); clear hb'))
      | (go_at_call 15; go_must (refine (known_any _ (by exact hTH.out.below (by go_grown))).mono ?_; rintro e w' ⟨rfl, hb'⟩; replace hb := chainB (B := w.heap.size) (a := w) (by go_grown) hb' (by have := hb.size; go_size); replace hs := hb.size; (try clear f0_0 f0_1 f0_2 f0_3 f0_4); (try clear f1_0 f1_1 f1_2 f1_3 f1_4); (try clear f2_0 f2_1 f2_2 f2_3 f2_4); (try clear f3_0 f3_1 f3_2 f3_3 f3_4); (try clear f4_0 f4_1 f4_2 f4_3 f4_4); (try clear f5_0 f5_1 f5_2 f5_3 f5_4); (try clear f6_0 f6_1 f6_2 f6_3 f6_4); (try clear f7_0 f7_1 f7_2 f7_3 f7_4); (first | replace hM := mem2 hM hb' | replace hM := mem1 hM hb' | replace hM := mem0 hM hb' | replace hM := mem2 (l := []) (Lib.hid trivial) hb'); have hF := hM.out.facts; (try simp only [MemF, World.size_alloc] at hF); (try rcases hF with ⟨f0_0, f0_1, f0_2, f0_3, f0_4, hF⟩); (try rcases hF with ⟨f1_0, f1_1, f1_2, f1_3, f1_4, hF⟩); (try rcases hF with ⟨f2_0, f2_1, f2_2, f2_3, f2_4, hF⟩); (try rcases hF with ⟨f3_0, f3_1, f3_2, f3_3, f3_4, hF⟩); (try rcases hF with ⟨f4_0, f4_1, f4_2, f4_3, f4_4, hF⟩); (try rcases hF with ⟨f5_0, f5_1, f5_2, f5_3, f5_4, hF⟩); (try rcases hF with ⟨f6_0, f6_1, f6_2, f6_3, f6_4, hF⟩); (try rcases hF with ⟨f7_0, f7_1, f7_2, f7_3, f7_4, hF⟩); (try clear hF); clear hb')))
    go_ret
    exact ⟨rfl, by go_grown⟩
end Go.Proofs.YtlodohgoondkhaaDoor
