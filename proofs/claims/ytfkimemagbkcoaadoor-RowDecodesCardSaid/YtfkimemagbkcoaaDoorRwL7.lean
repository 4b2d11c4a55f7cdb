/-
  The law RowDecodes, walked at this program: of any bytes. Condition: unicode/utf8's two tables lie as their initialisers lay them.
-/
import Derived.Test.YtfkimemagbkcoaaDoorRwRf
import Derived.Test.YtfkimemagbkcoaaDoorRwLb
set_option linter.unusedVariables false
set_option linter.unusedSimpArgs false
namespace Go.Proofs.YtfkimemagbkcoaaDoor
open Go.RowKit Go.Lib

theorem own_rowV {B : Nat} {v : Value} {l : List Dat} {w : World} (h : w.ownsRow B 79 4 v l.length (l.flatMap cellsD)) : RowV w v l := own_slV h
set_option maxHeartbeats 8000000 in
set_option maxRecDepth 100000 in
theorem rowDecodes_any (v : Value) (L : List UInt8) (w : World) (hT : Tab8 w) (h : BytsV w v L) (_ : True) :
    Calls Tryd.prog 3 #[v] w fun e w' => e = .returned (.bool true) ∧ Below w.heap.size w w' := by
  obtain ⟨A, c, rfl, _⟩ := h.form
  have hH := Lib.hid h; have hTH := Lib.hid hT
  clear h hT
  by_cases hbig : L.length > 1048576
  · have hb : (L.length : Int) > 1048576 := by omega
    clear hbig
    go_enter Tryd.func3, Tryd.ntmps3
    go_wp2_with fail
    go_ret
    exact ⟨rfl, by go_grown⟩
  · have hl : L.length ≤ 1048576 := by omega
    have hb : ¬ (L.length : Int) > 1048576 := by omega
    clear hbig
    obtain ⟨q, hq⟩ : ∃ q, errOf L = q := ⟨_, rfl⟩
    have hqw : wrap64 q = q := by rw [← hq]; unfold errOf; split <;> (unfold wrap64; omega)
    have hqH := Lib.hid hq
    obtain ⟨l, hll⟩ : ∃ l, rowOf L = l := ⟨_, rfl⟩
    have hlH := Lib.hid hll
    clear hq hll
    go_enter Tryd.func3, Tryd.ntmps3
    go_wp2_with fail
    refine (lentBytes_any _ L w hH.out (by omega)).mono ?_
    rintro e w1 ⟨u, rfl, hu, hb1⟩
    obtain ⟨Au, cu, rfl, _⟩ := hu.byts.form
    have huH := Lib.hid hu; have hb1H := Lib.hid hb1
    clear hu hb1
    go_wp2_with fail
    refine (decode_any _ L w1 huH.out.byts (hTH.out.below hb1H.out) (by omega)).mono ?_
    rw [hqH.out, hlH.out]
    rintro e w2 ⟨v2, rfl, hb2, ho2⟩
    obtain ⟨A2, c2, rfl⟩ := own_form ho2
    have hr2 := Lib.hid (own_rowV ho2)
    have hu2 := Lib.hid (huH.out.below hb2)
    have hb2H := Lib.hid (hb1H.out.trans (hb2.mono hb1H.out.size))
    clear hb2 ho2
    go_wp2_with fail
    refine (refDecode_any _ L w2 (hH.out.below hb2H.out) (by omega)).mono ?_
    rw [hqH.out, hlH.out]
    rintro e w3 ⟨v3, rfl, hb3, ho3⟩
    obtain ⟨A3, c3, rfl⟩ := own_form ho3
    have hr3 := Lib.hid (own_rowV ho3)
    have hr23 := Lib.hid (hr2.out.below hb3)
    have hu3 := Lib.hid (hu2.out.below hb3)
    have hb3H := Lib.hid (hb2H.out.trans (hb3.mono hb2H.out.size))
    clear hb3 ho3
    go_wp2_with fail
    refine (known_any _).mono ?_
    rintro e w4 ⟨rfl, hb4⟩
    have hb4H := Lib.hid (hb3H.out.trans (hb4.mono hb3H.out.size))
    have hr4 := Lib.hid (hr3.out.below hb4)
    have hr24 := Lib.hid (hr23.out.below hb4)
    have hu4 := Lib.hid (hu3.out.below hb4)
    clear hb4
    go_wp2_with fail
    refine (sameRow_any _ _ l w4 hr24.out hr4.out).mono ?_
    rintro e w5 ⟨rfl, hb5⟩
    have hb5H := Lib.hid (hb4H.out.trans (hb5.mono hb4H.out.size))
    have hu5 := Lib.hid (hu4.out.below hb5)
    clear hb5
    go_wp2_with fail
    refine (wholeBytes_any _ _ _ L w5 hu5.out (hH.out.below hb5H.out) (by omega)).mono ?_
    rintro e w6 ⟨rfl, hb6⟩
    have hb6H := Lib.hid (hb5H.out.trans (hb6.mono hb5H.out.size))
    clear hb6
    go_wp2_with fail
    go_ret
    exact ⟨rfl, hb6H.out⟩
end Go.Proofs.YtfkimemagbkcoaaDoor
