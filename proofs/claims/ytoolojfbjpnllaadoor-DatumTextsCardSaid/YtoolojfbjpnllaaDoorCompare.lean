/-
  What datum.holds and the closure of datum.Compare answer, at this program. No condition.
-/
import Derived.Test.YtoolojfbjpnllaaDoorCmp
import Derived.Test.YtoolojfbjpnllaaDoorLogic
import Derived.Test.YtoolojfbjpnllaaDoorNum
set_option linter.unusedVariables false
set_option linter.unusedSimpArgs false
namespace Go.Proofs.YtoolojfbjpnllaaDoor
open Go.RowKit Go.Lib

/-- Do two data of which Cmp says c stand as op asks? -/
def holdsS (op c : Int) : Bool :=
  if op = 11 then decide (c = 0) else if op = 12 then decide (c ≠ 0) else if op = 13 then decide (c < 0) else if op = 14 then decide (c ≤ 0) else if op = 15 then decide (0 < c) else decide (0 ≤ c)
theorem ret_bool2 {x y : Bool} (h : x = y) : Ending.returned (.bool x) = Ending.returned (.bool y) := by rw [h]
set_option maxHeartbeats 2000000 in
theorem holds_any (op c : Int) (w : World) :
    Calls Tryd.prog 87 #[.int .u8 op, .int .i64 c] w fun e w' => e = .returned (.bool (holdsS op c)) ∧ w = w' := by
  obtain ⟨r, hr⟩ : ∃ r, holdsS op c = r := ⟨_, rfl⟩
  rw [hr]
  have hrH := Lib.hid hr
  clear hr
  go_enter Tryd.func87, Tryd.ntmps87
  go_wp2
  all_goals
    go_ret
    refine ⟨ret_bool2 ?_, rfl⟩
    rw [← hrH.out]
    simp_all [holdsS]
    try (rw [Bool.eq_iff_iff]; simp; done)
    try (by_cases h : c = 0 <;> simp [h]; done)
set_option maxHeartbeats 4000000 in
theorem cmpClos (ka : Int) (ba : Bool) (na : Int) (sa : ByteArray) (kb : Int) (bb : Bool) (nb : Int) (sb : ByteArray) (op : Int) (pb : Nat) (w : World) (hp : w.cell? ⟨pb, 0, none⟩ = some (.int .u8 op)) :
    Calls Tryd.prog 85 #[.agg #[.int .u8 ka, .bool ba, .int .i64 na, .string sa], .agg #[.int .u8 kb, .bool bb, .int .i64 nb, .string sb], .pointer (some ⟨pb, 0, none⟩)] w
      fun e w' => e = .returned (.tuple #[.agg #[.int .u8 2, .bool (holdsS op (cmpS ⟨ka, ba, na, sa⟩ ⟨kb, bb, nb, sb⟩)), .int .i64 0, .string ⟨#[]⟩], .int .u16 0]) ∧ Below w.heap.size w w' := by
  obtain ⟨c, hc⟩ : ∃ c, cmpS ⟨ka, ba, na, sa⟩ ⟨kb, bb, nb, sb⟩ = c := ⟨_, rfl⟩
  obtain ⟨x, hx⟩ : ∃ x, holdsS op c = x := ⟨_, rfl⟩
  rw [hc, hx]
  have hcH := Lib.hid hc; have hxH := Lib.hid hx
  clear hc hx
  have hpl : pb < w.heap.size := by
    rcases Nat.lt_or_ge pb w.heap.size with h | h
    · exact h
    · simp [World.cell?, Array.getElem?_eq_none h] at hp
  obtain ⟨W0, hW0, hwW, hA, hB, hR, hzz⟩ := boxes2 w ka ba na sa kb bb nb sb
  have hPH : Hid (∀ w', Below W0.heap.size W0 w' → w'.cell? ⟨pb, 0, none⟩ = some (.int .u8 op)) := Lib.hid (fun w' hb => by
    rw [hb.cell (p := ⟨pb, 0, none⟩) (Nat.lt_of_lt_of_le hpl hwW.size), hwW.cell (p := ⟨pb, 0, none⟩) hpl]; exact hp)
  have hAH := Lib.hid hA; have hBH := Lib.hid hB; have hRH := Lib.hid hR; have hz0 := Lib.hid hzz; have hwWH := Lib.hid hwW
  clear hA hB hR hzz hwW hp hpl
  have hb := Below.refl W0.heap.size W0
  obtain ⟨a0, a1, a2, a3⟩ := (hAH.out.below hb).cells; obtain ⟨b0, b1, b2, b3⟩ := (hBH.out.below hb).cells; obtain ⟨r0, r1, r2, r3⟩ := (hRH.out.below hb).cells; obtain ⟨f0, f1, f2, f3⟩ := (hRH.out.below hb).free; have p0 := hPH.out _ hb; have hz := Nat.lt_of_lt_of_le hz0.out hb.size
  go_enter Tryd.func85, Tryd.ntmps85
  go_wp2_with fail
  first
    | (go_region_with (first | (go_at_call 18; go_must (refine (cmp_any _ _ _ _ _ _ _ _ _).mono ?_; rw [hcH.out]; rintro e w' ⟨rfl, hb'⟩; replace hb := chainB (B := W0.heap.size) (a := W0) (by go_grown) hb' (by have := hb.size; first | omega | (simp; done) | (simp; omega)); clear hb' a0 a1 a2 a3 b0 b1 b2 b3 r0 r1 r2 r3 f0 f1 f2 f3 p0 hz; obtain ⟨a0, a1, a2, a3⟩ := (hAH.out.below hb).cells; obtain ⟨b0, b1, b2, b3⟩ := (hBH.out.below hb).cells; obtain ⟨r0, r1, r2, r3⟩ := (hRH.out.below hb).cells; obtain ⟨f0, f1, f2, f3⟩ := (hRH.out.below hb).free; have p0 := hPH.out _ hb; have hz := Nat.lt_of_lt_of_le hz0.out hb.size)) | (go_at_call 87; go_must (refine (holds_any _ _ _).mono ?_; rw [hxH.out]; rintro e w' ⟨rfl, rfl⟩)) | (go_at_call 86; go_must (refine (boolean_any _ _).mono ?_; rintro e w' ⟨rfl, hb'⟩; replace hb := chainB (B := W0.heap.size) (a := W0) (by go_grown) hb' (by have := hb.size; first | omega | (simp; done) | (simp; omega)); clear hb' a0 a1 a2 a3 b0 b1 b2 b3 r0 r1 r2 r3 f0 f1 f2 f3 p0 hz; obtain ⟨a0, a1, a2, a3⟩ := (hAH.out.below hb).cells; obtain ⟨b0, b1, b2, b3⟩ := (hBH.out.below hb).cells; obtain ⟨r0, r1, r2, r3⟩ := (hRH.out.below hb).cells; obtain ⟨f0, f1, f2, f3⟩ := (hRH.out.below hb).free; have p0 := hPH.out _ hb; have hz := Nat.lt_of_lt_of_le hz0.out hb.size))))
    | fail
  all_goals
    go_wp2
    refine bodyPost_ret (v := .tuple #[.agg #[.int .u8 2, .bool x, .int .i64 0, .string ⟨#[]⟩], .int .u16 0]) (by simp [results, Tryd.results85, go_sem, r0, r1, r2, r3, hz]) rfl ⟨rfl, ?_⟩
    have hbw := hwWH.out.trans (hb.mono hwWH.out.size)
    clear hb
    go_grown
end Go.Proofs.YtoolojfbjpnllaaDoor
