/-
  What datum.Compare answers, at this program: of two data of one kind that may be and are not null. Condition: the tables of Go's library lie as their initialisers lay them.
-/
import Derived.Test.YtmdloaioejahdaaDoorCompare
set_option linter.unusedVariables false
set_option linter.unusedSimpArgs false
namespace Go.Proofs.YtmdloaioejahdaaDoor
open Go.RowKit Go.Lib

set_option maxHeartbeats 4000000 in
theorem compare_go (ka : Int) (ba : Bool) (na : Int) (sa : ByteArray) (kb : Int) (bb : Bool) (nb : Int) (sb : ByteArray) (op : Int) (w : World) (hT : Tabs w) (ha : sa.size ≤ 9223372036854775807) (hb : sb.size ≤ 9223372036854775807)
    (ho1 : 11 ≤ op) (ho2 : op ≤ 16) (g1 : fitsD ka ⟨ka, ba, na, sa⟩ = true) (g2 : fitsD ka ⟨kb, bb, nb, sb⟩ = true) (k1 : (ka == 1) = false) (k2 : (kb == 1) = false) :
    Calls Tryd.prog 41 #[.int .u8 op, .agg #[.int .u8 ka, .bool ba, .int .i64 na, .string sa], .agg #[.int .u8 kb, .bool bb, .int .i64 nb, .string sb]] w
      fun e w' => e = .returned (.tuple #[.agg #[.int .u8 2, .bool (holdsS op (cmpS ⟨ka, ba, na, sa⟩ ⟨kb, bb, nb, sb⟩)), .int .i64 0, .string ⟨#[]⟩], .int .u16 0]) ∧ Below w.heap.size w w' := by
  obtain ⟨x, hx⟩ : ∃ x, holdsS op (cmpS ⟨ka, ba, na, sa⟩ ⟨kb, bb, nb, sb⟩) = x := ⟨_, rfl⟩
  rw [hx]
  have hxH := Lib.hid hx
  clear hx
  have h1 : ¬ op < 11 := by omega
  have h2 : ¬ 16 < op := by omega
  have haH := Lib.hid ha; have hbbH := Lib.hid hb; have g1H := Lib.hid g1; have g2H := Lib.hid g2; have k2H := Lib.hid k2; have k1H := Lib.hid k1
  clear ha hb g1 g2 k2
  obtain ⟨W0, hW0, hwW, hA, hB, hR, hzz⟩ := boxes2 (w.alloc (.cells #[.int .u8 op] 5)) ka ba na sa kb bb nb sb
  have hP : W0.cell? ⟨w.heap.size, 0, none⟩ = some (.int .u8 op) := by
    rw [hwW.cell (p := ⟨w.heap.size, 0, none⟩) (by simp)]; exact cell_new w #[.int .u8 op] 5 0
  have hwW2 : Below w.heap.size w W0 := by rw [← hW0]; go_grown
  have hpl : w.heap.size < W0.heap.size := by have := hwW.size; simp at this; omega
  have hPH : Hid (∀ w', Below W0.heap.size W0 w' → w'.cell? ⟨w.heap.size, 0, none⟩ = some (.int .u8 op)) := Lib.hid (fun w' hb => by
    rw [hb.cell (p := ⟨w.heap.size, 0, none⟩) hpl]; exact hP)
  simp only [World.size_alloc] at hA hB hR hzz
  have hTH := Lib.hid (hT.below hwW2)
  have hAH := Lib.hid hA; have hBH := Lib.hid hB; have hRH := Lib.hid hR; have hz0 := Lib.hid hzz; have hwWH := Lib.hid hwW2
  clear hA hB hR hzz hwW hwW2 hP hpl hT
  have hb := Below.refl W0.heap.size W0
  obtain ⟨a0, a1, a2, a3⟩ := (hAH.out.below hb).cells; obtain ⟨b0, b1, b2, b3⟩ := (hBH.out.below hb).cells; obtain ⟨r0, r1, r2, r3⟩ := (hRH.out.below hb).cells; obtain ⟨f0, f1, f2, f3⟩ := (hRH.out.below hb).free; have p0 := hPH.out _ hb; have hz := Nat.lt_of_lt_of_le hz0.out hb.size
  go_enter Tryd.func41, Tryd.ntmps41
  go_wp2_with (first
    | (go_at_call 84; go_must (refine (isNull_any ka ba na sa _).mono ?_; rintro e w' ⟨rfl, hb'⟩; replace hb := chainB (B := W0.heap.size) (a := W0) (by go_grown) hb' (by have := hb.size; first | omega | (simp; done) | (simp; omega)); clear hb' a0 a1 a2 a3 b0 b1 b2 b3 r0 r1 r2 r3 f0 f1 f2 f3 p0 hz; obtain ⟨a0, a1, a2, a3⟩ := (hAH.out.below hb).cells; obtain ⟨b0, b1, b2, b3⟩ := (hBH.out.below hb).cells; obtain ⟨r0, r1, r2, r3⟩ := (hRH.out.below hb).cells; obtain ⟨f0, f1, f2, f3⟩ := (hRH.out.below hb).free; have p0 := hPH.out _ hb; have hz := Nat.lt_of_lt_of_le hz0.out hb.size))
    | (go_at_call 78; go_must (refine (strict_go ka ka ba na sa kb bb nb sb _ _ (by exact hTH.out.below (by go_grown)) haH.out hbbH.out g1H.out g2H.out k1H.out k2H.out 85 _ (enters_of Tryd.func85 (by kernel_rfl) rfl) 2 x 0 ⟨#[]⟩ 0 rfl (fun W hW => by rw [app1, ← hxH.out]; exact cmpClos ka ba na sa kb bb nb sb op w.heap.size W (hPH.out W (chainB (B := W0.heap.size) (a := W0) (by go_grown) hW (by have := hb.size; first | omega | (simp; done) | (simp; omega)))))).mono ?_; rintro e w' ⟨rfl, hb'⟩; replace hb := chainB (B := W0.heap.size) (a := W0) (by go_grown) hb' (by have := hb.size; first | omega | (simp; done) | (simp; omega)); clear hb' a0 a1 a2 a3 b0 b1 b2 b3 r0 r1 r2 r3 f0 f1 f2 f3 p0 hz; obtain ⟨a0, a1, a2, a3⟩ := (hAH.out.below hb).cells; obtain ⟨b0, b1, b2, b3⟩ := (hBH.out.below hb).cells; obtain ⟨r0, r1, r2, r3⟩ := (hRH.out.below hb).cells; obtain ⟨f0, f1, f2, f3⟩ := (hRH.out.below hb).free; have p0 := hPH.out _ hb; have hz := Nat.lt_of_lt_of_le hz0.out hb.size)))
  refine bodyPost_ret (v := .tuple #[.agg #[.int .u8 2, .bool x, .int .i64 0, .string ⟨#[]⟩], .int .u16 0]) (by simp [results, Tryd.results41, go_sem, r0, r1, r2, r3, hz]) rfl ⟨rfl, ?_⟩
  have hbw := hwWH.out.trans (hb.mono hwWH.out.size)
  clear hb
  go_grown
end Go.Proofs.YtmdloaioejahdaaDoor
