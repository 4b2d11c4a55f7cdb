/-
  The law DatumChecks answers true, at this program, at all data. Condition: the tables of Go's library lie as their initialisers lay them; the texts have at most 2^47 bytes.
-/
import Derived.Test.YtoolojfbjpnllaaDoorKnown
import Derived.Test.YtoolojfbjpnllaaDoorRefCmp
import Derived.Test.YtoolojfbjpnllaaDoorCmp
import Derived.Test.YtoolojfbjpnllaaDoorOrd
import Derived.Test.YtoolojfbjpnllaaDoorRefPrint
import Derived.Test.YtoolojfbjpnllaaDoorLogic
import Derived.Deep.RegionHeld3
set_option linter.unusedVariables false
set_option linter.unusedSimpArgs false
namespace Go.Proofs.YtoolojfbjpnllaaDoor
open Go.RowKit Go.Lib

theorem boxesAB (w : World) (ka : Int) (ba : Bool) (na : Int) (sa : ByteArray) (kb : Int) (bb : Bool) (nb : Int) (sb : ByteArray) :
    ∃ W0, (w.alloc (.cells #[.int .u8 ka, .bool ba, .int .i64 na, .string sa] 24)).alloc (.cells #[.int .u8 kb, .bool bb, .int .i64 nb, .string sb] 24) = W0 ∧ Below w.heap.size w W0 ∧
      Has W0 w.heap.size (.int .u8 ka) (.bool ba) (.int .i64 na) (.string sa) ∧ Has W0 (w.heap.size + 1) (.int .u8 kb) (.bool bb) (.int .i64 nb) (.string sb) ∧ w.heap.size + 1 < W0.heap.size := by
  refine ⟨_, rfl, by go_grown, (Has.new _ _ _ _ _).alloc _, ?_, by simp⟩
  have := Has.new (w.alloc (.cells #[.int .u8 ka, .bool ba, .int .i64 na, .string sa] 24)) (.int .u8 kb) (.bool bb) (.int .i64 nb) (.string sb)
  simpa only [World.size_alloc] using this
theorem chk_range (d : Dat) : 0 ≤ chk d ∧ chk d ≤ 13 := by
  unfold chk
  repeat' split
  all_goals omega
set_option maxHeartbeats 32000000 in
set_option maxRecDepth 100000 in
theorem checks_any (k0 : Int) (b0 : Bool) (n0 : Int) (s0 : ByteArray) (k1 : Int) (b1 : Bool) (n1 : Int) (s1 : ByteArray) (w : World) (hT : Tabs w) (hs0 : s0.size ≤ 140737488355328) (hn0 : I64 n0) (hk0 : 0 ≤ k0 ∧ k0 ≤ 255) (hs1 : s1.size ≤ 140737488355328) (hn1 : I64 n1) (hk1 : 0 ≤ k1 ∧ k1 ≤ 255) :
    Calls Tryd.prog 3 #[.agg #[.int .u8 k0, .bool b0, .int .i64 n0, .string s0], .agg #[.int .u8 k1, .bool b1, .int .i64 n1, .string s1]] w fun e w' => e = .returned (.bool true) ∧ Below w.heap.size w w' := by
  have hr := chk_range ⟨k0, b0, n0, s0⟩
  obtain ⟨u, hu⟩ : ∃ u, chk ⟨k0, b0, n0, s0⟩ = u := ⟨_, rfl⟩
  obtain ⟨c, hc⟩ : ∃ c, cmpS ⟨k0, b0, n0, s0⟩ ⟨k1, b1, n1, s1⟩ = c := ⟨_, rfl⟩
  obtain ⟨p, hp⟩ : ∃ p, printS ⟨k0, b0, n0, s0⟩ = p := ⟨_, rfl⟩
  rw [hu] at hr
  obtain ⟨u1, u2⟩ := hr
  have hwr : IntKind.i64.wrap u = u := by
    rw [IntKind.wrap_i64]
    omega
  have hC := Lib.hid hu; have hM := Lib.hid hc; have hP := Lib.hid hp
  have hS0 := Lib.hid hs0; have hI0 := Lib.hid hn0
  have hBig := Lib.hid (show s0.size ≤ 9223372036854775807 by omega)
  obtain ⟨W0, hW0, hwW, hA, hB, hzz⟩ := boxesAB w k0 b0 n0 s0 k1 b1 n1 s1
  have hTW := Lib.hid (hT.below hwW)
  have hAH := Lib.hid hA; have hBH := Lib.hid hB; have hwWH := Lib.hid hwW
  clear hu hc hp hT hs0 hs1 hn0 hn1 hk0 hk1 hA hB hwW u1 u2
  have hb := Below.refl W0.heap.size W0
  obtain ⟨a0_, a1_, a2_, a3_⟩ := (hAH.out.below hb).cells; obtain ⟨b0_, b1_, b2_, b3_⟩ := (hBH.out.below hb).cells; have hs := hb.size
  go_enter Tryd.func3, Tryd.ntmps3
  go_wp2_with fail
  first
    | (go_region_held3 (fun w' => w'.cell? ⟨w.heap.size, 0, none⟩ = some (.int .u8 k0) ∧ w'.cell? ⟨w.heap.size, 1, none⟩ = some (.bool b0) ∧ w'.cell? ⟨w.heap.size, 2, none⟩ = some (.int .i64 n0) ∧ w'.cell? ⟨w.heap.size, 3, none⟩ = some (.string s0) ∧ w'.cell? ⟨w.heap.size + 1, 0, none⟩ = some (.int .u8 k1) ∧ w'.cell? ⟨w.heap.size + 1, 1, none⟩ = some (.bool b1) ∧ w'.cell? ⟨w.heap.size + 1, 2, none⟩ = some (.int .i64 n1) ∧ w'.cell? ⟨w.heap.size + 1, 3, none⟩ = some (.string s1)) (first | (refine ⟨?_, ?_, ?_, ?_, ?_, ?_, ?_, ?_⟩ <;> with_reducible assumption) | go_keep) (first | (go_at_call 15; refine (known_any _ (by exact hTW.out.below (by go_grown))).mono ?_; rintro e w' ⟨rfl, hb'⟩; replace hb := chainB (B := W0.heap.size) (a := W0) (by go_grown) hb' (by have := hb.size; first | omega | (simp; done) | (simp; omega)); clear hb' a0_ a1_ a2_ a3_ b0_ b1_ b2_ b3_ hs; obtain ⟨a0_, a1_, a2_, a3_⟩ := (hAH.out.below hb).cells; obtain ⟨b0_, b1_, b2_, b3_⟩ := (hBH.out.below hb).cells; have hs := hb.size) | (go_at_call 16; refine (check_any k0 b0 n0 s0 _ (by exact hTW.out.below (by go_grown)) hBig.out).mono ?_; rw [hC.out]; rintro e w' ⟨rfl, hb'⟩; replace hb := chainB (B := W0.heap.size) (a := W0) (by go_grown) hb' (by have := hb.size; first | omega | (simp; done) | (simp; omega)); clear hb' a0_ a1_ a2_ a3_ b0_ b1_ b2_ b3_ hs; obtain ⟨a0_, a1_, a2_, a3_⟩ := (hAH.out.below hb).cells; obtain ⟨b0_, b1_, b2_, b3_⟩ := (hBH.out.below hb).cells; have hs := hb.size) | (go_at_call 17; refine (refCheck_any k0 b0 n0 s0 _ hS0.out).mono ?_; rw [hC.out]; rintro e w' ⟨rfl, hb'⟩; replace hb := chainB (B := W0.heap.size) (a := W0) (by go_grown) hb' (by have := hb.size; first | omega | (simp; done) | (simp; omega)); clear hb' a0_ a1_ a2_ a3_ b0_ b1_ b2_ b3_ hs; obtain ⟨a0_, a1_, a2_, a3_⟩ := (hAH.out.below hb).cells; obtain ⟨b0_, b1_, b2_, b3_⟩ := (hBH.out.below hb).cells; have hs := hb.size) | (go_at_call 18; refine (cmp_any k0 b0 n0 s0 k1 b1 n1 s1 _).mono ?_; rw [hM.out]; rintro e w' ⟨rfl, hb'⟩; replace hb := chainB (B := W0.heap.size) (a := W0) (by go_grown) hb' (by have := hb.size; first | omega | (simp; done) | (simp; omega)); clear hb' a0_ a1_ a2_ a3_ b0_ b1_ b2_ b3_ hs; obtain ⟨a0_, a1_, a2_, a3_⟩ := (hAH.out.below hb).cells; obtain ⟨b0_, b1_, b2_, b3_⟩ := (hBH.out.below hb).cells; have hs := hb.size) | (go_at_call 19; refine (refCmp_any k0 b0 n0 s0 k1 b1 n1 s1 _).mono ?_; rw [hM.out]; rintro e w' ⟨rfl, hb'⟩; replace hb := chainB (B := W0.heap.size) (a := W0) (by go_grown) hb' (by have := hb.size; first | omega | (simp; done) | (simp; omega)); clear hb' a0_ a1_ a2_ a3_ b0_ b1_ b2_ b3_ hs; obtain ⟨a0_, a1_, a2_, a3_⟩ := (hAH.out.below hb).cells; obtain ⟨b0_, b1_, b2_, b3_⟩ := (hBH.out.below hb).cells; have hs := hb.size) | (go_at_call 20; refine (print_any k0 b0 n0 s0 _ (by exact hTW.out.below (by go_grown)) hBig.out hI0.out).mono ?_; rw [hP.out]; rintro e w' ⟨rfl, hb'⟩; replace hb := chainB (B := W0.heap.size) (a := W0) (by go_grown) hb' (by have := hb.size; first | omega | (simp; done) | (simp; omega)); clear hb' a0_ a1_ a2_ a3_ b0_ b1_ b2_ b3_ hs; obtain ⟨a0_, a1_, a2_, a3_⟩ := (hAH.out.below hb).cells; obtain ⟨b0_, b1_, b2_, b3_⟩ := (hBH.out.below hb).cells; have hs := hb.size) | (go_at_call 21; refine (refPrint_any k0 b0 n0 s0 _ hS0.out hI0.out).mono ?_; rw [hP.out]; rintro e w' ⟨rfl, hb'⟩; replace hb := chainB (B := W0.heap.size) (a := W0) (by go_grown) hb' (by have := hb.size; first | omega | (simp; done) | (simp; omega)); clear hb' a0_ a1_ a2_ a3_ b0_ b1_ b2_ b3_ hs; obtain ⟨a0_, a1_, a2_, a3_⟩ := (hAH.out.below hb).cells; obtain ⟨b0_, b1_, b2_, b3_⟩ := (hBH.out.below hb).cells; have hs := hb.size)))
    | fail
  all_goals
    go_wp2
    go_ret
    exact ⟨rfl, hwWH.out.trans (hb.mono hwWH.out.size)⟩
end Go.Proofs.YtoolojfbjpnllaaDoor
