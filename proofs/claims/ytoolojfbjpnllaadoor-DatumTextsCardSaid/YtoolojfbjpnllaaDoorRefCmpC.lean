/-
  What the document's own Compare answers, at this program. Condition: the texts have at most 2^47 bytes.
-/
import Derived.Test.YtoolojfbjpnllaaDoorRefNot
import Derived.Test.YtoolojfbjpnllaaDoorRefCmp
import Derived.Test.YtoolojfbjpnllaaDoorCmpAll
import Derived.Test.YtoolojfbjpnllaaDoorOrd
set_option linter.unusedVariables false
set_option linter.unusedSimpArgs false
namespace Go.Proofs.YtoolojfbjpnllaaDoor
open Go.RowKit Go.Lib

set_option maxRecDepth 100000 in
set_option maxHeartbeats 8000000 in
theorem refCompare_lo (op : Int) (k0 : Int) (b0 : Bool) (n0 : Int) (s0 : ByteArray) (k1 : Int) (b1 : Bool) (n1 : Int) (s1 : ByteArray) (w : World) (hs0 : s0.size ≤ 140737488355328) (hs1 : s1.size ≤ 140737488355328) (h : op < 11) :
    Calls Tryd.prog 42 #[.int .u8 op, .agg #[.int .u8 k0, .bool b0, .int .i64 n0, .string s0], .agg #[.int .u8 k1, .bool b1, .int .i64 n1, .string s1]] w fun e w' => e = .returned (.tuple #[.agg #[.int .u8 0, .bool false, .int .i64 0, .string ⟨#[]⟩], .int .i64 13]) ∧ Below w.heap.size w w' := by
  have hcA := Lib.hid (show (0 : Int) = 0 from rfl); have hcB := hcA; have hcmp := hcA
  have hs0H := Lib.hid hs0; have hs1H := Lib.hid hs1
  obtain ⟨W0, hW0, hwW, hA, hB, hR, hzz⟩ := boxes2 w k0 b0 n0 s0 k1 b1 n1 s1
  have hAH := Lib.hid hA; have hBH := Lib.hid hB; have hRH := Lib.hid hR; have hz0 := Lib.hid hzz; have hwWH := Lib.hid hwW
  clear hA hB hR hzz hwW hs0 hs1
  have hb := Below.refl W0.heap.size W0
  obtain ⟨a0, a1, a2, a3⟩ := (hAH.out.below hb).cells; obtain ⟨b0_, b1_, b2_, b3_⟩ := (hBH.out.below hb).cells; obtain ⟨r0, r1, r2, r3⟩ := (hRH.out.below hb).cells; obtain ⟨f0, f1, f2, f3⟩ := (hRH.out.below hb).free; have hz := Nat.lt_of_lt_of_le hz0.out hb.size; have hs := hb.size
  go_enter Tryd.func42, Tryd.ntmps42
  go_wp2_with (first
    | (go_at_call 17; go_must (refine (refCheck_any _ _ _ _ _ (by first | exact hs0H.out | exact hs1H.out)).mono ?_; (first | rw [hcA.out] | rw [hcB.out]); rintro e w' ⟨rfl, hb'⟩; replace hb := chainB (B := W0.heap.size) (a := W0) (by go_grown) hb' (by have := hb.size; first | omega | (simp; done) | (simp; omega)); clear hb' a0 a1 a2 a3 b0_ b1_ b2_ b3_ r0 r1 r2 r3 f0 f1 f2 f3 hz hs; obtain ⟨a0, a1, a2, a3⟩ := (hAH.out.below hb).cells; obtain ⟨b0_, b1_, b2_, b3_⟩ := (hBH.out.below hb).cells; obtain ⟨r0, r1, r2, r3⟩ := (hRH.out.below hb).cells; obtain ⟨f0, f1, f2, f3⟩ := (hRH.out.below hb).free; have hz := Nat.lt_of_lt_of_le hz0.out hb.size; have hs := hb.size))
    | (go_at_call 19; go_must (refine (refCmp_any _ _ _ _ _ _ _ _ _).mono ?_; rw [hcmp.out]; rintro e w' ⟨rfl, hb'⟩; replace hb := chainB (B := W0.heap.size) (a := W0) (by go_grown) hb' (by have := hb.size; first | omega | (simp; done) | (simp; omega)); clear hb' a0 a1 a2 a3 b0_ b1_ b2_ b3_ r0 r1 r2 r3 f0 f1 f2 f3 hz hs; obtain ⟨a0, a1, a2, a3⟩ := (hAH.out.below hb).cells; obtain ⟨b0_, b1_, b2_, b3_⟩ := (hBH.out.below hb).cells; obtain ⟨r0, r1, r2, r3⟩ := (hRH.out.below hb).cells; obtain ⟨f0, f1, f2, f3⟩ := (hRH.out.below hb).free; have hz := Nat.lt_of_lt_of_le hz0.out hb.size; have hs := hb.size))
    | (go_at_call 66; go_must (refine (refNull_any _).mono ?_; rintro e w' ⟨rfl, hb'⟩; replace hb := chainB (B := W0.heap.size) (a := W0) (by go_grown) hb' (by have := hb.size; first | omega | (simp; done) | (simp; omega)); clear hb' a0 a1 a2 a3 b0_ b1_ b2_ b3_ r0 r1 r2 r3 f0 f1 f2 f3 hz hs; obtain ⟨a0, a1, a2, a3⟩ := (hAH.out.below hb).cells; obtain ⟨b0_, b1_, b2_, b3_⟩ := (hBH.out.below hb).cells; obtain ⟨r0, r1, r2, r3⟩ := (hRH.out.below hb).cells; obtain ⟨f0, f1, f2, f3⟩ := (hRH.out.below hb).free; have hz := Nat.lt_of_lt_of_le hz0.out hb.size; have hs := hb.size))
    | (go_at_call 67; go_must (refine (refBool_any _ _).mono ?_; rintro e w' ⟨rfl, hb'⟩; replace hb := chainB (B := W0.heap.size) (a := W0) (by go_grown) hb' (by have := hb.size; first | omega | (simp; done) | (simp; omega)); clear hb' a0 a1 a2 a3 b0_ b1_ b2_ b3_ r0 r1 r2 r3 f0 f1 f2 f3 hz hs; obtain ⟨a0, a1, a2, a3⟩ := (hAH.out.below hb).cells; obtain ⟨b0_, b1_, b2_, b3_⟩ := (hBH.out.below hb).cells; obtain ⟨r0, r1, r2, r3⟩ := (hRH.out.below hb).cells; obtain ⟨f0, f1, f2, f3⟩ := (hRH.out.below hb).free; have hz := Nat.lt_of_lt_of_le hz0.out hb.size; have hs := hb.size)))
  refine bodyPost_ret (v := .tuple #[.agg #[.int .u8 0, .bool false, .int .i64 0, .string ⟨#[]⟩], .int .i64 13]) (by simp [results, Tryd.results42, go_sem, r0, r1, r2, r3, hz]) rfl ⟨rfl, ?_⟩
  have hbw := hwWH.out.trans (hb.mono hwWH.out.size)
  clear hb
  go_grown

set_option maxRecDepth 100000 in
set_option maxHeartbeats 8000000 in
theorem refCompare_hi (op : Int) (k0 : Int) (b0 : Bool) (n0 : Int) (s0 : ByteArray) (k1 : Int) (b1 : Bool) (n1 : Int) (s1 : ByteArray) (w : World) (hs0 : s0.size ≤ 140737488355328) (hs1 : s1.size ≤ 140737488355328) (h : 16 < op) :
    Calls Tryd.prog 42 #[.int .u8 op, .agg #[.int .u8 k0, .bool b0, .int .i64 n0, .string s0], .agg #[.int .u8 k1, .bool b1, .int .i64 n1, .string s1]] w fun e w' => e = .returned (.tuple #[.agg #[.int .u8 0, .bool false, .int .i64 0, .string ⟨#[]⟩], .int .i64 13]) ∧ Below w.heap.size w w' := by
  have hcA := Lib.hid (show (0 : Int) = 0 from rfl); have hcB := hcA; have hcmp := hcA
  have h' : ¬ op < 11 := by omega
  have hs0H := Lib.hid hs0; have hs1H := Lib.hid hs1
  obtain ⟨W0, hW0, hwW, hA, hB, hR, hzz⟩ := boxes2 w k0 b0 n0 s0 k1 b1 n1 s1
  have hAH := Lib.hid hA; have hBH := Lib.hid hB; have hRH := Lib.hid hR; have hz0 := Lib.hid hzz; have hwWH := Lib.hid hwW
  clear hA hB hR hzz hwW hs0 hs1
  have hb := Below.refl W0.heap.size W0
  obtain ⟨a0, a1, a2, a3⟩ := (hAH.out.below hb).cells; obtain ⟨b0_, b1_, b2_, b3_⟩ := (hBH.out.below hb).cells; obtain ⟨r0, r1, r2, r3⟩ := (hRH.out.below hb).cells; obtain ⟨f0, f1, f2, f3⟩ := (hRH.out.below hb).free; have hz := Nat.lt_of_lt_of_le hz0.out hb.size; have hs := hb.size
  go_enter Tryd.func42, Tryd.ntmps42
  go_wp2_with (first
    | (go_at_call 17; go_must (refine (refCheck_any _ _ _ _ _ (by first | exact hs0H.out | exact hs1H.out)).mono ?_; (first | rw [hcA.out] | rw [hcB.out]); rintro e w' ⟨rfl, hb'⟩; replace hb := chainB (B := W0.heap.size) (a := W0) (by go_grown) hb' (by have := hb.size; first | omega | (simp; done) | (simp; omega)); clear hb' a0 a1 a2 a3 b0_ b1_ b2_ b3_ r0 r1 r2 r3 f0 f1 f2 f3 hz hs; obtain ⟨a0, a1, a2, a3⟩ := (hAH.out.below hb).cells; obtain ⟨b0_, b1_, b2_, b3_⟩ := (hBH.out.below hb).cells; obtain ⟨r0, r1, r2, r3⟩ := (hRH.out.below hb).cells; obtain ⟨f0, f1, f2, f3⟩ := (hRH.out.below hb).free; have hz := Nat.lt_of_lt_of_le hz0.out hb.size; have hs := hb.size))
    | (go_at_call 19; go_must (refine (refCmp_any _ _ _ _ _ _ _ _ _).mono ?_; rw [hcmp.out]; rintro e w' ⟨rfl, hb'⟩; replace hb := chainB (B := W0.heap.size) (a := W0) (by go_grown) hb' (by have := hb.size; first | omega | (simp; done) | (simp; omega)); clear hb' a0 a1 a2 a3 b0_ b1_ b2_ b3_ r0 r1 r2 r3 f0 f1 f2 f3 hz hs; obtain ⟨a0, a1, a2, a3⟩ := (hAH.out.below hb).cells; obtain ⟨b0_, b1_, b2_, b3_⟩ := (hBH.out.below hb).cells; obtain ⟨r0, r1, r2, r3⟩ := (hRH.out.below hb).cells; obtain ⟨f0, f1, f2, f3⟩ := (hRH.out.below hb).free; have hz := Nat.lt_of_lt_of_le hz0.out hb.size; have hs := hb.size))
    | (go_at_call 66; go_must (refine (refNull_any _).mono ?_; rintro e w' ⟨rfl, hb'⟩; replace hb := chainB (B := W0.heap.size) (a := W0) (by go_grown) hb' (by have := hb.size; first | omega | (simp; done) | (simp; omega)); clear hb' a0 a1 a2 a3 b0_ b1_ b2_ b3_ r0 r1 r2 r3 f0 f1 f2 f3 hz hs; obtain ⟨a0, a1, a2, a3⟩ := (hAH.out.below hb).cells; obtain ⟨b0_, b1_, b2_, b3_⟩ := (hBH.out.below hb).cells; obtain ⟨r0, r1, r2, r3⟩ := (hRH.out.below hb).cells; obtain ⟨f0, f1, f2, f3⟩ := (hRH.out.below hb).free; have hz := Nat.lt_of_lt_of_le hz0.out hb.size; have hs := hb.size))
    | (go_at_call 67; go_must (refine (refBool_any _ _).mono ?_; rintro e w' ⟨rfl, hb'⟩; replace hb := chainB (B := W0.heap.size) (a := W0) (by go_grown) hb' (by have := hb.size; first | omega | (simp; done) | (simp; omega)); clear hb' a0 a1 a2 a3 b0_ b1_ b2_ b3_ r0 r1 r2 r3 f0 f1 f2 f3 hz hs; obtain ⟨a0, a1, a2, a3⟩ := (hAH.out.below hb).cells; obtain ⟨b0_, b1_, b2_, b3_⟩ := (hBH.out.below hb).cells; obtain ⟨r0, r1, r2, r3⟩ := (hRH.out.below hb).cells; obtain ⟨f0, f1, f2, f3⟩ := (hRH.out.below hb).free; have hz := Nat.lt_of_lt_of_le hz0.out hb.size; have hs := hb.size)))
  refine bodyPost_ret (v := .tuple #[.agg #[.int .u8 0, .bool false, .int .i64 0, .string ⟨#[]⟩], .int .i64 13]) (by simp [results, Tryd.results42, go_sem, r0, r1, r2, r3, hz]) rfl ⟨rfl, ?_⟩
  have hbw := hwWH.out.trans (hb.mono hwWH.out.size)
  clear hb
  go_grown

set_option maxRecDepth 100000 in
set_option maxHeartbeats 8000000 in
theorem refCompare_a (op : Int) (k0 : Int) (b0 : Bool) (n0 : Int) (s0 : ByteArray) (k1 : Int) (b1 : Bool) (n1 : Int) (s1 : ByteArray) (w : World) (hs0 : s0.size ≤ 140737488355328) (hs1 : s1.size ≤ 140737488355328) (ho : 11 ≤ op ∧ op ≤ 16) (hA : ¬ chk ⟨k0, b0, n0, s0⟩ = 0) :
    Calls Tryd.prog 42 #[.int .u8 op, .agg #[.int .u8 k0, .bool b0, .int .i64 n0, .string s0], .agg #[.int .u8 k1, .bool b1, .int .i64 n1, .string s1]] w fun e w' => e = .returned (.tuple #[.agg #[.int .u8 0, .bool false, .int .i64 0, .string ⟨#[]⟩], .int .i64 13]) ∧ Below w.heap.size w w' := by
  have o1 : ¬ op < 11 := by omega
  have o2 : ¬ 16 < op := by omega
  obtain ⟨u0, hu0⟩ : ∃ u, chk ⟨k0, b0, n0, s0⟩ = u := ⟨_, rfl⟩
  have hcA := Lib.hid hu0
  rw [hu0] at hA
  have gA : (u0 != 0) = true := by simpa using hA
  clear hu0 hA
  have hcB := hcA
  have hcmp := Lib.hid (show (0 : Int) = 0 from rfl)
  have hs0H := Lib.hid hs0; have hs1H := Lib.hid hs1
  obtain ⟨W0, hW0, hwW, hA, hB, hR, hzz⟩ := boxes2 w k0 b0 n0 s0 k1 b1 n1 s1
  have hAH := Lib.hid hA; have hBH := Lib.hid hB; have hRH := Lib.hid hR; have hz0 := Lib.hid hzz; have hwWH := Lib.hid hwW
  clear hA hB hR hzz hwW hs0 hs1
  have hb := Below.refl W0.heap.size W0
  obtain ⟨a0, a1, a2, a3⟩ := (hAH.out.below hb).cells; obtain ⟨b0_, b1_, b2_, b3_⟩ := (hBH.out.below hb).cells; obtain ⟨r0, r1, r2, r3⟩ := (hRH.out.below hb).cells; obtain ⟨f0, f1, f2, f3⟩ := (hRH.out.below hb).free; have hz := Nat.lt_of_lt_of_le hz0.out hb.size; have hs := hb.size
  go_enter Tryd.func42, Tryd.ntmps42
  go_wp2_with (first
    | (go_at_call 17; go_must (refine (refCheck_any _ _ _ _ _ (by first | exact hs0H.out | exact hs1H.out)).mono ?_; (first | rw [hcA.out] | rw [hcB.out]); rintro e w' ⟨rfl, hb'⟩; replace hb := chainB (B := W0.heap.size) (a := W0) (by go_grown) hb' (by have := hb.size; first | omega | (simp; done) | (simp; omega)); clear hb' a0 a1 a2 a3 b0_ b1_ b2_ b3_ r0 r1 r2 r3 f0 f1 f2 f3 hz hs; obtain ⟨a0, a1, a2, a3⟩ := (hAH.out.below hb).cells; obtain ⟨b0_, b1_, b2_, b3_⟩ := (hBH.out.below hb).cells; obtain ⟨r0, r1, r2, r3⟩ := (hRH.out.below hb).cells; obtain ⟨f0, f1, f2, f3⟩ := (hRH.out.below hb).free; have hz := Nat.lt_of_lt_of_le hz0.out hb.size; have hs := hb.size))
    | (go_at_call 19; go_must (refine (refCmp_any _ _ _ _ _ _ _ _ _).mono ?_; rw [hcmp.out]; rintro e w' ⟨rfl, hb'⟩; replace hb := chainB (B := W0.heap.size) (a := W0) (by go_grown) hb' (by have := hb.size; first | omega | (simp; done) | (simp; omega)); clear hb' a0 a1 a2 a3 b0_ b1_ b2_ b3_ r0 r1 r2 r3 f0 f1 f2 f3 hz hs; obtain ⟨a0, a1, a2, a3⟩ := (hAH.out.below hb).cells; obtain ⟨b0_, b1_, b2_, b3_⟩ := (hBH.out.below hb).cells; obtain ⟨r0, r1, r2, r3⟩ := (hRH.out.below hb).cells; obtain ⟨f0, f1, f2, f3⟩ := (hRH.out.below hb).free; have hz := Nat.lt_of_lt_of_le hz0.out hb.size; have hs := hb.size))
    | (go_at_call 66; go_must (refine (refNull_any _).mono ?_; rintro e w' ⟨rfl, hb'⟩; replace hb := chainB (B := W0.heap.size) (a := W0) (by go_grown) hb' (by have := hb.size; first | omega | (simp; done) | (simp; omega)); clear hb' a0 a1 a2 a3 b0_ b1_ b2_ b3_ r0 r1 r2 r3 f0 f1 f2 f3 hz hs; obtain ⟨a0, a1, a2, a3⟩ := (hAH.out.below hb).cells; obtain ⟨b0_, b1_, b2_, b3_⟩ := (hBH.out.below hb).cells; obtain ⟨r0, r1, r2, r3⟩ := (hRH.out.below hb).cells; obtain ⟨f0, f1, f2, f3⟩ := (hRH.out.below hb).free; have hz := Nat.lt_of_lt_of_le hz0.out hb.size; have hs := hb.size))
    | (go_at_call 67; go_must (refine (refBool_any _ _).mono ?_; rintro e w' ⟨rfl, hb'⟩; replace hb := chainB (B := W0.heap.size) (a := W0) (by go_grown) hb' (by have := hb.size; first | omega | (simp; done) | (simp; omega)); clear hb' a0 a1 a2 a3 b0_ b1_ b2_ b3_ r0 r1 r2 r3 f0 f1 f2 f3 hz hs; obtain ⟨a0, a1, a2, a3⟩ := (hAH.out.below hb).cells; obtain ⟨b0_, b1_, b2_, b3_⟩ := (hBH.out.below hb).cells; obtain ⟨r0, r1, r2, r3⟩ := (hRH.out.below hb).cells; obtain ⟨f0, f1, f2, f3⟩ := (hRH.out.below hb).free; have hz := Nat.lt_of_lt_of_le hz0.out hb.size; have hs := hb.size)))
  refine bodyPost_ret (v := .tuple #[.agg #[.int .u8 0, .bool false, .int .i64 0, .string ⟨#[]⟩], .int .i64 13]) (by simp [results, Tryd.results42, go_sem, r0, r1, r2, r3, hz]) rfl ⟨rfl, ?_⟩
  have hbw := hwWH.out.trans (hb.mono hwWH.out.size)
  clear hb
  go_grown

set_option maxRecDepth 100000 in
set_option maxHeartbeats 8000000 in
theorem refCompare_b (op : Int) (k0 : Int) (b0 : Bool) (n0 : Int) (s0 : ByteArray) (k1 : Int) (b1 : Bool) (n1 : Int) (s1 : ByteArray) (w : World) (hs0 : s0.size ≤ 140737488355328) (hs1 : s1.size ≤ 140737488355328) (ho : 11 ≤ op ∧ op ≤ 16) (hA : chk ⟨k0, b0, n0, s0⟩ = 0) (hB : ¬ chk ⟨k1, b1, n1, s1⟩ = 0) :
    Calls Tryd.prog 42 #[.int .u8 op, .agg #[.int .u8 k0, .bool b0, .int .i64 n0, .string s0], .agg #[.int .u8 k1, .bool b1, .int .i64 n1, .string s1]] w fun e w' => e = .returned (.tuple #[.agg #[.int .u8 0, .bool false, .int .i64 0, .string ⟨#[]⟩], .int .i64 13]) ∧ Below w.heap.size w w' := by
  have o1 : ¬ op < 11 := by omega
  have o2 : ¬ 16 < op := by omega
  have hcA := Lib.hid hA
  clear hA
  obtain ⟨u1, hu1⟩ : ∃ u, chk ⟨k1, b1, n1, s1⟩ = u := ⟨_, rfl⟩
  have hcB := Lib.hid hu1
  rw [hu1] at hB
  have gB : (u1 != 0) = true := by simpa using hB
  clear hu1 hB
  have hcmp := Lib.hid (show (0 : Int) = 0 from rfl)
  have hs0H := Lib.hid hs0; have hs1H := Lib.hid hs1
  obtain ⟨W0, hW0, hwW, hA, hB, hR, hzz⟩ := boxes2 w k0 b0 n0 s0 k1 b1 n1 s1
  have hAH := Lib.hid hA; have hBH := Lib.hid hB; have hRH := Lib.hid hR; have hz0 := Lib.hid hzz; have hwWH := Lib.hid hwW
  clear hA hB hR hzz hwW hs0 hs1
  have hb := Below.refl W0.heap.size W0
  obtain ⟨a0, a1, a2, a3⟩ := (hAH.out.below hb).cells; obtain ⟨b0_, b1_, b2_, b3_⟩ := (hBH.out.below hb).cells; obtain ⟨r0, r1, r2, r3⟩ := (hRH.out.below hb).cells; obtain ⟨f0, f1, f2, f3⟩ := (hRH.out.below hb).free; have hz := Nat.lt_of_lt_of_le hz0.out hb.size; have hs := hb.size
  go_enter Tryd.func42, Tryd.ntmps42
  go_wp2_with (first
    | (go_at_call 17; go_must (refine (refCheck_any _ _ _ _ _ (by first | exact hs0H.out | exact hs1H.out)).mono ?_; (first | rw [hcA.out] | rw [hcB.out]); rintro e w' ⟨rfl, hb'⟩; replace hb := chainB (B := W0.heap.size) (a := W0) (by go_grown) hb' (by have := hb.size; first | omega | (simp; done) | (simp; omega)); clear hb' a0 a1 a2 a3 b0_ b1_ b2_ b3_ r0 r1 r2 r3 f0 f1 f2 f3 hz hs; obtain ⟨a0, a1, a2, a3⟩ := (hAH.out.below hb).cells; obtain ⟨b0_, b1_, b2_, b3_⟩ := (hBH.out.below hb).cells; obtain ⟨r0, r1, r2, r3⟩ := (hRH.out.below hb).cells; obtain ⟨f0, f1, f2, f3⟩ := (hRH.out.below hb).free; have hz := Nat.lt_of_lt_of_le hz0.out hb.size; have hs := hb.size))
    | (go_at_call 19; go_must (refine (refCmp_any _ _ _ _ _ _ _ _ _).mono ?_; rw [hcmp.out]; rintro e w' ⟨rfl, hb'⟩; replace hb := chainB (B := W0.heap.size) (a := W0) (by go_grown) hb' (by have := hb.size; first | omega | (simp; done) | (simp; omega)); clear hb' a0 a1 a2 a3 b0_ b1_ b2_ b3_ r0 r1 r2 r3 f0 f1 f2 f3 hz hs; obtain ⟨a0, a1, a2, a3⟩ := (hAH.out.below hb).cells; obtain ⟨b0_, b1_, b2_, b3_⟩ := (hBH.out.below hb).cells; obtain ⟨r0, r1, r2, r3⟩ := (hRH.out.below hb).cells; obtain ⟨f0, f1, f2, f3⟩ := (hRH.out.below hb).free; have hz := Nat.lt_of_lt_of_le hz0.out hb.size; have hs := hb.size))
    | (go_at_call 66; go_must (refine (refNull_any _).mono ?_; rintro e w' ⟨rfl, hb'⟩; replace hb := chainB (B := W0.heap.size) (a := W0) (by go_grown) hb' (by have := hb.size; first | omega | (simp; done) | (simp; omega)); clear hb' a0 a1 a2 a3 b0_ b1_ b2_ b3_ r0 r1 r2 r3 f0 f1 f2 f3 hz hs; obtain ⟨a0, a1, a2, a3⟩ := (hAH.out.below hb).cells; obtain ⟨b0_, b1_, b2_, b3_⟩ := (hBH.out.below hb).cells; obtain ⟨r0, r1, r2, r3⟩ := (hRH.out.below hb).cells; obtain ⟨f0, f1, f2, f3⟩ := (hRH.out.below hb).free; have hz := Nat.lt_of_lt_of_le hz0.out hb.size; have hs := hb.size))
    | (go_at_call 67; go_must (refine (refBool_any _ _).mono ?_; rintro e w' ⟨rfl, hb'⟩; replace hb := chainB (B := W0.heap.size) (a := W0) (by go_grown) hb' (by have := hb.size; first | omega | (simp; done) | (simp; omega)); clear hb' a0 a1 a2 a3 b0_ b1_ b2_ b3_ r0 r1 r2 r3 f0 f1 f2 f3 hz hs; obtain ⟨a0, a1, a2, a3⟩ := (hAH.out.below hb).cells; obtain ⟨b0_, b1_, b2_, b3_⟩ := (hBH.out.below hb).cells; obtain ⟨r0, r1, r2, r3⟩ := (hRH.out.below hb).cells; obtain ⟨f0, f1, f2, f3⟩ := (hRH.out.below hb).free; have hz := Nat.lt_of_lt_of_le hz0.out hb.size; have hs := hb.size)))
  refine bodyPost_ret (v := .tuple #[.agg #[.int .u8 0, .bool false, .int .i64 0, .string ⟨#[]⟩], .int .i64 13]) (by simp [results, Tryd.results42, go_sem, r0, r1, r2, r3, hz]) rfl ⟨rfl, ?_⟩
  have hbw := hwWH.out.trans (hb.mono hwWH.out.size)
  clear hb
  go_grown

set_option maxRecDepth 100000 in
set_option maxHeartbeats 8000000 in
theorem refCompare_na (op : Int) (k0 : Int) (b0 : Bool) (n0 : Int) (s0 : ByteArray) (k1 : Int) (b1 : Bool) (n1 : Int) (s1 : ByteArray) (w : World) (hs0 : s0.size ≤ 140737488355328) (hs1 : s1.size ≤ 140737488355328) (ho : 11 ≤ op ∧ op ≤ 16) (hA : chk ⟨k0, b0, n0, s0⟩ = 0) (hB : chk ⟨k1, b1, n1, s1⟩ = 0) (h : k0 = 1) :
    Calls Tryd.prog 42 #[.int .u8 op, .agg #[.int .u8 k0, .bool b0, .int .i64 n0, .string s0], .agg #[.int .u8 k1, .bool b1, .int .i64 n1, .string s1]] w fun e w' => e = .returned (.tuple #[.agg #[.int .u8 1, .bool false, .int .i64 0, .string ⟨#[]⟩], .int .i64 0]) ∧ Below w.heap.size w w' := by
  have o1 : ¬ op < 11 := by omega
  have o2 : ¬ 16 < op := by omega
  have hcA := Lib.hid hA; have hcB := Lib.hid hB
  clear hA hB
  have g1 : (k0 == 1) = true := by simp [h]
  clear h
  have hcmp := Lib.hid (show (0 : Int) = 0 from rfl)
  have hs0H := Lib.hid hs0; have hs1H := Lib.hid hs1
  obtain ⟨W0, hW0, hwW, hA, hB, hR, hzz⟩ := boxes2 w k0 b0 n0 s0 k1 b1 n1 s1
  have hAH := Lib.hid hA; have hBH := Lib.hid hB; have hRH := Lib.hid hR; have hz0 := Lib.hid hzz; have hwWH := Lib.hid hwW
  clear hA hB hR hzz hwW hs0 hs1
  have hb := Below.refl W0.heap.size W0
  obtain ⟨a0, a1, a2, a3⟩ := (hAH.out.below hb).cells; obtain ⟨b0_, b1_, b2_, b3_⟩ := (hBH.out.below hb).cells; obtain ⟨r0, r1, r2, r3⟩ := (hRH.out.below hb).cells; obtain ⟨f0, f1, f2, f3⟩ := (hRH.out.below hb).free; have hz := Nat.lt_of_lt_of_le hz0.out hb.size; have hs := hb.size
  go_enter Tryd.func42, Tryd.ntmps42
  go_wp2_with (first
    | (go_at_call 17; go_must (refine (refCheck_any _ _ _ _ _ (by first | exact hs0H.out | exact hs1H.out)).mono ?_; (first | rw [hcA.out] | rw [hcB.out]); rintro e w' ⟨rfl, hb'⟩; replace hb := chainB (B := W0.heap.size) (a := W0) (by go_grown) hb' (by have := hb.size; first | omega | (simp; done) | (simp; omega)); clear hb' a0 a1 a2 a3 b0_ b1_ b2_ b3_ r0 r1 r2 r3 f0 f1 f2 f3 hz hs; obtain ⟨a0, a1, a2, a3⟩ := (hAH.out.below hb).cells; obtain ⟨b0_, b1_, b2_, b3_⟩ := (hBH.out.below hb).cells; obtain ⟨r0, r1, r2, r3⟩ := (hRH.out.below hb).cells; obtain ⟨f0, f1, f2, f3⟩ := (hRH.out.below hb).free; have hz := Nat.lt_of_lt_of_le hz0.out hb.size; have hs := hb.size))
    | (go_at_call 19; go_must (refine (refCmp_any _ _ _ _ _ _ _ _ _).mono ?_; rw [hcmp.out]; rintro e w' ⟨rfl, hb'⟩; replace hb := chainB (B := W0.heap.size) (a := W0) (by go_grown) hb' (by have := hb.size; first | omega | (simp; done) | (simp; omega)); clear hb' a0 a1 a2 a3 b0_ b1_ b2_ b3_ r0 r1 r2 r3 f0 f1 f2 f3 hz hs; obtain ⟨a0, a1, a2, a3⟩ := (hAH.out.below hb).cells; obtain ⟨b0_, b1_, b2_, b3_⟩ := (hBH.out.below hb).cells; obtain ⟨r0, r1, r2, r3⟩ := (hRH.out.below hb).cells; obtain ⟨f0, f1, f2, f3⟩ := (hRH.out.below hb).free; have hz := Nat.lt_of_lt_of_le hz0.out hb.size; have hs := hb.size))
    | (go_at_call 66; go_must (refine (refNull_any _).mono ?_; rintro e w' ⟨rfl, hb'⟩; replace hb := chainB (B := W0.heap.size) (a := W0) (by go_grown) hb' (by have := hb.size; first | omega | (simp; done) | (simp; omega)); clear hb' a0 a1 a2 a3 b0_ b1_ b2_ b3_ r0 r1 r2 r3 f0 f1 f2 f3 hz hs; obtain ⟨a0, a1, a2, a3⟩ := (hAH.out.below hb).cells; obtain ⟨b0_, b1_, b2_, b3_⟩ := (hBH.out.below hb).cells; obtain ⟨r0, r1, r2, r3⟩ := (hRH.out.below hb).cells; obtain ⟨f0, f1, f2, f3⟩ := (hRH.out.below hb).free; have hz := Nat.lt_of_lt_of_le hz0.out hb.size; have hs := hb.size))
    | (go_at_call 67; go_must (refine (refBool_any _ _).mono ?_; rintro e w' ⟨rfl, hb'⟩; replace hb := chainB (B := W0.heap.size) (a := W0) (by go_grown) hb' (by have := hb.size; first | omega | (simp; done) | (simp; omega)); clear hb' a0 a1 a2 a3 b0_ b1_ b2_ b3_ r0 r1 r2 r3 f0 f1 f2 f3 hz hs; obtain ⟨a0, a1, a2, a3⟩ := (hAH.out.below hb).cells; obtain ⟨b0_, b1_, b2_, b3_⟩ := (hBH.out.below hb).cells; obtain ⟨r0, r1, r2, r3⟩ := (hRH.out.below hb).cells; obtain ⟨f0, f1, f2, f3⟩ := (hRH.out.below hb).free; have hz := Nat.lt_of_lt_of_le hz0.out hb.size; have hs := hb.size)))
  refine bodyPost_ret (v := .tuple #[.agg #[.int .u8 1, .bool false, .int .i64 0, .string ⟨#[]⟩], .int .i64 0]) (by simp [results, Tryd.results42, go_sem, r0, r1, r2, r3, hz]) rfl ⟨rfl, ?_⟩
  have hbw := hwWH.out.trans (hb.mono hwWH.out.size)
  clear hb
  go_grown

set_option maxRecDepth 100000 in
set_option maxHeartbeats 8000000 in
theorem refCompare_nb (op : Int) (k0 : Int) (b0 : Bool) (n0 : Int) (s0 : ByteArray) (k1 : Int) (b1 : Bool) (n1 : Int) (s1 : ByteArray) (w : World) (hs0 : s0.size ≤ 140737488355328) (hs1 : s1.size ≤ 140737488355328) (ho : 11 ≤ op ∧ op ≤ 16) (hA : chk ⟨k0, b0, n0, s0⟩ = 0) (hB : chk ⟨k1, b1, n1, s1⟩ = 0) (h : ¬ k0 = 1) (h' : k1 = 1) :
    Calls Tryd.prog 42 #[.int .u8 op, .agg #[.int .u8 k0, .bool b0, .int .i64 n0, .string s0], .agg #[.int .u8 k1, .bool b1, .int .i64 n1, .string s1]] w fun e w' => e = .returned (.tuple #[.agg #[.int .u8 1, .bool false, .int .i64 0, .string ⟨#[]⟩], .int .i64 0]) ∧ Below w.heap.size w w' := by
  have o1 : ¬ op < 11 := by omega
  have o2 : ¬ 16 < op := by omega
  have hcA := Lib.hid hA; have hcB := Lib.hid hB
  clear hA hB
  have g1 : (k0 == 1) = false := by simpa using h
  have g2 : (k1 == 1) = true := by simp [h']
  clear h h'
  have hcmp := Lib.hid (show (0 : Int) = 0 from rfl)
  have hs0H := Lib.hid hs0; have hs1H := Lib.hid hs1
  obtain ⟨W0, hW0, hwW, hA, hB, hR, hzz⟩ := boxes2 w k0 b0 n0 s0 k1 b1 n1 s1
  have hAH := Lib.hid hA; have hBH := Lib.hid hB; have hRH := Lib.hid hR; have hz0 := Lib.hid hzz; have hwWH := Lib.hid hwW
  clear hA hB hR hzz hwW hs0 hs1
  have hb := Below.refl W0.heap.size W0
  obtain ⟨a0, a1, a2, a3⟩ := (hAH.out.below hb).cells; obtain ⟨b0_, b1_, b2_, b3_⟩ := (hBH.out.below hb).cells; obtain ⟨r0, r1, r2, r3⟩ := (hRH.out.below hb).cells; obtain ⟨f0, f1, f2, f3⟩ := (hRH.out.below hb).free; have hz := Nat.lt_of_lt_of_le hz0.out hb.size; have hs := hb.size
  go_enter Tryd.func42, Tryd.ntmps42
  go_wp2_with (first
    | (go_at_call 17; go_must (refine (refCheck_any _ _ _ _ _ (by first | exact hs0H.out | exact hs1H.out)).mono ?_; (first | rw [hcA.out] | rw [hcB.out]); rintro e w' ⟨rfl, hb'⟩; replace hb := chainB (B := W0.heap.size) (a := W0) (by go_grown) hb' (by have := hb.size; first | omega | (simp; done) | (simp; omega)); clear hb' a0 a1 a2 a3 b0_ b1_ b2_ b3_ r0 r1 r2 r3 f0 f1 f2 f3 hz hs; obtain ⟨a0, a1, a2, a3⟩ := (hAH.out.below hb).cells; obtain ⟨b0_, b1_, b2_, b3_⟩ := (hBH.out.below hb).cells; obtain ⟨r0, r1, r2, r3⟩ := (hRH.out.below hb).cells; obtain ⟨f0, f1, f2, f3⟩ := (hRH.out.below hb).free; have hz := Nat.lt_of_lt_of_le hz0.out hb.size; have hs := hb.size))
    | (go_at_call 19; go_must (refine (refCmp_any _ _ _ _ _ _ _ _ _).mono ?_; rw [hcmp.out]; rintro e w' ⟨rfl, hb'⟩; replace hb := chainB (B := W0.heap.size) (a := W0) (by go_grown) hb' (by have := hb.size; first | omega | (simp; done) | (simp; omega)); clear hb' a0 a1 a2 a3 b0_ b1_ b2_ b3_ r0 r1 r2 r3 f0 f1 f2 f3 hz hs; obtain ⟨a0, a1, a2, a3⟩ := (hAH.out.below hb).cells; obtain ⟨b0_, b1_, b2_, b3_⟩ := (hBH.out.below hb).cells; obtain ⟨r0, r1, r2, r3⟩ := (hRH.out.below hb).cells; obtain ⟨f0, f1, f2, f3⟩ := (hRH.out.below hb).free; have hz := Nat.lt_of_lt_of_le hz0.out hb.size; have hs := hb.size))
    | (go_at_call 66; go_must (refine (refNull_any _).mono ?_; rintro e w' ⟨rfl, hb'⟩; replace hb := chainB (B := W0.heap.size) (a := W0) (by go_grown) hb' (by have := hb.size; first | omega | (simp; done) | (simp; omega)); clear hb' a0 a1 a2 a3 b0_ b1_ b2_ b3_ r0 r1 r2 r3 f0 f1 f2 f3 hz hs; obtain ⟨a0, a1, a2, a3⟩ := (hAH.out.below hb).cells; obtain ⟨b0_, b1_, b2_, b3_⟩ := (hBH.out.below hb).cells; obtain ⟨r0, r1, r2, r3⟩ := (hRH.out.below hb).cells; obtain ⟨f0, f1, f2, f3⟩ := (hRH.out.below hb).free; have hz := Nat.lt_of_lt_of_le hz0.out hb.size; have hs := hb.size))
    | (go_at_call 67; go_must (refine (refBool_any _ _).mono ?_; rintro e w' ⟨rfl, hb'⟩; replace hb := chainB (B := W0.heap.size) (a := W0) (by go_grown) hb' (by have := hb.size; first | omega | (simp; done) | (simp; omega)); clear hb' a0 a1 a2 a3 b0_ b1_ b2_ b3_ r0 r1 r2 r3 f0 f1 f2 f3 hz hs; obtain ⟨a0, a1, a2, a3⟩ := (hAH.out.below hb).cells; obtain ⟨b0_, b1_, b2_, b3_⟩ := (hBH.out.below hb).cells; obtain ⟨r0, r1, r2, r3⟩ := (hRH.out.below hb).cells; obtain ⟨f0, f1, f2, f3⟩ := (hRH.out.below hb).free; have hz := Nat.lt_of_lt_of_le hz0.out hb.size; have hs := hb.size)))
  refine bodyPost_ret (v := .tuple #[.agg #[.int .u8 1, .bool false, .int .i64 0, .string ⟨#[]⟩], .int .i64 0]) (by simp [results, Tryd.results42, go_sem, r0, r1, r2, r3, hz]) rfl ⟨rfl, ?_⟩
  have hbw := hwWH.out.trans (hb.mono hwWH.out.size)
  clear hb
  go_grown

set_option maxRecDepth 100000 in
set_option maxHeartbeats 8000000 in
theorem refCompare_k (op : Int) (k0 : Int) (b0 : Bool) (n0 : Int) (s0 : ByteArray) (k1 : Int) (b1 : Bool) (n1 : Int) (s1 : ByteArray) (w : World) (hs0 : s0.size ≤ 140737488355328) (hs1 : s1.size ≤ 140737488355328) (ho : 11 ≤ op ∧ op ≤ 16) (hA : chk ⟨k0, b0, n0, s0⟩ = 0) (hB : chk ⟨k1, b1, n1, s1⟩ = 0) (h : ¬ k0 = 1) (h' : ¬ k1 = 1) (hk : ¬ k0 = k1) :
    Calls Tryd.prog 42 #[.int .u8 op, .agg #[.int .u8 k0, .bool b0, .int .i64 n0, .string s0], .agg #[.int .u8 k1, .bool b1, .int .i64 n1, .string s1]] w fun e w' => e = .returned (.tuple #[.agg #[.int .u8 0, .bool false, .int .i64 0, .string ⟨#[]⟩], .int .i64 13]) ∧ Below w.heap.size w w' := by
  have o1 : ¬ op < 11 := by omega
  have o2 : ¬ 16 < op := by omega
  have hcA := Lib.hid hA; have hcB := Lib.hid hB
  clear hA hB
  have g1 : (k0 == 1) = false := by simpa using h
  have g2 : (k1 == 1) = false := by simpa using h'
  have g3 : (k0 != k1) = true := by simpa using hk
  clear h h' hk
  have hcmp := Lib.hid (show (0 : Int) = 0 from rfl)
  have hs0H := Lib.hid hs0; have hs1H := Lib.hid hs1
  obtain ⟨W0, hW0, hwW, hA, hB, hR, hzz⟩ := boxes2 w k0 b0 n0 s0 k1 b1 n1 s1
  have hAH := Lib.hid hA; have hBH := Lib.hid hB; have hRH := Lib.hid hR; have hz0 := Lib.hid hzz; have hwWH := Lib.hid hwW
  clear hA hB hR hzz hwW hs0 hs1
  have hb := Below.refl W0.heap.size W0
  obtain ⟨a0, a1, a2, a3⟩ := (hAH.out.below hb).cells; obtain ⟨b0_, b1_, b2_, b3_⟩ := (hBH.out.below hb).cells; obtain ⟨r0, r1, r2, r3⟩ := (hRH.out.below hb).cells; obtain ⟨f0, f1, f2, f3⟩ := (hRH.out.below hb).free; have hz := Nat.lt_of_lt_of_le hz0.out hb.size; have hs := hb.size
  go_enter Tryd.func42, Tryd.ntmps42
  go_wp2_with (first
    | (go_at_call 17; go_must (refine (refCheck_any _ _ _ _ _ (by first | exact hs0H.out | exact hs1H.out)).mono ?_; (first | rw [hcA.out] | rw [hcB.out]); rintro e w' ⟨rfl, hb'⟩; replace hb := chainB (B := W0.heap.size) (a := W0) (by go_grown) hb' (by have := hb.size; first | omega | (simp; done) | (simp; omega)); clear hb' a0 a1 a2 a3 b0_ b1_ b2_ b3_ r0 r1 r2 r3 f0 f1 f2 f3 hz hs; obtain ⟨a0, a1, a2, a3⟩ := (hAH.out.below hb).cells; obtain ⟨b0_, b1_, b2_, b3_⟩ := (hBH.out.below hb).cells; obtain ⟨r0, r1, r2, r3⟩ := (hRH.out.below hb).cells; obtain ⟨f0, f1, f2, f3⟩ := (hRH.out.below hb).free; have hz := Nat.lt_of_lt_of_le hz0.out hb.size; have hs := hb.size))
    | (go_at_call 19; go_must (refine (refCmp_any _ _ _ _ _ _ _ _ _).mono ?_; rw [hcmp.out]; rintro e w' ⟨rfl, hb'⟩; replace hb := chainB (B := W0.heap.size) (a := W0) (by go_grown) hb' (by have := hb.size; first | omega | (simp; done) | (simp; omega)); clear hb' a0 a1 a2 a3 b0_ b1_ b2_ b3_ r0 r1 r2 r3 f0 f1 f2 f3 hz hs; obtain ⟨a0, a1, a2, a3⟩ := (hAH.out.below hb).cells; obtain ⟨b0_, b1_, b2_, b3_⟩ := (hBH.out.below hb).cells; obtain ⟨r0, r1, r2, r3⟩ := (hRH.out.below hb).cells; obtain ⟨f0, f1, f2, f3⟩ := (hRH.out.below hb).free; have hz := Nat.lt_of_lt_of_le hz0.out hb.size; have hs := hb.size))
    | (go_at_call 66; go_must (refine (refNull_any _).mono ?_; rintro e w' ⟨rfl, hb'⟩; replace hb := chainB (B := W0.heap.size) (a := W0) (by go_grown) hb' (by have := hb.size; first | omega | (simp; done) | (simp; omega)); clear hb' a0 a1 a2 a3 b0_ b1_ b2_ b3_ r0 r1 r2 r3 f0 f1 f2 f3 hz hs; obtain ⟨a0, a1, a2, a3⟩ := (hAH.out.below hb).cells; obtain ⟨b0_, b1_, b2_, b3_⟩ := (hBH.out.below hb).cells; obtain ⟨r0, r1, r2, r3⟩ := (hRH.out.below hb).cells; obtain ⟨f0, f1, f2, f3⟩ := (hRH.out.below hb).free; have hz := Nat.lt_of_lt_of_le hz0.out hb.size; have hs := hb.size))
    | (go_at_call 67; go_must (refine (refBool_any _ _).mono ?_; rintro e w' ⟨rfl, hb'⟩; replace hb := chainB (B := W0.heap.size) (a := W0) (by go_grown) hb' (by have := hb.size; first | omega | (simp; done) | (simp; omega)); clear hb' a0 a1 a2 a3 b0_ b1_ b2_ b3_ r0 r1 r2 r3 f0 f1 f2 f3 hz hs; obtain ⟨a0, a1, a2, a3⟩ := (hAH.out.below hb).cells; obtain ⟨b0_, b1_, b2_, b3_⟩ := (hBH.out.below hb).cells; obtain ⟨r0, r1, r2, r3⟩ := (hRH.out.below hb).cells; obtain ⟨f0, f1, f2, f3⟩ := (hRH.out.below hb).free; have hz := Nat.lt_of_lt_of_le hz0.out hb.size; have hs := hb.size)))
  refine bodyPost_ret (v := .tuple #[.agg #[.int .u8 0, .bool false, .int .i64 0, .string ⟨#[]⟩], .int .i64 13]) (by simp [results, Tryd.results42, go_sem, r0, r1, r2, r3, hz]) rfl ⟨rfl, ?_⟩
  have hbw := hwWH.out.trans (hb.mono hwWH.out.size)
  clear hb
  go_grown

set_option maxRecDepth 100000 in
set_option maxHeartbeats 8000000 in
theorem refCompare_0_0 (k0 : Int) (b0 : Bool) (n0 : Int) (s0 : ByteArray) (k1 : Int) (b1 : Bool) (n1 : Int) (s1 : ByteArray) (w : World) (hs0 : s0.size ≤ 140737488355328) (hs1 : s1.size ≤ 140737488355328) (hA : chk ⟨k0, b0, n0, s0⟩ = 0) (hB : chk ⟨k1, b1, n1, s1⟩ = 0) (h : ¬ k0 = 1) (h' : ¬ k1 = 1) (hk : k0 = k1) (hc : cmpS ⟨k0, b0, n0, s0⟩ ⟨k1, b1, n1, s1⟩ = -1) :
    Calls Tryd.prog 42 #[.int .u8 11, .agg #[.int .u8 k0, .bool b0, .int .i64 n0, .string s0], .agg #[.int .u8 k1, .bool b1, .int .i64 n1, .string s1]] w fun e w' => e = .returned (.tuple #[.agg #[.int .u8 2, .bool false, .int .i64 0, .string ⟨#[]⟩], .int .i64 0]) ∧ Below w.heap.size w w' := by
  have hcA := Lib.hid hA; have hcB := Lib.hid hB
  clear hA hB
  have g1 : (k0 == 1) = false := by simpa using h
  have g2 : (k1 == 1) = false := by simpa using h'
  have g3 : (k0 != k1) = false := by simpa using hk
  have hcmp := Lib.hid hc
  clear h h' hk hc
  have hs0H := Lib.hid hs0; have hs1H := Lib.hid hs1
  obtain ⟨W0, hW0, hwW, hA, hB, hR, hzz⟩ := boxes2 w k0 b0 n0 s0 k1 b1 n1 s1
  have hAH := Lib.hid hA; have hBH := Lib.hid hB; have hRH := Lib.hid hR; have hz0 := Lib.hid hzz; have hwWH := Lib.hid hwW
  clear hA hB hR hzz hwW hs0 hs1
  have hb := Below.refl W0.heap.size W0
  obtain ⟨a0, a1, a2, a3⟩ := (hAH.out.below hb).cells; obtain ⟨b0_, b1_, b2_, b3_⟩ := (hBH.out.below hb).cells; obtain ⟨r0, r1, r2, r3⟩ := (hRH.out.below hb).cells; obtain ⟨f0, f1, f2, f3⟩ := (hRH.out.below hb).free; have hz := Nat.lt_of_lt_of_le hz0.out hb.size; have hs := hb.size
  go_enter Tryd.func42, Tryd.ntmps42
  go_wp2_with (first
    | (go_at_call 17; go_must (refine (refCheck_any _ _ _ _ _ (by first | exact hs0H.out | exact hs1H.out)).mono ?_; (first | rw [hcA.out] | rw [hcB.out]); rintro e w' ⟨rfl, hb'⟩; replace hb := chainB (B := W0.heap.size) (a := W0) (by go_grown) hb' (by have := hb.size; first | omega | (simp; done) | (simp; omega)); clear hb' a0 a1 a2 a3 b0_ b1_ b2_ b3_ r0 r1 r2 r3 f0 f1 f2 f3 hz hs; obtain ⟨a0, a1, a2, a3⟩ := (hAH.out.below hb).cells; obtain ⟨b0_, b1_, b2_, b3_⟩ := (hBH.out.below hb).cells; obtain ⟨r0, r1, r2, r3⟩ := (hRH.out.below hb).cells; obtain ⟨f0, f1, f2, f3⟩ := (hRH.out.below hb).free; have hz := Nat.lt_of_lt_of_le hz0.out hb.size; have hs := hb.size))
    | (go_at_call 19; go_must (refine (refCmp_any _ _ _ _ _ _ _ _ _).mono ?_; rw [hcmp.out]; rintro e w' ⟨rfl, hb'⟩; replace hb := chainB (B := W0.heap.size) (a := W0) (by go_grown) hb' (by have := hb.size; first | omega | (simp; done) | (simp; omega)); clear hb' a0 a1 a2 a3 b0_ b1_ b2_ b3_ r0 r1 r2 r3 f0 f1 f2 f3 hz hs; obtain ⟨a0, a1, a2, a3⟩ := (hAH.out.below hb).cells; obtain ⟨b0_, b1_, b2_, b3_⟩ := (hBH.out.below hb).cells; obtain ⟨r0, r1, r2, r3⟩ := (hRH.out.below hb).cells; obtain ⟨f0, f1, f2, f3⟩ := (hRH.out.below hb).free; have hz := Nat.lt_of_lt_of_le hz0.out hb.size; have hs := hb.size))
    | (go_at_call 66; go_must (refine (refNull_any _).mono ?_; rintro e w' ⟨rfl, hb'⟩; replace hb := chainB (B := W0.heap.size) (a := W0) (by go_grown) hb' (by have := hb.size; first | omega | (simp; done) | (simp; omega)); clear hb' a0 a1 a2 a3 b0_ b1_ b2_ b3_ r0 r1 r2 r3 f0 f1 f2 f3 hz hs; obtain ⟨a0, a1, a2, a3⟩ := (hAH.out.below hb).cells; obtain ⟨b0_, b1_, b2_, b3_⟩ := (hBH.out.below hb).cells; obtain ⟨r0, r1, r2, r3⟩ := (hRH.out.below hb).cells; obtain ⟨f0, f1, f2, f3⟩ := (hRH.out.below hb).free; have hz := Nat.lt_of_lt_of_le hz0.out hb.size; have hs := hb.size))
    | (go_at_call 67; go_must (refine (refBool_any _ _).mono ?_; rintro e w' ⟨rfl, hb'⟩; replace hb := chainB (B := W0.heap.size) (a := W0) (by go_grown) hb' (by have := hb.size; first | omega | (simp; done) | (simp; omega)); clear hb' a0 a1 a2 a3 b0_ b1_ b2_ b3_ r0 r1 r2 r3 f0 f1 f2 f3 hz hs; obtain ⟨a0, a1, a2, a3⟩ := (hAH.out.below hb).cells; obtain ⟨b0_, b1_, b2_, b3_⟩ := (hBH.out.below hb).cells; obtain ⟨r0, r1, r2, r3⟩ := (hRH.out.below hb).cells; obtain ⟨f0, f1, f2, f3⟩ := (hRH.out.below hb).free; have hz := Nat.lt_of_lt_of_le hz0.out hb.size; have hs := hb.size)))
  refine bodyPost_ret (v := .tuple #[.agg #[.int .u8 2, .bool false, .int .i64 0, .string ⟨#[]⟩], .int .i64 0]) (by simp [results, Tryd.results42, go_sem, r0, r1, r2, r3, hz]) rfl ⟨rfl, ?_⟩
  have hbw := hwWH.out.trans (hb.mono hwWH.out.size)
  clear hb
  go_grown

set_option maxRecDepth 100000 in
set_option maxHeartbeats 8000000 in
theorem refCompare_0_1 (k0 : Int) (b0 : Bool) (n0 : Int) (s0 : ByteArray) (k1 : Int) (b1 : Bool) (n1 : Int) (s1 : ByteArray) (w : World) (hs0 : s0.size ≤ 140737488355328) (hs1 : s1.size ≤ 140737488355328) (hA : chk ⟨k0, b0, n0, s0⟩ = 0) (hB : chk ⟨k1, b1, n1, s1⟩ = 0) (h : ¬ k0 = 1) (h' : ¬ k1 = 1) (hk : k0 = k1) (hc : cmpS ⟨k0, b0, n0, s0⟩ ⟨k1, b1, n1, s1⟩ = -1) :
    Calls Tryd.prog 42 #[.int .u8 12, .agg #[.int .u8 k0, .bool b0, .int .i64 n0, .string s0], .agg #[.int .u8 k1, .bool b1, .int .i64 n1, .string s1]] w fun e w' => e = .returned (.tuple #[.agg #[.int .u8 2, .bool true, .int .i64 0, .string ⟨#[]⟩], .int .i64 0]) ∧ Below w.heap.size w w' := by
  have hcA := Lib.hid hA; have hcB := Lib.hid hB
  clear hA hB
  have g1 : (k0 == 1) = false := by simpa using h
  have g2 : (k1 == 1) = false := by simpa using h'
  have g3 : (k0 != k1) = false := by simpa using hk
  have hcmp := Lib.hid hc
  clear h h' hk hc
  have hs0H := Lib.hid hs0; have hs1H := Lib.hid hs1
  obtain ⟨W0, hW0, hwW, hA, hB, hR, hzz⟩ := boxes2 w k0 b0 n0 s0 k1 b1 n1 s1
  have hAH := Lib.hid hA; have hBH := Lib.hid hB; have hRH := Lib.hid hR; have hz0 := Lib.hid hzz; have hwWH := Lib.hid hwW
  clear hA hB hR hzz hwW hs0 hs1
  have hb := Below.refl W0.heap.size W0
  obtain ⟨a0, a1, a2, a3⟩ := (hAH.out.below hb).cells; obtain ⟨b0_, b1_, b2_, b3_⟩ := (hBH.out.below hb).cells; obtain ⟨r0, r1, r2, r3⟩ := (hRH.out.below hb).cells; obtain ⟨f0, f1, f2, f3⟩ := (hRH.out.below hb).free; have hz := Nat.lt_of_lt_of_le hz0.out hb.size; have hs := hb.size
  go_enter Tryd.func42, Tryd.ntmps42
  go_wp2_with (first
    | (go_at_call 17; go_must (refine (refCheck_any _ _ _ _ _ (by first | exact hs0H.out | exact hs1H.out)).mono ?_; (first | rw [hcA.out] | rw [hcB.out]); rintro e w' ⟨rfl, hb'⟩; replace hb := chainB (B := W0.heap.size) (a := W0) (by go_grown) hb' (by have := hb.size; first | omega | (simp; done) | (simp; omega)); clear hb' a0 a1 a2 a3 b0_ b1_ b2_ b3_ r0 r1 r2 r3 f0 f1 f2 f3 hz hs; obtain ⟨a0, a1, a2, a3⟩ := (hAH.out.below hb).cells; obtain ⟨b0_, b1_, b2_, b3_⟩ := (hBH.out.below hb).cells; obtain ⟨r0, r1, r2, r3⟩ := (hRH.out.below hb).cells; obtain ⟨f0, f1, f2, f3⟩ := (hRH.out.below hb).free; have hz := Nat.lt_of_lt_of_le hz0.out hb.size; have hs := hb.size))
    | (go_at_call 19; go_must (refine (refCmp_any _ _ _ _ _ _ _ _ _).mono ?_; rw [hcmp.out]; rintro e w' ⟨rfl, hb'⟩; replace hb := chainB (B := W0.heap.size) (a := W0) (by go_grown) hb' (by have := hb.size; first | omega | (simp; done) | (simp; omega)); clear hb' a0 a1 a2 a3 b0_ b1_ b2_ b3_ r0 r1 r2 r3 f0 f1 f2 f3 hz hs; obtain ⟨a0, a1, a2, a3⟩ := (hAH.out.below hb).cells; obtain ⟨b0_, b1_, b2_, b3_⟩ := (hBH.out.below hb).cells; obtain ⟨r0, r1, r2, r3⟩ := (hRH.out.below hb).cells; obtain ⟨f0, f1, f2, f3⟩ := (hRH.out.below hb).free; have hz := Nat.lt_of_lt_of_le hz0.out hb.size; have hs := hb.size))
    | (go_at_call 66; go_must (refine (refNull_any _).mono ?_; rintro e w' ⟨rfl, hb'⟩; replace hb := chainB (B := W0.heap.size) (a := W0) (by go_grown) hb' (by have := hb.size; first | omega | (simp; done) | (simp; omega)); clear hb' a0 a1 a2 a3 b0_ b1_ b2_ b3_ r0 r1 r2 r3 f0 f1 f2 f3 hz hs; obtain ⟨a0, a1, a2, a3⟩ := (hAH.out.below hb).cells; obtain ⟨b0_, b1_, b2_, b3_⟩ := (hBH.out.below hb).cells; obtain ⟨r0, r1, r2, r3⟩ := (hRH.out.below hb).cells; obtain ⟨f0, f1, f2, f3⟩ := (hRH.out.below hb).free; have hz := Nat.lt_of_lt_of_le hz0.out hb.size; have hs := hb.size))
    | (go_at_call 67; go_must (refine (refBool_any _ _).mono ?_; rintro e w' ⟨rfl, hb'⟩; replace hb := chainB (B := W0.heap.size) (a := W0) (by go_grown) hb' (by have := hb.size; first | omega | (simp; done) | (simp; omega)); clear hb' a0 a1 a2 a3 b0_ b1_ b2_ b3_ r0 r1 r2 r3 f0 f1 f2 f3 hz hs; obtain ⟨a0, a1, a2, a3⟩ := (hAH.out.below hb).cells; obtain ⟨b0_, b1_, b2_, b3_⟩ := (hBH.out.below hb).cells; obtain ⟨r0, r1, r2, r3⟩ := (hRH.out.below hb).cells; obtain ⟨f0, f1, f2, f3⟩ := (hRH.out.below hb).free; have hz := Nat.lt_of_lt_of_le hz0.out hb.size; have hs := hb.size)))
  refine bodyPost_ret (v := .tuple #[.agg #[.int .u8 2, .bool true, .int .i64 0, .string ⟨#[]⟩], .int .i64 0]) (by simp [results, Tryd.results42, go_sem, r0, r1, r2, r3, hz]) rfl ⟨rfl, ?_⟩
  have hbw := hwWH.out.trans (hb.mono hwWH.out.size)
  clear hb
  go_grown

set_option maxRecDepth 100000 in
set_option maxHeartbeats 8000000 in
theorem refCompare_0_2 (k0 : Int) (b0 : Bool) (n0 : Int) (s0 : ByteArray) (k1 : Int) (b1 : Bool) (n1 : Int) (s1 : ByteArray) (w : World) (hs0 : s0.size ≤ 140737488355328) (hs1 : s1.size ≤ 140737488355328) (hA : chk ⟨k0, b0, n0, s0⟩ = 0) (hB : chk ⟨k1, b1, n1, s1⟩ = 0) (h : ¬ k0 = 1) (h' : ¬ k1 = 1) (hk : k0 = k1) (hc : cmpS ⟨k0, b0, n0, s0⟩ ⟨k1, b1, n1, s1⟩ = -1) :
    Calls Tryd.prog 42 #[.int .u8 13, .agg #[.int .u8 k0, .bool b0, .int .i64 n0, .string s0], .agg #[.int .u8 k1, .bool b1, .int .i64 n1, .string s1]] w fun e w' => e = .returned (.tuple #[.agg #[.int .u8 2, .bool true, .int .i64 0, .string ⟨#[]⟩], .int .i64 0]) ∧ Below w.heap.size w w' := by
  have hcA := Lib.hid hA; have hcB := Lib.hid hB
  clear hA hB
  have g1 : (k0 == 1) = false := by simpa using h
  have g2 : (k1 == 1) = false := by simpa using h'
  have g3 : (k0 != k1) = false := by simpa using hk
  have hcmp := Lib.hid hc
  clear h h' hk hc
  have hs0H := Lib.hid hs0; have hs1H := Lib.hid hs1
  obtain ⟨W0, hW0, hwW, hA, hB, hR, hzz⟩ := boxes2 w k0 b0 n0 s0 k1 b1 n1 s1
  have hAH := Lib.hid hA; have hBH := Lib.hid hB; have hRH := Lib.hid hR; have hz0 := Lib.hid hzz; have hwWH := Lib.hid hwW
  clear hA hB hR hzz hwW hs0 hs1
  have hb := Below.refl W0.heap.size W0
  obtain ⟨a0, a1, a2, a3⟩ := (hAH.out.below hb).cells; obtain ⟨b0_, b1_, b2_, b3_⟩ := (hBH.out.below hb).cells; obtain ⟨r0, r1, r2, r3⟩ := (hRH.out.below hb).cells; obtain ⟨f0, f1, f2, f3⟩ := (hRH.out.below hb).free; have hz := Nat.lt_of_lt_of_le hz0.out hb.size; have hs := hb.size
  go_enter Tryd.func42, Tryd.ntmps42
  go_wp2_with (first
    | (go_at_call 17; go_must (refine (refCheck_any _ _ _ _ _ (by first | exact hs0H.out | exact hs1H.out)).mono ?_; (first | rw [hcA.out] | rw [hcB.out]); rintro e w' ⟨rfl, hb'⟩; replace hb := chainB (B := W0.heap.size) (a := W0) (by go_grown) hb' (by have := hb.size; first | omega | (simp; done) | (simp; omega)); clear hb' a0 a1 a2 a3 b0_ b1_ b2_ b3_ r0 r1 r2 r3 f0 f1 f2 f3 hz hs; obtain ⟨a0, a1, a2, a3⟩ := (hAH.out.below hb).cells; obtain ⟨b0_, b1_, b2_, b3_⟩ := (hBH.out.below hb).cells; obtain ⟨r0, r1, r2, r3⟩ := (hRH.out.below hb).cells; obtain ⟨f0, f1, f2, f3⟩ := (hRH.out.below hb).free; have hz := Nat.lt_of_lt_of_le hz0.out hb.size; have hs := hb.size))
    | (go_at_call 19; go_must (refine (refCmp_any _ _ _ _ _ _ _ _ _).mono ?_; rw [hcmp.out]; rintro e w' ⟨rfl, hb'⟩; replace hb := chainB (B := W0.heap.size) (a := W0) (by go_grown) hb' (by have := hb.size; first | omega | (simp; done) | (simp; omega)); clear hb' a0 a1 a2 a3 b0_ b1_ b2_ b3_ r0 r1 r2 r3 f0 f1 f2 f3 hz hs; obtain ⟨a0, a1, a2, a3⟩ := (hAH.out.below hb).cells; obtain ⟨b0_, b1_, b2_, b3_⟩ := (hBH.out.below hb).cells; obtain ⟨r0, r1, r2, r3⟩ := (hRH.out.below hb).cells; obtain ⟨f0, f1, f2, f3⟩ := (hRH.out.below hb).free; have hz := Nat.lt_of_lt_of_le hz0.out hb.size; have hs := hb.size))
    | (go_at_call 66; go_must (refine (refNull_any _).mono ?_; rintro e w' ⟨rfl, hb'⟩; replace hb := chainB (B := W0.heap.size) (a := W0) (by go_grown) hb' (by have := hb.size; first | omega | (simp; done) | (simp; omega)); clear hb' a0 a1 a2 a3 b0_ b1_ b2_ b3_ r0 r1 r2 r3 f0 f1 f2 f3 hz hs; obtain ⟨a0, a1, a2, a3⟩ := (hAH.out.below hb).cells; obtain ⟨b0_, b1_, b2_, b3_⟩ := (hBH.out.below hb).cells; obtain ⟨r0, r1, r2, r3⟩ := (hRH.out.below hb).cells; obtain ⟨f0, f1, f2, f3⟩ := (hRH.out.below hb).free; have hz := Nat.lt_of_lt_of_le hz0.out hb.size; have hs := hb.size))
    | (go_at_call 67; go_must (refine (refBool_any _ _).mono ?_; rintro e w' ⟨rfl, hb'⟩; replace hb := chainB (B := W0.heap.size) (a := W0) (by go_grown) hb' (by have := hb.size; first | omega | (simp; done) | (simp; omega)); clear hb' a0 a1 a2 a3 b0_ b1_ b2_ b3_ r0 r1 r2 r3 f0 f1 f2 f3 hz hs; obtain ⟨a0, a1, a2, a3⟩ := (hAH.out.below hb).cells; obtain ⟨b0_, b1_, b2_, b3_⟩ := (hBH.out.below hb).cells; obtain ⟨r0, r1, r2, r3⟩ := (hRH.out.below hb).cells; obtain ⟨f0, f1, f2, f3⟩ := (hRH.out.below hb).free; have hz := Nat.lt_of_lt_of_le hz0.out hb.size; have hs := hb.size)))
  refine bodyPost_ret (v := .tuple #[.agg #[.int .u8 2, .bool true, .int .i64 0, .string ⟨#[]⟩], .int .i64 0]) (by simp [results, Tryd.results42, go_sem, r0, r1, r2, r3, hz]) rfl ⟨rfl, ?_⟩
  have hbw := hwWH.out.trans (hb.mono hwWH.out.size)
  clear hb
  go_grown

set_option maxRecDepth 100000 in
set_option maxHeartbeats 8000000 in
theorem refCompare_0_3 (k0 : Int) (b0 : Bool) (n0 : Int) (s0 : ByteArray) (k1 : Int) (b1 : Bool) (n1 : Int) (s1 : ByteArray) (w : World) (hs0 : s0.size ≤ 140737488355328) (hs1 : s1.size ≤ 140737488355328) (hA : chk ⟨k0, b0, n0, s0⟩ = 0) (hB : chk ⟨k1, b1, n1, s1⟩ = 0) (h : ¬ k0 = 1) (h' : ¬ k1 = 1) (hk : k0 = k1) (hc : cmpS ⟨k0, b0, n0, s0⟩ ⟨k1, b1, n1, s1⟩ = -1) :
    Calls Tryd.prog 42 #[.int .u8 14, .agg #[.int .u8 k0, .bool b0, .int .i64 n0, .string s0], .agg #[.int .u8 k1, .bool b1, .int .i64 n1, .string s1]] w fun e w' => e = .returned (.tuple #[.agg #[.int .u8 2, .bool true, .int .i64 0, .string ⟨#[]⟩], .int .i64 0]) ∧ Below w.heap.size w w' := by
  have hcA := Lib.hid hA; have hcB := Lib.hid hB
  clear hA hB
  have g1 : (k0 == 1) = false := by simpa using h
  have g2 : (k1 == 1) = false := by simpa using h'
  have g3 : (k0 != k1) = false := by simpa using hk
  have hcmp := Lib.hid hc
  clear h h' hk hc
  have hs0H := Lib.hid hs0; have hs1H := Lib.hid hs1
  obtain ⟨W0, hW0, hwW, hA, hB, hR, hzz⟩ := boxes2 w k0 b0 n0 s0 k1 b1 n1 s1
  have hAH := Lib.hid hA; have hBH := Lib.hid hB; have hRH := Lib.hid hR; have hz0 := Lib.hid hzz; have hwWH := Lib.hid hwW
  clear hA hB hR hzz hwW hs0 hs1
  have hb := Below.refl W0.heap.size W0
  obtain ⟨a0, a1, a2, a3⟩ := (hAH.out.below hb).cells; obtain ⟨b0_, b1_, b2_, b3_⟩ := (hBH.out.below hb).cells; obtain ⟨r0, r1, r2, r3⟩ := (hRH.out.below hb).cells; obtain ⟨f0, f1, f2, f3⟩ := (hRH.out.below hb).free; have hz := Nat.lt_of_lt_of_le hz0.out hb.size; have hs := hb.size
  go_enter Tryd.func42, Tryd.ntmps42
  go_wp2_with (first
    | (go_at_call 17; go_must (refine (refCheck_any _ _ _ _ _ (by first | exact hs0H.out | exact hs1H.out)).mono ?_; (first | rw [hcA.out] | rw [hcB.out]); rintro e w' ⟨rfl, hb'⟩; replace hb := chainB (B := W0.heap.size) (a := W0) (by go_grown) hb' (by have := hb.size; first | omega | (simp; done) | (simp; omega)); clear hb' a0 a1 a2 a3 b0_ b1_ b2_ b3_ r0 r1 r2 r3 f0 f1 f2 f3 hz hs; obtain ⟨a0, a1, a2, a3⟩ := (hAH.out.below hb).cells; obtain ⟨b0_, b1_, b2_, b3_⟩ := (hBH.out.below hb).cells; obtain ⟨r0, r1, r2, r3⟩ := (hRH.out.below hb).cells; obtain ⟨f0, f1, f2, f3⟩ := (hRH.out.below hb).free; have hz := Nat.lt_of_lt_of_le hz0.out hb.size; have hs := hb.size))
    | (go_at_call 19; go_must (refine (refCmp_any _ _ _ _ _ _ _ _ _).mono ?_; rw [hcmp.out]; rintro e w' ⟨rfl, hb'⟩; replace hb := chainB (B := W0.heap.size) (a := W0) (by go_grown) hb' (by have := hb.size; first | omega | (simp; done) | (simp; omega)); clear hb' a0 a1 a2 a3 b0_ b1_ b2_ b3_ r0 r1 r2 r3 f0 f1 f2 f3 hz hs; obtain ⟨a0, a1, a2, a3⟩ := (hAH.out.below hb).cells; obtain ⟨b0_, b1_, b2_, b3_⟩ := (hBH.out.below hb).cells; obtain ⟨r0, r1, r2, r3⟩ := (hRH.out.below hb).cells; obtain ⟨f0, f1, f2, f3⟩ := (hRH.out.below hb).free; have hz := Nat.lt_of_lt_of_le hz0.out hb.size; have hs := hb.size))
    | (go_at_call 66; go_must (refine (refNull_any _).mono ?_; rintro e w' ⟨rfl, hb'⟩; replace hb := chainB (B := W0.heap.size) (a := W0) (by go_grown) hb' (by have := hb.size; first | omega | (simp; done) | (simp; omega)); clear hb' a0 a1 a2 a3 b0_ b1_ b2_ b3_ r0 r1 r2 r3 f0 f1 f2 f3 hz hs; obtain ⟨a0, a1, a2, a3⟩ := (hAH.out.below hb).cells; obtain ⟨b0_, b1_, b2_, b3_⟩ := (hBH.out.below hb).cells; obtain ⟨r0, r1, r2, r3⟩ := (hRH.out.below hb).cells; obtain ⟨f0, f1, f2, f3⟩ := (hRH.out.below hb).free; have hz := Nat.lt_of_lt_of_le hz0.out hb.size; have hs := hb.size))
    | (go_at_call 67; go_must (refine (refBool_any _ _).mono ?_; rintro e w' ⟨rfl, hb'⟩; replace hb := chainB (B := W0.heap.size) (a := W0) (by go_grown) hb' (by have := hb.size; first | omega | (simp; done) | (simp; omega)); clear hb' a0 a1 a2 a3 b0_ b1_ b2_ b3_ r0 r1 r2 r3 f0 f1 f2 f3 hz hs; obtain ⟨a0, a1, a2, a3⟩ := (hAH.out.below hb).cells; obtain ⟨b0_, b1_, b2_, b3_⟩ := (hBH.out.below hb).cells; obtain ⟨r0, r1, r2, r3⟩ := (hRH.out.below hb).cells; obtain ⟨f0, f1, f2, f3⟩ := (hRH.out.below hb).free; have hz := Nat.lt_of_lt_of_le hz0.out hb.size; have hs := hb.size)))
  refine bodyPost_ret (v := .tuple #[.agg #[.int .u8 2, .bool true, .int .i64 0, .string ⟨#[]⟩], .int .i64 0]) (by simp [results, Tryd.results42, go_sem, r0, r1, r2, r3, hz]) rfl ⟨rfl, ?_⟩
  have hbw := hwWH.out.trans (hb.mono hwWH.out.size)
  clear hb
  go_grown

set_option maxRecDepth 100000 in
set_option maxHeartbeats 8000000 in
theorem refCompare_0_4 (k0 : Int) (b0 : Bool) (n0 : Int) (s0 : ByteArray) (k1 : Int) (b1 : Bool) (n1 : Int) (s1 : ByteArray) (w : World) (hs0 : s0.size ≤ 140737488355328) (hs1 : s1.size ≤ 140737488355328) (hA : chk ⟨k0, b0, n0, s0⟩ = 0) (hB : chk ⟨k1, b1, n1, s1⟩ = 0) (h : ¬ k0 = 1) (h' : ¬ k1 = 1) (hk : k0 = k1) (hc : cmpS ⟨k0, b0, n0, s0⟩ ⟨k1, b1, n1, s1⟩ = -1) :
    Calls Tryd.prog 42 #[.int .u8 15, .agg #[.int .u8 k0, .bool b0, .int .i64 n0, .string s0], .agg #[.int .u8 k1, .bool b1, .int .i64 n1, .string s1]] w fun e w' => e = .returned (.tuple #[.agg #[.int .u8 2, .bool false, .int .i64 0, .string ⟨#[]⟩], .int .i64 0]) ∧ Below w.heap.size w w' := by
  have hcA := Lib.hid hA; have hcB := Lib.hid hB
  clear hA hB
  have g1 : (k0 == 1) = false := by simpa using h
  have g2 : (k1 == 1) = false := by simpa using h'
  have g3 : (k0 != k1) = false := by simpa using hk
  have hcmp := Lib.hid hc
  clear h h' hk hc
  have hs0H := Lib.hid hs0; have hs1H := Lib.hid hs1
  obtain ⟨W0, hW0, hwW, hA, hB, hR, hzz⟩ := boxes2 w k0 b0 n0 s0 k1 b1 n1 s1
  have hAH := Lib.hid hA; have hBH := Lib.hid hB; have hRH := Lib.hid hR; have hz0 := Lib.hid hzz; have hwWH := Lib.hid hwW
  clear hA hB hR hzz hwW hs0 hs1
  have hb := Below.refl W0.heap.size W0
  obtain ⟨a0, a1, a2, a3⟩ := (hAH.out.below hb).cells; obtain ⟨b0_, b1_, b2_, b3_⟩ := (hBH.out.below hb).cells; obtain ⟨r0, r1, r2, r3⟩ := (hRH.out.below hb).cells; obtain ⟨f0, f1, f2, f3⟩ := (hRH.out.below hb).free; have hz := Nat.lt_of_lt_of_le hz0.out hb.size; have hs := hb.size
  go_enter Tryd.func42, Tryd.ntmps42
  go_wp2_with (first
    | (go_at_call 17; go_must (refine (refCheck_any _ _ _ _ _ (by first | exact hs0H.out | exact hs1H.out)).mono ?_; (first | rw [hcA.out] | rw [hcB.out]); rintro e w' ⟨rfl, hb'⟩; replace hb := chainB (B := W0.heap.size) (a := W0) (by go_grown) hb' (by have := hb.size; first | omega | (simp; done) | (simp; omega)); clear hb' a0 a1 a2 a3 b0_ b1_ b2_ b3_ r0 r1 r2 r3 f0 f1 f2 f3 hz hs; obtain ⟨a0, a1, a2, a3⟩ := (hAH.out.below hb).cells; obtain ⟨b0_, b1_, b2_, b3_⟩ := (hBH.out.below hb).cells; obtain ⟨r0, r1, r2, r3⟩ := (hRH.out.below hb).cells; obtain ⟨f0, f1, f2, f3⟩ := (hRH.out.below hb).free; have hz := Nat.lt_of_lt_of_le hz0.out hb.size; have hs := hb.size))
    | (go_at_call 19; go_must (refine (refCmp_any _ _ _ _ _ _ _ _ _).mono ?_; rw [hcmp.out]; rintro e w' ⟨rfl, hb'⟩; replace hb := chainB (B := W0.heap.size) (a := W0) (by go_grown) hb' (by have := hb.size; first | omega | (simp; done) | (simp; omega)); clear hb' a0 a1 a2 a3 b0_ b1_ b2_ b3_ r0 r1 r2 r3 f0 f1 f2 f3 hz hs; obtain ⟨a0, a1, a2, a3⟩ := (hAH.out.below hb).cells; obtain ⟨b0_, b1_, b2_, b3_⟩ := (hBH.out.below hb).cells; obtain ⟨r0, r1, r2, r3⟩ := (hRH.out.below hb).cells; obtain ⟨f0, f1, f2, f3⟩ := (hRH.out.below hb).free; have hz := Nat.lt_of_lt_of_le hz0.out hb.size; have hs := hb.size))
    | (go_at_call 66; go_must (refine (refNull_any _).mono ?_; rintro e w' ⟨rfl, hb'⟩; replace hb := chainB (B := W0.heap.size) (a := W0) (by go_grown) hb' (by have := hb.size; first | omega | (simp; done) | (simp; omega)); clear hb' a0 a1 a2 a3 b0_ b1_ b2_ b3_ r0 r1 r2 r3 f0 f1 f2 f3 hz hs; obtain ⟨a0, a1, a2, a3⟩ := (hAH.out.below hb).cells; obtain ⟨b0_, b1_, b2_, b3_⟩ := (hBH.out.below hb).cells; obtain ⟨r0, r1, r2, r3⟩ := (hRH.out.below hb).cells; obtain ⟨f0, f1, f2, f3⟩ := (hRH.out.below hb).free; have hz := Nat.lt_of_lt_of_le hz0.out hb.size; have hs := hb.size))
    | (go_at_call 67; go_must (refine (refBool_any _ _).mono ?_; rintro e w' ⟨rfl, hb'⟩; replace hb := chainB (B := W0.heap.size) (a := W0) (by go_grown) hb' (by have := hb.size; first | omega | (simp; done) | (simp; omega)); clear hb' a0 a1 a2 a3 b0_ b1_ b2_ b3_ r0 r1 r2 r3 f0 f1 f2 f3 hz hs; obtain ⟨a0, a1, a2, a3⟩ := (hAH.out.below hb).cells; obtain ⟨b0_, b1_, b2_, b3_⟩ := (hBH.out.below hb).cells; obtain ⟨r0, r1, r2, r3⟩ := (hRH.out.below hb).cells; obtain ⟨f0, f1, f2, f3⟩ := (hRH.out.below hb).free; have hz := Nat.lt_of_lt_of_le hz0.out hb.size; have hs := hb.size)))
  refine bodyPost_ret (v := .tuple #[.agg #[.int .u8 2, .bool false, .int .i64 0, .string ⟨#[]⟩], .int .i64 0]) (by simp [results, Tryd.results42, go_sem, r0, r1, r2, r3, hz]) rfl ⟨rfl, ?_⟩
  have hbw := hwWH.out.trans (hb.mono hwWH.out.size)
  clear hb
  go_grown

set_option maxRecDepth 100000 in
set_option maxHeartbeats 8000000 in
theorem refCompare_0_5 (k0 : Int) (b0 : Bool) (n0 : Int) (s0 : ByteArray) (k1 : Int) (b1 : Bool) (n1 : Int) (s1 : ByteArray) (w : World) (hs0 : s0.size ≤ 140737488355328) (hs1 : s1.size ≤ 140737488355328) (hA : chk ⟨k0, b0, n0, s0⟩ = 0) (hB : chk ⟨k1, b1, n1, s1⟩ = 0) (h : ¬ k0 = 1) (h' : ¬ k1 = 1) (hk : k0 = k1) (hc : cmpS ⟨k0, b0, n0, s0⟩ ⟨k1, b1, n1, s1⟩ = -1) :
    Calls Tryd.prog 42 #[.int .u8 16, .agg #[.int .u8 k0, .bool b0, .int .i64 n0, .string s0], .agg #[.int .u8 k1, .bool b1, .int .i64 n1, .string s1]] w fun e w' => e = .returned (.tuple #[.agg #[.int .u8 2, .bool false, .int .i64 0, .string ⟨#[]⟩], .int .i64 0]) ∧ Below w.heap.size w w' := by
  have hcA := Lib.hid hA; have hcB := Lib.hid hB
  clear hA hB
  have g1 : (k0 == 1) = false := by simpa using h
  have g2 : (k1 == 1) = false := by simpa using h'
  have g3 : (k0 != k1) = false := by simpa using hk
  have hcmp := Lib.hid hc
  clear h h' hk hc
  have hs0H := Lib.hid hs0; have hs1H := Lib.hid hs1
  obtain ⟨W0, hW0, hwW, hA, hB, hR, hzz⟩ := boxes2 w k0 b0 n0 s0 k1 b1 n1 s1
  have hAH := Lib.hid hA; have hBH := Lib.hid hB; have hRH := Lib.hid hR; have hz0 := Lib.hid hzz; have hwWH := Lib.hid hwW
  clear hA hB hR hzz hwW hs0 hs1
  have hb := Below.refl W0.heap.size W0
  obtain ⟨a0, a1, a2, a3⟩ := (hAH.out.below hb).cells; obtain ⟨b0_, b1_, b2_, b3_⟩ := (hBH.out.below hb).cells; obtain ⟨r0, r1, r2, r3⟩ := (hRH.out.below hb).cells; obtain ⟨f0, f1, f2, f3⟩ := (hRH.out.below hb).free; have hz := Nat.lt_of_lt_of_le hz0.out hb.size; have hs := hb.size
  go_enter Tryd.func42, Tryd.ntmps42
  go_wp2_with (first
    | (go_at_call 17; go_must (refine (refCheck_any _ _ _ _ _ (by first | exact hs0H.out | exact hs1H.out)).mono ?_; (first | rw [hcA.out] | rw [hcB.out]); rintro e w' ⟨rfl, hb'⟩; replace hb := chainB (B := W0.heap.size) (a := W0) (by go_grown) hb' (by have := hb.size; first | omega | (simp; done) | (simp; omega)); clear hb' a0 a1 a2 a3 b0_ b1_ b2_ b3_ r0 r1 r2 r3 f0 f1 f2 f3 hz hs; obtain ⟨a0, a1, a2, a3⟩ := (hAH.out.below hb).cells; obtain ⟨b0_, b1_, b2_, b3_⟩ := (hBH.out.below hb).cells; obtain ⟨r0, r1, r2, r3⟩ := (hRH.out.below hb).cells; obtain ⟨f0, f1, f2, f3⟩ := (hRH.out.below hb).free; have hz := Nat.lt_of_lt_of_le hz0.out hb.size; have hs := hb.size))
    | (go_at_call 19; go_must (refine (refCmp_any _ _ _ _ _ _ _ _ _).mono ?_; rw [hcmp.out]; rintro e w' ⟨rfl, hb'⟩; replace hb := chainB (B := W0.heap.size) (a := W0) (by go_grown) hb' (by have := hb.size; first | omega | (simp; done) | (simp; omega)); clear hb' a0 a1 a2 a3 b0_ b1_ b2_ b3_ r0 r1 r2 r3 f0 f1 f2 f3 hz hs; obtain ⟨a0, a1, a2, a3⟩ := (hAH.out.below hb).cells; obtain ⟨b0_, b1_, b2_, b3_⟩ := (hBH.out.below hb).cells; obtain ⟨r0, r1, r2, r3⟩ := (hRH.out.below hb).cells; obtain ⟨f0, f1, f2, f3⟩ := (hRH.out.below hb).free; have hz := Nat.lt_of_lt_of_le hz0.out hb.size; have hs := hb.size))
    | (go_at_call 66; go_must (refine (refNull_any _).mono ?_; rintro e w' ⟨rfl, hb'⟩; replace hb := chainB (B := W0.heap.size) (a := W0) (by go_grown) hb' (by have := hb.size; first | omega | (simp; done) | (simp; omega)); clear hb' a0 a1 a2 a3 b0_ b1_ b2_ b3_ r0 r1 r2 r3 f0 f1 f2 f3 hz hs; obtain ⟨a0, a1, a2, a3⟩ := (hAH.out.below hb).cells; obtain ⟨b0_, b1_, b2_, b3_⟩ := (hBH.out.below hb).cells; obtain ⟨r0, r1, r2, r3⟩ := (hRH.out.below hb).cells; obtain ⟨f0, f1, f2, f3⟩ := (hRH.out.below hb).free; have hz := Nat.lt_of_lt_of_le hz0.out hb.size; have hs := hb.size))
    | (go_at_call 67; go_must (refine (refBool_any _ _).mono ?_; rintro e w' ⟨rfl, hb'⟩; replace hb := chainB (B := W0.heap.size) (a := W0) (by go_grown) hb' (by have := hb.size; first | omega | (simp; done) | (simp; omega)); clear hb' a0 a1 a2 a3 b0_ b1_ b2_ b3_ r0 r1 r2 r3 f0 f1 f2 f3 hz hs; obtain ⟨a0, a1, a2, a3⟩ := (hAH.out.below hb).cells; obtain ⟨b0_, b1_, b2_, b3_⟩ := (hBH.out.below hb).cells; obtain ⟨r0, r1, r2, r3⟩ := (hRH.out.below hb).cells; obtain ⟨f0, f1, f2, f3⟩ := (hRH.out.below hb).free; have hz := Nat.lt_of_lt_of_le hz0.out hb.size; have hs := hb.size)))
  refine bodyPost_ret (v := .tuple #[.agg #[.int .u8 2, .bool false, .int .i64 0, .string ⟨#[]⟩], .int .i64 0]) (by simp [results, Tryd.results42, go_sem, r0, r1, r2, r3, hz]) rfl ⟨rfl, ?_⟩
  have hbw := hwWH.out.trans (hb.mono hwWH.out.size)
  clear hb
  go_grown

set_option maxRecDepth 100000 in
set_option maxHeartbeats 8000000 in
theorem refCompare_1_0 (k0 : Int) (b0 : Bool) (n0 : Int) (s0 : ByteArray) (k1 : Int) (b1 : Bool) (n1 : Int) (s1 : ByteArray) (w : World) (hs0 : s0.size ≤ 140737488355328) (hs1 : s1.size ≤ 140737488355328) (hA : chk ⟨k0, b0, n0, s0⟩ = 0) (hB : chk ⟨k1, b1, n1, s1⟩ = 0) (h : ¬ k0 = 1) (h' : ¬ k1 = 1) (hk : k0 = k1) (hc : cmpS ⟨k0, b0, n0, s0⟩ ⟨k1, b1, n1, s1⟩ = 0) :
    Calls Tryd.prog 42 #[.int .u8 11, .agg #[.int .u8 k0, .bool b0, .int .i64 n0, .string s0], .agg #[.int .u8 k1, .bool b1, .int .i64 n1, .string s1]] w fun e w' => e = .returned (.tuple #[.agg #[.int .u8 2, .bool true, .int .i64 0, .string ⟨#[]⟩], .int .i64 0]) ∧ Below w.heap.size w w' := by
  have hcA := Lib.hid hA; have hcB := Lib.hid hB
  clear hA hB
  have g1 : (k0 == 1) = false := by simpa using h
  have g2 : (k1 == 1) = false := by simpa using h'
  have g3 : (k0 != k1) = false := by simpa using hk
  have hcmp := Lib.hid hc
  clear h h' hk hc
  have hs0H := Lib.hid hs0; have hs1H := Lib.hid hs1
  obtain ⟨W0, hW0, hwW, hA, hB, hR, hzz⟩ := boxes2 w k0 b0 n0 s0 k1 b1 n1 s1
  have hAH := Lib.hid hA; have hBH := Lib.hid hB; have hRH := Lib.hid hR; have hz0 := Lib.hid hzz; have hwWH := Lib.hid hwW
  clear hA hB hR hzz hwW hs0 hs1
  have hb := Below.refl W0.heap.size W0
  obtain ⟨a0, a1, a2, a3⟩ := (hAH.out.below hb).cells; obtain ⟨b0_, b1_, b2_, b3_⟩ := (hBH.out.below hb).cells; obtain ⟨r0, r1, r2, r3⟩ := (hRH.out.below hb).cells; obtain ⟨f0, f1, f2, f3⟩ := (hRH.out.below hb).free; have hz := Nat.lt_of_lt_of_le hz0.out hb.size; have hs := hb.size
  go_enter Tryd.func42, Tryd.ntmps42
  go_wp2_with (first
    | (go_at_call 17; go_must (refine (refCheck_any _ _ _ _ _ (by first | exact hs0H.out | exact hs1H.out)).mono ?_; (first | rw [hcA.out] | rw [hcB.out]); rintro e w' ⟨rfl, hb'⟩; replace hb := chainB (B := W0.heap.size) (a := W0) (by go_grown) hb' (by have := hb.size; first | omega | (simp; done) | (simp; omega)); clear hb' a0 a1 a2 a3 b0_ b1_ b2_ b3_ r0 r1 r2 r3 f0 f1 f2 f3 hz hs; obtain ⟨a0, a1, a2, a3⟩ := (hAH.out.below hb).cells; obtain ⟨b0_, b1_, b2_, b3_⟩ := (hBH.out.below hb).cells; obtain ⟨r0, r1, r2, r3⟩ := (hRH.out.below hb).cells; obtain ⟨f0, f1, f2, f3⟩ := (hRH.out.below hb).free; have hz := Nat.lt_of_lt_of_le hz0.out hb.size; have hs := hb.size))
    | (go_at_call 19; go_must (refine (refCmp_any _ _ _ _ _ _ _ _ _).mono ?_; rw [hcmp.out]; rintro e w' ⟨rfl, hb'⟩; replace hb := chainB (B := W0.heap.size) (a := W0) (by go_grown) hb' (by have := hb.size; first | omega | (simp; done) | (simp; omega)); clear hb' a0 a1 a2 a3 b0_ b1_ b2_ b3_ r0 r1 r2 r3 f0 f1 f2 f3 hz hs; obtain ⟨a0, a1, a2, a3⟩ := (hAH.out.below hb).cells; obtain ⟨b0_, b1_, b2_, b3_⟩ := (hBH.out.below hb).cells; obtain ⟨r0, r1, r2, r3⟩ := (hRH.out.below hb).cells; obtain ⟨f0, f1, f2, f3⟩ := (hRH.out.below hb).free; have hz := Nat.lt_of_lt_of_le hz0.out hb.size; have hs := hb.size))
    | (go_at_call 66; go_must (refine (refNull_any _).mono ?_; rintro e w' ⟨rfl, hb'⟩; replace hb := chainB (B := W0.heap.size) (a := W0) (by go_grown) hb' (by have := hb.size; first | omega | (simp; done) | (simp; omega)); clear hb' a0 a1 a2 a3 b0_ b1_ b2_ b3_ r0 r1 r2 r3 f0 f1 f2 f3 hz hs; obtain ⟨a0, a1, a2, a3⟩ := (hAH.out.below hb).cells; obtain ⟨b0_, b1_, b2_, b3_⟩ := (hBH.out.below hb).cells; obtain ⟨r0, r1, r2, r3⟩ := (hRH.out.below hb).cells; obtain ⟨f0, f1, f2, f3⟩ := (hRH.out.below hb).free; have hz := Nat.lt_of_lt_of_le hz0.out hb.size; have hs := hb.size))
    | (go_at_call 67; go_must (refine (refBool_any _ _).mono ?_; rintro e w' ⟨rfl, hb'⟩; replace hb := chainB (B := W0.heap.size) (a := W0) (by go_grown) hb' (by have := hb.size; first | omega | (simp; done) | (simp; omega)); clear hb' a0 a1 a2 a3 b0_ b1_ b2_ b3_ r0 r1 r2 r3 f0 f1 f2 f3 hz hs; obtain ⟨a0, a1, a2, a3⟩ := (hAH.out.below hb).cells; obtain ⟨b0_, b1_, b2_, b3_⟩ := (hBH.out.below hb).cells; obtain ⟨r0, r1, r2, r3⟩ := (hRH.out.below hb).cells; obtain ⟨f0, f1, f2, f3⟩ := (hRH.out.below hb).free; have hz := Nat.lt_of_lt_of_le hz0.out hb.size; have hs := hb.size)))
  refine bodyPost_ret (v := .tuple #[.agg #[.int .u8 2, .bool true, .int .i64 0, .string ⟨#[]⟩], .int .i64 0]) (by simp [results, Tryd.results42, go_sem, r0, r1, r2, r3, hz]) rfl ⟨rfl, ?_⟩
  have hbw := hwWH.out.trans (hb.mono hwWH.out.size)
  clear hb
  go_grown

set_option maxRecDepth 100000 in
set_option maxHeartbeats 8000000 in
theorem refCompare_1_1 (k0 : Int) (b0 : Bool) (n0 : Int) (s0 : ByteArray) (k1 : Int) (b1 : Bool) (n1 : Int) (s1 : ByteArray) (w : World) (hs0 : s0.size ≤ 140737488355328) (hs1 : s1.size ≤ 140737488355328) (hA : chk ⟨k0, b0, n0, s0⟩ = 0) (hB : chk ⟨k1, b1, n1, s1⟩ = 0) (h : ¬ k0 = 1) (h' : ¬ k1 = 1) (hk : k0 = k1) (hc : cmpS ⟨k0, b0, n0, s0⟩ ⟨k1, b1, n1, s1⟩ = 0) :
    Calls Tryd.prog 42 #[.int .u8 12, .agg #[.int .u8 k0, .bool b0, .int .i64 n0, .string s0], .agg #[.int .u8 k1, .bool b1, .int .i64 n1, .string s1]] w fun e w' => e = .returned (.tuple #[.agg #[.int .u8 2, .bool false, .int .i64 0, .string ⟨#[]⟩], .int .i64 0]) ∧ Below w.heap.size w w' := by
  have hcA := Lib.hid hA; have hcB := Lib.hid hB
  clear hA hB
  have g1 : (k0 == 1) = false := by simpa using h
  have g2 : (k1 == 1) = false := by simpa using h'
  have g3 : (k0 != k1) = false := by simpa using hk
  have hcmp := Lib.hid hc
  clear h h' hk hc
  have hs0H := Lib.hid hs0; have hs1H := Lib.hid hs1
  obtain ⟨W0, hW0, hwW, hA, hB, hR, hzz⟩ := boxes2 w k0 b0 n0 s0 k1 b1 n1 s1
  have hAH := Lib.hid hA; have hBH := Lib.hid hB; have hRH := Lib.hid hR; have hz0 := Lib.hid hzz; have hwWH := Lib.hid hwW
  clear hA hB hR hzz hwW hs0 hs1
  have hb := Below.refl W0.heap.size W0
  obtain ⟨a0, a1, a2, a3⟩ := (hAH.out.below hb).cells; obtain ⟨b0_, b1_, b2_, b3_⟩ := (hBH.out.below hb).cells; obtain ⟨r0, r1, r2, r3⟩ := (hRH.out.below hb).cells; obtain ⟨f0, f1, f2, f3⟩ := (hRH.out.below hb).free; have hz := Nat.lt_of_lt_of_le hz0.out hb.size; have hs := hb.size
  go_enter Tryd.func42, Tryd.ntmps42
  go_wp2_with (first
    | (go_at_call 17; go_must (refine (refCheck_any _ _ _ _ _ (by first | exact hs0H.out | exact hs1H.out)).mono ?_; (first | rw [hcA.out] | rw [hcB.out]); rintro e w' ⟨rfl, hb'⟩; replace hb := chainB (B := W0.heap.size) (a := W0) (by go_grown) hb' (by have := hb.size; first | omega | (simp; done) | (simp; omega)); clear hb' a0 a1 a2 a3 b0_ b1_ b2_ b3_ r0 r1 r2 r3 f0 f1 f2 f3 hz hs; obtain ⟨a0, a1, a2, a3⟩ := (hAH.out.below hb).cells; obtain ⟨b0_, b1_, b2_, b3_⟩ := (hBH.out.below hb).cells; obtain ⟨r0, r1, r2, r3⟩ := (hRH.out.below hb).cells; obtain ⟨f0, f1, f2, f3⟩ := (hRH.out.below hb).free; have hz := Nat.lt_of_lt_of_le hz0.out hb.size; have hs := hb.size))
    | (go_at_call 19; go_must (refine (refCmp_any _ _ _ _ _ _ _ _ _).mono ?_; rw [hcmp.out]; rintro e w' ⟨rfl, hb'⟩; replace hb := chainB (B := W0.heap.size) (a := W0) (by go_grown) hb' (by have := hb.size; first | omega | (simp; done) | (simp; omega)); clear hb' a0 a1 a2 a3 b0_ b1_ b2_ b3_ r0 r1 r2 r3 f0 f1 f2 f3 hz hs; obtain ⟨a0, a1, a2, a3⟩ := (hAH.out.below hb).cells; obtain ⟨b0_, b1_, b2_, b3_⟩ := (hBH.out.below hb).cells; obtain ⟨r0, r1, r2, r3⟩ := (hRH.out.below hb).cells; obtain ⟨f0, f1, f2, f3⟩ := (hRH.out.below hb).free; have hz := Nat.lt_of_lt_of_le hz0.out hb.size; have hs := hb.size))
    | (go_at_call 66; go_must (refine (refNull_any _).mono ?_; rintro e w' ⟨rfl, hb'⟩; replace hb := chainB (B := W0.heap.size) (a := W0) (by go_grown) hb' (by have := hb.size; first | omega | (simp; done) | (simp; omega)); clear hb' a0 a1 a2 a3 b0_ b1_ b2_ b3_ r0 r1 r2 r3 f0 f1 f2 f3 hz hs; obtain ⟨a0, a1, a2, a3⟩ := (hAH.out.below hb).cells; obtain ⟨b0_, b1_, b2_, b3_⟩ := (hBH.out.below hb).cells; obtain ⟨r0, r1, r2, r3⟩ := (hRH.out.below hb).cells; obtain ⟨f0, f1, f2, f3⟩ := (hRH.out.below hb).free; have hz := Nat.lt_of_lt_of_le hz0.out hb.size; have hs := hb.size))
    | (go_at_call 67; go_must (refine (refBool_any _ _).mono ?_; rintro e w' ⟨rfl, hb'⟩; replace hb := chainB (B := W0.heap.size) (a := W0) (by go_grown) hb' (by have := hb.size; first | omega | (simp; done) | (simp; omega)); clear hb' a0 a1 a2 a3 b0_ b1_ b2_ b3_ r0 r1 r2 r3 f0 f1 f2 f3 hz hs; obtain ⟨a0, a1, a2, a3⟩ := (hAH.out.below hb).cells; obtain ⟨b0_, b1_, b2_, b3_⟩ := (hBH.out.below hb).cells; obtain ⟨r0, r1, r2, r3⟩ := (hRH.out.below hb).cells; obtain ⟨f0, f1, f2, f3⟩ := (hRH.out.below hb).free; have hz := Nat.lt_of_lt_of_le hz0.out hb.size; have hs := hb.size)))
  refine bodyPost_ret (v := .tuple #[.agg #[.int .u8 2, .bool false, .int .i64 0, .string ⟨#[]⟩], .int .i64 0]) (by simp [results, Tryd.results42, go_sem, r0, r1, r2, r3, hz]) rfl ⟨rfl, ?_⟩
  have hbw := hwWH.out.trans (hb.mono hwWH.out.size)
  clear hb
  go_grown

set_option maxRecDepth 100000 in
set_option maxHeartbeats 8000000 in
theorem refCompare_1_2 (k0 : Int) (b0 : Bool) (n0 : Int) (s0 : ByteArray) (k1 : Int) (b1 : Bool) (n1 : Int) (s1 : ByteArray) (w : World) (hs0 : s0.size ≤ 140737488355328) (hs1 : s1.size ≤ 140737488355328) (hA : chk ⟨k0, b0, n0, s0⟩ = 0) (hB : chk ⟨k1, b1, n1, s1⟩ = 0) (h : ¬ k0 = 1) (h' : ¬ k1 = 1) (hk : k0 = k1) (hc : cmpS ⟨k0, b0, n0, s0⟩ ⟨k1, b1, n1, s1⟩ = 0) :
    Calls Tryd.prog 42 #[.int .u8 13, .agg #[.int .u8 k0, .bool b0, .int .i64 n0, .string s0], .agg #[.int .u8 k1, .bool b1, .int .i64 n1, .string s1]] w fun e w' => e = .returned (.tuple #[.agg #[.int .u8 2, .bool false, .int .i64 0, .string ⟨#[]⟩], .int .i64 0]) ∧ Below w.heap.size w w' := by
  have hcA := Lib.hid hA; have hcB := Lib.hid hB
  clear hA hB
  have g1 : (k0 == 1) = false := by simpa using h
  have g2 : (k1 == 1) = false := by simpa using h'
  have g3 : (k0 != k1) = false := by simpa using hk
  have hcmp := Lib.hid hc
  clear h h' hk hc
  have hs0H := Lib.hid hs0; have hs1H := Lib.hid hs1
  obtain ⟨W0, hW0, hwW, hA, hB, hR, hzz⟩ := boxes2 w k0 b0 n0 s0 k1 b1 n1 s1
  have hAH := Lib.hid hA; have hBH := Lib.hid hB; have hRH := Lib.hid hR; have hz0 := Lib.hid hzz; have hwWH := Lib.hid hwW
  clear hA hB hR hzz hwW hs0 hs1
  have hb := Below.refl W0.heap.size W0
  obtain ⟨a0, a1, a2, a3⟩ := (hAH.out.below hb).cells; obtain ⟨b0_, b1_, b2_, b3_⟩ := (hBH.out.below hb).cells; obtain ⟨r0, r1, r2, r3⟩ := (hRH.out.below hb).cells; obtain ⟨f0, f1, f2, f3⟩ := (hRH.out.below hb).free; have hz := Nat.lt_of_lt_of_le hz0.out hb.size; have hs := hb.size
  go_enter Tryd.func42, Tryd.ntmps42
  go_wp2_with (first
    | (go_at_call 17; go_must (refine (refCheck_any _ _ _ _ _ (by first | exact hs0H.out | exact hs1H.out)).mono ?_; (first | rw [hcA.out] | rw [hcB.out]); rintro e w' ⟨rfl, hb'⟩; replace hb := chainB (B := W0.heap.size) (a := W0) (by go_grown) hb' (by have := hb.size; first | omega | (simp; done) | (simp; omega)); clear hb' a0 a1 a2 a3 b0_ b1_ b2_ b3_ r0 r1 r2 r3 f0 f1 f2 f3 hz hs; obtain ⟨a0, a1, a2, a3⟩ := (hAH.out.below hb).cells; obtain ⟨b0_, b1_, b2_, b3_⟩ := (hBH.out.below hb).cells; obtain ⟨r0, r1, r2, r3⟩ := (hRH.out.below hb).cells; obtain ⟨f0, f1, f2, f3⟩ := (hRH.out.below hb).free; have hz := Nat.lt_of_lt_of_le hz0.out hb.size; have hs := hb.size))
    | (go_at_call 19; go_must (refine (refCmp_any _ _ _ _ _ _ _ _ _).mono ?_; rw [hcmp.out]; rintro e w' ⟨rfl, hb'⟩; replace hb := chainB (B := W0.heap.size) (a := W0) (by go_grown) hb' (by have := hb.size; first | omega | (simp; done) | (simp; omega)); clear hb' a0 a1 a2 a3 b0_ b1_ b2_ b3_ r0 r1 r2 r3 f0 f1 f2 f3 hz hs; obtain ⟨a0, a1, a2, a3⟩ := (hAH.out.below hb).cells; obtain ⟨b0_, b1_, b2_, b3_⟩ := (hBH.out.below hb).cells; obtain ⟨r0, r1, r2, r3⟩ := (hRH.out.below hb).cells; obtain ⟨f0, f1, f2, f3⟩ := (hRH.out.below hb).free; have hz := Nat.lt_of_lt_of_le hz0.out hb.size; have hs := hb.size))
    | (go_at_call 66; go_must (refine (refNull_any _).mono ?_; rintro e w' ⟨rfl, hb'⟩; replace hb := chainB (B := W0.heap.size) (a := W0) (by go_grown) hb' (by have := hb.size; first | omega | (simp; done) | (simp; omega)); clear hb' a0 a1 a2 a3 b0_ b1_ b2_ b3_ r0 r1 r2 r3 f0 f1 f2 f3 hz hs; obtain ⟨a0, a1, a2, a3⟩ := (hAH.out.below hb).cells; obtain ⟨b0_, b1_, b2_, b3_⟩ := (hBH.out.below hb).cells; obtain ⟨r0, r1, r2, r3⟩ := (hRH.out.below hb).cells; obtain ⟨f0, f1, f2, f3⟩ := (hRH.out.below hb).free; have hz := Nat.lt_of_lt_of_le hz0.out hb.size; have hs := hb.size))
    | (go_at_call 67; go_must (refine (refBool_any _ _).mono ?_; rintro e w' ⟨rfl, hb'⟩; replace hb := chainB (B := W0.heap.size) (a := W0) (by go_grown) hb' (by have := hb.size; first | omega | (simp; done) | (simp; omega)); clear hb' a0 a1 a2 a3 b0_ b1_ b2_ b3_ r0 r1 r2 r3 f0 f1 f2 f3 hz hs; obtain ⟨a0, a1, a2, a3⟩ := (hAH.out.below hb).cells; obtain ⟨b0_, b1_, b2_, b3_⟩ := (hBH.out.below hb).cells; obtain ⟨r0, r1, r2, r3⟩ := (hRH.out.below hb).cells; obtain ⟨f0, f1, f2, f3⟩ := (hRH.out.below hb).free; have hz := Nat.lt_of_lt_of_le hz0.out hb.size; have hs := hb.size)))
  refine bodyPost_ret (v := .tuple #[.agg #[.int .u8 2, .bool false, .int .i64 0, .string ⟨#[]⟩], .int .i64 0]) (by simp [results, Tryd.results42, go_sem, r0, r1, r2, r3, hz]) rfl ⟨rfl, ?_⟩
  have hbw := hwWH.out.trans (hb.mono hwWH.out.size)
  clear hb
  go_grown

set_option maxRecDepth 100000 in
set_option maxHeartbeats 8000000 in
theorem refCompare_1_3 (k0 : Int) (b0 : Bool) (n0 : Int) (s0 : ByteArray) (k1 : Int) (b1 : Bool) (n1 : Int) (s1 : ByteArray) (w : World) (hs0 : s0.size ≤ 140737488355328) (hs1 : s1.size ≤ 140737488355328) (hA : chk ⟨k0, b0, n0, s0⟩ = 0) (hB : chk ⟨k1, b1, n1, s1⟩ = 0) (h : ¬ k0 = 1) (h' : ¬ k1 = 1) (hk : k0 = k1) (hc : cmpS ⟨k0, b0, n0, s0⟩ ⟨k1, b1, n1, s1⟩ = 0) :
    Calls Tryd.prog 42 #[.int .u8 14, .agg #[.int .u8 k0, .bool b0, .int .i64 n0, .string s0], .agg #[.int .u8 k1, .bool b1, .int .i64 n1, .string s1]] w fun e w' => e = .returned (.tuple #[.agg #[.int .u8 2, .bool true, .int .i64 0, .string ⟨#[]⟩], .int .i64 0]) ∧ Below w.heap.size w w' := by
  have hcA := Lib.hid hA; have hcB := Lib.hid hB
  clear hA hB
  have g1 : (k0 == 1) = false := by simpa using h
  have g2 : (k1 == 1) = false := by simpa using h'
  have g3 : (k0 != k1) = false := by simpa using hk
  have hcmp := Lib.hid hc
  clear h h' hk hc
  have hs0H := Lib.hid hs0; have hs1H := Lib.hid hs1
  obtain ⟨W0, hW0, hwW, hA, hB, hR, hzz⟩ := boxes2 w k0 b0 n0 s0 k1 b1 n1 s1
  have hAH := Lib.hid hA; have hBH := Lib.hid hB; have hRH := Lib.hid hR; have hz0 := Lib.hid hzz; have hwWH := Lib.hid hwW
  clear hA hB hR hzz hwW hs0 hs1
  have hb := Below.refl W0.heap.size W0
  obtain ⟨a0, a1, a2, a3⟩ := (hAH.out.below hb).cells; obtain ⟨b0_, b1_, b2_, b3_⟩ := (hBH.out.below hb).cells; obtain ⟨r0, r1, r2, r3⟩ := (hRH.out.below hb).cells; obtain ⟨f0, f1, f2, f3⟩ := (hRH.out.below hb).free; have hz := Nat.lt_of_lt_of_le hz0.out hb.size; have hs := hb.size
  go_enter Tryd.func42, Tryd.ntmps42
  go_wp2_with (first
    | (go_at_call 17; go_must (refine (refCheck_any _ _ _ _ _ (by first | exact hs0H.out | exact hs1H.out)).mono ?_; (first | rw [hcA.out] | rw [hcB.out]); rintro e w' ⟨rfl, hb'⟩; replace hb := chainB (B := W0.heap.size) (a := W0) (by go_grown) hb' (by have := hb.size; first | omega | (simp; done) | (simp; omega)); clear hb' a0 a1 a2 a3 b0_ b1_ b2_ b3_ r0 r1 r2 r3 f0 f1 f2 f3 hz hs; obtain ⟨a0, a1, a2, a3⟩ := (hAH.out.below hb).cells; obtain ⟨b0_, b1_, b2_, b3_⟩ := (hBH.out.below hb).cells; obtain ⟨r0, r1, r2, r3⟩ := (hRH.out.below hb).cells; obtain ⟨f0, f1, f2, f3⟩ := (hRH.out.below hb).free; have hz := Nat.lt_of_lt_of_le hz0.out hb.size; have hs := hb.size))
    | (go_at_call 19; go_must (refine (refCmp_any _ _ _ _ _ _ _ _ _).mono ?_; rw [hcmp.out]; rintro e w' ⟨rfl, hb'⟩; replace hb := chainB (B := W0.heap.size) (a := W0) (by go_grown) hb' (by have := hb.size; first | omega | (simp; done) | (simp; omega)); clear hb' a0 a1 a2 a3 b0_ b1_ b2_ b3_ r0 r1 r2 r3 f0 f1 f2 f3 hz hs; obtain ⟨a0, a1, a2, a3⟩ := (hAH.out.below hb).cells; obtain ⟨b0_, b1_, b2_, b3_⟩ := (hBH.out.below hb).cells; obtain ⟨r0, r1, r2, r3⟩ := (hRH.out.below hb).cells; obtain ⟨f0, f1, f2, f3⟩ := (hRH.out.below hb).free; have hz := Nat.lt_of_lt_of_le hz0.out hb.size; have hs := hb.size))
    | (go_at_call 66; go_must (refine (refNull_any _).mono ?_; rintro e w' ⟨rfl, hb'⟩; replace hb := chainB (B := W0.heap.size) (a := W0) (by go_grown) hb' (by have := hb.size; first | omega | (simp; done) | (simp; omega)); clear hb' a0 a1 a2 a3 b0_ b1_ b2_ b3_ r0 r1 r2 r3 f0 f1 f2 f3 hz hs; obtain ⟨a0, a1, a2, a3⟩ := (hAH.out.below hb).cells; obtain ⟨b0_, b1_, b2_, b3_⟩ := (hBH.out.below hb).cells; obtain ⟨r0, r1, r2, r3⟩ := (hRH.out.below hb).cells; obtain ⟨f0, f1, f2, f3⟩ := (hRH.out.below hb).free; have hz := Nat.lt_of_lt_of_le hz0.out hb.size; have hs := hb.size))
    | (go_at_call 67; go_must (refine (refBool_any _ _).mono ?_; rintro e w' ⟨rfl, hb'⟩; replace hb := chainB (B := W0.heap.size) (a := W0) (by go_grown) hb' (by have := hb.size; first | omega | (simp; done) | (simp; omega)); clear hb' a0 a1 a2 a3 b0_ b1_ b2_ b3_ r0 r1 r2 r3 f0 f1 f2 f3 hz hs; obtain ⟨a0, a1, a2, a3⟩ := (hAH.out.below hb).cells; obtain ⟨b0_, b1_, b2_, b3_⟩ := (hBH.out.below hb).cells; obtain ⟨r0, r1, r2, r3⟩ := (hRH.out.below hb).cells; obtain ⟨f0, f1, f2, f3⟩ := (hRH.out.below hb).free; have hz := Nat.lt_of_lt_of_le hz0.out hb.size; have hs := hb.size)))
  refine bodyPost_ret (v := .tuple #[.agg #[.int .u8 2, .bool true, .int .i64 0, .string ⟨#[]⟩], .int .i64 0]) (by simp [results, Tryd.results42, go_sem, r0, r1, r2, r3, hz]) rfl ⟨rfl, ?_⟩
  have hbw := hwWH.out.trans (hb.mono hwWH.out.size)
  clear hb
  go_grown

set_option maxRecDepth 100000 in
set_option maxHeartbeats 8000000 in
theorem refCompare_1_4 (k0 : Int) (b0 : Bool) (n0 : Int) (s0 : ByteArray) (k1 : Int) (b1 : Bool) (n1 : Int) (s1 : ByteArray) (w : World) (hs0 : s0.size ≤ 140737488355328) (hs1 : s1.size ≤ 140737488355328) (hA : chk ⟨k0, b0, n0, s0⟩ = 0) (hB : chk ⟨k1, b1, n1, s1⟩ = 0) (h : ¬ k0 = 1) (h' : ¬ k1 = 1) (hk : k0 = k1) (hc : cmpS ⟨k0, b0, n0, s0⟩ ⟨k1, b1, n1, s1⟩ = 0) :
    Calls Tryd.prog 42 #[.int .u8 15, .agg #[.int .u8 k0, .bool b0, .int .i64 n0, .string s0], .agg #[.int .u8 k1, .bool b1, .int .i64 n1, .string s1]] w fun e w' => e = .returned (.tuple #[.agg #[.int .u8 2, .bool false, .int .i64 0, .string ⟨#[]⟩], .int .i64 0]) ∧ Below w.heap.size w w' := by
  have hcA := Lib.hid hA; have hcB := Lib.hid hB
  clear hA hB
  have g1 : (k0 == 1) = false := by simpa using h
  have g2 : (k1 == 1) = false := by simpa using h'
  have g3 : (k0 != k1) = false := by simpa using hk
  have hcmp := Lib.hid hc
  clear h h' hk hc
  have hs0H := Lib.hid hs0; have hs1H := Lib.hid hs1
  obtain ⟨W0, hW0, hwW, hA, hB, hR, hzz⟩ := boxes2 w k0 b0 n0 s0 k1 b1 n1 s1
  have hAH := Lib.hid hA; have hBH := Lib.hid hB; have hRH := Lib.hid hR; have hz0 := Lib.hid hzz; have hwWH := Lib.hid hwW
  clear hA hB hR hzz hwW hs0 hs1
  have hb := Below.refl W0.heap.size W0
  obtain ⟨a0, a1, a2, a3⟩ := (hAH.out.below hb).cells; obtain ⟨b0_, b1_, b2_, b3_⟩ := (hBH.out.below hb).cells; obtain ⟨r0, r1, r2, r3⟩ := (hRH.out.below hb).cells; obtain ⟨f0, f1, f2, f3⟩ := (hRH.out.below hb).free; have hz := Nat.lt_of_lt_of_le hz0.out hb.size; have hs := hb.size
  go_enter Tryd.func42, Tryd.ntmps42
  go_wp2_with (first
    | (go_at_call 17; go_must (refine (refCheck_any _ _ _ _ _ (by first | exact hs0H.out | exact hs1H.out)).mono ?_; (first | rw [hcA.out] | rw [hcB.out]); rintro e w' ⟨rfl, hb'⟩; replace hb := chainB (B := W0.heap.size) (a := W0) (by go_grown) hb' (by have := hb.size; first | omega | (simp; done) | (simp; omega)); clear hb' a0 a1 a2 a3 b0_ b1_ b2_ b3_ r0 r1 r2 r3 f0 f1 f2 f3 hz hs; obtain ⟨a0, a1, a2, a3⟩ := (hAH.out.below hb).cells; obtain ⟨b0_, b1_, b2_, b3_⟩ := (hBH.out.below hb).cells; obtain ⟨r0, r1, r2, r3⟩ := (hRH.out.below hb).cells; obtain ⟨f0, f1, f2, f3⟩ := (hRH.out.below hb).free; have hz := Nat.lt_of_lt_of_le hz0.out hb.size; have hs := hb.size))
    | (go_at_call 19; go_must (refine (refCmp_any _ _ _ _ _ _ _ _ _).mono ?_; rw [hcmp.out]; rintro e w' ⟨rfl, hb'⟩; replace hb := chainB (B := W0.heap.size) (a := W0) (by go_grown) hb' (by have := hb.size; first | omega | (simp; done) | (simp; omega)); clear hb' a0 a1 a2 a3 b0_ b1_ b2_ b3_ r0 r1 r2 r3 f0 f1 f2 f3 hz hs; obtain ⟨a0, a1, a2, a3⟩ := (hAH.out.below hb).cells; obtain ⟨b0_, b1_, b2_, b3_⟩ := (hBH.out.below hb).cells; obtain ⟨r0, r1, r2, r3⟩ := (hRH.out.below hb).cells; obtain ⟨f0, f1, f2, f3⟩ := (hRH.out.below hb).free; have hz := Nat.lt_of_lt_of_le hz0.out hb.size; have hs := hb.size))
    | (go_at_call 66; go_must (refine (refNull_any _).mono ?_; rintro e w' ⟨rfl, hb'⟩; replace hb := chainB (B := W0.heap.size) (a := W0) (by go_grown) hb' (by have := hb.size; first | omega | (simp; done) | (simp; omega)); clear hb' a0 a1 a2 a3 b0_ b1_ b2_ b3_ r0 r1 r2 r3 f0 f1 f2 f3 hz hs; obtain ⟨a0, a1, a2, a3⟩ := (hAH.out.below hb).cells; obtain ⟨b0_, b1_, b2_, b3_⟩ := (hBH.out.below hb).cells; obtain ⟨r0, r1, r2, r3⟩ := (hRH.out.below hb).cells; obtain ⟨f0, f1, f2, f3⟩ := (hRH.out.below hb).free; have hz := Nat.lt_of_lt_of_le hz0.out hb.size; have hs := hb.size))
    | (go_at_call 67; go_must (refine (refBool_any _ _).mono ?_; rintro e w' ⟨rfl, hb'⟩; replace hb := chainB (B := W0.heap.size) (a := W0) (by go_grown) hb' (by have := hb.size; first | omega | (simp; done) | (simp; omega)); clear hb' a0 a1 a2 a3 b0_ b1_ b2_ b3_ r0 r1 r2 r3 f0 f1 f2 f3 hz hs; obtain ⟨a0, a1, a2, a3⟩ := (hAH.out.below hb).cells; obtain ⟨b0_, b1_, b2_, b3_⟩ := (hBH.out.below hb).cells; obtain ⟨r0, r1, r2, r3⟩ := (hRH.out.below hb).cells; obtain ⟨f0, f1, f2, f3⟩ := (hRH.out.below hb).free; have hz := Nat.lt_of_lt_of_le hz0.out hb.size; have hs := hb.size)))
  refine bodyPost_ret (v := .tuple #[.agg #[.int .u8 2, .bool false, .int .i64 0, .string ⟨#[]⟩], .int .i64 0]) (by simp [results, Tryd.results42, go_sem, r0, r1, r2, r3, hz]) rfl ⟨rfl, ?_⟩
  have hbw := hwWH.out.trans (hb.mono hwWH.out.size)
  clear hb
  go_grown

set_option maxRecDepth 100000 in
set_option maxHeartbeats 8000000 in
theorem refCompare_1_5 (k0 : Int) (b0 : Bool) (n0 : Int) (s0 : ByteArray) (k1 : Int) (b1 : Bool) (n1 : Int) (s1 : ByteArray) (w : World) (hs0 : s0.size ≤ 140737488355328) (hs1 : s1.size ≤ 140737488355328) (hA : chk ⟨k0, b0, n0, s0⟩ = 0) (hB : chk ⟨k1, b1, n1, s1⟩ = 0) (h : ¬ k0 = 1) (h' : ¬ k1 = 1) (hk : k0 = k1) (hc : cmpS ⟨k0, b0, n0, s0⟩ ⟨k1, b1, n1, s1⟩ = 0) :
    Calls Tryd.prog 42 #[.int .u8 16, .agg #[.int .u8 k0, .bool b0, .int .i64 n0, .string s0], .agg #[.int .u8 k1, .bool b1, .int .i64 n1, .string s1]] w fun e w' => e = .returned (.tuple #[.agg #[.int .u8 2, .bool true, .int .i64 0, .string ⟨#[]⟩], .int .i64 0]) ∧ Below w.heap.size w w' := by
  have hcA := Lib.hid hA; have hcB := Lib.hid hB
  clear hA hB
  have g1 : (k0 == 1) = false := by simpa using h
  have g2 : (k1 == 1) = false := by simpa using h'
  have g3 : (k0 != k1) = false := by simpa using hk
  have hcmp := Lib.hid hc
  clear h h' hk hc
  have hs0H := Lib.hid hs0; have hs1H := Lib.hid hs1
  obtain ⟨W0, hW0, hwW, hA, hB, hR, hzz⟩ := boxes2 w k0 b0 n0 s0 k1 b1 n1 s1
  have hAH := Lib.hid hA; have hBH := Lib.hid hB; have hRH := Lib.hid hR; have hz0 := Lib.hid hzz; have hwWH := Lib.hid hwW
  clear hA hB hR hzz hwW hs0 hs1
  have hb := Below.refl W0.heap.size W0
  obtain ⟨a0, a1, a2, a3⟩ := (hAH.out.below hb).cells; obtain ⟨b0_, b1_, b2_, b3_⟩ := (hBH.out.below hb).cells; obtain ⟨r0, r1, r2, r3⟩ := (hRH.out.below hb).cells; obtain ⟨f0, f1, f2, f3⟩ := (hRH.out.below hb).free; have hz := Nat.lt_of_lt_of_le hz0.out hb.size; have hs := hb.size
  go_enter Tryd.func42, Tryd.ntmps42
  go_wp2_with (first
    | (go_at_call 17; go_must (refine (refCheck_any _ _ _ _ _ (by first | exact hs0H.out | exact hs1H.out)).mono ?_; (first | rw [hcA.out] | rw [hcB.out]); rintro e w' ⟨rfl, hb'⟩; replace hb := chainB (B := W0.heap.size) (a := W0) (by go_grown) hb' (by have := hb.size; first | omega | (simp; done) | (simp; omega)); clear hb' a0 a1 a2 a3 b0_ b1_ b2_ b3_ r0 r1 r2 r3 f0 f1 f2 f3 hz hs; obtain ⟨a0, a1, a2, a3⟩ := (hAH.out.below hb).cells; obtain ⟨b0_, b1_, b2_, b3_⟩ := (hBH.out.below hb).cells; obtain ⟨r0, r1, r2, r3⟩ := (hRH.out.below hb).cells; obtain ⟨f0, f1, f2, f3⟩ := (hRH.out.below hb).free; have hz := Nat.lt_of_lt_of_le hz0.out hb.size; have hs := hb.size))
    | (go_at_call 19; go_must (refine (refCmp_any _ _ _ _ _ _ _ _ _).mono ?_; rw [hcmp.out]; rintro e w' ⟨rfl, hb'⟩; replace hb := chainB (B := W0.heap.size) (a := W0) (by go_grown) hb' (by have := hb.size; first | omega | (simp; done) | (simp; omega)); clear hb' a0 a1 a2 a3 b0_ b1_ b2_ b3_ r0 r1 r2 r3 f0 f1 f2 f3 hz hs; obtain ⟨a0, a1, a2, a3⟩ := (hAH.out.below hb).cells; obtain ⟨b0_, b1_, b2_, b3_⟩ := (hBH.out.below hb).cells; obtain ⟨r0, r1, r2, r3⟩ := (hRH.out.below hb).cells; obtain ⟨f0, f1, f2, f3⟩ := (hRH.out.below hb).free; have hz := Nat.lt_of_lt_of_le hz0.out hb.size; have hs := hb.size))
    | (go_at_call 66; go_must (refine (refNull_any _).mono ?_; rintro e w' ⟨rfl, hb'⟩; replace hb := chainB (B := W0.heap.size) (a := W0) (by go_grown) hb' (by have := hb.size; first | omega | (simp; done) | (simp; omega)); clear hb' a0 a1 a2 a3 b0_ b1_ b2_ b3_ r0 r1 r2 r3 f0 f1 f2 f3 hz hs; obtain ⟨a0, a1, a2, a3⟩ := (hAH.out.below hb).cells; obtain ⟨b0_, b1_, b2_, b3_⟩ := (hBH.out.below hb).cells; obtain ⟨r0, r1, r2, r3⟩ := (hRH.out.below hb).cells; obtain ⟨f0, f1, f2, f3⟩ := (hRH.out.below hb).free; have hz := Nat.lt_of_lt_of_le hz0.out hb.size; have hs := hb.size))
    | (go_at_call 67; go_must (refine (refBool_any _ _).mono ?_; rintro e w' ⟨rfl, hb'⟩; replace hb := chainB (B := W0.heap.size) (a := W0) (by go_grown) hb' (by have := hb.size; first | omega | (simp; done) | (simp; omega)); clear hb' a0 a1 a2 a3 b0_ b1_ b2_ b3_ r0 r1 r2 r3 f0 f1 f2 f3 hz hs; obtain ⟨a0, a1, a2, a3⟩ := (hAH.out.below hb).cells; obtain ⟨b0_, b1_, b2_, b3_⟩ := (hBH.out.below hb).cells; obtain ⟨r0, r1, r2, r3⟩ := (hRH.out.below hb).cells; obtain ⟨f0, f1, f2, f3⟩ := (hRH.out.below hb).free; have hz := Nat.lt_of_lt_of_le hz0.out hb.size; have hs := hb.size)))
  refine bodyPost_ret (v := .tuple #[.agg #[.int .u8 2, .bool true, .int .i64 0, .string ⟨#[]⟩], .int .i64 0]) (by simp [results, Tryd.results42, go_sem, r0, r1, r2, r3, hz]) rfl ⟨rfl, ?_⟩
  have hbw := hwWH.out.trans (hb.mono hwWH.out.size)
  clear hb
  go_grown

set_option maxRecDepth 100000 in
set_option maxHeartbeats 8000000 in
theorem refCompare_2_0 (k0 : Int) (b0 : Bool) (n0 : Int) (s0 : ByteArray) (k1 : Int) (b1 : Bool) (n1 : Int) (s1 : ByteArray) (w : World) (hs0 : s0.size ≤ 140737488355328) (hs1 : s1.size ≤ 140737488355328) (hA : chk ⟨k0, b0, n0, s0⟩ = 0) (hB : chk ⟨k1, b1, n1, s1⟩ = 0) (h : ¬ k0 = 1) (h' : ¬ k1 = 1) (hk : k0 = k1) (hc : cmpS ⟨k0, b0, n0, s0⟩ ⟨k1, b1, n1, s1⟩ = 1) :
    Calls Tryd.prog 42 #[.int .u8 11, .agg #[.int .u8 k0, .bool b0, .int .i64 n0, .string s0], .agg #[.int .u8 k1, .bool b1, .int .i64 n1, .string s1]] w fun e w' => e = .returned (.tuple #[.agg #[.int .u8 2, .bool false, .int .i64 0, .string ⟨#[]⟩], .int .i64 0]) ∧ Below w.heap.size w w' := by
  have hcA := Lib.hid hA; have hcB := Lib.hid hB
  clear hA hB
  have g1 : (k0 == 1) = false := by simpa using h
  have g2 : (k1 == 1) = false := by simpa using h'
  have g3 : (k0 != k1) = false := by simpa using hk
  have hcmp := Lib.hid hc
  clear h h' hk hc
  have hs0H := Lib.hid hs0; have hs1H := Lib.hid hs1
  obtain ⟨W0, hW0, hwW, hA, hB, hR, hzz⟩ := boxes2 w k0 b0 n0 s0 k1 b1 n1 s1
  have hAH := Lib.hid hA; have hBH := Lib.hid hB; have hRH := Lib.hid hR; have hz0 := Lib.hid hzz; have hwWH := Lib.hid hwW
  clear hA hB hR hzz hwW hs0 hs1
  have hb := Below.refl W0.heap.size W0
  obtain ⟨a0, a1, a2, a3⟩ := (hAH.out.below hb).cells; obtain ⟨b0_, b1_, b2_, b3_⟩ := (hBH.out.below hb).cells; obtain ⟨r0, r1, r2, r3⟩ := (hRH.out.below hb).cells; obtain ⟨f0, f1, f2, f3⟩ := (hRH.out.below hb).free; have hz := Nat.lt_of_lt_of_le hz0.out hb.size; have hs := hb.size
  go_enter Tryd.func42, Tryd.ntmps42
  go_wp2_with (first
    | (go_at_call 17; go_must (refine (refCheck_any _ _ _ _ _ (by first | exact hs0H.out | exact hs1H.out)).mono ?_; (first | rw [hcA.out] | rw [hcB.out]); rintro e w' ⟨rfl, hb'⟩; replace hb := chainB (B := W0.heap.size) (a := W0) (by go_grown) hb' (by have := hb.size; first | omega | (simp; done) | (simp; omega)); clear hb' a0 a1 a2 a3 b0_ b1_ b2_ b3_ r0 r1 r2 r3 f0 f1 f2 f3 hz hs; obtain ⟨a0, a1, a2, a3⟩ := (hAH.out.below hb).cells; obtain ⟨b0_, b1_, b2_, b3_⟩ := (hBH.out.below hb).cells; obtain ⟨r0, r1, r2, r3⟩ := (hRH.out.below hb).cells; obtain ⟨f0, f1, f2, f3⟩ := (hRH.out.below hb).free; have hz := Nat.lt_of_lt_of_le hz0.out hb.size; have hs := hb.size))
    | (go_at_call 19; go_must (refine (refCmp_any _ _ _ _ _ _ _ _ _).mono ?_; rw [hcmp.out]; rintro e w' ⟨rfl, hb'⟩; replace hb := chainB (B := W0.heap.size) (a := W0) (by go_grown) hb' (by have := hb.size; first | omega | (simp; done) | (simp; omega)); clear hb' a0 a1 a2 a3 b0_ b1_ b2_ b3_ r0 r1 r2 r3 f0 f1 f2 f3 hz hs; obtain ⟨a0, a1, a2, a3⟩ := (hAH.out.below hb).cells; obtain ⟨b0_, b1_, b2_, b3_⟩ := (hBH.out.below hb).cells; obtain ⟨r0, r1, r2, r3⟩ := (hRH.out.below hb).cells; obtain ⟨f0, f1, f2, f3⟩ := (hRH.out.below hb).free; have hz := Nat.lt_of_lt_of_le hz0.out hb.size; have hs := hb.size))
    | (go_at_call 66; go_must (refine (refNull_any _).mono ?_; rintro e w' ⟨rfl, hb'⟩; replace hb := chainB (B := W0.heap.size) (a := W0) (by go_grown) hb' (by have := hb.size; first | omega | (simp; done) | (simp; omega)); clear hb' a0 a1 a2 a3 b0_ b1_ b2_ b3_ r0 r1 r2 r3 f0 f1 f2 f3 hz hs; obtain ⟨a0, a1, a2, a3⟩ := (hAH.out.below hb).cells; obtain ⟨b0_, b1_, b2_, b3_⟩ := (hBH.out.below hb).cells; obtain ⟨r0, r1, r2, r3⟩ := (hRH.out.below hb).cells; obtain ⟨f0, f1, f2, f3⟩ := (hRH.out.below hb).free; have hz := Nat.lt_of_lt_of_le hz0.out hb.size; have hs := hb.size))
    | (go_at_call 67; go_must (refine (refBool_any _ _).mono ?_; rintro e w' ⟨rfl, hb'⟩; replace hb := chainB (B := W0.heap.size) (a := W0) (by go_grown) hb' (by have := hb.size; first | omega | (simp; done) | (simp; omega)); clear hb' a0 a1 a2 a3 b0_ b1_ b2_ b3_ r0 r1 r2 r3 f0 f1 f2 f3 hz hs; obtain ⟨a0, a1, a2, a3⟩ := (hAH.out.below hb).cells; obtain ⟨b0_, b1_, b2_, b3_⟩ := (hBH.out.below hb).cells; obtain ⟨r0, r1, r2, r3⟩ := (hRH.out.below hb).cells; obtain ⟨f0, f1, f2, f3⟩ := (hRH.out.below hb).free; have hz := Nat.lt_of_lt_of_le hz0.out hb.size; have hs := hb.size)))
  refine bodyPost_ret (v := .tuple #[.agg #[.int .u8 2, .bool false, .int .i64 0, .string ⟨#[]⟩], .int .i64 0]) (by simp [results, Tryd.results42, go_sem, r0, r1, r2, r3, hz]) rfl ⟨rfl, ?_⟩
  have hbw := hwWH.out.trans (hb.mono hwWH.out.size)
  clear hb
  go_grown

set_option maxRecDepth 100000 in
set_option maxHeartbeats 8000000 in
theorem refCompare_2_1 (k0 : Int) (b0 : Bool) (n0 : Int) (s0 : ByteArray) (k1 : Int) (b1 : Bool) (n1 : Int) (s1 : ByteArray) (w : World) (hs0 : s0.size ≤ 140737488355328) (hs1 : s1.size ≤ 140737488355328) (hA : chk ⟨k0, b0, n0, s0⟩ = 0) (hB : chk ⟨k1, b1, n1, s1⟩ = 0) (h : ¬ k0 = 1) (h' : ¬ k1 = 1) (hk : k0 = k1) (hc : cmpS ⟨k0, b0, n0, s0⟩ ⟨k1, b1, n1, s1⟩ = 1) :
    Calls Tryd.prog 42 #[.int .u8 12, .agg #[.int .u8 k0, .bool b0, .int .i64 n0, .string s0], .agg #[.int .u8 k1, .bool b1, .int .i64 n1, .string s1]] w fun e w' => e = .returned (.tuple #[.agg #[.int .u8 2, .bool true, .int .i64 0, .string ⟨#[]⟩], .int .i64 0]) ∧ Below w.heap.size w w' := by
  have hcA := Lib.hid hA; have hcB := Lib.hid hB
  clear hA hB
  have g1 : (k0 == 1) = false := by simpa using h
  have g2 : (k1 == 1) = false := by simpa using h'
  have g3 : (k0 != k1) = false := by simpa using hk
  have hcmp := Lib.hid hc
  clear h h' hk hc
  have hs0H := Lib.hid hs0; have hs1H := Lib.hid hs1
  obtain ⟨W0, hW0, hwW, hA, hB, hR, hzz⟩ := boxes2 w k0 b0 n0 s0 k1 b1 n1 s1
  have hAH := Lib.hid hA; have hBH := Lib.hid hB; have hRH := Lib.hid hR; have hz0 := Lib.hid hzz; have hwWH := Lib.hid hwW
  clear hA hB hR hzz hwW hs0 hs1
  have hb := Below.refl W0.heap.size W0
  obtain ⟨a0, a1, a2, a3⟩ := (hAH.out.below hb).cells; obtain ⟨b0_, b1_, b2_, b3_⟩ := (hBH.out.below hb).cells; obtain ⟨r0, r1, r2, r3⟩ := (hRH.out.below hb).cells; obtain ⟨f0, f1, f2, f3⟩ := (hRH.out.below hb).free; have hz := Nat.lt_of_lt_of_le hz0.out hb.size; have hs := hb.size
  go_enter Tryd.func42, Tryd.ntmps42
  go_wp2_with (first
    | (go_at_call 17; go_must (refine (refCheck_any _ _ _ _ _ (by first | exact hs0H.out | exact hs1H.out)).mono ?_; (first | rw [hcA.out] | rw [hcB.out]); rintro e w' ⟨rfl, hb'⟩; replace hb := chainB (B := W0.heap.size) (a := W0) (by go_grown) hb' (by have := hb.size; first | omega | (simp; done) | (simp; omega)); clear hb' a0 a1 a2 a3 b0_ b1_ b2_ b3_ r0 r1 r2 r3 f0 f1 f2 f3 hz hs; obtain ⟨a0, a1, a2, a3⟩ := (hAH.out.below hb).cells; obtain ⟨b0_, b1_, b2_, b3_⟩ := (hBH.out.below hb).cells; obtain ⟨r0, r1, r2, r3⟩ := (hRH.out.below hb).cells; obtain ⟨f0, f1, f2, f3⟩ := (hRH.out.below hb).free; have hz := Nat.lt_of_lt_of_le hz0.out hb.size; have hs := hb.size))
    | (go_at_call 19; go_must (refine (refCmp_any _ _ _ _ _ _ _ _ _).mono ?_; rw [hcmp.out]; rintro e w' ⟨rfl, hb'⟩; replace hb := chainB (B := W0.heap.size) (a := W0) (by go_grown) hb' (by have := hb.size; first | omega | (simp; done) | (simp; omega)); clear hb' a0 a1 a2 a3 b0_ b1_ b2_ b3_ r0 r1 r2 r3 f0 f1 f2 f3 hz hs; obtain ⟨a0, a1, a2, a3⟩ := (hAH.out.below hb).cells; obtain ⟨b0_, b1_, b2_, b3_⟩ := (hBH.out.below hb).cells; obtain ⟨r0, r1, r2, r3⟩ := (hRH.out.below hb).cells; obtain ⟨f0, f1, f2, f3⟩ := (hRH.out.below hb).free; have hz := Nat.lt_of_lt_of_le hz0.out hb.size; have hs := hb.size))
    | (go_at_call 66; go_must (refine (refNull_any _).mono ?_; rintro e w' ⟨rfl, hb'⟩; replace hb := chainB (B := W0.heap.size) (a := W0) (by go_grown) hb' (by have := hb.size; first | omega | (simp; done) | (simp; omega)); clear hb' a0 a1 a2 a3 b0_ b1_ b2_ b3_ r0 r1 r2 r3 f0 f1 f2 f3 hz hs; obtain ⟨a0, a1, a2, a3⟩ := (hAH.out.below hb).cells; obtain ⟨b0_, b1_, b2_, b3_⟩ := (hBH.out.below hb).cells; obtain ⟨r0, r1, r2, r3⟩ := (hRH.out.below hb).cells; obtain ⟨f0, f1, f2, f3⟩ := (hRH.out.below hb).free; have hz := Nat.lt_of_lt_of_le hz0.out hb.size; have hs := hb.size))
    | (go_at_call 67; go_must (refine (refBool_any _ _).mono ?_; rintro e w' ⟨rfl, hb'⟩; replace hb := chainB (B := W0.heap.size) (a := W0) (by go_grown) hb' (by have := hb.size; first | omega | (simp; done) | (simp; omega)); clear hb' a0 a1 a2 a3 b0_ b1_ b2_ b3_ r0 r1 r2 r3 f0 f1 f2 f3 hz hs; obtain ⟨a0, a1, a2, a3⟩ := (hAH.out.below hb).cells; obtain ⟨b0_, b1_, b2_, b3_⟩ := (hBH.out.below hb).cells; obtain ⟨r0, r1, r2, r3⟩ := (hRH.out.below hb).cells; obtain ⟨f0, f1, f2, f3⟩ := (hRH.out.below hb).free; have hz := Nat.lt_of_lt_of_le hz0.out hb.size; have hs := hb.size)))
  refine bodyPost_ret (v := .tuple #[.agg #[.int .u8 2, .bool true, .int .i64 0, .string ⟨#[]⟩], .int .i64 0]) (by simp [results, Tryd.results42, go_sem, r0, r1, r2, r3, hz]) rfl ⟨rfl, ?_⟩
  have hbw := hwWH.out.trans (hb.mono hwWH.out.size)
  clear hb
  go_grown

set_option maxRecDepth 100000 in
set_option maxHeartbeats 8000000 in
theorem refCompare_2_2 (k0 : Int) (b0 : Bool) (n0 : Int) (s0 : ByteArray) (k1 : Int) (b1 : Bool) (n1 : Int) (s1 : ByteArray) (w : World) (hs0 : s0.size ≤ 140737488355328) (hs1 : s1.size ≤ 140737488355328) (hA : chk ⟨k0, b0, n0, s0⟩ = 0) (hB : chk ⟨k1, b1, n1, s1⟩ = 0) (h : ¬ k0 = 1) (h' : ¬ k1 = 1) (hk : k0 = k1) (hc : cmpS ⟨k0, b0, n0, s0⟩ ⟨k1, b1, n1, s1⟩ = 1) :
    Calls Tryd.prog 42 #[.int .u8 13, .agg #[.int .u8 k0, .bool b0, .int .i64 n0, .string s0], .agg #[.int .u8 k1, .bool b1, .int .i64 n1, .string s1]] w fun e w' => e = .returned (.tuple #[.agg #[.int .u8 2, .bool false, .int .i64 0, .string ⟨#[]⟩], .int .i64 0]) ∧ Below w.heap.size w w' := by
  have hcA := Lib.hid hA; have hcB := Lib.hid hB
  clear hA hB
  have g1 : (k0 == 1) = false := by simpa using h
  have g2 : (k1 == 1) = false := by simpa using h'
  have g3 : (k0 != k1) = false := by simpa using hk
  have hcmp := Lib.hid hc
  clear h h' hk hc
  have hs0H := Lib.hid hs0; have hs1H := Lib.hid hs1
  obtain ⟨W0, hW0, hwW, hA, hB, hR, hzz⟩ := boxes2 w k0 b0 n0 s0 k1 b1 n1 s1
  have hAH := Lib.hid hA; have hBH := Lib.hid hB; have hRH := Lib.hid hR; have hz0 := Lib.hid hzz; have hwWH := Lib.hid hwW
  clear hA hB hR hzz hwW hs0 hs1
  have hb := Below.refl W0.heap.size W0
  obtain ⟨a0, a1, a2, a3⟩ := (hAH.out.below hb).cells; obtain ⟨b0_, b1_, b2_, b3_⟩ := (hBH.out.below hb).cells; obtain ⟨r0, r1, r2, r3⟩ := (hRH.out.below hb).cells; obtain ⟨f0, f1, f2, f3⟩ := (hRH.out.below hb).free; have hz := Nat.lt_of_lt_of_le hz0.out hb.size; have hs := hb.size
  go_enter Tryd.func42, Tryd.ntmps42
  go_wp2_with (first
    | (go_at_call 17; go_must (refine (refCheck_any _ _ _ _ _ (by first | exact hs0H.out | exact hs1H.out)).mono ?_; (first | rw [hcA.out] | rw [hcB.out]); rintro e w' ⟨rfl, hb'⟩; replace hb := chainB (B := W0.heap.size) (a := W0) (by go_grown) hb' (by have := hb.size; first | omega | (simp; done) | (simp; omega)); clear hb' a0 a1 a2 a3 b0_ b1_ b2_ b3_ r0 r1 r2 r3 f0 f1 f2 f3 hz hs; obtain ⟨a0, a1, a2, a3⟩ := (hAH.out.below hb).cells; obtain ⟨b0_, b1_, b2_, b3_⟩ := (hBH.out.below hb).cells; obtain ⟨r0, r1, r2, r3⟩ := (hRH.out.below hb).cells; obtain ⟨f0, f1, f2, f3⟩ := (hRH.out.below hb).free; have hz := Nat.lt_of_lt_of_le hz0.out hb.size; have hs := hb.size))
    | (go_at_call 19; go_must (refine (refCmp_any _ _ _ _ _ _ _ _ _).mono ?_; rw [hcmp.out]; rintro e w' ⟨rfl, hb'⟩; replace hb := chainB (B := W0.heap.size) (a := W0) (by go_grown) hb' (by have := hb.size; first | omega | (simp; done) | (simp; omega)); clear hb' a0 a1 a2 a3 b0_ b1_ b2_ b3_ r0 r1 r2 r3 f0 f1 f2 f3 hz hs; obtain ⟨a0, a1, a2, a3⟩ := (hAH.out.below hb).cells; obtain ⟨b0_, b1_, b2_, b3_⟩ := (hBH.out.below hb).cells; obtain ⟨r0, r1, r2, r3⟩ := (hRH.out.below hb).cells; obtain ⟨f0, f1, f2, f3⟩ := (hRH.out.below hb).free; have hz := Nat.lt_of_lt_of_le hz0.out hb.size; have hs := hb.size))
    | (go_at_call 66; go_must (refine (refNull_any _).mono ?_; rintro e w' ⟨rfl, hb'⟩; replace hb := chainB (B := W0.heap.size) (a := W0) (by go_grown) hb' (by have := hb.size; first | omega | (simp; done) | (simp; omega)); clear hb' a0 a1 a2 a3 b0_ b1_ b2_ b3_ r0 r1 r2 r3 f0 f1 f2 f3 hz hs; obtain ⟨a0, a1, a2, a3⟩ := (hAH.out.below hb).cells; obtain ⟨b0_, b1_, b2_, b3_⟩ := (hBH.out.below hb).cells; obtain ⟨r0, r1, r2, r3⟩ := (hRH.out.below hb).cells; obtain ⟨f0, f1, f2, f3⟩ := (hRH.out.below hb).free; have hz := Nat.lt_of_lt_of_le hz0.out hb.size; have hs := hb.size))
    | (go_at_call 67; go_must (refine (refBool_any _ _).mono ?_; rintro e w' ⟨rfl, hb'⟩; replace hb := chainB (B := W0.heap.size) (a := W0) (by go_grown) hb' (by have := hb.size; first | omega | (simp; done) | (simp; omega)); clear hb' a0 a1 a2 a3 b0_ b1_ b2_ b3_ r0 r1 r2 r3 f0 f1 f2 f3 hz hs; obtain ⟨a0, a1, a2, a3⟩ := (hAH.out.below hb).cells; obtain ⟨b0_, b1_, b2_, b3_⟩ := (hBH.out.below hb).cells; obtain ⟨r0, r1, r2, r3⟩ := (hRH.out.below hb).cells; obtain ⟨f0, f1, f2, f3⟩ := (hRH.out.below hb).free; have hz := Nat.lt_of_lt_of_le hz0.out hb.size; have hs := hb.size)))
  refine bodyPost_ret (v := .tuple #[.agg #[.int .u8 2, .bool false, .int .i64 0, .string ⟨#[]⟩], .int .i64 0]) (by simp [results, Tryd.results42, go_sem, r0, r1, r2, r3, hz]) rfl ⟨rfl, ?_⟩
  have hbw := hwWH.out.trans (hb.mono hwWH.out.size)
  clear hb
  go_grown

set_option maxRecDepth 100000 in
set_option maxHeartbeats 8000000 in
theorem refCompare_2_3 (k0 : Int) (b0 : Bool) (n0 : Int) (s0 : ByteArray) (k1 : Int) (b1 : Bool) (n1 : Int) (s1 : ByteArray) (w : World) (hs0 : s0.size ≤ 140737488355328) (hs1 : s1.size ≤ 140737488355328) (hA : chk ⟨k0, b0, n0, s0⟩ = 0) (hB : chk ⟨k1, b1, n1, s1⟩ = 0) (h : ¬ k0 = 1) (h' : ¬ k1 = 1) (hk : k0 = k1) (hc : cmpS ⟨k0, b0, n0, s0⟩ ⟨k1, b1, n1, s1⟩ = 1) :
    Calls Tryd.prog 42 #[.int .u8 14, .agg #[.int .u8 k0, .bool b0, .int .i64 n0, .string s0], .agg #[.int .u8 k1, .bool b1, .int .i64 n1, .string s1]] w fun e w' => e = .returned (.tuple #[.agg #[.int .u8 2, .bool false, .int .i64 0, .string ⟨#[]⟩], .int .i64 0]) ∧ Below w.heap.size w w' := by
  have hcA := Lib.hid hA; have hcB := Lib.hid hB
  clear hA hB
  have g1 : (k0 == 1) = false := by simpa using h
  have g2 : (k1 == 1) = false := by simpa using h'
  have g3 : (k0 != k1) = false := by simpa using hk
  have hcmp := Lib.hid hc
  clear h h' hk hc
  have hs0H := Lib.hid hs0; have hs1H := Lib.hid hs1
  obtain ⟨W0, hW0, hwW, hA, hB, hR, hzz⟩ := boxes2 w k0 b0 n0 s0 k1 b1 n1 s1
  have hAH := Lib.hid hA; have hBH := Lib.hid hB; have hRH := Lib.hid hR; have hz0 := Lib.hid hzz; have hwWH := Lib.hid hwW
  clear hA hB hR hzz hwW hs0 hs1
  have hb := Below.refl W0.heap.size W0
  obtain ⟨a0, a1, a2, a3⟩ := (hAH.out.below hb).cells; obtain ⟨b0_, b1_, b2_, b3_⟩ := (hBH.out.below hb).cells; obtain ⟨r0, r1, r2, r3⟩ := (hRH.out.below hb).cells; obtain ⟨f0, f1, f2, f3⟩ := (hRH.out.below hb).free; have hz := Nat.lt_of_lt_of_le hz0.out hb.size; have hs := hb.size
  go_enter Tryd.func42, Tryd.ntmps42
  go_wp2_with (first
    | (go_at_call 17; go_must (refine (refCheck_any _ _ _ _ _ (by first | exact hs0H.out | exact hs1H.out)).mono ?_; (first | rw [hcA.out] | rw [hcB.out]); rintro e w' ⟨rfl, hb'⟩; replace hb := chainB (B := W0.heap.size) (a := W0) (by go_grown) hb' (by have := hb.size; first | omega | (simp; done) | (simp; omega)); clear hb' a0 a1 a2 a3 b0_ b1_ b2_ b3_ r0 r1 r2 r3 f0 f1 f2 f3 hz hs; obtain ⟨a0, a1, a2, a3⟩ := (hAH.out.below hb).cells; obtain ⟨b0_, b1_, b2_, b3_⟩ := (hBH.out.below hb).cells; obtain ⟨r0, r1, r2, r3⟩ := (hRH.out.below hb).cells; obtain ⟨f0, f1, f2, f3⟩ := (hRH.out.below hb).free; have hz := Nat.lt_of_lt_of_le hz0.out hb.size; have hs := hb.size))
    | (go_at_call 19; go_must (refine (refCmp_any _ _ _ _ _ _ _ _ _).mono ?_; rw [hcmp.out]; rintro e w' ⟨rfl, hb'⟩; replace hb := chainB (B := W0.heap.size) (a := W0) (by go_grown) hb' (by have := hb.size; first | omega | (simp; done) | (simp; omega)); clear hb' a0 a1 a2 a3 b0_ b1_ b2_ b3_ r0 r1 r2 r3 f0 f1 f2 f3 hz hs; obtain ⟨a0, a1, a2, a3⟩ := (hAH.out.below hb).cells; obtain ⟨b0_, b1_, b2_, b3_⟩ := (hBH.out.below hb).cells; obtain ⟨r0, r1, r2, r3⟩ := (hRH.out.below hb).cells; obtain ⟨f0, f1, f2, f3⟩ := (hRH.out.below hb).free; have hz := Nat.lt_of_lt_of_le hz0.out hb.size; have hs := hb.size))
    | (go_at_call 66; go_must (refine (refNull_any _).mono ?_; rintro e w' ⟨rfl, hb'⟩; replace hb := chainB (B := W0.heap.size) (a := W0) (by go_grown) hb' (by have := hb.size; first | omega | (simp; done) | (simp; omega)); clear hb' a0 a1 a2 a3 b0_ b1_ b2_ b3_ r0 r1 r2 r3 f0 f1 f2 f3 hz hs; obtain ⟨a0, a1, a2, a3⟩ := (hAH.out.below hb).cells; obtain ⟨b0_, b1_, b2_, b3_⟩ := (hBH.out.below hb).cells; obtain ⟨r0, r1, r2, r3⟩ := (hRH.out.below hb).cells; obtain ⟨f0, f1, f2, f3⟩ := (hRH.out.below hb).free; have hz := Nat.lt_of_lt_of_le hz0.out hb.size; have hs := hb.size))
    | (go_at_call 67; go_must (refine (refBool_any _ _).mono ?_; rintro e w' ⟨rfl, hb'⟩; replace hb := chainB (B := W0.heap.size) (a := W0) (by go_grown) hb' (by have := hb.size; first | omega | (simp; done) | (simp; omega)); clear hb' a0 a1 a2 a3 b0_ b1_ b2_ b3_ r0 r1 r2 r3 f0 f1 f2 f3 hz hs; obtain ⟨a0, a1, a2, a3⟩ := (hAH.out.below hb).cells; obtain ⟨b0_, b1_, b2_, b3_⟩ := (hBH.out.below hb).cells; obtain ⟨r0, r1, r2, r3⟩ := (hRH.out.below hb).cells; obtain ⟨f0, f1, f2, f3⟩ := (hRH.out.below hb).free; have hz := Nat.lt_of_lt_of_le hz0.out hb.size; have hs := hb.size)))
  refine bodyPost_ret (v := .tuple #[.agg #[.int .u8 2, .bool false, .int .i64 0, .string ⟨#[]⟩], .int .i64 0]) (by simp [results, Tryd.results42, go_sem, r0, r1, r2, r3, hz]) rfl ⟨rfl, ?_⟩
  have hbw := hwWH.out.trans (hb.mono hwWH.out.size)
  clear hb
  go_grown

set_option maxRecDepth 100000 in
set_option maxHeartbeats 8000000 in
theorem refCompare_2_4 (k0 : Int) (b0 : Bool) (n0 : Int) (s0 : ByteArray) (k1 : Int) (b1 : Bool) (n1 : Int) (s1 : ByteArray) (w : World) (hs0 : s0.size ≤ 140737488355328) (hs1 : s1.size ≤ 140737488355328) (hA : chk ⟨k0, b0, n0, s0⟩ = 0) (hB : chk ⟨k1, b1, n1, s1⟩ = 0) (h : ¬ k0 = 1) (h' : ¬ k1 = 1) (hk : k0 = k1) (hc : cmpS ⟨k0, b0, n0, s0⟩ ⟨k1, b1, n1, s1⟩ = 1) :
    Calls Tryd.prog 42 #[.int .u8 15, .agg #[.int .u8 k0, .bool b0, .int .i64 n0, .string s0], .agg #[.int .u8 k1, .bool b1, .int .i64 n1, .string s1]] w fun e w' => e = .returned (.tuple #[.agg #[.int .u8 2, .bool true, .int .i64 0, .string ⟨#[]⟩], .int .i64 0]) ∧ Below w.heap.size w w' := by
  have hcA := Lib.hid hA; have hcB := Lib.hid hB
  clear hA hB
  have g1 : (k0 == 1) = false := by simpa using h
  have g2 : (k1 == 1) = false := by simpa using h'
  have g3 : (k0 != k1) = false := by simpa using hk
  have hcmp := Lib.hid hc
  clear h h' hk hc
  have hs0H := Lib.hid hs0; have hs1H := Lib.hid hs1
  obtain ⟨W0, hW0, hwW, hA, hB, hR, hzz⟩ := boxes2 w k0 b0 n0 s0 k1 b1 n1 s1
  have hAH := Lib.hid hA; have hBH := Lib.hid hB; have hRH := Lib.hid hR; have hz0 := Lib.hid hzz; have hwWH := Lib.hid hwW
  clear hA hB hR hzz hwW hs0 hs1
  have hb := Below.refl W0.heap.size W0
  obtain ⟨a0, a1, a2, a3⟩ := (hAH.out.below hb).cells; obtain ⟨b0_, b1_, b2_, b3_⟩ := (hBH.out.below hb).cells; obtain ⟨r0, r1, r2, r3⟩ := (hRH.out.below hb).cells; obtain ⟨f0, f1, f2, f3⟩ := (hRH.out.below hb).free; have hz := Nat.lt_of_lt_of_le hz0.out hb.size; have hs := hb.size
  go_enter Tryd.func42, Tryd.ntmps42
  go_wp2_with (first
    | (go_at_call 17; go_must (refine (refCheck_any _ _ _ _ _ (by first | exact hs0H.out | exact hs1H.out)).mono ?_; (first | rw [hcA.out] | rw [hcB.out]); rintro e w' ⟨rfl, hb'⟩; replace hb := chainB (B := W0.heap.size) (a := W0) (by go_grown) hb' (by have := hb.size; first | omega | (simp; done) | (simp; omega)); clear hb' a0 a1 a2 a3 b0_ b1_ b2_ b3_ r0 r1 r2 r3 f0 f1 f2 f3 hz hs; obtain ⟨a0, a1, a2, a3⟩ := (hAH.out.below hb).cells; obtain ⟨b0_, b1_, b2_, b3_⟩ := (hBH.out.below hb).cells; obtain ⟨r0, r1, r2, r3⟩ := (hRH.out.below hb).cells; obtain ⟨f0, f1, f2, f3⟩ := (hRH.out.below hb).free; have hz := Nat.lt_of_lt_of_le hz0.out hb.size; have hs := hb.size))
    | (go_at_call 19; go_must (refine (refCmp_any _ _ _ _ _ _ _ _ _).mono ?_; rw [hcmp.out]; rintro e w' ⟨rfl, hb'⟩; replace hb := chainB (B := W0.heap.size) (a := W0) (by go_grown) hb' (by have := hb.size; first | omega | (simp; done) | (simp; omega)); clear hb' a0 a1 a2 a3 b0_ b1_ b2_ b3_ r0 r1 r2 r3 f0 f1 f2 f3 hz hs; obtain ⟨a0, a1, a2, a3⟩ := (hAH.out.below hb).cells; obtain ⟨b0_, b1_, b2_, b3_⟩ := (hBH.out.below hb).cells; obtain ⟨r0, r1, r2, r3⟩ := (hRH.out.below hb).cells; obtain ⟨f0, f1, f2, f3⟩ := (hRH.out.below hb).free; have hz := Nat.lt_of_lt_of_le hz0.out hb.size; have hs := hb.size))
    | (go_at_call 66; go_must (refine (refNull_any _).mono ?_; rintro e w' ⟨rfl, hb'⟩; replace hb := chainB (B := W0.heap.size) (a := W0) (by go_grown) hb' (by have := hb.size; first | omega | (simp; done) | (simp; omega)); clear hb' a0 a1 a2 a3 b0_ b1_ b2_ b3_ r0 r1 r2 r3 f0 f1 f2 f3 hz hs; obtain ⟨a0, a1, a2, a3⟩ := (hAH.out.below hb).cells; obtain ⟨b0_, b1_, b2_, b3_⟩ := (hBH.out.below hb).cells; obtain ⟨r0, r1, r2, r3⟩ := (hRH.out.below hb).cells; obtain ⟨f0, f1, f2, f3⟩ := (hRH.out.below hb).free; have hz := Nat.lt_of_lt_of_le hz0.out hb.size; have hs := hb.size))
    | (go_at_call 67; go_must (refine (refBool_any _ _).mono ?_; rintro e w' ⟨rfl, hb'⟩; replace hb := chainB (B := W0.heap.size) (a := W0) (by go_grown) hb' (by have := hb.size; first | omega | (simp; done) | (simp; omega)); clear hb' a0 a1 a2 a3 b0_ b1_ b2_ b3_ r0 r1 r2 r3 f0 f1 f2 f3 hz hs; obtain ⟨a0, a1, a2, a3⟩ := (hAH.out.below hb).cells; obtain ⟨b0_, b1_, b2_, b3_⟩ := (hBH.out.below hb).cells; obtain ⟨r0, r1, r2, r3⟩ := (hRH.out.below hb).cells; obtain ⟨f0, f1, f2, f3⟩ := (hRH.out.below hb).free; have hz := Nat.lt_of_lt_of_le hz0.out hb.size; have hs := hb.size)))
  refine bodyPost_ret (v := .tuple #[.agg #[.int .u8 2, .bool true, .int .i64 0, .string ⟨#[]⟩], .int .i64 0]) (by simp [results, Tryd.results42, go_sem, r0, r1, r2, r3, hz]) rfl ⟨rfl, ?_⟩
  have hbw := hwWH.out.trans (hb.mono hwWH.out.size)
  clear hb
  go_grown

set_option maxRecDepth 100000 in
set_option maxHeartbeats 8000000 in
theorem refCompare_2_5 (k0 : Int) (b0 : Bool) (n0 : Int) (s0 : ByteArray) (k1 : Int) (b1 : Bool) (n1 : Int) (s1 : ByteArray) (w : World) (hs0 : s0.size ≤ 140737488355328) (hs1 : s1.size ≤ 140737488355328) (hA : chk ⟨k0, b0, n0, s0⟩ = 0) (hB : chk ⟨k1, b1, n1, s1⟩ = 0) (h : ¬ k0 = 1) (h' : ¬ k1 = 1) (hk : k0 = k1) (hc : cmpS ⟨k0, b0, n0, s0⟩ ⟨k1, b1, n1, s1⟩ = 1) :
    Calls Tryd.prog 42 #[.int .u8 16, .agg #[.int .u8 k0, .bool b0, .int .i64 n0, .string s0], .agg #[.int .u8 k1, .bool b1, .int .i64 n1, .string s1]] w fun e w' => e = .returned (.tuple #[.agg #[.int .u8 2, .bool true, .int .i64 0, .string ⟨#[]⟩], .int .i64 0]) ∧ Below w.heap.size w w' := by
  have hcA := Lib.hid hA; have hcB := Lib.hid hB
  clear hA hB
  have g1 : (k0 == 1) = false := by simpa using h
  have g2 : (k1 == 1) = false := by simpa using h'
  have g3 : (k0 != k1) = false := by simpa using hk
  have hcmp := Lib.hid hc
  clear h h' hk hc
  have hs0H := Lib.hid hs0; have hs1H := Lib.hid hs1
  obtain ⟨W0, hW0, hwW, hA, hB, hR, hzz⟩ := boxes2 w k0 b0 n0 s0 k1 b1 n1 s1
  have hAH := Lib.hid hA; have hBH := Lib.hid hB; have hRH := Lib.hid hR; have hz0 := Lib.hid hzz; have hwWH := Lib.hid hwW
  clear hA hB hR hzz hwW hs0 hs1
  have hb := Below.refl W0.heap.size W0
  obtain ⟨a0, a1, a2, a3⟩ := (hAH.out.below hb).cells; obtain ⟨b0_, b1_, b2_, b3_⟩ := (hBH.out.below hb).cells; obtain ⟨r0, r1, r2, r3⟩ := (hRH.out.below hb).cells; obtain ⟨f0, f1, f2, f3⟩ := (hRH.out.below hb).free; have hz := Nat.lt_of_lt_of_le hz0.out hb.size; have hs := hb.size
  go_enter Tryd.func42, Tryd.ntmps42
  go_wp2_with (first
    | (go_at_call 17; go_must (refine (refCheck_any _ _ _ _ _ (by first | exact hs0H.out | exact hs1H.out)).mono ?_; (first | rw [hcA.out] | rw [hcB.out]); rintro e w' ⟨rfl, hb'⟩; replace hb := chainB (B := W0.heap.size) (a := W0) (by go_grown) hb' (by have := hb.size; first | omega | (simp; done) | (simp; omega)); clear hb' a0 a1 a2 a3 b0_ b1_ b2_ b3_ r0 r1 r2 r3 f0 f1 f2 f3 hz hs; obtain ⟨a0, a1, a2, a3⟩ := (hAH.out.below hb).cells; obtain ⟨b0_, b1_, b2_, b3_⟩ := (hBH.out.below hb).cells; obtain ⟨r0, r1, r2, r3⟩ := (hRH.out.below hb).cells; obtain ⟨f0, f1, f2, f3⟩ := (hRH.out.below hb).free; have hz := Nat.lt_of_lt_of_le hz0.out hb.size; have hs := hb.size))
    | (go_at_call 19; go_must (refine (refCmp_any _ _ _ _ _ _ _ _ _).mono ?_; rw [hcmp.out]; rintro e w' ⟨rfl, hb'⟩; replace hb := chainB (B := W0.heap.size) (a := W0) (by go_grown) hb' (by have := hb.size; first | omega | (simp; done) | (simp; omega)); clear hb' a0 a1 a2 a3 b0_ b1_ b2_ b3_ r0 r1 r2 r3 f0 f1 f2 f3 hz hs; obtain ⟨a0, a1, a2, a3⟩ := (hAH.out.below hb).cells; obtain ⟨b0_, b1_, b2_, b3_⟩ := (hBH.out.below hb).cells; obtain ⟨r0, r1, r2, r3⟩ := (hRH.out.below hb).cells; obtain ⟨f0, f1, f2, f3⟩ := (hRH.out.below hb).free; have hz := Nat.lt_of_lt_of_le hz0.out hb.size; have hs := hb.size))
    | (go_at_call 66; go_must (refine (refNull_any _).mono ?_; rintro e w' ⟨rfl, hb'⟩; replace hb := chainB (B := W0.heap.size) (a := W0) (by go_grown) hb' (by have := hb.size; first | omega | (simp; done) | (simp; omega)); clear hb' a0 a1 a2 a3 b0_ b1_ b2_ b3_ r0 r1 r2 r3 f0 f1 f2 f3 hz hs; obtain ⟨a0, a1, a2, a3⟩ := (hAH.out.below hb).cells; obtain ⟨b0_, b1_, b2_, b3_⟩ := (hBH.out.below hb).cells; obtain ⟨r0, r1, r2, r3⟩ := (hRH.out.below hb).cells; obtain ⟨f0, f1, f2, f3⟩ := (hRH.out.below hb).free; have hz := Nat.lt_of_lt_of_le hz0.out hb.size; have hs := hb.size))
    | (go_at_call 67; go_must (refine (refBool_any _ _).mono ?_; rintro e w' ⟨rfl, hb'⟩; replace hb := chainB (B := W0.heap.size) (a := W0) (by go_grown) hb' (by have := hb.size; first | omega | (simp; done) | (simp; omega)); clear hb' a0 a1 a2 a3 b0_ b1_ b2_ b3_ r0 r1 r2 r3 f0 f1 f2 f3 hz hs; obtain ⟨a0, a1, a2, a3⟩ := (hAH.out.below hb).cells; obtain ⟨b0_, b1_, b2_, b3_⟩ := (hBH.out.below hb).cells; obtain ⟨r0, r1, r2, r3⟩ := (hRH.out.below hb).cells; obtain ⟨f0, f1, f2, f3⟩ := (hRH.out.below hb).free; have hz := Nat.lt_of_lt_of_le hz0.out hb.size; have hs := hb.size)))
  refine bodyPost_ret (v := .tuple #[.agg #[.int .u8 2, .bool true, .int .i64 0, .string ⟨#[]⟩], .int .i64 0]) (by simp [results, Tryd.results42, go_sem, r0, r1, r2, r3, hz]) rfl ⟨rfl, ?_⟩
  have hbw := hwWH.out.trans (hb.mono hwWH.out.size)
  clear hb
  go_grown

end Go.Proofs.YtoolojfbjpnllaaDoor
