/-
  What the document's own Not, And and Or answer, at this program. Condition: the texts have at most 2^47 bytes.
-/
import Derived.Test.YtlodohgoondkhaaDoorRefOf
import Derived.Test.YtlodohgoondkhaaDoorRefs
import Derived.Test.YtlodohgoondkhaaDoorNot
import Derived.Test.YtlodohgoondkhaaDoorDecide
set_option linter.unusedVariables false
set_option linter.unusedSimpArgs false
namespace Go.Proofs.YtlodohgoondkhaaDoor
open Go.RowKit Go.Lib

/-- A datum and an error's number, as the document's functions hand them back. -/
def refV (r : Dat × Int) : Value := .tuple #[.agg #[.int .u8 r.1.k, .bool r.1.b, .int .i64 r.1.n, .string r.1.s], .int .i64 r.2]
theorem heap_at (w : World) (o : Obj) (n : Nat) (hn : n = w.heap.size) : (w.alloc o).heap[n]? = some o := by subst hn; exact heap_alloc_new w o
theorem refV_mk {k : Int} {b : Bool} {n : Int} {s : ByteArray} {x : Int} {r : Dat × Int} (h : r = (⟨k, b, n, s⟩, x)) : refV r = .tuple #[.agg #[.int .u8 k, .bool b, .int .i64 n, .string s], .int .i64 x] := by subst h; rfl
theorem boxes1 (w : World) (ka : Int) (ba : Bool) (na : Int) (sa : ByteArray) :
    ∃ W0, (w.alloc (.cells #[.int .u8 ka, .bool ba, .int .i64 na, .string sa] 24)).alloc (.cells #[.int .u8 0, .bool false, .int .i64 0, .string ⟨#[]⟩] 24) = W0 ∧ Below w.heap.size w W0 ∧
      Has W0 w.heap.size (.int .u8 ka) (.bool ba) (.int .i64 na) (.string sa) ∧ Has W0 (w.heap.size + 1) (.int .u8 0) (.bool false) (.int .i64 0) (.string ⟨#[]⟩) ∧ w.heap.size + 1 < W0.heap.size := by
  refine ⟨_, rfl, by go_grown, (Has.new _ _ _ _ _).alloc _, ?_, by simp⟩
  have := Has.new (w.alloc (.cells #[.int .u8 ka, .bool ba, .int .i64 na, .string sa] 24)) (.int .u8 0) (.bool false) (.int .i64 0) (.string ⟨#[]⟩)
  simpa only [World.size_alloc] using this

set_option maxRecDepth 100000 in
set_option maxHeartbeats 8000000 in
theorem refNot_bad (k0 : Int) (b0 : Bool) (n0 : Int) (s0 : ByteArray) (w : World) (hs : s0.size ≤ 140737488355328) (hf : fitsD 2 ⟨k0, b0, n0, s0⟩ = false) :
    Calls Tryd.prog 46 #[.agg #[.int .u8 k0, .bool b0, .int .i64 n0, .string s0]] w fun e w' => e = .returned (refV (notS ⟨k0, b0, n0, s0⟩)) ∧ Below w.heap.size w w' := by
  have hoH := Lib.hid (show ofS 2 [⟨k0, b0, n0, s0⟩] = -1 by unfold ofS; simp [hf])
  rw [refV_mk (show notS ⟨k0, b0, n0, s0⟩ = (zeroD, 13) by simp [notS, hf])]
  have hs0H := Lib.hid hs; have hs1H := hs0H
  clear hf hs
  obtain ⟨W0, hW0, hwW, hA, hR, hzz⟩ := boxes1 w k0 b0 n0 s0
  have hAH := Lib.hid hA; have hRH := Lib.hid hR; have hz0 := Lib.hid hzz; have hwWH := Lib.hid hwW
  clear hA hR hzz hwW
  have hb := Below.refl W0.heap.size W0
  obtain ⟨a0, a1, a2, a3⟩ := (hAH.out.below hb).cells; obtain ⟨r0, r1, r2, r3⟩ := (hRH.out.below hb).cells; obtain ⟨f0, f1, f2, f3⟩ := (hRH.out.below hb).free; have hz := Nat.lt_of_lt_of_le hz0.out hb.size
  go_enter Tryd.func46, Tryd.ntmps46
  go_wp2_with (first
    | (go_at_call 83; go_must (refine (refOf1 2 k0 b0 n0 s0 _ _ _ (heap_at _ _ _ (by first | rfl | simp)) (by first | exact hs0H.out | exact hs1H.out | decide)).mono ?_; rw [hoH.out]; rintro e w' ⟨rfl, hb'⟩; replace hb := chainB (B := W0.heap.size) (a := W0) (by go_grown) hb' (by have := hb.size; first | omega | (simp; done) | (simp; omega)); clear hb' a0 a1 a2 a3 r0 r1 r2 r3 f0 f1 f2 f3 hz; obtain ⟨a0, a1, a2, a3⟩ := (hAH.out.below hb).cells; obtain ⟨r0, r1, r2, r3⟩ := (hRH.out.below hb).cells; obtain ⟨f0, f1, f2, f3⟩ := (hRH.out.below hb).free; have hz := Nat.lt_of_lt_of_le hz0.out hb.size))
    | (go_at_call 66; go_must (refine (refNull_any _).mono ?_; rintro e w' ⟨rfl, hb'⟩; replace hb := chainB (B := W0.heap.size) (a := W0) (by go_grown) hb' (by have := hb.size; first | omega | (simp; done) | (simp; omega)); clear hb' a0 a1 a2 a3 r0 r1 r2 r3 f0 f1 f2 f3 hz; obtain ⟨a0, a1, a2, a3⟩ := (hAH.out.below hb).cells; obtain ⟨r0, r1, r2, r3⟩ := (hRH.out.below hb).cells; obtain ⟨f0, f1, f2, f3⟩ := (hRH.out.below hb).free; have hz := Nat.lt_of_lt_of_le hz0.out hb.size))
    | (go_at_call 67; go_must (refine (refBool_any _ _).mono ?_; rintro e w' ⟨rfl, hb'⟩; replace hb := chainB (B := W0.heap.size) (a := W0) (by go_grown) hb' (by have := hb.size; first | omega | (simp; done) | (simp; omega)); clear hb' a0 a1 a2 a3 r0 r1 r2 r3 f0 f1 f2 f3 hz; obtain ⟨a0, a1, a2, a3⟩ := (hAH.out.below hb).cells; obtain ⟨r0, r1, r2, r3⟩ := (hRH.out.below hb).cells; obtain ⟨f0, f1, f2, f3⟩ := (hRH.out.below hb).free; have hz := Nat.lt_of_lt_of_le hz0.out hb.size)))
  refine bodyPost_ret (v := .tuple #[.agg #[.int .u8 0, .bool false, .int .i64 0, .string ⟨#[]⟩], .int .i64 13]) (by simp [results, Tryd.results46, go_sem, r0, r1, r2, r3, hz]) rfl ⟨rfl, ?_⟩
  have hbw := hwWH.out.trans (hb.mono hwWH.out.size)
  clear hb
  go_grown

set_option maxRecDepth 100000 in
set_option maxHeartbeats 8000000 in
theorem refNot_0 (w : World) :
    Calls Tryd.prog 46 #[.agg #[.int .u8 1, .bool false, .int .i64 0, .string ⟨#[]⟩]] w fun e w' => e = .returned (refV (notS ⟨1, false, 0, ⟨#[]⟩⟩)) ∧ Below w.heap.size w w' := by
  have hoH := Lib.hid (show ofS 2 [⟨1, false, 0, ⟨#[]⟩⟩] = 1 from by decide)
  rw [refV_mk (show notS ⟨1, false, 0, ⟨#[]⟩⟩ = (⟨1, false, 0, ⟨#[]⟩⟩, 0) from rfl)]
  have hs0H := Lib.hid (show True from trivial); have hs1H := hs0H
  obtain ⟨W0, hW0, hwW, hA, hR, hzz⟩ := boxes1 w 1 false 0 ⟨#[]⟩
  have hAH := Lib.hid hA; have hRH := Lib.hid hR; have hz0 := Lib.hid hzz; have hwWH := Lib.hid hwW
  clear hA hR hzz hwW
  have hb := Below.refl W0.heap.size W0
  obtain ⟨a0, a1, a2, a3⟩ := (hAH.out.below hb).cells; obtain ⟨r0, r1, r2, r3⟩ := (hRH.out.below hb).cells; obtain ⟨f0, f1, f2, f3⟩ := (hRH.out.below hb).free; have hz := Nat.lt_of_lt_of_le hz0.out hb.size
  go_enter Tryd.func46, Tryd.ntmps46
  go_wp2_with (first
    | (go_at_call 83; go_must (refine (refOf1 2 1 false 0 ⟨#[]⟩ _ _ _ (heap_at _ _ _ (by first | rfl | simp)) (by first | exact hs0H.out | exact hs1H.out | decide)).mono ?_; rw [hoH.out]; rintro e w' ⟨rfl, hb'⟩; replace hb := chainB (B := W0.heap.size) (a := W0) (by go_grown) hb' (by have := hb.size; first | omega | (simp; done) | (simp; omega)); clear hb' a0 a1 a2 a3 r0 r1 r2 r3 f0 f1 f2 f3 hz; obtain ⟨a0, a1, a2, a3⟩ := (hAH.out.below hb).cells; obtain ⟨r0, r1, r2, r3⟩ := (hRH.out.below hb).cells; obtain ⟨f0, f1, f2, f3⟩ := (hRH.out.below hb).free; have hz := Nat.lt_of_lt_of_le hz0.out hb.size))
    | (go_at_call 66; go_must (refine (refNull_any _).mono ?_; rintro e w' ⟨rfl, hb'⟩; replace hb := chainB (B := W0.heap.size) (a := W0) (by go_grown) hb' (by have := hb.size; first | omega | (simp; done) | (simp; omega)); clear hb' a0 a1 a2 a3 r0 r1 r2 r3 f0 f1 f2 f3 hz; obtain ⟨a0, a1, a2, a3⟩ := (hAH.out.below hb).cells; obtain ⟨r0, r1, r2, r3⟩ := (hRH.out.below hb).cells; obtain ⟨f0, f1, f2, f3⟩ := (hRH.out.below hb).free; have hz := Nat.lt_of_lt_of_le hz0.out hb.size))
    | (go_at_call 67; go_must (refine (refBool_any _ _).mono ?_; rintro e w' ⟨rfl, hb'⟩; replace hb := chainB (B := W0.heap.size) (a := W0) (by go_grown) hb' (by have := hb.size; first | omega | (simp; done) | (simp; omega)); clear hb' a0 a1 a2 a3 r0 r1 r2 r3 f0 f1 f2 f3 hz; obtain ⟨a0, a1, a2, a3⟩ := (hAH.out.below hb).cells; obtain ⟨r0, r1, r2, r3⟩ := (hRH.out.below hb).cells; obtain ⟨f0, f1, f2, f3⟩ := (hRH.out.below hb).free; have hz := Nat.lt_of_lt_of_le hz0.out hb.size)))
  refine bodyPost_ret (v := .tuple #[.agg #[.int .u8 1, .bool false, .int .i64 0, .string ⟨#[]⟩], .int .i64 0]) (by simp [results, Tryd.results46, go_sem, r0, r1, r2, r3, hz]) rfl ⟨rfl, ?_⟩
  have hbw := hwWH.out.trans (hb.mono hwWH.out.size)
  clear hb
  go_grown

set_option maxRecDepth 100000 in
set_option maxHeartbeats 8000000 in
theorem refNot_1 (w : World) :
    Calls Tryd.prog 46 #[.agg #[.int .u8 2, .bool false, .int .i64 0, .string ⟨#[]⟩]] w fun e w' => e = .returned (refV (notS ⟨2, false, 0, ⟨#[]⟩⟩)) ∧ Below w.heap.size w w' := by
  have hoH := Lib.hid (show ofS 2 [⟨2, false, 0, ⟨#[]⟩⟩] = 0 from by decide)
  rw [refV_mk (show notS ⟨2, false, 0, ⟨#[]⟩⟩ = (⟨2, true, 0, ⟨#[]⟩⟩, 0) from rfl)]
  have hs0H := Lib.hid (show True from trivial); have hs1H := hs0H
  obtain ⟨W0, hW0, hwW, hA, hR, hzz⟩ := boxes1 w 2 false 0 ⟨#[]⟩
  have hAH := Lib.hid hA; have hRH := Lib.hid hR; have hz0 := Lib.hid hzz; have hwWH := Lib.hid hwW
  clear hA hR hzz hwW
  have hb := Below.refl W0.heap.size W0
  obtain ⟨a0, a1, a2, a3⟩ := (hAH.out.below hb).cells; obtain ⟨r0, r1, r2, r3⟩ := (hRH.out.below hb).cells; obtain ⟨f0, f1, f2, f3⟩ := (hRH.out.below hb).free; have hz := Nat.lt_of_lt_of_le hz0.out hb.size
  go_enter Tryd.func46, Tryd.ntmps46
  go_wp2_with (first
    | (go_at_call 83; go_must (refine (refOf1 2 2 false 0 ⟨#[]⟩ _ _ _ (heap_at _ _ _ (by first | rfl | simp)) (by first | exact hs0H.out | exact hs1H.out | decide)).mono ?_; rw [hoH.out]; rintro e w' ⟨rfl, hb'⟩; replace hb := chainB (B := W0.heap.size) (a := W0) (by go_grown) hb' (by have := hb.size; first | omega | (simp; done) | (simp; omega)); clear hb' a0 a1 a2 a3 r0 r1 r2 r3 f0 f1 f2 f3 hz; obtain ⟨a0, a1, a2, a3⟩ := (hAH.out.below hb).cells; obtain ⟨r0, r1, r2, r3⟩ := (hRH.out.below hb).cells; obtain ⟨f0, f1, f2, f3⟩ := (hRH.out.below hb).free; have hz := Nat.lt_of_lt_of_le hz0.out hb.size))
    | (go_at_call 66; go_must (refine (refNull_any _).mono ?_; rintro e w' ⟨rfl, hb'⟩; replace hb := chainB (B := W0.heap.size) (a := W0) (by go_grown) hb' (by have := hb.size; first | omega | (simp; done) | (simp; omega)); clear hb' a0 a1 a2 a3 r0 r1 r2 r3 f0 f1 f2 f3 hz; obtain ⟨a0, a1, a2, a3⟩ := (hAH.out.below hb).cells; obtain ⟨r0, r1, r2, r3⟩ := (hRH.out.below hb).cells; obtain ⟨f0, f1, f2, f3⟩ := (hRH.out.below hb).free; have hz := Nat.lt_of_lt_of_le hz0.out hb.size))
    | (go_at_call 67; go_must (refine (refBool_any _ _).mono ?_; rintro e w' ⟨rfl, hb'⟩; replace hb := chainB (B := W0.heap.size) (a := W0) (by go_grown) hb' (by have := hb.size; first | omega | (simp; done) | (simp; omega)); clear hb' a0 a1 a2 a3 r0 r1 r2 r3 f0 f1 f2 f3 hz; obtain ⟨a0, a1, a2, a3⟩ := (hAH.out.below hb).cells; obtain ⟨r0, r1, r2, r3⟩ := (hRH.out.below hb).cells; obtain ⟨f0, f1, f2, f3⟩ := (hRH.out.below hb).free; have hz := Nat.lt_of_lt_of_le hz0.out hb.size)))
  refine bodyPost_ret (v := .tuple #[.agg #[.int .u8 2, .bool true, .int .i64 0, .string ⟨#[]⟩], .int .i64 0]) (by simp [results, Tryd.results46, go_sem, r0, r1, r2, r3, hz]) rfl ⟨rfl, ?_⟩
  have hbw := hwWH.out.trans (hb.mono hwWH.out.size)
  clear hb
  go_grown

set_option maxRecDepth 100000 in
set_option maxHeartbeats 8000000 in
theorem refNot_2 (w : World) :
    Calls Tryd.prog 46 #[.agg #[.int .u8 2, .bool true, .int .i64 0, .string ⟨#[]⟩]] w fun e w' => e = .returned (refV (notS ⟨2, true, 0, ⟨#[]⟩⟩)) ∧ Below w.heap.size w w' := by
  have hoH := Lib.hid (show ofS 2 [⟨2, true, 0, ⟨#[]⟩⟩] = 0 from by decide)
  rw [refV_mk (show notS ⟨2, true, 0, ⟨#[]⟩⟩ = (⟨2, false, 0, ⟨#[]⟩⟩, 0) from rfl)]
  have hs0H := Lib.hid (show True from trivial); have hs1H := hs0H
  obtain ⟨W0, hW0, hwW, hA, hR, hzz⟩ := boxes1 w 2 true 0 ⟨#[]⟩
  have hAH := Lib.hid hA; have hRH := Lib.hid hR; have hz0 := Lib.hid hzz; have hwWH := Lib.hid hwW
  clear hA hR hzz hwW
  have hb := Below.refl W0.heap.size W0
  obtain ⟨a0, a1, a2, a3⟩ := (hAH.out.below hb).cells; obtain ⟨r0, r1, r2, r3⟩ := (hRH.out.below hb).cells; obtain ⟨f0, f1, f2, f3⟩ := (hRH.out.below hb).free; have hz := Nat.lt_of_lt_of_le hz0.out hb.size
  go_enter Tryd.func46, Tryd.ntmps46
  go_wp2_with (first
    | (go_at_call 83; go_must (refine (refOf1 2 2 true 0 ⟨#[]⟩ _ _ _ (heap_at _ _ _ (by first | rfl | simp)) (by first | exact hs0H.out | exact hs1H.out | decide)).mono ?_; rw [hoH.out]; rintro e w' ⟨rfl, hb'⟩; replace hb := chainB (B := W0.heap.size) (a := W0) (by go_grown) hb' (by have := hb.size; first | omega | (simp; done) | (simp; omega)); clear hb' a0 a1 a2 a3 r0 r1 r2 r3 f0 f1 f2 f3 hz; obtain ⟨a0, a1, a2, a3⟩ := (hAH.out.below hb).cells; obtain ⟨r0, r1, r2, r3⟩ := (hRH.out.below hb).cells; obtain ⟨f0, f1, f2, f3⟩ := (hRH.out.below hb).free; have hz := Nat.lt_of_lt_of_le hz0.out hb.size))
    | (go_at_call 66; go_must (refine (refNull_any _).mono ?_; rintro e w' ⟨rfl, hb'⟩; replace hb := chainB (B := W0.heap.size) (a := W0) (by go_grown) hb' (by have := hb.size; first | omega | (simp; done) | (simp; omega)); clear hb' a0 a1 a2 a3 r0 r1 r2 r3 f0 f1 f2 f3 hz; obtain ⟨a0, a1, a2, a3⟩ := (hAH.out.below hb).cells; obtain ⟨r0, r1, r2, r3⟩ := (hRH.out.below hb).cells; obtain ⟨f0, f1, f2, f3⟩ := (hRH.out.below hb).free; have hz := Nat.lt_of_lt_of_le hz0.out hb.size))
    | (go_at_call 67; go_must (refine (refBool_any _ _).mono ?_; rintro e w' ⟨rfl, hb'⟩; replace hb := chainB (B := W0.heap.size) (a := W0) (by go_grown) hb' (by have := hb.size; first | omega | (simp; done) | (simp; omega)); clear hb' a0 a1 a2 a3 r0 r1 r2 r3 f0 f1 f2 f3 hz; obtain ⟨a0, a1, a2, a3⟩ := (hAH.out.below hb).cells; obtain ⟨r0, r1, r2, r3⟩ := (hRH.out.below hb).cells; obtain ⟨f0, f1, f2, f3⟩ := (hRH.out.below hb).free; have hz := Nat.lt_of_lt_of_le hz0.out hb.size)))
  refine bodyPost_ret (v := .tuple #[.agg #[.int .u8 2, .bool false, .int .i64 0, .string ⟨#[]⟩], .int .i64 0]) (by simp [results, Tryd.results46, go_sem, r0, r1, r2, r3, hz]) rfl ⟨rfl, ?_⟩
  have hbw := hwWH.out.trans (hb.mono hwWH.out.size)
  clear hb
  go_grown

/-- Not, of every datum. -/
theorem refNot_any (k : Int) (b : Bool) (n : Int) (s : ByteArray) (w : World) (hs : s.size ≤ 140737488355328) :
    Calls Tryd.prog 46 #[.agg #[.int .u8 k, .bool b, .int .i64 n, .string s]] w fun e w' => e = .returned (refV (notS ⟨k, b, n, s⟩)) ∧ Below w.heap.size w w' := by
  by_cases f1 : fitsD 2 ⟨k, b, n, s⟩ = false
  · exact refNot_bad k b n s w hs f1
  obtain ⟨t1, rfl, rfl⟩ := tri_of (by simpa using f1)
  rcases t1 with ⟨rfl, rfl⟩ | rfl
  · exact refNot_0 w
  · cases b
    · exact refNot_1 w
    · exact refNot_2 w

end Go.Proofs.YtlodohgoondkhaaDoor
