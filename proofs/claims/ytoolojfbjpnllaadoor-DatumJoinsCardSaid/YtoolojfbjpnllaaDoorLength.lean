/-
  What datum.Length answers, at this program. Condition: the tables of Go's library lie as their initialisers lay them.
-/
import Derived.Test.YtoolojfbjpnllaaDoorConcat
import Derived.Test.YtoolojfbjpnllaaDoorRefNot
import Derived.Test.YtoolojfbjpnllaaDoorOps
set_option linter.unusedVariables false
set_option linter.unusedSimpArgs false
namespace Go.Proofs.YtoolojfbjpnllaaDoor
open Go.RowKit Go.Lib

/-- Length. -/
def lengthS (a : Dat) : Dat × Int := if fitsD 4 a = false then (zeroD, 13) else if a.k = 1 then (nullD, 0) else (intD (runeCount a.s : Int), 0)
/-- What the rounds hold: so many runes up to a place. -/
def RelT (s : ByteArray) (W0 : World) (B : Nat) (n : Value) (wr : World) : Prop :=
  ∃ p c : Nat, n = .int .i64 (c : Int) ∧ wr.heap[B]? = some (.stringIter s p) ∧ c + cntS s p = runeCount s ∧ Below W0.heap.size W0 wr

set_option maxRecDepth 100000 in
set_option maxHeartbeats 8000000 in
theorem lenClos (k0 : Int) (b0 : Bool) (n0 : Int) (s0 : ByteArray) (w : World) (hs : s0.size ≤ 1000) :
    Calls Tryd.prog 82 #[.agg #[.int .u8 k0, .bool b0, .int .i64 n0, .string s0], .agg #[.int .u8 k0, .bool b0, .int .i64 n0, .string s0]] w fun e w' => e = .returned (.tuple #[.agg #[.int .u8 3, .bool false, .int .i64 (runeCount s0 : Int), .string ⟨#[]⟩], .int .u16 0]) ∧ Below w.heap.size w w' := by
  obtain ⟨rc, hrc⟩ : ∃ rc, runeCount s0 = rc := ⟨_, rfl⟩
  have hrc2 : rc ≤ 1000 := by have := cntS_le s0 0; rw [cntS_zero] at this; omega
  rw [hrc]
  have hrcH := Lib.hid hrc
  clear hrc
  obtain ⟨W0, hW0, hwW, hA, hB, hR, hzz⟩ := boxes2 w k0 b0 n0 s0 k0 b0 n0 s0
  have hAH := Lib.hid hA; have hRH := Lib.hid hR; have hz0 := Lib.hid hzz; have hwWH := Lib.hid hwW
  clear hB hR hzz hwW
  obtain ⟨a0_, a1_, a2_, a3_⟩ := hA.cells
  clear hA
  go_enter Tryd.func82, Tryd.ntmps82
  go_wp2_with fail
  go_loopw [6] (fun n wr => RelT s0 W0 W0.heap.size n wr) (fun _ wr => s0.size - wr.iterPos W0.heap.size)
  case atStart => exact ⟨0, 0, rfl, (by have := World.iter_heap W0 s0 0; simpa using this), (by rw [cntS_zero]; simp), (Below.refl _ _).alloc (Nat.le_refl _) _⟩
  case round =>
    unfold RelT at hrel
    obtain ⟨p, c, rfl, hit, hc, hb⟩ := hrel
    have hsz : W0.heap.size < wr.heap.size := (Array.getElem?_eq_some_iff.1 hit).1
    have hbH := Lib.hid hb
    have hc2 : c ≤ 1000 := by rw [hrcH.out] at hc; omega
    have hcH := Lib.hid hc
    clear hc a0_ a1_ a2_ a3_
    by_cases hp : p < s0.size
    · have hnx : ∀ ty, (Instr.next (.pointer (some ⟨W0.heap.size, 0, none⟩)) true ty).run Tryd.prog wr = _ := fun ty => Lib.run_next_any_at wr W0.heap.size s0 p ty hit hp
      have hst := cntS_step s0 p hp
      have hstH := Lib.hid hst
      have hit0 := Lib.hid hit
      have hit2 := Lib.hid (Lib.iterAt_heap wr W0.heap.size s0 p (p + (Utf8.decode s0 p).2) hit)
      have hb2 := Lib.hid (Lib.below_iterAt hb (k := W0.heap.size) (by omega) s0 (p + (Utf8.decode s0 p).2))
      have hwd := Lib.hid (decode_width_pos s0 p hp)
      clear hst hb hit
      go_wp2_with fail
      go_roundw
      case rel => exact ⟨p + (Utf8.decode s0 p).2, c + 1, by go_num, hit2.out, by have := hcH.out; have := hstH.out; omega, hb2.out⟩
      case measure =>
        have hwd' := hwd.out
        simp only [World.iterPos, hit2.out, hit0.out]
        omega
    · have hnx : ∀ ty, (Instr.next (.pointer (some ⟨W0.heap.size, 0, none⟩)) true ty).run Tryd.prog wr = _ := fun ty => Lib.run_next_end_at wr W0.heap.size s0 p ty hit hp
      have hend : c = rc := by have h1 := cntS_end s0 p hp; have h2 := hcH.out; have h3 := hrcH.out; omega
      subst hend
      obtain ⟨r0_, r1_, r2_, r3_⟩ := (hRH.out.below hb).cells; obtain ⟨f0_, f1_, f2_, f3_⟩ := (hRH.out.below hb).free; have hz := Nat.lt_of_lt_of_le hz0.out hb.size
      go_wp2_with (go_at_call 70; go_must (refine (integer_any _ _).mono ?_; rintro e w' ⟨rfl, hb'⟩; replace hb := chainB (B := W0.heap.size) (a := W0) (by go_grown) hb' (by have := hb.size; first | omega | (simp; done) | (simp; omega)); clear hb' r0_ r1_ r2_ r3_ f0_ f1_ f2_ f3_ hz; obtain ⟨r0_, r1_, r2_, r3_⟩ := (hRH.out.below hb).cells; obtain ⟨f0_, f1_, f2_, f3_⟩ := (hRH.out.below hb).free; have hz := Nat.lt_of_lt_of_le hz0.out hb.size))
      refine bodyPost_ret (v := .tuple #[.agg #[.int .u8 3, .bool false, .int .i64 (c : Int), .string ⟨#[]⟩], .int .u16 0]) (by simp [results, Tryd.results82, go_sem, r0_, r1_, r2_, r3_, hz]) rfl ⟨rfl, ?_⟩
      have hbw := hwWH.out.trans (hb.mono hwWH.out.size)
      clear hb
      go_grown

theorem strict_len (k0 : Int) (b0 : Bool) (n0 : Int) (s0 : ByteArray) (w : World) (hT : Tabs w) (h0 : s0.size ≤ 9223372036854775807) :
    Calls Tryd.prog 78 #[.int .u8 4, .agg #[.int .u8 k0, .bool b0, .int .i64 n0, .string s0], .agg #[.int .u8 k0, .bool b0, .int .i64 n0, .string s0], .func (.func 82) #[] #[]] w
      fun e w' => e = .returned (resV (lengthS ⟨k0, b0, n0, s0⟩)) ∧ Below w.heap.size w w' := by
  by_cases f0 : fitsD 4 ⟨k0, b0, n0, s0⟩ = false
  · rw [show lengthS ⟨k0, b0, n0, s0⟩ = (zeroD, 13) by unfold lengthS; rw [if_pos f0]]
    exact strict_bad1 4 k0 b0 n0 s0 k0 b0 n0 s0 _ w hT h0 h0 f0
  have f0' : fitsD 4 ⟨k0, b0, n0, s0⟩ = true := by simpa using f0
  by_cases c0 : k0 = 1
  · rw [show lengthS ⟨k0, b0, n0, s0⟩ = (nullD, 0) by unfold lengthS; rw [if_neg f0, if_pos c0]]
    exact strict_null1 4 k0 b0 n0 s0 k0 b0 n0 s0 _ w hT h0 h0 f0' f0' c0
  · rw [show lengthS ⟨k0, b0, n0, s0⟩ = (intD (runeCount s0 : Int), 0) by unfold lengthS; rw [if_neg f0, if_neg c0]]
    exact strict_go 4 k0 b0 n0 s0 k0 b0 n0 s0 _ w hT h0 h0 f0' f0' (by simpa using c0) (by simpa using c0) 82 _ (enters_of Tryd.func82 (by kernel_rfl) rfl) 3 false (runeCount s0 : Int) ⟨#[]⟩ 0 rfl
      (fun W hW => by rw [app0]; exact lenClos k0 b0 n0 s0 W (fits_size f0'))

set_option maxRecDepth 100000 in
set_option maxHeartbeats 8000000 in
theorem length_any (k0 : Int) (b0 : Bool) (n0 : Int) (s0 : ByteArray) (w : World) (hT : Tabs w) (h0 : s0.size ≤ 9223372036854775807) :
    Calls Tryd.prog 38 #[.agg #[.int .u8 k0, .bool b0, .int .i64 n0, .string s0]] w fun e w' => e = .returned (resV (lengthS ⟨k0, b0, n0, s0⟩)) ∧ Below w.heap.size w w' := by
  obtain ⟨r, hr⟩ : ∃ r, lengthS ⟨k0, b0, n0, s0⟩ = r := ⟨_, rfl⟩
  rw [hr]
  obtain ⟨⟨k', b', n', s'⟩, x⟩ := r
  have hxH := Lib.hid hr
  have hTH := Lib.hid hT
  have h0H := Lib.hid h0
  clear hr hT h0
  obtain ⟨W0, hW0, hwW, hA, hR, hzz⟩ := boxes1 w k0 b0 n0 s0
  have hAH := Lib.hid hA; have hRH := Lib.hid hR; have hz0 := Lib.hid hzz; have hwWH := Lib.hid hwW
  clear hA hR hzz hwW
  have hb := Below.refl W0.heap.size W0
  obtain ⟨a0_, a1_, a2_, a3_⟩ := (hAH.out.below hb).cells; obtain ⟨r0_, r1_, r2_, r3_⟩ := (hRH.out.below hb).cells; obtain ⟨f0_, f1_, f2_, f3_⟩ := (hRH.out.below hb).free; have hz := Nat.lt_of_lt_of_le hz0.out hb.size; have hs := hb.size
  go_enter Tryd.func38, Tryd.ntmps38
  go_wp2_with (first
    | (go_at_call 78; go_must (refine (strict_len k0 b0 n0 s0 _ (by exact (hTH.out.below hwWH.out).below (by go_grown)) h0H.out).mono ?_; rw [hxH.out, resVm]; rintro e w' ⟨rfl, hb'⟩; replace hb := chainB (B := W0.heap.size) (a := W0) (by go_grown) hb' (by have := hb.size; first | omega | (simp; done) | (simp; omega)); clear hb' a0_ a1_ a2_ a3_ r0_ r1_ r2_ r3_ f0_ f1_ f2_ f3_ hz hs; obtain ⟨a0_, a1_, a2_, a3_⟩ := (hAH.out.below hb).cells; obtain ⟨r0_, r1_, r2_, r3_⟩ := (hRH.out.below hb).cells; obtain ⟨f0_, f1_, f2_, f3_⟩ := (hRH.out.below hb).free; have hz := Nat.lt_of_lt_of_le hz0.out hb.size; have hs := hb.size)))
  refine bodyPost_ret (v := .tuple #[.agg #[.int .u8 k', .bool b', .int .i64 n', .string s'], .int .u16 x]) (by simp [results, Tryd.results38, go_sem, r0_, r1_, r2_, r3_, hz]) rfl ⟨rfl, ?_⟩
  have hbw := hwWH.out.trans (hb.mono hwWH.out.size)
  clear hb
  go_grown

end Go.Proofs.YtoolojfbjpnllaaDoor
