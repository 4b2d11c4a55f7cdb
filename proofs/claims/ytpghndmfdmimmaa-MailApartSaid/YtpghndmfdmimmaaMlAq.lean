/-
  The law MailApart answers true, at this program. Numbers of their kinds; no further condition.
-/
import Derived.Test.YtpghndmfdmimmaaMlAp
import Derived.Test.YtpghndmfdmimmaaMlFr
import Derived.LoopN
import Derived.Handy
set_option linter.unusedVariables false
set_option linter.unusedSimpArgs false
namespace Go.Proofs.Ytpghndmfdmimmaa
open Go.RowKit Go.Lib

set_option maxRecDepth 100000 in
set_option maxHeartbeats 16000000 in
theorem mailApart_none (r : Int) (w0 : World) (hr : 0 ≤ r ∧ r ≤ 255) :
    Calls Try.prog 5 #[.int .u8 r, .slice none 0 0] w0 (KnownPost w0) := by
  have hr0 := hr.1; have hr1 := hr.2
  clear hr
  obtain ⟨n, hnd⟩ : ∃ n : Nat, r % 4 + 1 = (n : Int) := ⟨(r % 4 + 1).toNat, by omega⟩
  have hn1 : 1 ≤ n := by omega
  have hn5 : n ≤ 4 := by omega
  have r50 : 0 ≤ r % 4 := by omega
  have r54 : r % 4 ≤ 3 := by omega
  go_enter Try.func5, Try.ntmps5
  go_wp2_with (go_at_call 8; refine (known_any _).mono ?_; rintro e w1 ⟨rfl, hb_⟩)
  have hb1 := Lib.hid hb_
  clear hb_
  refine (new_any 3 n _ (by decide) (by decide) hn1 (by omega)).mono ?_
  rintro e w2 ⟨b1, S1, T1, rfl, hI_, hb_⟩
  obtain ⟨B1, hBd⟩ : ∃ B, w1.heap.size = B := ⟨_, rfl⟩
  have P2 := Lib.hid hI_; have hb2 := Lib.hid (chainB hb1.out hb_ hb1.out.size)
  have hB1 := Lib.hid (show B1 ≤ w2.heap.size by rw [← hBd]; exact hb_.size)
  have hB0 := Lib.hid (show w0.heap.size ≤ B1 by rw [← hBd]; exact hb1.out.size)
  rw [hBd] at P2
  have hHi2 := Lib.hid P2.out.hi
  clear hI_ hb_ hb1 hBd
  go_wp2_with fail
  refine (new_any 3 n _ (by decide) (by decide) hn1 (by omega)).mono ?_
  rintro e w3 ⟨b2, S2, T2, rfl, hI_, hb_⟩
  obtain ⟨B2, hBd⟩ : ∃ B, w2.heap.size = B := ⟨_, rfl⟩
  have P3 := Lib.hid (P2.out.below hb_); have Q3 := Lib.hid hI_; have hb3 := Lib.hid (chainB hb2.out hb_ hb2.out.size)
  have hB3 := Lib.hid (show B2 ≤ w3.heap.size by rw [← hBd]; exact hb_.size)
  have hBB := Lib.hid (show B1 ≤ B2 by rw [← hBd]; exact hB1.out)
  rw [hBd] at Q3 hHi2
  clear hI_ hb_ P2 hb2 hB1 hBd
  go_wp2_with fail
  refine wp_loop_rounds 1 ?_
  rw [rounds_succ]
  go_wp2_with fail
  go_ret
  exact ⟨rfl, hb3.out⟩
theorem mailApart_any (v : Value) (r : Int) (l : List Nat) (w0 : World) (hv : U16A w0 v l) (hr : 0 ≤ r ∧ r ≤ 255) (hl : ∀ (i x : Nat), l[i]? = some x → x ≤ 65535) :
    Calls Try.prog 5 #[.int .u8 r, v] w0 (KnownPost w0) := by
  rcases hv with ⟨rfl, rfl⟩ | ⟨ad, c, rfl, h1, h2, h3⟩
  · exact mailApart_none r w0 hr
  · exact mailApart_some ad c r l w0 h3 h1 h2 hr hl
end Go.Proofs.Ytpghndmfdmimmaa
