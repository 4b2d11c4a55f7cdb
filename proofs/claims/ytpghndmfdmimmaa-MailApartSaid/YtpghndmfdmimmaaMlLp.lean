/-
  The law MailOrder answers true, at this program. Numbers of their kinds; no further condition.
-/
import Derived.Test.YtpghndmfdmimmaaMlLo
import Derived.LoopN
import Derived.Handy
set_option linter.unusedVariables false
set_option linter.unusedSimpArgs false
namespace Go.Proofs.Ytpghndmfdmimmaa
open Go.RowKit Go.Lib

set_option maxRecDepth 100000 in
set_option maxHeartbeats 16000000 in
theorem mailOrder_none (a r : Int) (w0 : World) (ha : 0 ≤ a ∧ a ≤ 255) (hr : 0 ≤ r ∧ r ≤ 255) :
    Calls Try.prog 4 #[.int .u8 a, .int .u8 r, .slice none 0 0] w0 (KnownPost w0) := by
  have ha0 := ha.1; have ha1 := ha.2; have hr0 := hr.1; have hr1 := hr.2
  clear ha hr
  obtain ⟨W, hWd⟩ : ∃ W : Nat, a % 4 + 1 = (W : Int) := ⟨(a % 4 + 1).toNat, by omega⟩
  obtain ⟨n, hnd⟩ : ∃ n : Nat, r % 5 + 1 = (n : Int) := ⟨(r % 5 + 1).toNat, by omega⟩
  have hW1 : 1 ≤ W := by omega
  have hW4 : W ≤ 4 := by omega
  have hn1 : 1 ≤ n := by omega
  have hn5 : n ≤ 5 := by omega
  have a40 : 0 ≤ a % 4 := by omega
  have a43 : a % 4 ≤ 3 := by omega
  have r50 : 0 ≤ r % 5 := by omega
  have r54 : r % 5 ≤ 4 := by omega
  obtain ⟨Q, hQd⟩ : ∃ Q : Nat, W * W = Q := ⟨_, rfl⟩
  have hQ : (W : Int) * (W : Int) = (Q : Int) := by rw [← hQd]; simp
  have hQ16 : Q ≤ 16 := by rw [← hQd]; exact Nat.mul_le_mul hW4 hW4
  have hQH := Lib.hid hQd
  clear hQd
  have hmk := make_ones 85 2 (.int .i64 0) 8 Try.underlying85 i64_info rfl (by decide) Q (by omega)
  go_enter Try.func4, Try.ntmps4
  go_wp2_with (go_at_call 8; refine (known_any _).mono ?_; rintro e w1 ⟨rfl, hb_⟩)
  have hb1 := Lib.hid hb_
  clear hb_
  refine (new_any W n _ hW1 (by omega) hn1 (by omega)).mono ?_
  rintro e w2 ⟨b, S, T, rfl, hI_, hb_⟩
  have h2 := Lib.hid hI_; have hb2 := Lib.hid (chainB hb1.out hb_ hb1.out.size); have hB2 := Lib.hid hb_.size
  obtain ⟨B, hBd⟩ : ∃ B, w1.heap.size = B := ⟨_, rfl⟩
  rw [hBd] at h2 hB2
  have hB0 := Lib.hid (show w0.heap.size ≤ B by rw [← hBd]; exact hb1.out.size)
  clear hI_ hb_ hb1 hBd
  go_wp2_with fail
  refine wp_loop_rounds 1 ?_
  rw [rounds_succ]
  go_wp2_with fail
  go_ret
  have hz0_ := Nat.le_trans hB0.out hB2.out
  have hb0_ := hb2.out
  clear hb2 h2 hB2 hB0
  exact ⟨rfl, (hb0_.alloc hz0_ _).alloc (by simp; omega) _⟩
/-- The slice value v holds the numbers l. -/
def U16A (w : World) (v : Value) (l : List Nat) : Prop := (v = .slice none 0 0 ∧ l = []) ∨ ∃ (ad : Addr) (c : Nat), v = .slice (some ad) l.length c ∧ l.length ≤ c ∧ c ≤ 9223372036854775807 ∧ ∀ i x, l[i]? = some x → ad.block < w.heap.size ∧ w.cell? (ad.add i) = some (.int .u16 (x : Nat))
theorem mailOrder_any (v : Value) (a r : Int) (l : List Nat) (w0 : World) (hv : U16A w0 v l) (ha : 0 ≤ a ∧ a ≤ 255) (hr : 0 ≤ r ∧ r ≤ 255) (hl : ∀ (i x : Nat), l[i]? = some x → x ≤ 65535) :
    Calls Try.prog 4 #[.int .u8 a, .int .u8 r, v] w0 (KnownPost w0) := by
  rcases hv with ⟨rfl, rfl⟩ | ⟨ad, c, rfl, h1, h2, h3⟩
  · exact mailOrder_none a r w0 ha hr
  · exact mailOrder_some ad c a r l w0 h3 h1 h2 ha hr hl
end Go.Proofs.Ytpghndmfdmimmaa
