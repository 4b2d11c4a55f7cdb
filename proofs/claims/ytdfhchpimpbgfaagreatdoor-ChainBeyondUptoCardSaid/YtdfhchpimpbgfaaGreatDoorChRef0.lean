/-
  What penstockref00.SameWords and SamePath, and the law's own at, far and much, answer, at this program: of any lists, ways, times. No condition.
-/
import Derived.Test.YtdfhchpimpbgfaaGreatDoorStOwn
import Derived.LoopTactic
import Derived.BigQuiet
set_option linter.unusedVariables false
set_option linter.unusedSimpArgs false
namespace Go.Proofs.YtdfhchpimpbgfaaGreatDoor
open Go.RowKit Go.Lib

def RelSW (l m : List Int) (w0 : World) (i : Value) (wr : World) : Prop := ∃ p : Nat, i = .int .i64 (p : Int) ∧ p ≤ l.length ∧ l.take p = m.take p ∧ Below w0.heap.size w0 wr
theorem take_succ_eq {l m : List Int} {p : Nat} (hl : p < l.length) (hm : p < m.length) (h : l.take p = m.take p) (hx : l[p] = m[p]) : l.take (p + 1) = m.take (p + 1) := by
  rw [List.take_succ_eq_append_getElem hl, List.take_succ_eq_append_getElem hm, h, hx]
set_option maxHeartbeats 2000000 in
set_option maxRecDepth 1000000 in
theorem sameWords_any (va vb : Value) (l m : List Int) (w : World) (ha : WordsV w va l) (hb : WordsV w vb m) :
    Calls Tryz.prog 54 #[va, vb] w fun e w' => e = .returned (.bool (decide (l = m))) ∧ Below w.heap.size w w' := by
  obtain ⟨A, n, ca, rfl, hn, hla, hca⟩ := ha.form
  obtain ⟨B, k, cb, rfl, hk, hlb, hcb⟩ := hb.form
  have hnH := Lib.hid hn; have hkH := Lib.hid hk; have haH := Lib.hid ha; have hbH := Lib.hid hb
  clear hn hk ha hb
  by_cases hlen : n = k
  · subst hlen
    obtain ⟨r, hr⟩ : ∃ r, decide (l = m) = r := ⟨_, rfl⟩
    rw [hr]
    have hrH := Lib.hid hr
    clear hr
    go_enter Tryz.func54, Tryz.ntmps54
    go_wp2_with fail
    go_loopw [5] (fun i wr => RelSW l m w i wr) (fun i _ => n - (Go.RowKit.intOf i).toNat)
    case atStart => exact ⟨0, rfl, Nat.zero_le _, rfl, Below.refl _ _⟩
    case round =>
      unfold RelSW at hrel
      obtain ⟨p, rfl, hpl, hcmp, hb⟩ := hrel
      have hcH := Lib.hid hcmp; have hwH := Lib.hid hb
      clear hcmp
      have hpn : p ≤ n := by have := hnH.out; omega
      clear hpl
      by_cases hp : p < n
      · have h1 : p < l.length := by have := hnH.out; omega
        have h2 : p < m.length := by have := hkH.out; omega
        obtain ⟨ad, rfl, hba, ac_⟩ := (haH.out.below hb).at h1
        obtain ⟨bd, rfl, hbb, bc_⟩ := (hbH.out.below hb).at h2
        have hstH := Lib.hid (take_succ_eq h1 h2 hcH.out)
        have hneH := Lib.hid (fun (e : l = m) => (show l[p] = m[p] by subst e; rfl))
        obtain ⟨x, hx⟩ : ∃ x, l[p] = x := ⟨_, rfl⟩
        obtain ⟨y, hy⟩ : ∃ y, m[p] = y := ⟨_, rfl⟩
        rw [hx] at ac_ hneH hstH
        rw [hy] at bc_ hneH hstH
        clear hx hy h1 h2 hb
        by_cases hxy : x = y
        · have hxb : (x != y) = false := by simpa using hxy
          have hxe := Lib.hid hxy
          clear hxy
          go_wp2_with fail
          go_quiet (fail)
          go_wp2_with fail
          go_roundw
          case rel => exact ⟨p + 1, by go_num, by have := hnH.out; omega, hstH.out hxe.out, by first | exact drewsN hwH.out _ | go_grown⟩
          case measure => simp [Go.RowKit.intOf]; omega
        · have hxb : (x != y) = true := by simpa using hxy
          have hxe := Lib.hid hxy
          clear hxy
          go_wp2_with fail
          go_quiet (fail)
          go_wp2_with fail
          go_ret
          exact ⟨ret_bool (by rw [← hrH.out, eq_comm, decide_eq_false_iff_not]; exact fun e => hxe.out (hneH.out e)), by first | exact drewsN hwH.out _ | go_grown⟩
      · obtain rfl : p = n := by omega
        go_wp2_with fail
        go_ret
        refine ⟨ret_bool ?_, hwH.out⟩
        rw [← hrH.out, eq_comm, decide_eq_true_iff]
        have := hcH.out
        rwa [List.take_of_length_le (by have := hnH.out; omega), List.take_of_length_le (by have := hkH.out; omega)] at this
  · have hnk : ¬ (n : Int) = (k : Int) := by omega
    have hnb : ((n : Int) != (k : Int)) = true := by simpa using hnk
    have hlH := Lib.hid hlen
    clear hnk hlen
    go_enter Tryz.func54, Tryz.ntmps54
    go_wp2_with fail
    go_ret
    refine ⟨ret_bool ?_, Below.refl _ _⟩
    rw [eq_comm, decide_eq_false_iff_not]
    intro e
    subst e
    exact hlH.out (hnH.out.symm.trans hkH.out)
set_option maxHeartbeats 2000000 in
set_option maxRecDepth 1000000 in
theorem lawAt_any (e : Int) (A : Option Addr) (n c : Nat) (w : World) :
    Calls Tryz.prog 53 #[.int .u64 e, .slice A n c] w fun x w' => x = .returned (.agg #[.int .u64 e, .slice A n c]) ∧ Below w.heap.size w w' := by
  obtain ⟨W0, hW0, hwW, hR, hzz⟩ := boxes1 w [.int .u64 0, .slice none 0 0] 26
  have r0_ := hR.cell 0 rfl; have r1_ := hR.cell 1 rfl; have rf0_ := hR.free 0; have rf1_ := hR.free 1
  go_enter Tryz.func53, Tryz.ntmps53
  go_wp2_with fail
  refine bodyPost_ret (v := .agg #[.int .u64 e, .slice A n c]) (by simp [results, Tryz.results53, go_sem, r0_, r1_, hzz]) rfl ⟨rfl, ?_⟩
  have hbw := hwW
  first | exact (hbw.setCell (by simp) _).setCell (by simp) _ | go_grown
end Go.Proofs.YtdfhchpimpbgfaaGreatDoor
