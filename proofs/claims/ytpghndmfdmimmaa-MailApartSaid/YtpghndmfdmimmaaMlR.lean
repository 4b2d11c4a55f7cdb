/-
  The box of layer 9: New of no workers; Ready. Conditions: those written.
-/
import Derived.Test.YtpghndmfdmimmaaMlN
set_option linter.unusedVariables false
set_option linter.unusedSimpArgs false
namespace Go.Proofs.Ytpghndmfdmimmaa
open Go.RowKit Go.Lib

theorem newNone_any (w : World) : Calls Try.prog 6 #[.int .i64 0, .int .i64 1] w fun e w' => e = .returned (.tuple #[.pointer none, .int .u16 90]) ∧ w = w' := by
  go_enter Try.func6, Try.ntmps6
  go_wp2
  go_ret2
  exact ⟨rfl, rfl⟩
def rowR (st : Nat → Nat → Ch) (f j : Nat) : List (Nat × Nat) := ((List.range j).filter fun t => !(st f t).q.isEmpty).map fun t => (f, t)
def allR (st : Nat → Nat → Ch) (W f : Nat) : List (Nat × Nat) := (List.range f).flatMap fun g => rowR st g W
def pairC (l : List (Nat × Nat)) : List Value := l.flatMap fun p => [.int .i64 (p.1 : Nat), .int .i64 (p.2 : Nat)]
theorem pairC_snoc (l : List (Nat × Nat)) (f t : Nat) : pairC (l ++ [(f, t)]) = pairC l ++ [.int .i64 (f : Nat), .int .i64 (t : Nat)] := by simp [pairC]
theorem rowR_yes (st : Nat → Nat → Ch) (f j : Nat) (h : (st f j).q ≠ []) : rowR st f (j + 1) = rowR st f j ++ [(f, j)] := by
  simp [rowR, List.range_succ, List.filter_append, h]
theorem rowR_no (st : Nat → Nat → Ch) (f j : Nat) (h : (st f j).q = []) : rowR st f (j + 1) = rowR st f j := by
  simp [rowR, List.range_succ, List.filter_append, h]
theorem allR_succ (st : Nat → Nat → Ch) (W f : Nat) : allR st W (f + 1) = allR st W f ++ rowR st f W := by simp [allR, List.range_succ]
theorem rowR_len (st : Nat → Nat → Ch) (f j : Nat) : (rowR st f j).length ≤ j := by
  unfold rowR
  rw [List.length_map]
  exact Nat.le_trans (List.length_filter_le _ _) (by simp)
theorem allR_len (st : Nat → Nat → Ch) (W f : Nat) : (allR st W f).length ≤ f * W := by
  induction f with
  | zero => simp [allR]
  | succ f ih =>
    rw [allR_succ, List.length_append, Nat.succ_mul]
    have := rowR_len st f W
    omega
theorem pair_info : (Try.prog.info? 81).map (fun i => (i.zero, i.size, i.bytes)) = some (some (.agg #[.int .i64 0, .int .i64 0]), 2, 16) := by kernel_rfl
def RelRO (W0 : World) (B b W n : Nat) (S : Nat → Nat) (st : Nat → Nat → Ch) (i v : Value) (wr : World) : Prop :=
  ∃ f : Nat, i = .int .i64 (f : Nat) ∧ f ≤ W ∧ wr.ownsRow W0.heap.size 81 2 v (allR st W f).length (pairC (allR st W f)) ∧ Below W0.heap.size W0 wr
def RelRN (W0 : World) (B b W n : Nat) (S : Nat → Nat) (st : Nat → Nat → Ch) (f : Nat) (i v : Value) (wr : World) : Prop :=
  ∃ j : Nat, i = .int .i64 (j : Nat) ∧ j ≤ W ∧ wr.ownsRow W0.heap.size 81 2 v (allR st W f ++ rowR st f j).length (pairC (allR st W f ++ rowR st f j)) ∧ Below W0.heap.size W0 wr
def ReadyPost (w : World) (W : Nat) (st : Nat → Nat → Ch) (e : Ending) (w' : World) : Prop := ∃ v, e = .returned v ∧ w'.ownsRow w.heap.size 81 2 v (allR st W W).length (pairC (allR st W W)) ∧ Below w.heap.size w w'
set_option maxRecDepth 100000 in
set_option maxHeartbeats 8000000 in
theorem BoxI.ready {w : World} {B b W n : Nat} {S : Nat → Nat} {st : Nat → Nat → Ch} (h : BoxI w B b W n S st) :
    Calls Try.prog 22 #[.pointer (some ⟨b, 0, none⟩)] w (ReadyPost w W st) := by
  obtain ⟨i0, hi, hz0, hz1, hz2⟩ := info_parts pair_info
  obtain ⟨Rb, rs, h3, h4, h5⟩ := h.head
  have hH := Lib.hid h
  have hRs := Lib.hid h4; have hRc := Lib.hid h5
  have hW8 := h.w8.2
  have b0_ := h3.cell 0 rfl
  clear h h3 h4 h5
  go_enter Try.func22, Try.ntmps22
  go_wp2
  clear b0_
  go_loopw [12, 3] (fun i v wr => RelRO w B b W n S st i v wr) (fun i _ _ => W - (Go.RowKit.intOf i).toNat)
  case atStart => exact ⟨0, rfl, Nat.zero_le _, ⟨rfl, .inl ⟨rfl, rfl⟩⟩, Below.refl _ _⟩
  case round =>
    obtain ⟨wo, rfl⟩ : ∃ wo : World, wo = wr := ⟨_, rfl⟩
    unfold RelRO at hrel
    obtain ⟨f, rfl, hfW, ho_, hb_⟩ := hrel
    have ho := Lib.hid ho_; have hb := Lib.hid hb_
    clear ho_ hb_
    by_cases hf : f < W
    · obtain ⟨c, hc1, hc2, hc⟩ := hRc.out f hf
      have c0_ := (hRs.out.below hb.out).cell f hc
      clear hc
      go_wp2_with fail
      clear c0_
      go_loopw [19, 3] (fun i v wr => RelRN w B b W n S st f i v wr) (fun i _ _ => W - (Go.RowKit.intOf i).toNat)
      case atStart =>
        refine ⟨0, rfl, Nat.zero_le _, ?_, hb.out⟩
        simpa [rowR] using ho.out
      case round =>
        unfold RelRN at hrel
        obtain ⟨j, rfl, hjW, ho_, hb_⟩ := hrel
        have hoj := Lib.hid ho_; have hbj := Lib.hid hb_
        clear ho_ hb_
        by_cases hj : j < W
        · obtain ⟨cs, hcs, hra⟩ := (hH.out.below hbj.out).rows f hf
          have hE := Lib.hid (empty_any (S f) (j * 3) _ _ (hcs.cell _ (hra j hj).2.2))
          clear hcs hra
          have hlen : (allR st W f ++ rowR st f j).length + 1 ≤ 100 := by
            rw [List.length_append]
            have h1 := allR_len st W f
            have h2 := rowR_len st f j
            have h3 : f * W ≤ 8 * 8 := Nat.mul_le_mul (by omega) hW8
            omega
          have hlenH := Lib.hid hlen
          clear hlen
          by_cases hq : (st f j).q = []
          · have e0 : (((st f j).q.length : Int) == 0) = true := by rw [hq]; rfl
            have hqH := Lib.hid hq
            clear hq
            go_wp2_with (go_at_call 30; refine hE.out.mono ?_; rintro e w' ⟨rfl, rfl⟩)
            go_roundw
            case rel =>
              refine ⟨j + 1, by go_num, by omega, ?_, hbj.out⟩
              rw [rowR_no _ _ _ hqH.out]
              exact hoj.out
            case measure => simp [Go.RowKit.intOf]; omega
          · have e0 : (((st f j).q.length : Int) == 0) = false := by
              cases hh : (st f j).q with
              | nil => exact absurd hh hq
              | cons a l => simp; omega
            have hqH := Lib.hid hq
            clear hq
            go_wp2_with (first | (go_at_call 30; refine hE.out.mono ?_; rintro e w' ⟨rfl, rfl⟩) | (at_builtin; refine wpList_append_own _ rfl _ _ 77 rfl w.heap.size 81 i0 (.agg #[.int .i64 0, .int .i64 0]) 2 16 Try.underlying77 hi hz0 hz1 hz2 rfl (by decide) _ _ _ rfl (own_below hoj.out ((Below.refl _ _).alloc (Nat.le_refl _) _)) ⟨_, 0, none⟩ 1 1 [.int .i64 (f : Nat), .int .i64 (j : Nat)] rfl rfl (news_of (ds := []) (by rw [List.append_nil]; exact has_at _ _ _ 81 rfl)) (by simp [Value.oneCell']) (by have := hlenH.out; unfold maxLen; omega) (by have := hlenH.out; omega) (Nat.le_trans hbj.out.size (by simp)) ?_; intro v' w3 hown_ hg_ _))
            have hown := Lib.hid (show w3.ownsRow w.heap.size 81 2 v' (allR st W f ++ rowR st f (j + 1)).length (pairC (allR st W f ++ rowR st f (j + 1))) by
              rw [rowR_yes _ _ _ hqH.out, ← List.append_assoc, pairC_snoc, List.length_append]
              exact hown_)
            have hb3 := Lib.hid (chainB (B := w.heap.size) (a := w) hbj.out ((Below.refl _ _).alloc (Nat.le_refl _) (.cells #[.int .i64 (f : Nat), .int .i64 (j : Nat)] 81)) hbj.out.size |>.trans (below_own hg_ (own_below hoj.out ((Below.refl _ _).alloc (Nat.le_refl _) _)) (Nat.le_trans hbj.out.size (by simp))))
            clear hown_ hg_
            go_wp2_with fail
            go_roundw
            case rel => exact ⟨j + 1, by go_num, by omega, hown.out, hb3.out⟩
            case measure => simp [Go.RowKit.intOf]; omega
        · obtain rfl : j = W := by omega
          go_wp2_with fail
          go_roundw
          case rel =>
            refine ⟨f + 1, by go_num, by omega, ?_, hbj.out⟩
            rw [allR_succ]
            exact hoj.out
          case measure => simp [Go.RowKit.intOf]; omega
    · obtain rfl : f = W := by omega
      go_wp2_with fail
      go_ret
      exact ⟨_, rfl, ho.out, hb.out⟩
end Go.Proofs.Ytpghndmfdmimmaa
