/-
  The law DatumWritten answers true, at this program, at all data. Condition: the tables of Go's library lie as their initialisers lay them.
-/
import Derived.Test.YtoolojfbjpnllaaDoorLawChecks
import Derived.Test.YtoolojfbjpnllaaDoorWrit
import Derived.Test.YtoolojfbjpnllaaDoorLawOrder
set_option linter.unusedVariables false
set_option linter.unusedSimpArgs false
namespace Go.Proofs.YtoolojfbjpnllaaDoor
open Go.RowKit Go.Lib

/-- How many quotes stand before a place. -/
def cq (S : ByteArray) (p : Nat) : Nat := (S.data.toList.take p).count 39
theorem cq_step (S : ByteArray) (p : Nat) (h : p < S.size) : cq S (p + 1) = cq S p + (if bt S p = 39 then 1 else 0) := by
  unfold cq
  have hp : p < S.data.toList.length := by rw [size_list]; exact h
  rw [List.take_add_one, List.getElem?_eq_getElem hp]
  have e : S.get! p = S.data.toList[p] := by
    rcases S with ⟨a⟩
    simp only [ByteArray.get!]
    rw [getElem!_pos a p h]
    simp
  rw [List.count_append, ← e]
  simp only [Option.toList]
  by_cases g : bt S p = 39
  · have : S.get! p = 39 := UInt8.toNat_inj.1 g
    rw [if_pos g, this]; rfl
  · rw [if_neg g, List.count_cons_of_ne (fun e2 => g (by unfold bt; rw [e2]; rfl)), List.count_nil]
theorem cq_le (S : ByteArray) (p : Nat) : cq S p ≤ p := Nat.le_trans List.count_le_length (by rw [List.length_take]; exact Nat.min_le_left _ _)
theorem cq_all (S : ByteArray) : cq S S.size = S.data.toList.count 39 := by
  unfold cq
  rw [List.take_of_length_le (by rw [size_list]; exact Nat.le_refl _)]
/-- What the rounds hold: so many quotes stand before a place. -/
def RelW (S : ByteArray) (W0 : World) (q i : Value) (wr : World) : Prop :=
  ∃ p : Nat, i = .int .i64 (p : Int) ∧ p ≤ S.size ∧ q = .int .i64 (cq S p : Int) ∧ Below W0.heap.size W0 wr
theorem bt_list (l : List UInt8) (p : Nat) (h : p < l.length) : ∃ b ∈ l, bt ⟨l.toArray⟩ p = b.toNat := by
  refine ⟨l[p], List.getElem_mem h, ?_⟩
  unfold bt
  simp only [ByteArray.get!]
  rw [getElem!_pos l.toArray p (by simpa using h)]
  simp

set_option maxHeartbeats 16000000 in
set_option maxRecDepth 100000 in
theorem written_a (k0 : Int) (b0 : Bool) (n0 : Int) (s0 : ByteArray) (k1 : Int) (b1 : Bool) (n1 : Int) (s1 : ByteArray) (w : World) (hT : Tabs w) (hs0 : s0.size ≤ 9223372036854775807) (hc : ¬ chk ⟨k0, b0, n0, s0⟩ = 0) :
    Calls Tryd.prog 14 #[.agg #[.int .u8 k0, .bool b0, .int .i64 n0, .string s0], .agg #[.int .u8 k1, .bool b1, .int .i64 n1, .string s1]] w fun e w' => e = .returned (.bool true) ∧ Below w.heap.size w w' := by
  obtain ⟨u, hu⟩ : ∃ u, chk ⟨k0, b0, n0, s0⟩ = u := ⟨_, rfl⟩
  rw [hu] at hc
  have hg : (u != 0) = true := by simpa using hc
  have hC := Lib.hid hu; have hS0 := Lib.hid hs0
  clear hu hc hs0
  have hTW0 := hT
  obtain ⟨W0, hW0, hwW, hA, hB, hzz⟩ := boxesAB w k0 b0 n0 s0 k1 b1 n1 s1
  have hTW := Lib.hid (hT.below hwW)
  have hAH := Lib.hid hA; have hBH := Lib.hid hB; have hwWH := Lib.hid hwW
  clear hT hTW0 hA hB hwW hzz
  have hb := Below.refl W0.heap.size W0
  obtain ⟨a0_, a1_, a2_, a3_⟩ := (hAH.out.below hb).cells; obtain ⟨b0_, b1_, b2_, b3_⟩ := (hBH.out.below hb).cells; have hs := hb.size
  go_enter Tryd.func14, Tryd.ntmps14
  go_wp2_with (first | (go_at_call 15; go_must (refine (known_any _ (by exact hTW.out.below (by go_grown))).mono ?_; rintro e w' ⟨rfl, hb'⟩; replace hb := chainB (B := W0.heap.size) (a := W0) (by go_grown) hb' (by have := hb.size; first | omega | (simp; done) | (simp; omega)); clear hb' a0_ a1_ a2_ a3_ b0_ b1_ b2_ b3_ hs; obtain ⟨a0_, a1_, a2_, a3_⟩ := (hAH.out.below hb).cells; obtain ⟨b0_, b1_, b2_, b3_⟩ := (hBH.out.below hb).cells; have hs := hb.size)) | (go_at_call 16; go_must (refine (check_any k0 b0 n0 s0 _ (by exact hTW.out.below (by go_grown)) hS0.out).mono ?_; rw [hC.out]; rintro e w' ⟨rfl, hb'⟩; replace hb := chainB (B := W0.heap.size) (a := W0) (by go_grown) hb' (by have := hb.size; first | omega | (simp; done) | (simp; omega)); clear hb' a0_ a1_ a2_ a3_ b0_ b1_ b2_ b3_ hs; obtain ⟨a0_, a1_, a2_, a3_⟩ := (hAH.out.below hb).cells; obtain ⟨b0_, b1_, b2_, b3_⟩ := (hBH.out.below hb).cells; have hs := hb.size)))
  go_ret
  exact ⟨rfl, hwWH.out.trans (hb.mono hwWH.out.size)⟩

set_option maxHeartbeats 16000000 in
set_option maxRecDepth 100000 in
theorem written_b (k0 : Int) (b0 : Bool) (n0 : Int) (s0 : ByteArray) (k1 : Int) (b1 : Bool) (n1 : Int) (s1 : ByteArray) (w : World) (hT : Tabs w) (hs0 : s0.size ≤ 9223372036854775807) (hs1 : s1.size ≤ 9223372036854775807) (hc : chk ⟨k0, b0, n0, s0⟩ = 0) (hc1 : ¬ chk ⟨k1, b1, n1, s1⟩ = 0) :
    Calls Tryd.prog 14 #[.agg #[.int .u8 k0, .bool b0, .int .i64 n0, .string s0], .agg #[.int .u8 k1, .bool b1, .int .i64 n1, .string s1]] w fun e w' => e = .returned (.bool true) ∧ Below w.heap.size w w' := by
  obtain ⟨u, hu⟩ : ∃ u, chk ⟨k1, b1, n1, s1⟩ = u := ⟨_, rfl⟩
  rw [hu] at hc1
  have hg : (u != 0) = true := by simpa using hc1
  have hC := Lib.hid hc; have hC1 := Lib.hid hu; have hS0 := Lib.hid hs0; have hS1 := Lib.hid hs1
  clear hu hc hc1 hs0 hs1
  have hTW0 := hT
  obtain ⟨W0, hW0, hwW, hA, hB, hzz⟩ := boxesAB w k0 b0 n0 s0 k1 b1 n1 s1
  have hTW := Lib.hid (hT.below hwW)
  have hAH := Lib.hid hA; have hBH := Lib.hid hB; have hwWH := Lib.hid hwW
  clear hT hTW0 hA hB hwW hzz
  have hb := Below.refl W0.heap.size W0
  obtain ⟨a0_, a1_, a2_, a3_⟩ := (hAH.out.below hb).cells; obtain ⟨b0_, b1_, b2_, b3_⟩ := (hBH.out.below hb).cells; have hs := hb.size
  go_enter Tryd.func14, Tryd.ntmps14
  go_wp2_with (first | (go_at_call 15; go_must (refine (known_any _ (by exact hTW.out.below (by go_grown))).mono ?_; rintro e w' ⟨rfl, hb'⟩; replace hb := chainB (B := W0.heap.size) (a := W0) (by go_grown) hb' (by have := hb.size; first | omega | (simp; done) | (simp; omega)); clear hb' a0_ a1_ a2_ a3_ b0_ b1_ b2_ b3_ hs; obtain ⟨a0_, a1_, a2_, a3_⟩ := (hAH.out.below hb).cells; obtain ⟨b0_, b1_, b2_, b3_⟩ := (hBH.out.below hb).cells; have hs := hb.size)) | (go_at_call 16; go_must (refine (check_any _ _ _ _ _ (by exact hTW.out.below (by go_grown)) (by first | exact hS0.out | exact hS1.out)).mono ?_; (first | rw [hC.out] | rw [hC1.out]); rintro e w' ⟨rfl, hb'⟩; replace hb := chainB (B := W0.heap.size) (a := W0) (by go_grown) hb' (by have := hb.size; first | omega | (simp; done) | (simp; omega)); clear hb' a0_ a1_ a2_ a3_ b0_ b1_ b2_ b3_ hs; obtain ⟨a0_, a1_, a2_, a3_⟩ := (hAH.out.below hb).cells; obtain ⟨b0_, b1_, b2_, b3_⟩ := (hBH.out.below hb).cells; have hs := hb.size)))
  go_ret
  exact ⟨rfl, hwWH.out.trans (hb.mono hwWH.out.size)⟩

set_option maxHeartbeats 16000000 in
set_option maxRecDepth 100000 in
theorem written_eq (k0 : Int) (b0 : Bool) (n0 : Int) (s0 : ByteArray) (w : World) (hT : Tabs w) (hs0 : s0.size ≤ 9223372036854775807) (hn0 : I64 n0) (hc : chk ⟨k0, b0, n0, s0⟩ = 0) (S : ByteArray) (N : Nat) (b4 : Bool) (hS : (⟨(printS ⟨k0, b0, n0, s0⟩).toArray⟩ : ByteArray) = S) (hsz : S.size ≤ 5000) (hcl : ∀ p, p < S.size → 32 ≤ bt S p ∧ bt S p ≠ 127) (hN : cq S S.size = N) (hv : (N : Int) % 2 = 0 ∧ (N : Int).tmod 2 = 0 ∧ decide ((N : Int) > 0) = b4 ∧ decide (0 < N) = b4 ∧ (k0 == 4) = b4 ∧ S.toList.isEmpty = false) :
    Calls Tryd.prog 14 #[.agg #[.int .u8 k0, .bool b0, .int .i64 n0, .string s0], .agg #[.int .u8 k0, .bool b0, .int .i64 n0, .string s0]] w fun e w' => e = .returned (.bool true) ∧ Below w.heap.size w w' := by
  have hP := Lib.hid hS; have hszH := Lib.hid hsz; have hclean := Lib.hid hcl; have hNH := Lib.hid hN; have hV := Lib.hid hv
  have hC := Lib.hid hc; have hS0 := Lib.hid hs0; have hI0 := Lib.hid hn0
  clear hS hsz hcl hN hv hc hs0 hn0
  have hTW0 := hT
  obtain ⟨W0, hW0, hwW, hA, hB, hzz⟩ := boxesAB w k0 b0 n0 s0 k0 b0 n0 s0
  have hTW := Lib.hid (hT.below hwW)
  have hAH := Lib.hid hA; have hBH := Lib.hid hB; have hwWH := Lib.hid hwW
  clear hT hTW0 hA hB hwW hzz
  have hb := Below.refl W0.heap.size W0
  obtain ⟨a0_, a1_, a2_, a3_⟩ := (hAH.out.below hb).cells; obtain ⟨b0_, b1_, b2_, b3_⟩ := (hBH.out.below hb).cells; have hs := hb.size
  go_enter Tryd.func14, Tryd.ntmps14
  go_wp2_with (first | (go_at_call 16; go_must (refine (check_any k0 b0 n0 s0 _ (by exact hTW.out.below (by go_grown)) hS0.out).mono ?_; rw [hC.out]; rintro e w' ⟨rfl, hb'⟩; replace hb := chainB (B := W0.heap.size) (a := W0) (by go_grown) hb' (by have := hb.size; first | omega | (simp; done) | (simp; omega)); clear hb' a0_ a1_ a2_ a3_ b0_ b1_ b2_ b3_ hs; obtain ⟨a0_, a1_, a2_, a3_⟩ := (hAH.out.below hb).cells; obtain ⟨b0_, b1_, b2_, b3_⟩ := (hBH.out.below hb).cells; have hs := hb.size)) | (go_at_call 20; go_must (refine (print_any k0 b0 n0 s0 _ (by exact hTW.out.below (by go_grown)) hS0.out hI0.out).mono ?_; rw [hP.out]; rintro e w' ⟨rfl, hb'⟩; replace hb := chainB (B := W0.heap.size) (a := W0) (by go_grown) hb' (by have := hb.size; first | omega | (simp; done) | (simp; omega)); clear hb' a0_ a1_ a2_ a3_ b0_ b1_ b2_ b3_ hs; obtain ⟨a0_, a1_, a2_, a3_⟩ := (hAH.out.below hb).cells; obtain ⟨b0_, b1_, b2_, b3_⟩ := (hBH.out.below hb).cells; have hs := hb.size)))
  go_loopw [7, 8] (fun q i wr => RelW S W0 q i wr) (fun _ i _ => S.size - (Go.RowKit.intOf i).toNat)
  case atStart => exact ⟨0, rfl, Nat.zero_le _, by simp [cq], hb⟩
  case round =>
    unfold RelW at hrel
    clear hb hs a0_ a1_ a2_ a3_ b0_ b1_ b2_ b3_
    obtain ⟨p, rfl, hp, rfl, hb⟩ := hrel
    have hszS := hszH.out
    have hq := cq_le S p
    have hbH := Lib.hid hb
    by_cases hlt : p < S.size
    · have hx0 := fun w' => idx_run S p (p : Int) rfl hlt w'
      have hst := Lib.hid (cq_step S p hlt)
      obtain ⟨d1, d2⟩ := hclean.out p hlt
      obtain ⟨c, hc⟩ : ∃ c, bt S p = c := ⟨_, rfl⟩
      rw [hc] at hx0 d1 d2
      have hcH := Lib.hid hc
      clear hc hb
      have e1 : ¬ (c : Int) < 32 := by omega
      have e2 : decide ((c : Int) < 32) = false := by simpa using e1
      have e3 : ((c : Int) == 127) = false := by simp; omega
      obtain ⟨qq, hqq⟩ : ∃ qq, cq S p = qq := ⟨_, rfl⟩
      rw [hqq] at hq ⊢
      have hqH := Lib.hid hqq
      clear hqq
      by_cases h39 : c = 39
      · have e4 : ((c : Int) == 39) = true := by simp; omega
        go_wp2_with fail
        go_roundw
        case rel => exact ⟨p + 1, by go_num, hlt, by rw [hst.out, hcH.out, if_pos h39, hqH.out]; go_num, hbH.out⟩
        case measure => simp [Go.RowKit.intOf]; omega
      · have e4 : ((c : Int) == 39) = false := by simp; omega
        go_wp2_with fail
        go_roundw
        case rel => exact ⟨p + 1, by go_num, hlt, by rw [hst.out, hcH.out, if_neg h39, hqH.out]; rfl, hbH.out⟩
        case measure => simp [Go.RowKit.intOf]; omega
    · have hpe : p = S.size := by omega
      have hN := hNH.out
      rw [← hpe] at hN
      rw [hN]
      obtain ⟨v1, v2, v3, v3n, v4, v5⟩ := hV.out
      obtain ⟨a0_, a1_, a2_, a3_⟩ := (hAH.out.below hb).cells; obtain ⟨b0_, b1_, b2_, b3_⟩ := (hBH.out.below hb).cells; have hs := hb.size
      clear hq hszS
      go_wp2_with (go_at_call 15; go_must (refine (known_any _ (by exact hTW.out.below (by go_grown))).mono ?_; rintro e w' ⟨rfl, hb'⟩; replace hb := chainB (B := W0.heap.size) (a := W0) (by go_grown) hb' (by have := hb.size; first | omega | (simp; done) | (simp; omega)); clear hb' a0_ a1_ a2_ a3_ b0_ b1_ b2_ b3_ hs; obtain ⟨a0_, a1_, a2_, a3_⟩ := (hAH.out.below hb).cells; obtain ⟨b0_, b1_, b2_, b3_⟩ := (hBH.out.below hb).cells; have hs := hb.size))
      go_ret
      exact ⟨rfl, hwWH.out.trans (hb.mono hwWH.out.size)⟩

set_option maxHeartbeats 16000000 in
set_option maxRecDepth 100000 in
theorem written_k (k0 : Int) (b0 : Bool) (n0 : Int) (s0 : ByteArray) (k1 : Int) (b1 : Bool) (n1 : Int) (s1 : ByteArray) (w : World) (hT : Tabs w) (hs0 : s0.size ≤ 9223372036854775807) (hn0 : I64 n0) (hc : chk ⟨k0, b0, n0, s0⟩ = 0) (hs1 : s1.size ≤ 9223372036854775807) (hn1 : I64 n1) (hc1 : chk ⟨k1, b1, n1, s1⟩ = 0) (hdif : ¬ k0 = k1) (R : ByteArray) (hR : (⟨(printS ⟨k1, b1, n1, s1⟩).toArray⟩ : ByteArray) = R) (S : ByteArray) (N : Nat) (b4 : Bool) (hS : (⟨(printS ⟨k0, b0, n0, s0⟩).toArray⟩ : ByteArray) = S) (hsz : S.size ≤ 5000) (hcl : ∀ p, p < S.size → 32 ≤ bt S p ∧ bt S p ≠ 127) (hN : cq S S.size = N) (hv : (N : Int) % 2 = 0 ∧ (N : Int).tmod 2 = 0 ∧ decide ((N : Int) > 0) = b4 ∧ decide (0 < N) = b4 ∧ (k0 == 4) = b4 ∧ S.toList.isEmpty = false) (hSR : ¬ S = R) :
    Calls Tryd.prog 14 #[.agg #[.int .u8 k0, .bool b0, .int .i64 n0, .string s0], .agg #[.int .u8 k1, .bool b1, .int .i64 n1, .string s1]] w fun e w' => e = .returned (.bool true) ∧ Below w.heap.size w w' := by
  have hP := Lib.hid hS; have hszH := Lib.hid hsz; have hclean := Lib.hid hcl; have hNH := Lib.hid hN; have hV := Lib.hid hv
  have hC := Lib.hid hc; have hS0 := Lib.hid hs0; have hI0 := Lib.hid hn0
  clear hS hsz hcl hN hv hc hs0 hn0
  have hSRH := Lib.hid hSR; have hP1 := Lib.hid hR; have hC1 := Lib.hid hc1; have hS1 := Lib.hid hs1; have hI1 := Lib.hid hn1
  have f1 : ¬ k0 = k1 := hdif
  have f2 : (k0 == k1) = false := by simpa using f1
  have fH := Lib.hid (And.intro f1 f2)
  clear hSR hR hc1 hs1 hn1 hdif f1 f2
  have hTW0 := hT
  obtain ⟨W0, hW0, hwW, hA, hB, hzz⟩ := boxesAB w k0 b0 n0 s0 k1 b1 n1 s1
  have hTW := Lib.hid (hT.below hwW)
  have hAH := Lib.hid hA; have hBH := Lib.hid hB; have hwWH := Lib.hid hwW
  clear hT hTW0 hA hB hwW hzz
  have hb := Below.refl W0.heap.size W0
  obtain ⟨a0_, a1_, a2_, a3_⟩ := (hAH.out.below hb).cells; obtain ⟨b0_, b1_, b2_, b3_⟩ := (hBH.out.below hb).cells; have hs := hb.size
  go_enter Tryd.func14, Tryd.ntmps14
  go_wp2_with (first | (go_at_call 16; go_must (refine (check_any _ _ _ _ _ (by exact hTW.out.below (by go_grown)) (by first | exact hS0.out | exact hS1.out)).mono ?_; (first | rw [hC.out] | rw [hC1.out]); rintro e w' ⟨rfl, hb'⟩; replace hb := chainB (B := W0.heap.size) (a := W0) (by go_grown) hb' (by have := hb.size; first | omega | (simp; done) | (simp; omega)); clear hb' a0_ a1_ a2_ a3_ b0_ b1_ b2_ b3_ hs; obtain ⟨a0_, a1_, a2_, a3_⟩ := (hAH.out.below hb).cells; obtain ⟨b0_, b1_, b2_, b3_⟩ := (hBH.out.below hb).cells; have hs := hb.size)) | (go_at_call 20; go_must (refine (print_any _ _ _ _ _ (by exact hTW.out.below (by go_grown)) (by first | exact hS0.out | exact hS1.out) (by first | exact hI0.out | exact hI1.out)).mono ?_; (first | rw [hP.out] | rw [hP1.out]); rintro e w' ⟨rfl, hb'⟩; replace hb := chainB (B := W0.heap.size) (a := W0) (by go_grown) hb' (by have := hb.size; first | omega | (simp; done) | (simp; omega)); clear hb' a0_ a1_ a2_ a3_ b0_ b1_ b2_ b3_ hs; obtain ⟨a0_, a1_, a2_, a3_⟩ := (hAH.out.below hb).cells; obtain ⟨b0_, b1_, b2_, b3_⟩ := (hBH.out.below hb).cells; have hs := hb.size)))
  go_loopw [7, 8] (fun q i wr => RelW S W0 q i wr) (fun _ i _ => S.size - (Go.RowKit.intOf i).toNat)
  case atStart => exact ⟨0, rfl, Nat.zero_le _, by simp [cq], hb⟩
  case round =>
    unfold RelW at hrel
    clear hb hs a0_ a1_ a2_ a3_ b0_ b1_ b2_ b3_
    obtain ⟨p, rfl, hp, rfl, hb⟩ := hrel
    have hszS := hszH.out
    have hq := cq_le S p
    have hbH := Lib.hid hb
    by_cases hlt : p < S.size
    · have hx0 := fun w' => idx_run S p (p : Int) rfl hlt w'
      have hst := Lib.hid (cq_step S p hlt)
      obtain ⟨d1, d2⟩ := hclean.out p hlt
      obtain ⟨c, hc⟩ : ∃ c, bt S p = c := ⟨_, rfl⟩
      rw [hc] at hx0 d1 d2
      have hcH := Lib.hid hc
      clear hc hb
      have e1 : ¬ (c : Int) < 32 := by omega
      have e2 : decide ((c : Int) < 32) = false := by simpa using e1
      have e3 : ((c : Int) == 127) = false := by simp; omega
      obtain ⟨qq, hqq⟩ : ∃ qq, cq S p = qq := ⟨_, rfl⟩
      rw [hqq] at hq ⊢
      have hqH := Lib.hid hqq
      clear hqq
      by_cases h39 : c = 39
      · have e4 : ((c : Int) == 39) = true := by simp; omega
        go_wp2_with fail
        go_roundw
        case rel => exact ⟨p + 1, by go_num, hlt, by rw [hst.out, hcH.out, if_pos h39, hqH.out]; go_num, hbH.out⟩
        case measure => simp [Go.RowKit.intOf]; omega
      · have e4 : ((c : Int) == 39) = false := by simp; omega
        go_wp2_with fail
        go_roundw
        case rel => exact ⟨p + 1, by go_num, hlt, by rw [hst.out, hcH.out, if_neg h39, hqH.out]; rfl, hbH.out⟩
        case measure => simp [Go.RowKit.intOf]; omega
    · have hpe : p = S.size := by omega
      have hN := hNH.out
      rw [← hpe] at hN
      rw [hN]
      obtain ⟨v1, v2, v3, v3n, v4, v5⟩ := hV.out
      obtain ⟨a0_, a1_, a2_, a3_⟩ := (hAH.out.below hb).cells; obtain ⟨b0_, b1_, b2_, b3_⟩ := (hBH.out.below hb).cells; have hs := hb.size
      clear hq hszS
      have q1 := hSRH.out
      have q3 : ¬ S.toList = R.toList := fun e => q1 (toList_inj e)
      have q4 : (S.toList == R.toList) = false := by simpa using q3
      obtain ⟨f1, f2⟩ := fH.out
      go_wp2_with (go_at_call 15; go_must (refine (known_any _ (by exact hTW.out.below (by go_grown))).mono ?_; rintro e w' ⟨rfl, hb'⟩; replace hb := chainB (B := W0.heap.size) (a := W0) (by go_grown) hb' (by have := hb.size; first | omega | (simp; done) | (simp; omega)); clear hb' a0_ a1_ a2_ a3_ b0_ b1_ b2_ b3_ hs; obtain ⟨a0_, a1_, a2_, a3_⟩ := (hAH.out.below hb).cells; obtain ⟨b0_, b1_, b2_, b3_⟩ := (hBH.out.below hb).cells; have hs := hb.size))
      go_ret
      exact ⟨rfl, hwWH.out.trans (hb.mono hwWH.out.size)⟩

set_option maxHeartbeats 16000000 in
set_option maxRecDepth 100000 in
theorem written_b_ (k0 : Int) (b0 : Bool) (n0 : Int) (s0 : ByteArray) (b1 : Bool) (n1 : Int) (s1 : ByteArray) (w : World) (hT : Tabs w) (hs0 : s0.size ≤ 9223372036854775807) (hn0 : I64 n0) (hc : chk ⟨k0, b0, n0, s0⟩ = 0) (hs1 : s1.size ≤ 9223372036854775807) (hn1 : I64 n1) (hc1 : chk ⟨k0, b1, n1, s1⟩ = 0) (hdif : ¬ b0 = b1) (R : ByteArray) (hR : (⟨(printS ⟨k0, b1, n1, s1⟩).toArray⟩ : ByteArray) = R) (S : ByteArray) (N : Nat) (b4 : Bool) (hS : (⟨(printS ⟨k0, b0, n0, s0⟩).toArray⟩ : ByteArray) = S) (hsz : S.size ≤ 5000) (hcl : ∀ p, p < S.size → 32 ≤ bt S p ∧ bt S p ≠ 127) (hN : cq S S.size = N) (hv : (N : Int) % 2 = 0 ∧ (N : Int).tmod 2 = 0 ∧ decide ((N : Int) > 0) = b4 ∧ decide (0 < N) = b4 ∧ (k0 == 4) = b4 ∧ S.toList.isEmpty = false) (hSR : ¬ S = R) :
    Calls Tryd.prog 14 #[.agg #[.int .u8 k0, .bool b0, .int .i64 n0, .string s0], .agg #[.int .u8 k0, .bool b1, .int .i64 n1, .string s1]] w fun e w' => e = .returned (.bool true) ∧ Below w.heap.size w w' := by
  have hP := Lib.hid hS; have hszH := Lib.hid hsz; have hclean := Lib.hid hcl; have hNH := Lib.hid hN; have hV := Lib.hid hv
  have hC := Lib.hid hc; have hS0 := Lib.hid hs0; have hI0 := Lib.hid hn0
  clear hS hsz hcl hN hv hc hs0 hn0
  have hSRH := Lib.hid hSR; have hP1 := Lib.hid hR; have hC1 := Lib.hid hc1; have hS1 := Lib.hid hs1; have hI1 := Lib.hid hn1
  have f1 : ¬ b0 = b1 := hdif
  have f2 : (b0 == b1) = false := by simpa using f1
  have fH := Lib.hid (And.intro f1 f2)
  clear hSR hR hc1 hs1 hn1 hdif f1 f2
  have hTW0 := hT
  obtain ⟨W0, hW0, hwW, hA, hB, hzz⟩ := boxesAB w k0 b0 n0 s0 k0 b1 n1 s1
  have hTW := Lib.hid (hT.below hwW)
  have hAH := Lib.hid hA; have hBH := Lib.hid hB; have hwWH := Lib.hid hwW
  clear hT hTW0 hA hB hwW hzz
  have hb := Below.refl W0.heap.size W0
  obtain ⟨a0_, a1_, a2_, a3_⟩ := (hAH.out.below hb).cells; obtain ⟨b0_, b1_, b2_, b3_⟩ := (hBH.out.below hb).cells; have hs := hb.size
  go_enter Tryd.func14, Tryd.ntmps14
  go_wp2_with (first | (go_at_call 16; go_must (refine (check_any _ _ _ _ _ (by exact hTW.out.below (by go_grown)) (by first | exact hS0.out | exact hS1.out)).mono ?_; (first | rw [hC.out] | rw [hC1.out]); rintro e w' ⟨rfl, hb'⟩; replace hb := chainB (B := W0.heap.size) (a := W0) (by go_grown) hb' (by have := hb.size; first | omega | (simp; done) | (simp; omega)); clear hb' a0_ a1_ a2_ a3_ b0_ b1_ b2_ b3_ hs; obtain ⟨a0_, a1_, a2_, a3_⟩ := (hAH.out.below hb).cells; obtain ⟨b0_, b1_, b2_, b3_⟩ := (hBH.out.below hb).cells; have hs := hb.size)) | (go_at_call 20; go_must (refine (print_any _ _ _ _ _ (by exact hTW.out.below (by go_grown)) (by first | exact hS0.out | exact hS1.out) (by first | exact hI0.out | exact hI1.out)).mono ?_; (first | rw [hP.out] | rw [hP1.out]); rintro e w' ⟨rfl, hb'⟩; replace hb := chainB (B := W0.heap.size) (a := W0) (by go_grown) hb' (by have := hb.size; first | omega | (simp; done) | (simp; omega)); clear hb' a0_ a1_ a2_ a3_ b0_ b1_ b2_ b3_ hs; obtain ⟨a0_, a1_, a2_, a3_⟩ := (hAH.out.below hb).cells; obtain ⟨b0_, b1_, b2_, b3_⟩ := (hBH.out.below hb).cells; have hs := hb.size)))
  go_loopw [7, 8] (fun q i wr => RelW S W0 q i wr) (fun _ i _ => S.size - (Go.RowKit.intOf i).toNat)
  case atStart => exact ⟨0, rfl, Nat.zero_le _, by simp [cq], hb⟩
  case round =>
    unfold RelW at hrel
    clear hb hs a0_ a1_ a2_ a3_ b0_ b1_ b2_ b3_
    obtain ⟨p, rfl, hp, rfl, hb⟩ := hrel
    have hszS := hszH.out
    have hq := cq_le S p
    have hbH := Lib.hid hb
    by_cases hlt : p < S.size
    · have hx0 := fun w' => idx_run S p (p : Int) rfl hlt w'
      have hst := Lib.hid (cq_step S p hlt)
      obtain ⟨d1, d2⟩ := hclean.out p hlt
      obtain ⟨c, hc⟩ : ∃ c, bt S p = c := ⟨_, rfl⟩
      rw [hc] at hx0 d1 d2
      have hcH := Lib.hid hc
      clear hc hb
      have e1 : ¬ (c : Int) < 32 := by omega
      have e2 : decide ((c : Int) < 32) = false := by simpa using e1
      have e3 : ((c : Int) == 127) = false := by simp; omega
      obtain ⟨qq, hqq⟩ : ∃ qq, cq S p = qq := ⟨_, rfl⟩
      rw [hqq] at hq ⊢
      have hqH := Lib.hid hqq
      clear hqq
      by_cases h39 : c = 39
      · have e4 : ((c : Int) == 39) = true := by simp; omega
        go_wp2_with fail
        go_roundw
        case rel => exact ⟨p + 1, by go_num, hlt, by rw [hst.out, hcH.out, if_pos h39, hqH.out]; go_num, hbH.out⟩
        case measure => simp [Go.RowKit.intOf]; omega
      · have e4 : ((c : Int) == 39) = false := by simp; omega
        go_wp2_with fail
        go_roundw
        case rel => exact ⟨p + 1, by go_num, hlt, by rw [hst.out, hcH.out, if_neg h39, hqH.out]; rfl, hbH.out⟩
        case measure => simp [Go.RowKit.intOf]; omega
    · have hpe : p = S.size := by omega
      have hN := hNH.out
      rw [← hpe] at hN
      rw [hN]
      obtain ⟨v1, v2, v3, v3n, v4, v5⟩ := hV.out
      obtain ⟨a0_, a1_, a2_, a3_⟩ := (hAH.out.below hb).cells; obtain ⟨b0_, b1_, b2_, b3_⟩ := (hBH.out.below hb).cells; have hs := hb.size
      clear hq hszS
      have q1 := hSRH.out
      have q3 : ¬ S.toList = R.toList := fun e => q1 (toList_inj e)
      have q4 : (S.toList == R.toList) = false := by simpa using q3
      obtain ⟨f1, f2⟩ := fH.out
      go_wp2_with (go_at_call 15; go_must (refine (known_any _ (by exact hTW.out.below (by go_grown))).mono ?_; rintro e w' ⟨rfl, hb'⟩; replace hb := chainB (B := W0.heap.size) (a := W0) (by go_grown) hb' (by have := hb.size; first | omega | (simp; done) | (simp; omega)); clear hb' a0_ a1_ a2_ a3_ b0_ b1_ b2_ b3_ hs; obtain ⟨a0_, a1_, a2_, a3_⟩ := (hAH.out.below hb).cells; obtain ⟨b0_, b1_, b2_, b3_⟩ := (hBH.out.below hb).cells; have hs := hb.size))
      go_ret
      exact ⟨rfl, hwWH.out.trans (hb.mono hwWH.out.size)⟩

set_option maxHeartbeats 16000000 in
set_option maxRecDepth 100000 in
theorem written_n (k0 : Int) (b0 : Bool) (n0 : Int) (s0 : ByteArray) (n1 : Int) (s1 : ByteArray) (w : World) (hT : Tabs w) (hs0 : s0.size ≤ 9223372036854775807) (hn0 : I64 n0) (hc : chk ⟨k0, b0, n0, s0⟩ = 0) (hs1 : s1.size ≤ 9223372036854775807) (hn1 : I64 n1) (hc1 : chk ⟨k0, b0, n1, s1⟩ = 0) (hdif : ¬ n0 = n1) (R : ByteArray) (hR : (⟨(printS ⟨k0, b0, n1, s1⟩).toArray⟩ : ByteArray) = R) (S : ByteArray) (N : Nat) (b4 : Bool) (hS : (⟨(printS ⟨k0, b0, n0, s0⟩).toArray⟩ : ByteArray) = S) (hsz : S.size ≤ 5000) (hcl : ∀ p, p < S.size → 32 ≤ bt S p ∧ bt S p ≠ 127) (hN : cq S S.size = N) (hv : (N : Int) % 2 = 0 ∧ (N : Int).tmod 2 = 0 ∧ decide ((N : Int) > 0) = b4 ∧ decide (0 < N) = b4 ∧ (k0 == 4) = b4 ∧ S.toList.isEmpty = false) (hSR : ¬ S = R) :
    Calls Tryd.prog 14 #[.agg #[.int .u8 k0, .bool b0, .int .i64 n0, .string s0], .agg #[.int .u8 k0, .bool b0, .int .i64 n1, .string s1]] w fun e w' => e = .returned (.bool true) ∧ Below w.heap.size w w' := by
  have hP := Lib.hid hS; have hszH := Lib.hid hsz; have hclean := Lib.hid hcl; have hNH := Lib.hid hN; have hV := Lib.hid hv
  have hC := Lib.hid hc; have hS0 := Lib.hid hs0; have hI0 := Lib.hid hn0
  clear hS hsz hcl hN hv hc hs0 hn0
  have hSRH := Lib.hid hSR; have hP1 := Lib.hid hR; have hC1 := Lib.hid hc1; have hS1 := Lib.hid hs1; have hI1 := Lib.hid hn1
  have f1 : ¬ n0 = n1 := hdif
  have f2 : (n0 == n1) = false := by simpa using f1
  have fH := Lib.hid (And.intro f1 f2)
  clear hSR hR hc1 hs1 hn1 hdif f1 f2
  have hTW0 := hT
  obtain ⟨W0, hW0, hwW, hA, hB, hzz⟩ := boxesAB w k0 b0 n0 s0 k0 b0 n1 s1
  have hTW := Lib.hid (hT.below hwW)
  have hAH := Lib.hid hA; have hBH := Lib.hid hB; have hwWH := Lib.hid hwW
  clear hT hTW0 hA hB hwW hzz
  have hb := Below.refl W0.heap.size W0
  obtain ⟨a0_, a1_, a2_, a3_⟩ := (hAH.out.below hb).cells; obtain ⟨b0_, b1_, b2_, b3_⟩ := (hBH.out.below hb).cells; have hs := hb.size
  go_enter Tryd.func14, Tryd.ntmps14
  go_wp2_with (first | (go_at_call 16; go_must (refine (check_any _ _ _ _ _ (by exact hTW.out.below (by go_grown)) (by first | exact hS0.out | exact hS1.out)).mono ?_; (first | rw [hC.out] | rw [hC1.out]); rintro e w' ⟨rfl, hb'⟩; replace hb := chainB (B := W0.heap.size) (a := W0) (by go_grown) hb' (by have := hb.size; first | omega | (simp; done) | (simp; omega)); clear hb' a0_ a1_ a2_ a3_ b0_ b1_ b2_ b3_ hs; obtain ⟨a0_, a1_, a2_, a3_⟩ := (hAH.out.below hb).cells; obtain ⟨b0_, b1_, b2_, b3_⟩ := (hBH.out.below hb).cells; have hs := hb.size)) | (go_at_call 20; go_must (refine (print_any _ _ _ _ _ (by exact hTW.out.below (by go_grown)) (by first | exact hS0.out | exact hS1.out) (by first | exact hI0.out | exact hI1.out)).mono ?_; (first | rw [hP.out] | rw [hP1.out]); rintro e w' ⟨rfl, hb'⟩; replace hb := chainB (B := W0.heap.size) (a := W0) (by go_grown) hb' (by have := hb.size; first | omega | (simp; done) | (simp; omega)); clear hb' a0_ a1_ a2_ a3_ b0_ b1_ b2_ b3_ hs; obtain ⟨a0_, a1_, a2_, a3_⟩ := (hAH.out.below hb).cells; obtain ⟨b0_, b1_, b2_, b3_⟩ := (hBH.out.below hb).cells; have hs := hb.size)))
  go_loopw [7, 8] (fun q i wr => RelW S W0 q i wr) (fun _ i _ => S.size - (Go.RowKit.intOf i).toNat)
  case atStart => exact ⟨0, rfl, Nat.zero_le _, by simp [cq], hb⟩
  case round =>
    unfold RelW at hrel
    clear hb hs a0_ a1_ a2_ a3_ b0_ b1_ b2_ b3_
    obtain ⟨p, rfl, hp, rfl, hb⟩ := hrel
    have hszS := hszH.out
    have hq := cq_le S p
    have hbH := Lib.hid hb
    by_cases hlt : p < S.size
    · have hx0 := fun w' => idx_run S p (p : Int) rfl hlt w'
      have hst := Lib.hid (cq_step S p hlt)
      obtain ⟨d1, d2⟩ := hclean.out p hlt
      obtain ⟨c, hc⟩ : ∃ c, bt S p = c := ⟨_, rfl⟩
      rw [hc] at hx0 d1 d2
      have hcH := Lib.hid hc
      clear hc hb
      have e1 : ¬ (c : Int) < 32 := by omega
      have e2 : decide ((c : Int) < 32) = false := by simpa using e1
      have e3 : ((c : Int) == 127) = false := by simp; omega
      obtain ⟨qq, hqq⟩ : ∃ qq, cq S p = qq := ⟨_, rfl⟩
      rw [hqq] at hq ⊢
      have hqH := Lib.hid hqq
      clear hqq
      by_cases h39 : c = 39
      · have e4 : ((c : Int) == 39) = true := by simp; omega
        go_wp2_with fail
        go_roundw
        case rel => exact ⟨p + 1, by go_num, hlt, by rw [hst.out, hcH.out, if_pos h39, hqH.out]; go_num, hbH.out⟩
        case measure => simp [Go.RowKit.intOf]; omega
      · have e4 : ((c : Int) == 39) = false := by simp; omega
        go_wp2_with fail
        go_roundw
        case rel => exact ⟨p + 1, by go_num, hlt, by rw [hst.out, hcH.out, if_neg h39, hqH.out]; rfl, hbH.out⟩
        case measure => simp [Go.RowKit.intOf]; omega
    · have hpe : p = S.size := by omega
      have hN := hNH.out
      rw [← hpe] at hN
      rw [hN]
      obtain ⟨v1, v2, v3, v3n, v4, v5⟩ := hV.out
      obtain ⟨a0_, a1_, a2_, a3_⟩ := (hAH.out.below hb).cells; obtain ⟨b0_, b1_, b2_, b3_⟩ := (hBH.out.below hb).cells; have hs := hb.size
      clear hq hszS
      have q1 := hSRH.out
      have q3 : ¬ S.toList = R.toList := fun e => q1 (toList_inj e)
      have q4 : (S.toList == R.toList) = false := by simpa using q3
      obtain ⟨f1, f2⟩ := fH.out
      go_wp2_with (go_at_call 15; go_must (refine (known_any _ (by exact hTW.out.below (by go_grown))).mono ?_; rintro e w' ⟨rfl, hb'⟩; replace hb := chainB (B := W0.heap.size) (a := W0) (by go_grown) hb' (by have := hb.size; first | omega | (simp; done) | (simp; omega)); clear hb' a0_ a1_ a2_ a3_ b0_ b1_ b2_ b3_ hs; obtain ⟨a0_, a1_, a2_, a3_⟩ := (hAH.out.below hb).cells; obtain ⟨b0_, b1_, b2_, b3_⟩ := (hBH.out.below hb).cells; have hs := hb.size))
      go_ret
      exact ⟨rfl, hwWH.out.trans (hb.mono hwWH.out.size)⟩

set_option maxHeartbeats 16000000 in
set_option maxRecDepth 100000 in
theorem written_s (k0 : Int) (b0 : Bool) (n0 : Int) (s0 : ByteArray) (s1 : ByteArray) (w : World) (hT : Tabs w) (hs0 : s0.size ≤ 9223372036854775807) (hn0 : I64 n0) (hc : chk ⟨k0, b0, n0, s0⟩ = 0) (hs1 : s1.size ≤ 9223372036854775807) (hn1 : I64 n0) (hc1 : chk ⟨k0, b0, n0, s1⟩ = 0) (hdif : ¬ s0 = s1) (R : ByteArray) (hR : (⟨(printS ⟨k0, b0, n0, s1⟩).toArray⟩ : ByteArray) = R) (S : ByteArray) (N : Nat) (b4 : Bool) (hS : (⟨(printS ⟨k0, b0, n0, s0⟩).toArray⟩ : ByteArray) = S) (hsz : S.size ≤ 5000) (hcl : ∀ p, p < S.size → 32 ≤ bt S p ∧ bt S p ≠ 127) (hN : cq S S.size = N) (hv : (N : Int) % 2 = 0 ∧ (N : Int).tmod 2 = 0 ∧ decide ((N : Int) > 0) = b4 ∧ decide (0 < N) = b4 ∧ (k0 == 4) = b4 ∧ S.toList.isEmpty = false) (hSR : ¬ S = R) :
    Calls Tryd.prog 14 #[.agg #[.int .u8 k0, .bool b0, .int .i64 n0, .string s0], .agg #[.int .u8 k0, .bool b0, .int .i64 n0, .string s1]] w fun e w' => e = .returned (.bool true) ∧ Below w.heap.size w w' := by
  have hP := Lib.hid hS; have hszH := Lib.hid hsz; have hclean := Lib.hid hcl; have hNH := Lib.hid hN; have hV := Lib.hid hv
  have hC := Lib.hid hc; have hS0 := Lib.hid hs0; have hI0 := Lib.hid hn0
  clear hS hsz hcl hN hv hc hs0 hn0
  have hSRH := Lib.hid hSR; have hP1 := Lib.hid hR; have hC1 := Lib.hid hc1; have hS1 := Lib.hid hs1; have hI1 := Lib.hid hn1
  have f1 : ¬ s0.toList = s1.toList := fun e => hdif (toList_inj e)
  have f2 : (s0.toList == s1.toList) = false := by simpa using f1
  have fH := Lib.hid (And.intro f1 f2)
  clear hSR hR hc1 hs1 hn1 hdif f1 f2
  have hTW0 := hT
  obtain ⟨W0, hW0, hwW, hA, hB, hzz⟩ := boxesAB w k0 b0 n0 s0 k0 b0 n0 s1
  have hTW := Lib.hid (hT.below hwW)
  have hAH := Lib.hid hA; have hBH := Lib.hid hB; have hwWH := Lib.hid hwW
  clear hT hTW0 hA hB hwW hzz
  have hb := Below.refl W0.heap.size W0
  obtain ⟨a0_, a1_, a2_, a3_⟩ := (hAH.out.below hb).cells; obtain ⟨b0_, b1_, b2_, b3_⟩ := (hBH.out.below hb).cells; have hs := hb.size
  go_enter Tryd.func14, Tryd.ntmps14
  go_wp2_with (first | (go_at_call 16; go_must (refine (check_any _ _ _ _ _ (by exact hTW.out.below (by go_grown)) (by first | exact hS0.out | exact hS1.out)).mono ?_; (first | rw [hC.out] | rw [hC1.out]); rintro e w' ⟨rfl, hb'⟩; replace hb := chainB (B := W0.heap.size) (a := W0) (by go_grown) hb' (by have := hb.size; first | omega | (simp; done) | (simp; omega)); clear hb' a0_ a1_ a2_ a3_ b0_ b1_ b2_ b3_ hs; obtain ⟨a0_, a1_, a2_, a3_⟩ := (hAH.out.below hb).cells; obtain ⟨b0_, b1_, b2_, b3_⟩ := (hBH.out.below hb).cells; have hs := hb.size)) | (go_at_call 20; go_must (refine (print_any _ _ _ _ _ (by exact hTW.out.below (by go_grown)) (by first | exact hS0.out | exact hS1.out) (by first | exact hI0.out | exact hI1.out)).mono ?_; (first | rw [hP.out] | rw [hP1.out]); rintro e w' ⟨rfl, hb'⟩; replace hb := chainB (B := W0.heap.size) (a := W0) (by go_grown) hb' (by have := hb.size; first | omega | (simp; done) | (simp; omega)); clear hb' a0_ a1_ a2_ a3_ b0_ b1_ b2_ b3_ hs; obtain ⟨a0_, a1_, a2_, a3_⟩ := (hAH.out.below hb).cells; obtain ⟨b0_, b1_, b2_, b3_⟩ := (hBH.out.below hb).cells; have hs := hb.size)))
  go_loopw [7, 8] (fun q i wr => RelW S W0 q i wr) (fun _ i _ => S.size - (Go.RowKit.intOf i).toNat)
  case atStart => exact ⟨0, rfl, Nat.zero_le _, by simp [cq], hb⟩
  case round =>
    unfold RelW at hrel
    clear hb hs a0_ a1_ a2_ a3_ b0_ b1_ b2_ b3_
    obtain ⟨p, rfl, hp, rfl, hb⟩ := hrel
    have hszS := hszH.out
    have hq := cq_le S p
    have hbH := Lib.hid hb
    by_cases hlt : p < S.size
    · have hx0 := fun w' => idx_run S p (p : Int) rfl hlt w'
      have hst := Lib.hid (cq_step S p hlt)
      obtain ⟨d1, d2⟩ := hclean.out p hlt
      obtain ⟨c, hc⟩ : ∃ c, bt S p = c := ⟨_, rfl⟩
      rw [hc] at hx0 d1 d2
      have hcH := Lib.hid hc
      clear hc hb
      have e1 : ¬ (c : Int) < 32 := by omega
      have e2 : decide ((c : Int) < 32) = false := by simpa using e1
      have e3 : ((c : Int) == 127) = false := by simp; omega
      obtain ⟨qq, hqq⟩ : ∃ qq, cq S p = qq := ⟨_, rfl⟩
      rw [hqq] at hq ⊢
      have hqH := Lib.hid hqq
      clear hqq
      by_cases h39 : c = 39
      · have e4 : ((c : Int) == 39) = true := by simp; omega
        go_wp2_with fail
        go_roundw
        case rel => exact ⟨p + 1, by go_num, hlt, by rw [hst.out, hcH.out, if_pos h39, hqH.out]; go_num, hbH.out⟩
        case measure => simp [Go.RowKit.intOf]; omega
      · have e4 : ((c : Int) == 39) = false := by simp; omega
        go_wp2_with fail
        go_roundw
        case rel => exact ⟨p + 1, by go_num, hlt, by rw [hst.out, hcH.out, if_neg h39, hqH.out]; rfl, hbH.out⟩
        case measure => simp [Go.RowKit.intOf]; omega
    · have hpe : p = S.size := by omega
      have hN := hNH.out
      rw [← hpe] at hN
      rw [hN]
      obtain ⟨v1, v2, v3, v3n, v4, v5⟩ := hV.out
      obtain ⟨a0_, a1_, a2_, a3_⟩ := (hAH.out.below hb).cells; obtain ⟨b0_, b1_, b2_, b3_⟩ := (hBH.out.below hb).cells; have hs := hb.size
      clear hq hszS
      have q1 := hSRH.out
      have q3 : ¬ S.toList = R.toList := fun e => q1 (toList_inj e)
      have q4 : (S.toList == R.toList) = false := by simpa using q3
      obtain ⟨f1, f2⟩ := fH.out
      go_wp2_with (go_at_call 15; go_must (refine (known_any _ (by exact hTW.out.below (by go_grown))).mono ?_; rintro e w' ⟨rfl, hb'⟩; replace hb := chainB (B := W0.heap.size) (a := W0) (by go_grown) hb' (by have := hb.size; first | omega | (simp; done) | (simp; omega)); clear hb' a0_ a1_ a2_ a3_ b0_ b1_ b2_ b3_ hs; obtain ⟨a0_, a1_, a2_, a3_⟩ := (hAH.out.below hb).cells; obtain ⟨b0_, b1_, b2_, b3_⟩ := (hBH.out.below hb).cells; have hs := hb.size))
      go_ret
      exact ⟨rfl, hwWH.out.trans (hb.mono hwWH.out.size)⟩

/-- DatumWritten, of all data. -/
theorem written_any (k0 : Int) (b0 : Bool) (n0 : Int) (s0 : ByteArray) (k1 : Int) (b1 : Bool) (n1 : Int) (s1 : ByteArray) (w : World) (hT : Tabs w) (hs0 : s0.size ≤ 9223372036854775807) (hn0 : I64 n0) (hk0 : 0 ≤ k0 ∧ k0 ≤ 255) (hs1 : s1.size ≤ 9223372036854775807) (hn1 : I64 n1) (hk1 : 0 ≤ k1 ∧ k1 ≤ 255) :
    Calls Tryd.prog 14 #[.agg #[.int .u8 k0, .bool b0, .int .i64 n0, .string s0], .agg #[.int .u8 k1, .bool b1, .int .i64 n1, .string s1]] w fun e w' => e = .returned (.bool true) ∧ Below w.heap.size w w' := by
  by_cases hc : chk ⟨k0, b0, n0, s0⟩ = 0
  case neg => exact written_a k0 b0 n0 s0 k1 b1 n1 s1 w hT hs0 hc
  by_cases hc1 : chk ⟨k1, b1, n1, s1⟩ = 0
  case neg => exact written_b k0 b0 n0 s0 k1 b1 n1 s1 w hT hs0 hs1 hc hc1
  have ok0 : okD ⟨k0, b0, n0, s0⟩ = true := by unfold okD; simpa using hc
  have ok1 : okD ⟨k1, b1, n1, s1⟩ = true := by unfold okD; simpa using hc1
  obtain ⟨l, hl⟩ : ∃ l, printS ⟨k0, b0, n0, s0⟩ = l := ⟨_, rfl⟩
  have hlen := print_len ok0 hn0
  have hcl := print_clean ok0
  have hqu := print_quotes ok0
  have hnn := print_ne ok0
  rw [hl] at hlen hcl hqu hnn
  have hsize : (⟨l.toArray⟩ : ByteArray).size = l.length := by show l.toArray.size = l.length; simp
  have hsz : (⟨l.toArray⟩ : ByteArray).size ≤ 5000 := by omega
  have hcl2 : ∀ p, p < (⟨l.toArray⟩ : ByteArray).size → 32 ≤ bt ⟨l.toArray⟩ p ∧ bt ⟨l.toArray⟩ p ≠ 127 := by
    intro p hp
    obtain ⟨b, hb, e⟩ := bt_list l p (by omega)
    rw [e]
    exact hcl b hb
  have hN : cq ⟨l.toArray⟩ (⟨l.toArray⟩ : ByteArray).size = l.count 39 := by rw [cq_all]
  have hv : ((l.count 39 : Nat) : Int) % 2 = 0 ∧ ((l.count 39 : Nat) : Int).tmod 2 = 0 ∧ decide (((l.count 39 : Nat) : Int) > 0) = (k0 == 4) ∧ decide (0 < l.count 39) = (k0 == 4) ∧ (k0 == 4) = (k0 == 4) ∧ (⟨l.toArray⟩ : ByteArray).toList.isEmpty = false := by
    have h2 : (0 < l.count 39) ↔ k0 = 4 := hqu.2
    have h3 : decide (0 < l.count 39) = (k0 == 4) := by
      by_cases g : k0 = 4
      · have e1 := h2.2 g
        rw [decide_eq_true e1]
        simp [g]
      · have e1 : ¬ 0 < l.count 39 := fun e => g (h2.1 e)
        rw [decide_eq_false e1]
        simp [g]
    refine ⟨by omega, ?_, ?_, h3, rfl, ?_⟩
    · have : ((l.count 39 : Nat) : Int).tmod 2 = ((l.count 39 % 2 : Nat) : Int) := rfl
      rw [this, hqu.1]; rfl
    · rw [← h3]
      by_cases g : 0 < l.count 39
      · rw [decide_eq_true g]
        exact decide_eq_true (by omega)
      · rw [decide_eq_false g]
        exact decide_eq_false (by omega)
    · rw [toList_size, hsize]
      have : ¬ l.length = 0 := fun e => hnn (List.length_eq_zero_iff.1 e)
      simpa using this
  by_cases he : (⟨k0, b0, n0, s0⟩ : Dat) = ⟨k1, b1, n1, s1⟩
  · obtain ⟨rfl, rfl, rfl, rfl⟩ := Dat.mk.inj he
    exact written_eq k0 b0 n0 s0 w hT hs0 hn0 hc ⟨l.toArray⟩ _ _ (by rw [hl]) hsz hcl2 hN hv
  · have hSR : ¬ (⟨l.toArray⟩ : ByteArray) = ⟨(printS ⟨k1, b1, n1, s1⟩).toArray⟩ := by
      intro e
      refine he (print_inj ok0 ok1 ?_)
      have := congrArg (fun x : ByteArray => x.data.toList) e
      simpa [hl] using this
    by_cases ek : k0 = k1
    case neg => exact written_k k0 b0 n0 s0 k1 b1 n1 s1 w hT hs0 hn0 hc hs1 hn1 hc1 ek _ rfl ⟨l.toArray⟩ _ _ (by rw [hl]) hsz hcl2 hN hv hSR
    subst ek
    by_cases eb : b0 = b1
    case neg => exact written_b_ k0 b0 n0 s0 b1 n1 s1 w hT hs0 hn0 hc hs1 hn1 hc1 eb _ rfl ⟨l.toArray⟩ _ _ (by rw [hl]) hsz hcl2 hN hv hSR
    subst eb
    by_cases en : n0 = n1
    case neg => exact written_n k0 b0 n0 s0 n1 s1 w hT hs0 hn0 hc hs1 hn1 hc1 en _ rfl ⟨l.toArray⟩ _ _ (by rw [hl]) hsz hcl2 hN hv hSR
    subst en
    by_cases es : s0 = s1
    · subst es; exact absurd rfl he
    · exact written_s k0 b0 n0 s0 s1 w hT hs0 hn0 hc hs1 hn1 hc1 es _ rfl ⟨l.toArray⟩ _ _ (by rw [hl]) hsz hcl2 hN hv hSR
end Go.Proofs.YtoolojfbjpnllaaDoor
