/-
  Function values that look at times; IndexFunc, ContainsFunc at times; Beyond; a time in new memory, at this program. No condition but those written.
-/
import Derived.Test.YtdfhchpimpbgfaaGreatDoorChV
import Derived.Test.YtdfhchpimpbgfaaGreatDoorStLeq

import Derived.Shelf.Abstract
import Derived.LoopTactic
set_option linter.unusedVariables false
set_option linter.unusedSimpArgs false
namespace Go.Proofs.YtdfhchpimpbgfaaGreatDoor
open Go.RowKit Go.Lib Go.Proofs Go.Shelf

/-- What is asked of a function value that looks at times. -/
def PredT (g : Nat) (lb : Array Value) (p : Tm → Bool) (ds : List Td) (w : World) : Prop :=
  ∀ (W : World) (d : Td), d ∈ ds → Below w.heap.size w W → Calls Tryz.prog g (#[valT d] ++ lb) W fun e w' => e = .returned (.bool (p d.t)) ∧ Below W.heap.size W w'
/-- The first one that it holds of. -/
def IdxT (p : Tm → Bool) (ds : List Td) (r : Int) : Prop :=
  (r = -1 ∧ ∀ d ∈ ds, p d.t = false) ∨ ∃ i : Nat, r = (i : Int) ∧ i < ds.length ∧ (∀ d ∈ ds.take i, p d.t = false) ∧ ∃ d, ds[i]? = some d ∧ p d.t = true
def RelI (p : Tm → Bool) (ds : List Td) (w0 : World) (s8 : Value) (wr : World) : Prop := ∃ k : Nat, k ≤ ds.length ∧ s8 = .int .i64 (k : Int) ∧ (∀ d ∈ ds.take k, p d.t = false) ∧ Below w0.heap.size w0 wr
theorem take_all {ds : List Td} {p : Tm → Bool} {k : Nat} {d : Td} (h : ∀ d ∈ ds.take k, p d.t = false) (hd : ds[k]? = some d) (hp : p d.t = false) : ∀ d ∈ ds.take (k + 1), p d.t = false := by
  intro x hx
  obtain ⟨hk, rfl⟩ := List.getElem?_eq_some_iff.1 hd
  rw [List.take_succ_eq_append_getElem hk, List.mem_append, List.mem_singleton] at hx
  rcases hx with hx | rfl
  · exact h x hx
  · exact hp
set_option maxHeartbeats 4000000 in
set_option maxRecDepth 1000000 in
theorem indexT_any (g : Nat) (lb : Array Value) (eg : ∀ args w, (callFunc g args).run Tryz.prog w = .ok (.enter g args) w) (p : Tm → Bool) (v : Value) (ds : List Td) (w : World) (h : TmsV w v ds) (hp : PredT g lb p ds w) :
    Calls Tryz.prog 78 #[v, .func (.func g) #[] lb] w fun e w' => (∃ r, e = .returned (.int .i64 r) ∧ IdxT p ds r) ∧ Below w.heap.size w w' := by
  obtain ⟨A, n, c, rfl, hn, hnc, hc⟩ := h.form
  have hH := Lib.hid h; have hpH := Lib.hid hp; have hnH := Lib.hid hn
  clear h hp hn
  go_enter Tryz.func78, Tryz.ntmps78
  go_wp2_with fail
  go_loopw [5, 8] (fun s5 s8 wr => RelI p ds w s8 wr) (fun _ s8 _ => n - (Go.RowKit.intOf s8).toNat)
  case atStart => exact ⟨0, Nat.zero_le _, rfl, fun d hd => by simp at hd, Below.refl _ _⟩
  case round =>
    unfold RelI at hrel
    obtain ⟨k, hk, rfl, hall, hb⟩ := hrel
    have hallH := Lib.hid hall; have hbH := Lib.hid hb
    clear hall hb
    have hkn : k ≤ n := by have := hnH.out; omega
    clear hk
    by_cases hlt : k < n
    · obtain ⟨d, hd⟩ : ∃ d, ds[k]? = some d := ⟨_, List.getElem?_eq_getElem (by have := hnH.out; omega)⟩
      obtain ⟨ad, rfl, hba, a0_, a1_⟩ := (hH.out.below hbH.out).at hd
      have hcall := hpH.out wr d (List.mem_of_getElem? hd) hbH.out
      have hdH := Lib.hid hd
      clear hd
      obtain ⟨r, hr⟩ : ∃ r, p d.t = r := ⟨_, rfl⟩
      rw [hr] at hcall
      have hrH := Lib.hid hr
      clear hr
      obtain ⟨dA, dc, ⟨de, dl⟩⟩ := d
      simp only [valT] at hcall a0_ a1_
      cases r with
      | true =>
        go_wp2_with (go_at_fn g; refine hcall.mono ?_; rintro e w' ⟨rfl, hb'⟩)
        go_ret
        exact ⟨⟨_, rfl, .inr ⟨k, rfl, by have := hnH.out; omega, hallH.out, _, hdH.out, hrH.out⟩⟩, chainB hbH.out hb' hbH.out.size⟩
      | false =>
        go_wp2_with (go_at_fn g; refine hcall.mono ?_; rintro e w' ⟨rfl, hb'⟩)
        go_roundw
        case rel => exact ⟨k + 1, by have := hnH.out; omega, by go_num, take_all hallH.out hdH.out hrH.out, chainB hbH.out hb' hbH.out.size⟩
        case measure => simp [Go.RowKit.intOf]; omega
    · obtain rfl : k = n := by omega
      go_wp2_with fail
      go_ret
      refine ⟨⟨_, rfl, .inl ⟨rfl, fun d hd => hallH.out d ?_⟩⟩, hbH.out⟩
      rw [List.take_of_length_le (by have := hnH.out; omega)]
      exact hd
theorem idx_any {p : Tm → Bool} {ds : List Td} {r : Int} (h : IdxT p ds r) : decide (0 ≤ r) = (tmsD ds).any p := by
  unfold tmsD
  rw [List.any_map]
  rcases h with ⟨rfl, h⟩ | ⟨i, rfl, hi, _, d, hd, hp⟩
  · symm
    rw [show decide ((0 : Int) ≤ -1) = false by decide, List.any_eq_false]
    intro d hd
    simp [h d hd]
  · rw [decide_eq_true (by omega)]
    symm
    rw [List.any_eq_true]
    exact ⟨d, List.mem_of_getElem? hd, hp⟩
set_option maxHeartbeats 4000000 in
set_option maxRecDepth 1000000 in
theorem containsT_any (g : Nat) (lb : Array Value) (eg : ∀ args w, (callFunc g args).run Tryz.prog w = .ok (.enter g args) w) (p : Tm → Bool) (v : Value) (ds : List Td) (w : World) (h : TmsV w v ds) (hp : PredT g lb p ds w) :
    Calls Tryz.prog 47 #[v, .func (.func g) #[] lb] w fun e w' => e = .returned (.bool ((tmsD ds).any p)) ∧ Below w.heap.size w w' := by
  obtain ⟨z, hz⟩ : ∃ z, (tmsD ds).any p = z := ⟨_, rfl⟩
  rw [hz]
  have hzH := Lib.hid hz
  clear hz
  go_enter Tryz.func47, Tryz.ntmps47
  go_wp2_with fail
  refine (indexT_any g lb eg p v ds w h hp).mono ?_
  rintro e w' ⟨⟨r, rfl, hr⟩, hb⟩
  have hr2 := (idx_any hr).trans hzH.out
  clear hr h hp hzH
  subst hr2
  go_wp2_with fail
  go_ret
  exact ⟨rfl, hb⟩
set_option maxHeartbeats 4000000 in
set_option maxRecDepth 1000000 in
theorem beyond1_any (d u : Td) (b : Nat) (w : World) (hd : WordsV w (slD d) d.t.l) (hc : HasC w b (cellsT u) 26) (hu : WordsV w (slD u) u.t.l) :
    Calls Tryz.prog 48 #[valT d, .pointer (some ⟨b, 0, none⟩)] w fun e w' => e = .returned (.bool (leqT d.t u.t)) ∧ Below w.heap.size w w' := by
  obtain ⟨dA, dc, ⟨de, dl⟩⟩ := d
  obtain ⟨uA, uc, ⟨ue, ul⟩⟩ := u
  obtain ⟨r, hr⟩ : ∃ r, leqT ⟨de, dl⟩ ⟨ue, ul⟩ = r := ⟨_, rfl⟩
  have hdH := Lib.hid hd; have huH := Lib.hid hu; have hrH := Lib.hid hr
  have c0_ := hc.cell 0 rfl; have c1_ := hc.cell 1 rfl; have cl_ := hc.lt
  clear hd hu hr hc
  simp only [valT] at c0_ c1_ hdH huH ⊢
  rw [hrH.out]
  go_enter Tryz.func48, Tryz.ntmps48
  go_wp2_with fail
  refine (leq_any _ _ ⟨de, dl⟩ ⟨ue, ul⟩ _ ⟨_, rfl, hdH.out.below (by go_grown)⟩ ⟨_, rfl, huH.out.below (by go_grown)⟩).mono ?_
  rw [hrH.out]
  rintro e w' ⟨rfl, hb'⟩
  go_wp2_with fail
  go_ret
  exact ⟨rfl, chainB (by go_grown) hb' (by simp)⟩
set_option maxHeartbeats 4000000 in
set_option maxRecDepth 1000000 in
theorem of1_any (d u : Td) (b : Nat) (w : World) (hd : WordsV w (slD d) d.t.l) (hc : HasC w b (cellsT u) 26) (hu : WordsV w (slD u) u.t.l) :
    Calls Tryz.prog 39 #[valT d, .pointer (some ⟨b, 0, none⟩)] w fun e w' => e = .returned (.bool (leqT u.t d.t)) ∧ Below w.heap.size w w' := by
  obtain ⟨dA, dc, ⟨de, dl⟩⟩ := d
  obtain ⟨uA, uc, ⟨ue, ul⟩⟩ := u
  obtain ⟨r, hr⟩ : ∃ r, leqT ⟨ue, ul⟩ ⟨de, dl⟩ = r := ⟨_, rfl⟩
  have hdH := Lib.hid hd; have huH := Lib.hid hu; have hrH := Lib.hid hr
  have c0_ := hc.cell 0 rfl; have c1_ := hc.cell 1 rfl; have cl_ := hc.lt
  clear hd hu hr hc
  simp only [valT] at c0_ c1_ hdH huH ⊢
  rw [hrH.out]
  go_enter Tryz.func39, Tryz.ntmps39
  go_wp2_with fail
  refine (leq_any _ _ ⟨ue, ul⟩ ⟨de, dl⟩ _ ⟨_, rfl, huH.out.below (by go_grown)⟩ ⟨_, rfl, hdH.out.below (by go_grown)⟩).mono ?_
  rw [hrH.out]
  rintro e w' ⟨rfl, hb'⟩
  go_wp2_with fail
  go_ret
  exact ⟨rfl, chainB (by go_grown) hb' (by simp)⟩
set_option maxHeartbeats 4000000 in
set_option maxRecDepth 1000000 in
theorem beyond_any (v : Value) (ds : List Td) (u : Td) (w : World) (h : TmsV w v ds) (hu : WordsV w (slD u) u.t.l) :
    Calls Tryz.prog 14 #[v, valT u] w fun e w' => e = .returned (.bool (upB (tmsD ds) u.t)) ∧ Below w.heap.size w w' := by
  have eg : ∀ args w, (callFunc 48 args).run Tryz.prog w = .ok (.enter 48 args) w := enters_of Tryz.func48 (by kernel_rfl) rfl
  obtain ⟨W0, hW0, hwW, hA, hzz⟩ := boxes1 w (cellsT u) 26
  have hP : PredT 48 #[.pointer (some ⟨w.heap.size, 0, none⟩)] (fun y => leqT y u.t) ds W0 := fun W d hd hb =>
    beyond1_any d u w.heap.size W ((h.2 d hd).below (hwW.trans (hb.mono hwW.size))) (hA.below hb) (hu.below (hwW.trans (hb.mono hwW.size)))
  have hC := containsT_any _ _ eg _ v ds W0 (h.below hwW) hP
  have hCH := Lib.hid hC; have hwWH := Lib.hid hwW; have hW0H := Lib.hid hW0
  clear hC hP hA hzz h hu hwW
  obtain ⟨uA, uc, ⟨ue, ul⟩⟩ := u
  simp only [valT, upB]
  have hW0' : w.alloc (.cells #[.int .u64 ue, .slice uA ul.length uc] 26) = W0 := hW0H.out
  clear hW0
  go_enter Tryz.func14, Tryz.ntmps14
  go_wp2_with fail
  refine (hCH.out).mono ?_
  rintro e w' ⟨rfl, hb'⟩
  go_wp2_with fail
  go_ret
  exact ⟨rfl, chainB hwWH.out hb' hwWH.out.size⟩
end Go.Proofs.YtdfhchpimpbgfaaGreatDoor
