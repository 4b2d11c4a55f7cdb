/-
  SpoilWords: it writes over the list that was lent and over nothing else. Conditions: those written.
-/
import Derived.Test.YtkpjbmbdndkalaaDoorStLn
import Derived.LoopTactic
import Derived.BigQuiet
set_option linter.unusedVariables false
set_option linter.unusedSimpArgs false
namespace Go.Proofs.YtkpjbmbdndkalaaDoor
open Go.RowKit Go.Lib

theorem grown_refl (w : World) (g : Nat) : w.grownBy w (some g) := ⟨rfl, rfl, rfl, Nat.le_refl _, fun _ _ _ => rfl⟩
theorem grown_set {w w' : World} {g : Nat} (h : w.grownBy w' (some g)) (i : Nat) (x : Value) : w.grownBy (w'.setCell ⟨g, i, none⟩ x) (some g) := by
  refine ⟨h.os, h.tape, h.output, by simpa using h.size, fun k hk hn => ?_⟩
  have hne : k ≠ g := fun e => hn (by rw [e])
  exact (Below.heap_setCell w' ⟨g, i, none⟩ x k hne).trans (h.block k hk hn)
theorem grown_below {B : Nat} {w w' : World} {g : Nat} (h : w.grownBy w' (some g)) (hB : B ≤ g) (hs : B ≤ w.heap.size) : Below B w w' :=
  ⟨h.os, h.tape, h.output, h.size, fun k hk => h.block k (Nat.lt_of_lt_of_le hk hs) (fun e => by have := Option.some.inj e; omega)⟩
theorem OwnW.grown {B : Nat} {v : Value} {l : List Int} {w w' : World} {g : Nat} (h : OwnW B v l w) (hg : w.grownBy w' (some g)) (hB : g < B) : OwnW B v l w' := by
  obtain ⟨h1, h2 | ⟨k, cap, cur, e, hk, hc, h3⟩⟩ := h
  · exact ⟨h1, .inl h2⟩
  · exact ⟨h1, .inr ⟨k, cap, cur, e, hk, (hg.block k (Array.getElem?_eq_some_iff.1 hc).1 (fun e => by have := Option.some.inj e; omega)).trans hc, h3⟩⟩
theorem HasC.grown {w w' : World} {b g : Nat} {cs : List Value} {t : TypeId} (h : HasC w b cs t) (hg : w.grownBy w' (some g)) (hn : b ≠ g) : HasC w' b cs t :=
  (hg.block b h.lt (fun e => hn (Option.some.inj e))).trans h
def RelSp (g cap : Nat) (w0 : World) (i : Value) (wr : World) : Prop := ∃ (p : Nat) (cs : List Value), i = .int .i64 (p : Int) ∧ p ≤ cap ∧ cs.length = cap ∧ HasC wr g cs 60 ∧ w0.grownBy wr (some g)
set_option maxHeartbeats 2000000 in
set_option maxRecDepth 1000000 in
theorem spoilWords_any (B : Nat) (v : Value) (l : List Int) (w : World) (h : LentW B v l w) (hs : l.length ≤ 1099511627776) :
    Calls Tryd.prog 16 #[v] w fun e w' => e = .returned (.tuple #[]) ∧ ∃ g, B ≤ g ∧ g < w.heap.size ∧ v.ownBlock = some g ∧ w.grownBy w' (some g) := by
  obtain ⟨g, cap, rfl, ho⟩ := h
  obtain ⟨n, hn⟩ : ∃ n, l.length = n := ⟨_, rfl⟩
  have hlen : (l ++ [771, 772]).length = n + 2 := by simp [hn]
  rw [hn] at ho hs ⊢
  obtain ⟨cs, hcs, hcl, hB, hnc, hcm⟩ : ∃ cs : List Value, HasC w g cs 60 ∧ cs.length = cap ∧ B ≤ g ∧ n + 2 ≤ cap ∧ cap ≤ 9223372036854775807 := by
    obtain ⟨_, ⟨e, _⟩ | ⟨g', cap', cur, e, hB, hc, h1, h2, h3, _⟩⟩ := ho
    · cases e
    · obtain ⟨e1, e2, e3⟩ := Value.slice.inj e
      obtain rfl : g = g' := by simpa using e1
      subst e3
      exact ⟨cur.toList, by simpa [HasC] using hc, by simpa using h3, hB, by omega, by unfold maxLen at h2; omega⟩
  have hcsH := Lib.hid hcs; have hclH := Lib.hid hcl; have hnH := Lib.hid hnc
  have hgl := hcs.lt
  have hnn : (n : Int) ≤ cap := by omega
  clear ho hcs hcl hn hlen hnc
  go_enter Tryd.func16, Tryd.ntmps16
  go_wp2_with fail
  go_loopw [3] (fun i wr => RelSp g cap w i wr) (fun i _ => cap - (Go.RowKit.intOf i).toNat)
  case atStart => exact ⟨0, cs, rfl, Nat.zero_le _, hclH.out, hcsH.out, grown_refl _ _⟩
  case round =>
    unfold RelSp at hrel
    obtain ⟨p, ds, rfl, hp, hdl, hd, hgr⟩ := hrel
    by_cases hj : p < cap
    · have hc_ := hd.cell p (v := ds[p]'(by omega)) (by simp [hdl, hj])
      have hf_ := hd.free p
      have hl_ := hd.lt
      have hdH := Lib.hid hd; have hgrH := Lib.hid hgr; have hdlH := Lib.hid hdl
      obtain ⟨x, hx⟩ : ∃ x, ds[p]'(by omega) = x := ⟨_, rfl⟩
      rw [hx] at hc_
      clear hd hgr hx hdl
      go_wp2_with fail
      go_roundw
      case rel => exact ⟨p + 1, ds.set p (uv 77), by go_num, by omega, by rw [List.length_set]; exact hdlH.out, hdH.out.set p _, grown_set hgrH.out p _⟩
      case measure => simp [Go.RowKit.intOf]; omega
    · obtain rfl : p = cap := by omega
      have hgrH := Lib.hid hgr
      clear hgr hd
      go_wp2_with fail
      (try simp only [Exit.inBlock, Exit.then])
      refine bodyPost_end (results_none rfl _ _ _) rfl ?_
      exact ⟨rfl, g, hB, hgl, rfl, hgrH.out⟩
end Go.Proofs.YtkpjbmbdndkalaaDoor
