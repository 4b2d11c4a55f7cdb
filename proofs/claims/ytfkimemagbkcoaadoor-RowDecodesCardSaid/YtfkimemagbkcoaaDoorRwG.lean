/-
  The key of a row behind bytes that the caller owns, at this program. Conditions: those written.
-/
import Derived.Test.YtfkimemagbkcoaaDoorRwF
set_option linter.unusedVariables false
set_option linter.unusedSimpArgs false
namespace Go.Proofs.YtfkimemagbkcoaaDoor
open Go.RowKit Go.Lib

theorem be_le (k m : Nat) : (be k m).length = k := be_len k m
theorem encD_le (d : Dat) : (encD d).length ≤ szD d.s := by
  unfold encD szD
  have := escT_le d.s.data.toList
  rw [size_toList] at this
  repeat' split
  all_goals simp [be_len]
  all_goals omega
theorem keyD_le (d : Dat) : (keyD d).length ≤ szD d.s := by
  unfold keyD
  split
  · unfold szD; simp
  · exact encD_le d
/-- What a row's encoding, or its key, comes to at most. -/
def szR : List Dat → Nat
  | [] => 0
  | d :: l => szD d.s + szR l
theorem keyR_le : ∀ l : List Dat, (keyR l).length ≤ szR l
  | [] => Nat.le_refl _
  | d :: l => by
    have h1 := keyD_le d
    have h2 := keyR_le l
    unfold keyR at h2 ⊢
    rw [List.flatMap_cons, List.length_append, szR]
    omega
theorem encR_le : ∀ l : List Dat, (encR l).length ≤ szR l
  | [] => Nat.le_refl _
  | d :: l => by
    have h1 := encD_le d
    have h2 := encR_le l
    unfold encR at h2 ⊢
    rw [List.flatMap_cons, List.length_append, szR]
    omega
theorem szR_take : ∀ (l : List Dat) (p : Nat) (h : p < l.length), szR (l.take p) + szD l[p].s ≤ szR l
  | [], p, h => absurd h (by simp)
  | d :: l, 0, _ => by simp [szR]
  | d :: l, p + 1, h => by
    have := szR_take l p (by simpa using h)
    simp only [List.take_succ_cons, szR, List.getElem_cons_succ]
    omega
theorem szR_len : ∀ l : List Dat, l.length ≤ szR l
  | [] => Nat.le_refl _
  | d :: l => by
    have := szR_len l
    simp only [List.length_cons, szR, szD]
    omega
theorem flat_take {f : Dat → List UInt8} {l : List Dat} {p : Nat} (h : p < l.length) : (l.take (p + 1)).flatMap f = (l.take p).flatMap f ++ f l[p] := by
  rw [List.take_succ_eq_append_getElem h, List.flatMap_append]
  simp
theorem OwnB.form {B : Nat} {v : Value} {l : List UInt8} {W0 w : World} (h : OwnB B v l W0 w) : ∃ A c, v = .slice A l.length c := by
  rcases h.1.2 with ⟨rfl, h0⟩ | ⟨g, cap, cur, rfl, _⟩
  · exact ⟨none, 0, by rw [h0]⟩
  · exact ⟨_, _, rfl⟩
/-- What the rounds hold: the keys of the data up to a place. -/
def RelK (f : Dat → List UInt8) (l : List UInt8) (r : List Dat) (B : Nat) (w0 : World) (s0 s10 : Value) (wr : World) : Prop :=
  ∃ p : Nat, p ≤ r.length ∧ s10 = .int .i64 (p : Int) ∧ OwnB B s0 (l ++ (r.take p).flatMap f) w0 wr
theorem two_bytes {k : Int} (h : 0 ≤ k ∧ k ≤ 255) : (#[Value.int .u8 80, .int .u8 k] : Array Value) = (Lib.byteCells [80, UInt8.ofNat k.toNat]).toArray := by
  have : ((k.toNat % 256 : Nat) : Int) = k := by omega
  simp [Lib.byteCells]
  omega
set_option maxHeartbeats 4000000 in
set_option maxRecDepth 1000000 in
theorem appendKey_any (B : Nat) (v vr : Value) (l : List UInt8) (r : List Dat) (w0 w : World) (h : OwnB B v l w w) (hr : RowV w0 vr r) (h0 : Below w0.heap.size w0 w) (hB : w0.heap.size ≤ B) (hw : ∀ d ∈ r, Wide d) (hl : l.length + szR r ≤ 70368744177664) :
    Calls Tryd.prog 40 #[v, vr] w fun e w' => ∃ v', e = .returned v' ∧ OwnB B v' (l ++ keyR r) w w' := by
  obtain ⟨A, ca, rfl, hla⟩ := hr.form
  have hH := Lib.hid h; have hrH := Lib.hid hr; have h0H := Lib.hid h0; have hwH := Lib.hid hw
  clear h hr h0 hw
  go_enter Tryd.func40, Tryd.ntmps40
  go_wp2_with fail
  go_loopw [0, 6, 7, 10] (fun s0 s6 s7 s10 wr => RelK keyD l r B w s0 s10 wr) (fun _ _ _ s10 _ => r.length - (Go.RowKit.intOf s10).toNat)
  case atStart => exact ⟨0, by omega, rfl, by rw [List.take_zero, List.flatMap_nil, List.append_nil]; exact hH.out⟩
  case round =>
    unfold RelK at hrel
    obtain ⟨p, hp, rfl, hown⟩ := hrel
    obtain ⟨A0, c0, rfl⟩ := hown.form
    have hownH := Lib.hid hown
    clear hown
    by_cases hlt : p < r.length
    · obtain ⟨ad, rfl, hba, a0_, a1_, a2_, a3_⟩ := (hrH.out.below (h0H.out.trans (hownH.out.2.1.mono hB))).at hlt
      obtain ⟨d, hd⟩ : ∃ d, r[p] = d := ⟨_, rfl⟩
      rw [hd] at a0_ a1_ a2_ a3_
      have hwd := Lib.hid (hwH.out d (hd ▸ List.getElem_mem hlt))
      have hft := Lib.hid (show (r.take (p + 1)).flatMap keyD = (r.take p).flatMap keyD ++ keyD d by rw [flat_take hlt, hd])
      have hsz := Lib.hid (show (l ++ (r.take p).flatMap keyD).length + szD d.s ≤ 70368744177664 by
        have h1 := szR_take r p hlt
        have h2 := keyR_le (r.take p)
        unfold keyR at h2
        rw [hd] at h1
        rw [List.length_append]
        omega)
      clear hd
      obtain ⟨k, b, n, s⟩ := d
      obtain ⟨L, hL⟩ : ∃ L, l ++ (r.take p).flatMap keyD = L := ⟨_, rfl⟩
      have hLH := Lib.hid hL
      rw [hL] at hownH hsz
      rw [hL]
      clear hL
      simp only at a0_ a1_ a2_ a3_
      have hltH := Lib.hid hlt
      obtain ⟨wd, hwdE⟩ : ∃ wd, wr.alloc (.cells #[.int .u8 k, .bool b, .int .i64 n, .string s] 79) = wd := ⟨_, rfl⟩
      have hD := Lib.hid (show Has wd wr.heap.size (.int .u8 k) (.bool b) (.int .i64 n) (.string s) from hwdE ▸ Has.new wr _ _ _ _)
      have hownD := Lib.hid (show OwnB B (.slice A0 L.length c0) L w wd from hwdE ▸ hownH.out.alloc _)
      obtain ⟨e0_, e1_, e2_, e3_⟩ := hD.out.cells
      have hszd := Lib.hid (show wr.heap.size < wd.heap.size by rw [← hwdE]; simp)
      go_wp2_with fail
      refine (appendDatum_any B _ L k b n s _ hownD.out.again hwd.out.2 (by have := hsz.out; omega)).mono ?_
      rintro e w2 ⟨v2, rfl, h2⟩
      obtain ⟨A2, c2, rfl⟩ := h2.form
      have h2H := Lib.hid h2
      have hD2 := Lib.hid (hD.out.others h2.2.2.2)
      clear h2 e0_ e1_ e2_ e3_ a0_ a1_ a2_ a3_ hwdE
      obtain ⟨e0_, e1_, e2_, e3_⟩ := hD2.out.cells
      by_cases he : encD ⟨k, b, n, s⟩ = []
      · have hk := Lib.hid (show keyD ⟨k, b, n, s⟩ = [80, UInt8.ofNat k.toNat] by unfold keyD; rw [if_pos he])
        have h2' := Lib.hid (show OwnB B (.slice A2 L.length c2) L wd w2 by have := h2H.out; rw [he, List.append_nil] at this; exact this)
        rw [he, List.append_nil]
        have hcs := Lib.hid (two_bytes hwd.out.1)
        clear he h2H
        go_wp2_with (at_builtin; refine wpList_bytes rfl _ _ rfl B _ _ wd _ 2 [80, UInt8.ofNat k.toNat] _ hcs.out h2'.out rfl rfl rfl (by have := hsz.out; omega) ?_; intro v' w' hq; have h3 := Lib.hid hq; clear hq)
        go_roundw
        case rel => exact ⟨p + 1, hltH.out, by go_num, by rw [hft.out, ← List.append_assoc, hLH.out, hk.out]; exact OwnK.trans hownD.out h3.out⟩
        case measure => simp [Go.RowKit.intOf]; omega
      · have hk := Lib.hid (show keyD ⟨k, b, n, s⟩ = encD ⟨k, b, n, s⟩ by unfold keyD; rw [if_neg he])
        have hne : (((L ++ encD ⟨k, b, n, s⟩).length : Int) == (L.length : Int)) = false := by
          rw [beq_eq_false_iff_ne, List.length_append]
          have := List.length_pos_iff.2 he
          omega
        obtain ⟨N, hN⟩ : ∃ N, (L ++ encD ⟨k, b, n, s⟩).length = N := ⟨_, rfl⟩
        have hNH := Lib.hid hN
        rw [hN] at hne
        rw [hN]
        clear hN he
        go_wp2_with fail
        go_roundw
        case rel => exact ⟨p + 1, hltH.out, by go_num, by rw [hft.out, ← List.append_assoc, hLH.out, hk.out, ← hNH.out]; exact OwnK.trans hownD.out h2H.out⟩
        case measure => simp [Go.RowKit.intOf]; omega
    · obtain rfl : p = r.length := by omega
      have hfin := Lib.hid (show r.take r.length = r from List.take_length)
      obtain ⟨N, hN⟩ : ∃ N, (l ++ (r.take r.length).flatMap keyD).length = N := ⟨_, rfl⟩
      have hNH := Lib.hid hN
      rw [hN]
      clear hN
      go_wp2_with fail
      go_ret
      refine ⟨_, rfl, ?_⟩
      have := hownH.out
      rw [hNH.out, hfin.out] at this
      exact this
end Go.Proofs.YtfkimemagbkcoaaDoor
