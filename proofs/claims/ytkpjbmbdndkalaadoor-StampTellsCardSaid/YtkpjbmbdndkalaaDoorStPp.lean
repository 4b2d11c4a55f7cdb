/-
  The document's own Print of layer 4. Conditions: those written.
-/
import Derived.Test.YtkpjbmbdndkalaaDoorStDg
import Derived.Test.YtkpjbmbdndkalaaDoorStRc
import Derived.LoopTactic
import Derived.BigQuiet
set_option linter.unusedVariables false
set_option linter.unusedSimpArgs false
namespace Go.Proofs.YtkpjbmbdndkalaaDoor
open Go.RowKit Go.Lib

def bs (l : List UInt8) : ByteArray := ⟨l.toArray⟩
theorem bs_app (x y : List UInt8) : bs x ++ bs y = bs (x ++ y) := by
  apply bytes_ext
  simp [bs]
def preD (l : List Int) (p : Nat) : List UInt8 := if p = 0 then [] else 40 :: joinD (l.take p)
theorem joinD_snoc (l : List Int) (x : Int) (h : l ≠ []) : joinD (l ++ [x]) = joinD l ++ 44 :: decI x := by
  unfold joinD Lib.join
  rw [List.map_append, List.map_cons, List.map_nil]
  generalize hm : l.map decI = m
  have hne : m ≠ [] := by intro c; subst hm; simp at c; exact h c
  clear hm h
  generalize decI x = y
  induction m with
  | nil => exact absurd rfl hne
  | cons a t ih =>
    cases t with
    | nil => simp [List.intercalate]
    | cons b t =>
      have := ih (by simp)
      simp only [List.intercalate, List.cons_append, List.intersperse_cons_cons, List.flatten_cons] at this ⊢
      rw [this]
      simp [List.append_assoc]
theorem preD_zero (l : List Int) (h : 0 < l.length) : preD l 1 = 40 :: decI l[0] := by
  unfold preD
  rw [if_neg (by omega)]
  cases l with
  | nil => simp at h
  | cons a t => simp [joinD, Lib.join_one]
theorem preD_succ (l : List Int) (p : Nat) (h : p < l.length) (hp : 0 < p) : preD l (p + 1) = preD l p ++ 44 :: decI l[p] := by
  unfold preD
  rw [if_neg (by omega), if_neg (by omega), List.take_succ_eq_append_getElem h, joinD_snoc _ _ (by intro c; have := congrArg List.length c; rw [List.length_take] at this; simp only [List.length_nil] at this; omega)]
  rfl
theorem preD_end (e : Int) (l : List Int) : decI e ++ preD l l.length ++ (if l.length = 0 then [] else [41]) = printT ⟨e, l⟩ := by
  unfold printT preD
  by_cases h : l.length = 0
  · obtain rfl := List.eq_nil_of_length_eq_zero h
    simp
  · rw [if_neg h, if_neg h, if_neg (by intro c; subst c; simp at h), List.take_length]
    simp
def RelRP (e : Int) (l : List Int) (w0 : World) (s i : Value) (wr : World) : Prop :=
  ∃ p : Nat, i = .int .i64 (p : Int) ∧ p ≤ l.length ∧ s = .string (bs (decI e ++ preD l p)) ∧ Below w0.heap.size w0 wr
theorem preD_len (l : List Int) (p : Nat) (h : ∀ z ∈ l, z ≤ 4294967295) (hp : p ≤ l.length) : (preD l p).length ≤ 1 + 21 * l.length := by
  unfold preD
  split
  · simp
  · have := joinD_len (l.take p) (fun z hz => h z (List.mem_of_mem_take hz))
    simp only [List.length_cons, List.length_take] at this ⊢
    omega
set_option maxHeartbeats 2000000 in
set_option maxRecDepth 1000000 in
theorem refPrint_any (v : Value) (t : Tm) (w : World) (h : TmV w v t) (wt : TmW t) (hs : t.l.length ≤ 1099511627776) :
    Calls Tryd.prog 24 #[v] w fun e w' => e = .returned (.string ⟨(printT t).toArray⟩) ∧ Below w.heap.size w w' := by
  obtain ⟨te, l⟩ := t
  obtain ⟨s, rfl, hsv⟩ := h
  simp only at hsv hs
  obtain ⟨⟨e0, e1⟩, wl⟩ := wt
  simp only at e0 e1 wl
  obtain ⟨A, n, c, rfl, hn, hnc, hc⟩ := hsv.form
  obtain ⟨e, rfl⟩ : ∃ e : Nat, te = (e : Int) := ⟨te.toNat, by omega⟩
  obtain ⟨r, hr⟩ : ∃ r, printT ⟨(e : Int), l⟩ = r := ⟨_, rfl⟩
  rw [hr]
  obtain ⟨W0, hW0, hwW, hA, hzz⟩ := boxes1 w [.int .u64 (e : Int), .slice A n c] 25
  have hvH := Lib.hid (hsv.below hwW); have hAH := Lib.hid hA; have hwWH := Lib.hid hwW
  have hnH := Lib.hid hn; have wlH := Lib.hid wl; have hrH := Lib.hid hr
  have a0_ := hA.cell 0 rfl; have a1_ := hA.cell 1 rfl
  have hn40 : n ≤ 1099511627776 := by omega
  clear hsv hA hwW hn wl hr hs
  go_enter Tryd.func24, Tryd.ntmps24
  go_wp2_with fail
  refine (refDigits_any e (by omega) _).mono ?_
  rintro e_ w1 ⟨rfl, hb1⟩
  have hd1 : Below W0.heap.size W0 w1 := chainB (by first | exact Below.refl _ _ | go_grown) hb1 (by first | exact Nat.le_refl _ | (simp; done))
  have hd1H := Lib.hid hd1
  clear hb1 hd1
  go_wp2_with fail
  go_loopw [3, 4] (fun s i wr => RelRP e l W0 s i wr) (fun _ i _ => n - (Go.RowKit.intOf i).toNat)
  case atStart => exact ⟨0, rfl, Nat.zero_le _, by simp [bs, preD, decI], hd1H.out⟩
  case round =>
    unfold RelRP at hrel
    obtain ⟨p, rfl, hpl, rfl, hbw⟩ := hrel
    have hpn : p ≤ n := by have := hnH.out; omega
    have hbwH := Lib.hid hbw
    have a0_ := (hAH.out.below hbw).cell 0 rfl; have a1_ := (hAH.out.below hbw).cell 1 rfl
    have hln := preD_len l p (fun z hz => (wlH.out z hz).2) hpl
    have hle := decDigits_len e (by omega)
    obtain ⟨q, hq⟩ : ∃ q, preD l p = q := ⟨_, rfl⟩
    have hqH := Lib.hid hq; have hlnH := Lib.hid hln; have hleH := Lib.hid hle
    rw [hq]
    obtain ⟨S, hS⟩ : ∃ S, bs (decI (e : Int) ++ q) = S := ⟨_, rfl⟩
    have hSz : S.size ≤ 25000000000000 := by
      rw [← hS, show (bs (decI (e : Int) ++ q)).size = (decI (e : Int) ++ q).length by simp [bs, ByteArray.size], List.length_append, ← hq]
      have := hnH.out
      have h2 : (decI (e : Int)).length = (Lib.decDigits e).length := rfl
      omega
    rw [hS]
    have hSH := Lib.hid hS
    clear hbw hpl hq hln hle hS
    by_cases hp : p < n
    · have h1 : p < l.length := by have := hnH.out; omega
      obtain ⟨ad, rfl, hba, ac_⟩ := (hvH.out.below hbwH.out).at h1
      have u1 := u64_w32 _ (wlH.out.at h1)
      have wx := wlH.out.at h1
      obtain ⟨x, hx⟩ : ∃ x, l[p] = x := ⟨_, rfl⟩
      rw [hx] at ac_ u1 wx
      obtain ⟨x, rfl⟩ : ∃ k : Nat, x = (k : Int) := ⟨x.toNat, by omega⟩
      have hxH := Lib.hid hx
      have hxb : x < 18446744073709551616 := by omega
      clear hx
      by_cases hp0 : p = 0
      · subst hp0
        rw [add_zero] at ac_
        have hst := Lib.hid (show S ++ ⟨#[40]⟩ ++ ⟨(Lib.decDigits x).toArray⟩ = bs (decI (e : Int) ++ preD l (0 + 1)) from by
          rw [← hSH.out, preD_zero l (by have := hnH.out; omega), ← hqH.out, hxH.out]
          apply bytes_ext
          simp [bs, preD, decI])
        go_wp2_with fail
        refine (refDigits_any x hxb _).mono ?_
        rintro e_ w2 ⟨rfl, hb2⟩
        have hDz := decDigits_len x hxb
        have hd2H := Lib.hid (chainB (B := W0.heap.size) (a := W0) (by first | exact hbwH.out | go_grown) hb2 (by have := hbwH.out.size; first | exact this | (simp; omega)))
        clear hb2
        go_wp2_with fail
        go_roundw
        case rel => exact ⟨0 + 1, by go_num, by have := hnH.out; omega, (by rw [← hst.out]), hd2H.out⟩
        case measure => simp [Go.RowKit.intOf]; omega
      · have hpb : ((p : Int) == 0) = false := by simpa using hp0
        have hst := Lib.hid (show S ++ ⟨#[44]⟩ ++ ⟨(Lib.decDigits x).toArray⟩ = bs (decI (e : Int) ++ preD l (p + 1)) from by
          rw [← hSH.out, preD_succ l p (by have := hnH.out; omega) (by omega), ← hqH.out, hxH.out]
          apply bytes_ext
          simp [bs, decI])
        go_wp2_with fail
        refine (refDigits_any x hxb _).mono ?_
        rintro e_ w2 ⟨rfl, hb2⟩
        have hDz := decDigits_len x hxb
        have hd2H := Lib.hid (chainB (B := W0.heap.size) (a := W0) (by first | exact hbwH.out | go_grown) hb2 (by have := hbwH.out.size; first | exact this | (simp; omega)))
        clear hb2
        go_wp2_with fail
        go_roundw
        case rel => exact ⟨p + 1, by go_num, by have := hnH.out; omega, (by rw [← hst.out]), hd2H.out⟩
        case measure => simp [Go.RowKit.intOf]; omega
    · obtain rfl : p = n := by omega
      by_cases hn0 : p = 0
      · subst hn0
        have hst := Lib.hid (show S = ⟨r.toArray⟩ from by
          rw [← hSH.out, ← hrH.out, ← preD_end, if_pos hnH.out, hnH.out, hqH.out]
          simp [bs])
        go_wp2_with fail
        go_ret
        exact ⟨ret_str2 hst.out, hwWH.out.trans (hbwH.out.mono hwWH.out.size)⟩
      · have hnb : 0 < (p : Int) := by omega
        have hst := Lib.hid (show S ++ ⟨#[41]⟩ = ⟨r.toArray⟩ from by
          rw [← hSH.out, ← hrH.out, ← preD_end, if_neg (by have := hnH.out; omega), hnH.out, hqH.out]
          apply bytes_ext
          simp [bs])
        go_wp2_with fail
        go_ret
        exact ⟨ret_str2 hst.out, hwWH.out.trans (hbwH.out.mono hwWH.out.size)⟩
end Go.Proofs.YtkpjbmbdndkalaaDoor
