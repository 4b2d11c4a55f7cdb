/-
  What stamp.Print answers, at this program: of any time of no more than 2^40 counters. Condition: the table of the powers of ten lies as its initialiser lays it; numbers of their kinds.
-/
import Derived.Test.YtdfhchpimpbgfaaGreatDoorStPr0
import Derived.Test.YtdfhchpimpbgfaaGreatDoorStCat
import Derived.Laws.OwnMore
import Derived.LoopTactic
import Derived.BigQuiet
set_option linter.unusedVariables false
set_option linter.unusedSimpArgs false
namespace Go.Proofs.YtdfhchpimpbgfaaGreatDoor
open Go.RowKit Go.Lib
def strV (s : List UInt8) : Value := .string ⟨s.toArray⟩
def decI (z : Int) : List UInt8 := Lib.decDigits z.toNat
theorem str_info : (Tryz.prog.info? 9).map (fun i => (i.zero, i.size, i.bytes)) = some (some (.string ⟨#[]⟩), 1, 16) := by kernel_rfl
theorem make_str (n : Nat) (hn : n ≤ 1099511627776) (W : World) : (Instr.makeSlice 125 (.int .i64 (n : Int)) (.int .i64 (n : Int))).run Tryz.prog W = .ok (.slice (some ⟨W.heap.size, 0, none⟩) n n) (W.alloc (.cells (List.replicate n (strV [])).toArray 9)) := by
  obtain ⟨i0, hi, hz0, hz1, hz2⟩ := info_parts str_info
  rw [run_make W _ _ i0 _ Tryz.underlying125 hi hz0 .i64 .i64 n n (by omega) (Int.le_refl _) (by rw [hz2]; omega) (by omega), hz1]
  have h : madeCells (Value.string ⟨#[]⟩).cells n = (List.replicate n (strV [])).toArray := by
    apply Array.ext'
    rw [show (Value.string ⟨#[]⟩).cells = #[Value.string ⟨#[]⟩] from rfl, toList_madeCells_one]
    rfl
  simp only [Int.toNat_natCast, Nat.mul_one, h]
def joinD (l : List Int) : List UInt8 := Lib.join (l.map decI) [44]
theorem decDigits_len (e : Nat) (he : e < 18446744073709551616) : (Lib.decDigits e).length ≤ 20 := by
  rw [Lib.decDigits_length]
  rcases Nat.eq_zero_or_pos e with h | h
  · subst h; rw [← Lib.decDigits_length, Lib.decDigits]; simp
  · have := Lib.numDigits_eq e h he; split at this <;> omega
theorem W32.le {l : List Int} (h : W32 l) : ∀ z ∈ l, z ≤ 4294967295 := fun z hz => (h z hz).2
theorem lens_dec : ∀ l : List Int, (∀ z ∈ l, z ≤ 4294967295) → Lib.lens (l.map decI) ≤ 20 * l.length
  | [], _ => by simp [Lib.lens]
  | a :: l, h => by
    have h1 := decDigits_len a.toNat (by have := h a (by simp); omega)
    have h2 := lens_dec l (fun z hz => h z (by simp [hz]))
    simp only [Lib.lens, List.map_cons, List.sum_cons, List.length_cons, decI] at h2 ⊢
    omega
theorem joinD_len (l : List Int) (h : ∀ z ∈ l, z ≤ 4294967295) : (joinD l).length ≤ 21 * l.length := by
  cases l with
  | nil => simp [joinD, Lib.join]
  | cons a l =>
    have h2 := lens_dec (a :: l) h
    rw [joinD, List.map_cons, Lib.join_length, ← List.map_cons (f := decI)]
    simp only [List.length_map, List.length_cons, List.length_nil] at h2 ⊢
    omega
/-- A time as it is written. -/
def printT (t : Tm) : List UInt8 := if t.l = [] then decI t.e else decI t.e ++ 40 :: (joinD t.l ++ [41])
theorem printT_more {e : Nat} (l : List Int) (h : 0 < l.length) : printT ⟨e, l⟩ = Lib.decDigits e ++ 40 :: (joinD l ++ [41]) := by
  unfold printT
  rw [if_neg (by intro c; simp only at c; subst c; simp at h)]
  rfl
theorem ba4 (x y z u : List UInt8) : (⟨x.toArray⟩ : ByteArray) ++ ⟨y.toArray⟩ ++ ⟨z.toArray⟩ ++ ⟨u.toArray⟩ = ⟨(x ++ (y ++ (z ++ u))).toArray⟩ := by
  apply ByteArray.ext
  simp [ByteArray.data_append]
theorem pr_step (l : List Int) (p : Nat) (u : Nat) (hp : p < l.length) (hx : l[p] = (u : Int)) :
    ((l.take p).map (fun z => strV (decI z)) ++ List.replicate (l.length - p) (strV [])).set p (strV (Lib.decDigits u)) = (l.take (p + 1)).map (fun z => strV (decI z)) ++ List.replicate (l.length - (p + 1)) (strV []) := by
  have h1 : ((l.take p).map (fun z => strV (decI z))).length = p := by simp; omega
  rw [List.set_append_right _ _ (by omega), h1, Nat.sub_self, show l.length - p = l.length - (p + 1) + 1 by omega, List.replicate_succ, List.set_cons_zero, List.take_succ_eq_append_getElem hp, List.map_append, List.append_assoc]
  rw [hx]
  rfl
def RelPr (l : List Int) (g : Nat) (w0 : World) (i : Value) (wr : World) : Prop :=
  ∃ p : Nat, i = .int .i64 (p : Int) ∧ p ≤ l.length ∧ HasC wr g ((l.take p).map (fun z => strV (decI z)) ++ List.replicate (l.length - p) (strV [])) 9 ∧ Below w0.heap.size w0 wr ∧ g < wr.heap.size
set_option maxHeartbeats 2000000 in
set_option maxRecDepth 1000000 in
theorem print_more (va : Value) (e : Nat) (l : List Int) (w : World) (ha : TmV w va ⟨e, l⟩) (he : e < 18446744073709551616) (wl : W32 l) (hn : l.length ≤ 1099511627776) (hp : 0 < l.length) (hT : Pows w) :
    Calls Tryz.prog 76 #[va] w fun e' w' => e' = .returned (.string ⟨(printT ⟨e, l⟩).toArray⟩) ∧ Below w.heap.size w w' := by
  obtain ⟨sa, rfl, ha⟩ := ha
  simp only at ha ⊢
  obtain ⟨A, n, ca, rfl, hla, hca, hcc⟩ := ha.form
  obtain ⟨W0, hW0, hwW, hA, hzz⟩ := boxes1 w [.int .u64 e, .slice A n ca] 26
  have haH := Lib.hid (ha.below hwW)
  have hAH := Lib.hid hA; have hwWH := Lib.hid hwW; have hz0 := Lib.hid hzz
  have hTH := Lib.hid (hT.below hwW); have wlH := Lib.hid wl; have hnH := Lib.hid hn; have hlaH := Lib.hid hla
  have hnp : ¬ ((n : Int) = 0) := by omega
  have hnb : ((n : Int) == 0) = false := by simpa using hnp
  have hn40 : n ≤ 1099511627776 := by omega
  have hmk := make_str n hn40
  have hp0 := Lib.hid hp
  obtain ⟨r, hr⟩ : ∃ r, printT ⟨e, l⟩ = r := ⟨_, rfl⟩
  rw [hr]
  have hrH := Lib.hid hr
  clear ha hA hwW hzz hT wl hn hla hp hr
  have hb := Below.refl W0.heap.size W0
  have a0_ := (hAH.out.below hb).cell 0 rfl; have a1_ := (hAH.out.below hb).cell 1 rfl; have hz := Nat.lt_of_lt_of_le hz0.out hb.size; have hs := hb.size
  go_enter Tryz.func76, Tryz.ntmps76
  go_wp2_with fail
  refine (formatUint_any e he _ (hTH.out)).mono ?_
  rintro e' w1 ⟨rfl, hb1⟩
  replace hb := chainB (B := W0.heap.size) (a := W0) (by go_grown) hb1 (by simp)
  clear a0_ a1_ hz hs
  have a0_ := (hAH.out.below hb).cell 0 rfl; have a1_ := (hAH.out.below hb).cell 1 rfl; have hz := Nat.lt_of_lt_of_le hz0.out hb.size; have hs := hb.size
  go_wp2_with fail
  have hgH := Lib.hid (HasC.new w1 (List.replicate n (strV [])) 9)
  obtain ⟨g, hg⟩ : ∃ g, w1.heap.size = g := ⟨_, rfl⟩
  have hgl : W0.heap.size ≤ g := by have := hb.size; omega
  rw [hg] at hgH ⊢
  obtain ⟨w2, hw2⟩ : ∃ w2, w1.alloc (.cells (List.replicate n (strV [])).toArray 9) = w2 := ⟨_, rfl⟩
  replace hb : Below W0.heap.size W0 w2 := by rw [← hw2]; exact hb.alloc hb.size _
  rw [List.toArray_replicate] at hw2
  rw [List.toArray_replicate, hw2] at hgH
  rw [hw2]
  have hbH := Lib.hid hb
  clear hb hw2 hg a0_ a1_ hz hs hmk hnp hnb
  go_loopw [22] (fun i wr => RelPr l g W0 i wr) (fun i _ => n - (Go.RowKit.intOf i).toNat)
  case atStart => exact ⟨0, rfl, Nat.zero_le _, by simpa [hlaH.out] using hgH.out, hbH.out, by simpa using hgH.out.lt⟩
  case round =>
    unfold RelPr at hrel
    obtain ⟨p, rfl, hpl, hc, hb, hgz⟩ := hrel
    have hcH := Lib.hid hc
    have hpn : p ≤ n := by have := hlaH.out; omega
    clear hc hpl
    by_cases hp : p < n
    · have h1 : p < l.length := by have := hlaH.out; omega
      obtain ⟨ad, rfl, hba, ac_⟩ := (haH.out.below hb).at h1
      obtain ⟨x, hx⟩ : ∃ x, l[p] = x := ⟨_, rfl⟩
      rw [hx] at ac_
      have hw := wlH.out.at h1
      rw [hx] at hw
      have hxH := Lib.hid hx
      obtain ⟨u, rfl⟩ : ∃ u : Nat, x = u := ⟨x.toNat, by omega⟩
      have hu : u < 4294967296 := by omega
      have ux : IntKind.u64.wrap (u : Int) = u := IntWalk.u64_in _ (by omega)
      clear hx hw
      go_wp2_with fail
      refine (formatUint_any u (by omega) _ (hTH.out.below hb)).mono ?_
      rintro e' w3 ⟨rfl, hb2⟩
      have hc3 := hcH.out.below hb2
      have hlt : ((l.take p).map (fun z => strV (decI z)) ++ List.replicate (l.length - p) (strV []))[p]? = some (strV []) := by
        have := hlaH.out
        rw [List.getElem?_append_right (by simp; omega)]
        simp only [List.length_map, List.length_take, List.getElem?_replicate]
        rw [if_pos (by omega)]
      have g_ := hc3.cell p hlt; have gf_ := hc3.free p
      have hset := pr_step l p u (by have := hlaH.out; omega) hxH.out
      have hsetH := Lib.hid (show HasC (w3.setCell ⟨g, p, none⟩ (strV (Lib.decDigits u))) g ((l.take (p + 1)).map (fun z => strV (decI z)) ++ List.replicate (l.length - (p + 1)) (strV [])) 9 by rw [← hset]; exact hc3.set p _)
      have hb3H := Lib.hid ((chainB hb hb2 hb.size).setCell (p := ⟨g, p, none⟩) (by simp; omega) (strV (Lib.decDigits u)))
      have hgzH := Lib.hid (Nat.lt_of_lt_of_le hgz hb2.size)
      unfold strV at hsetH hb3H g_
      clear hcH hc3 hlt hset hb hb2 hgz ac_ hba
      go_wp2_with fail
      go_roundw
      case rel => exact ⟨p + 1, by go_num, by have := hlaH.out; omega, hsetH.out, hb3H.out, by simpa using hgzH.out⟩
      case measure => simp [Go.RowKit.intOf]; have := hlaH.out; omega
    · obtain rfl : p = n := by omega
      rw [show l.length - p = 0 by have := hlaH.out; omega, List.take_of_length_le (by have := hlaH.out; omega), List.replicate_zero, List.append_nil] at hcH
      have hd := decDigits_len e he
      have hj := joinD_len l (W32.le wlH.out)
      have hl := hlaH.out
      have hjH := Lib.hid hj
      have hlist : l.map (fun z => strV (decI z)) = (l.map fun z => (⟨(decI z).toArray⟩ : ByteArray)).map Value.string := by rw [List.map_map]; rfl
      rw [hlist] at hcH
      have hmm : (l.map fun z => (⟨(decI z).toArray⟩ : ByteArray)).map (fun x => x.data.toList) = l.map decI := by rw [List.map_map]; simp [Function.comp_def]
      have hjoin := Tryz.strings_Join g 0 p (l.map fun z => (⟨(decI z).toArray⟩ : ByteArray)) ⟨#[44]⟩ wr (fun j x hx => by
        have := hcH.out.cell (0 + j) (v := .string x) (by rw [Nat.zero_add]; simpa using hx)
        exact this) hgz (by simp; omega) (by simp; omega) (by rw [hmm]; exact Nat.le_trans hj (by omega))
      rw [List.length_map, hl, hmm] at hjoin
      obtain ⟨J, hJ⟩ : ∃ J, joinD l = J := ⟨_, rfl⟩
      rw [show Lib.join (l.map decI) (⟨#[44]⟩ : ByteArray).data.toList = J from hJ] at hjoin
      rw [hJ] at hj
      have hjH := Lib.hid hjoin
      have hJH := Lib.hid hJ
      have hj2 : J.length ≤ 23089744183296 := by omega
      clear hJ hjoin hl hlist
      go_wp2_with fail
      refine hjH.out.mono ?_
      rintro e' w3 ⟨rfl, hb2⟩
      go_wp2_with fail
      go_ret
      refine ⟨?_, hwWH.out.trans ((chainB hb hb2 hb.size).mono hwWH.out.size)⟩
      rw [← hrH.out, printT_more _ hp0.out, hJH.out]
      exact congrArg (fun s => Ending.returned (.string s)) (ba4 (Lib.decDigits e) [40] J [41])
theorem print_any (va : Value) (t : Tm) (w : World) (ha : TmV w va t) (wt : TmW t) (hn : t.l.length ≤ 1099511627776) (hT : Pows w) :
    Calls Tryz.prog 76 #[va] w fun e w' => e = .returned (.string ⟨(printT t).toArray⟩) ∧ Below w.heap.size w w' := by
  obtain ⟨e, l⟩ := t
  obtain ⟨⟨h0, h1⟩, wl⟩ := wt
  obtain ⟨e, rfl⟩ : ∃ u : Nat, e = u := ⟨e.toNat, by simp only at h0; omega⟩
  have he : e < 18446744073709551616 := by simp only at h1; omega
  by_cases hp : 0 < l.length
  · exact print_more va e l w ha he wl hn hp hT
  obtain rfl : l = [] := List.eq_nil_of_length_eq_zero (by omega)
  obtain ⟨sa, rfl, ha⟩ := ha
  simp only at ha ⊢
  obtain ⟨A, n, ca, rfl, hla, hca, hcc⟩ := ha.form
  obtain rfl : n = 0 := by simpa using hla.symm
  obtain ⟨W0, hW0, hwW, hA, hzz⟩ := boxes1 w [.int .u64 e, .slice A 0 ca] 26
  have hTH := Lib.hid (hT.below hwW); have hwWH := Lib.hid hwW
  have hb := Below.refl W0.heap.size W0
  have a0_ := (hA.below hb).cell 0 rfl; have a1_ := (hA.below hb).cell 1 rfl
  have hAH := Lib.hid hA
  clear hT hwW ha hla wl hn hp h0 h1 hA hca
  go_enter Tryz.func76, Tryz.ntmps76
  go_wp2_with fail
  refine (formatUint_any e he _ (hTH.out)).mono ?_
  rintro e' w1 ⟨rfl, hb1⟩
  replace hb := chainB (B := W0.heap.size) (a := W0) (by go_grown) hb1 (by simp)
  clear a0_ a1_ hb1
  have a0_ := (hAH.out.below hb).cell 0 rfl; have a1_ := (hAH.out.below hb).cell 1 rfl
  go_wp2_with fail
  go_ret
  exact ⟨rfl, hwWH.out.trans (hb.mono hwWH.out.size)⟩
end Go.Proofs.YtdfhchpimpbgfaaGreatDoor
