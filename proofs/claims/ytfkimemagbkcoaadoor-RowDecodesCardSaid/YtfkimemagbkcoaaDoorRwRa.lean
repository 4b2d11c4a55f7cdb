/-
  How the program reads a row's bytes, at this program: the reader's words, must, next. Conditions: those written.
  How the program reads a number of a row's bytes, at this program. Conditions: those written.
  How the program reads a text of a row's bytes, at this program. Conditions: those written.
-/
import Derived.Test.YtfkimemagbkcoaaDoorRwB9
import Derived.Test.YtfkimemagbkcoaaDoorRowD
import Derived.Defers
import Derived.Recover
import Derived.Deep.Cut
import Derived.Laws.Bits64b
set_option linter.unusedVariables false
set_option linter.unusedSimpArgs false
namespace Go.Proofs.YtfkimemagbkcoaaDoor
open Go.RowKit Go.Lib

/-- The reader's own panic. -/
abbrev mal : List PanicEntry := [{ v := .iface 115 (.agg #[.int .u16 20]), recovered := false }]
theorem must_yes (p : Value) (w : World) : Calls Tryd.prog 64 #[p, .bool true] w fun e w' => e = .returned (.tuple #[]) ∧ w' = w := by
  go_enter Tryd.func64, Tryd.ntmps64
  go_wp2
  first | go_end0 | refine bodyPost_ret (results_none rfl _ _ _) rfl ?_
  exact ⟨rfl, rfl⟩
theorem must_no (p : Value) (w : World) : Calls Tryd.prog 64 #[p, .bool false] w fun e w' => e = .panicked mal ∧ w' = w := by
  go_enter Tryd.func64, Tryd.ntmps64
  go_wp2
  exact ⟨rfl, rfl, rfl⟩
/-- Of the blocks below B none but g has turned. -/
structure Stay (g B : Nat) (w w' : World) : Prop where
  os : w'.os = w.os
  tape : w'.tape = w.tape
  output : w'.output = w.output
  size : w.heap.size ≤ w'.heap.size
  block : ∀ k, k < B → k ≠ g → w'.heap[k]? = w.heap[k]?
theorem Stay.refl (g B : Nat) (w : World) : Stay g B w w := ⟨rfl, rfl, rfl, Nat.le_refl _, fun _ _ _ => rfl⟩
theorem Stay.trans {g B : Nat} {a b c : World} (h : Stay g B a b) (k : Stay g B b c) : Stay g B a c :=
  ⟨k.os.trans h.os, k.tape.trans h.tape, k.output.trans h.output, Nat.le_trans h.size k.size, fun i hi hg => (k.block i hi hg).trans (h.block i hi hg)⟩
theorem Stay.mono {g B B' : Nat} {w w' : World} (h : Stay g B w w') (hB : B' ≤ B) : Stay g B' w w' := ⟨h.os, h.tape, h.output, h.size, fun k hk hg => h.block k (by omega) hg⟩
theorem Stay.of {g B : Nat} {w w' : World} (h : Below B w w') : Stay g B w w' := ⟨h.os, h.tape, h.output, h.size, fun k hk _ => h.block k hk⟩
theorem Stay.low {g B : Nat} {w w' : World} (h : Stay g B w w') (hg : g ≤ B) : Below g w w' := ⟨h.os, h.tape, h.output, h.size, fun k hk => h.block k (by omega) (by omega)⟩
theorem Stay.set {g B : Nat} {a w : World} (h : Stay g B a w) (o : Nat) (u : Value) : Stay g B a (w.setCell ⟨g, o, none⟩ u) :=
  h.trans ⟨rfl, rfl, rfl, by simp [World.setCell], fun k hk hg => Below.heap_setCell _ _ _ _ hg⟩
theorem Stay.row {g B e k n : Nat} {v : Value} {xs : List Value} {w w' : World} (h : w.ownsRow B e k v n xs) (hs : Stay g w.heap.size w w') (hg : g < B) : w'.ownsRow B e k v n xs := by
  refine ⟨h.1, ?_⟩
  rcases h.2 with h1 | ⟨b, cap, cur, rfl, h1, h2, h3⟩
  · exact .inl h1
  · exact .inr ⟨b, cap, cur, rfl, h1, (hs.block b (Array.getElem?_eq_some_iff.1 h2).1 (by omega)).trans h2, h3⟩
/-- Block b is a variable of the type t that holds these cells. -/
def HasV (w : World) (b : Nat) (cs : List Value) (t : TypeId) : Prop := w.heap[b]? = some (.cells cs.toArray t (0, 0))
theorem HasV.lt {w : World} {b : Nat} {cs : List Value} {t : TypeId} (h : HasV w b cs t) : b < w.heap.size := (Array.getElem?_eq_some_iff.1 h).1
theorem HasV.cell {w : World} {b : Nat} {cs : List Value} {t : TypeId} (h : HasV w b cs t) (i : Nat) {u : Value} (hu : cs[i]? = some u) : w.cell? ⟨b, i, none⟩ = some u := by
  unfold HasV at h
  simp only [World.cell?, h]
  simpa using hu
theorem HasV.free {w : World} {b : Nat} {cs : List Value} {t : TypeId} (h : HasV w b cs t) (i : Nat) : w.frozen? ⟨b, i, none⟩ = false := Lib.frozen_of_heap h i
theorem HasV.new (w : World) (cs : List Value) (t : TypeId) : HasV (w.alloc (.cells cs.toArray t)) w.heap.size cs t := heap_alloc_new w _
theorem HasV.stay {g : Nat} {w w' : World} {b : Nat} {cs : List Value} {t : TypeId} (h : HasV w b cs t) (hs : Stay g w.heap.size w w') (hb : b ≠ g) : HasV w' b cs t := (hs.block b h.lt hb).trans h
theorem HasV.below {w w' : World} {b : Nat} {cs : List Value} {t : TypeId} {B : Nat} (h : HasV w b cs t) (hs : Below B w w') (hb : b < B) : HasV w' b cs t := (hs.block b hb).trans h
theorem HasV.set {w : World} {b : Nat} {cs : List Value} {t : TypeId} (h : HasV w b cs t) (i : Nat) (u : Value) : HasV (w.setCell ⟨b, i, none⟩ u) b (cs.set i u) t := by
  unfold HasV at h ⊢
  simp only [World.setCell, Array.getElem?_modify, if_true, h]
  simp
/-- The bytes behind the first one. -/
theorem BytsV.tail {w : World} {ad : Addr} {n c j : Nat} {b : UInt8} {L : List UInt8} (h : BytsV w (.slice (some ad) n c) (b :: L)) (hj : L.length = j) : BytsV w (.slice (if c = 1 then some ad else some (ad.add 1)) j (c - 1)) L := by
  subst hj
  obtain ⟨_, A', c', e, h2, h3, h0, h4⟩ := h
  obtain ⟨rfl, rfl, rfl⟩ := Value.slice.inj e
  rw [List.length_cons] at h2
  refine ⟨by rw [Lib.byteCells_length, Nat.mul_one], _, _, rfl, by omega, by omega, (fun q => by (split at q <;> cases q)), fun hp => ?_⟩
  obtain ⟨ad', e', h5, h6⟩ := h4 (by simp)
  cases e'
  rw [if_neg (by omega)]
  refine ⟨_, rfl, by rw [add_block]; exact h5, fun j u hj => ?_⟩
  rw [add_twice, Nat.add_comm 1 j]
  refine h6 (j + 1) u ?_
  simpa [Lib.byteCells] using hj
/-- The reader's variable is the first block behind W0, and what is left of what W0 holds are these bytes. -/
def RdS (W0 w : World) (L : List UInt8) : Prop := ∃ A c, HasV w W0.heap.size [.slice A L.length c] 75 ∧ BytsV W0 (.slice A L.length c) L ∧ Below W0.heap.size W0 w
/-- What a read answers: a panic, or what it read. -/
def OutRd {α : Type} (W0 : World) (f : α → Value) (r : Option (α × List UInt8)) (w : World) (e : Ending) (w' : World) : Prop :=
  Stay W0.heap.size w.heap.size w w' ∧ ((r = none ∧ e = .panicked mal) ∨ ∃ x L, r = some (x, L) ∧ e = .returned (f x) ∧ RdS W0 w' L)
theorem OutRd.next {α : Type} {W0 w : World} {L : List UInt8} {A : Option Addr} {c : Nat} {old : Value} (hv : HasV w W0.heap.size [old] 75) (hb : BytsV W0 (.slice A L.length c) L) (hbl : Below W0.heap.size W0 w) (f : α → Value) (x : α) :
    OutRd W0 f (some (x, L)) w (.returned (f x)) (w.setCell ⟨W0.heap.size, 0, none⟩ (.slice A L.length c)) :=
  ⟨(Stay.refl _ _ _).set _ _, .inr ⟨x, L, rfl, rfl, A, c, hv.set 0 _, hb, hbl.setCell (Nat.le_refl _) _⟩⟩
def nextS : List UInt8 → Option (UInt8 × List UInt8)
  | [] => none
  | b :: L => some (b, L)
abbrev readerP (W0 : World) : Value := .pointer (some ⟨W0.heap.size, 0, none⟩)
set_option maxHeartbeats 2000000 in
theorem next_any (W0 w : World) (L : List UInt8) (h : RdS W0 w L) :
    Calls Tryd.prog 84 #[readerP W0] w fun e w' => OutRd W0 (fun b => .int .u8 b.toNat) (nextS L) w e w' := by
  obtain ⟨A, c, hv, hby, hbl⟩ := h
  have hvH := Lib.hid hv; have hbyH := Lib.hid hby; have hblH := Lib.hid hbl
  have v0_ := hv.cell 0 rfl
  have vf_ := hv.free 0
  clear hv hby hbl
  cases L with
  | nil =>
    go_enter Tryd.func84, Tryd.ntmps84
    go_wp2_with fail
    refine (must_no _ _).mono ?_
    rintro e w' ⟨rfl, rfl⟩
    go_wp2_with fail
    exact ⟨rfl, Stay.refl _ _ _, .inl ⟨rfl, rfl⟩⟩
  | cons b L =>
    obtain ⟨ad, rfl, hba, a0_⟩ := (hbyH.out.below (hblH.out)).at (i := 0) rfl
    rw [add_zero] at hba a0_
    go_enter Tryd.func84, Tryd.ntmps84
    go_wp2_with fail
    refine (must_yes _ _).mono ?_
    rintro e w' ⟨rfl, rfl⟩
    have hc1 : (1 : Int) ≤ (L.length : Int) + 1 := by omega
    have htl := Lib.hid (BytsV.tail hbyH.out rfl)
    by_cases c1 : c = 1
    · subst c1
      rw [if_pos rfl] at htl
      go_wp2_with fail
      go_ret
      exact OutRd.next hvH.out htl.out hblH.out (fun b : UInt8 => .int .u8 b.toNat) b
    · rw [if_neg c1] at htl
      go_wp2_with fail
      go_ret
      exact OutRd.next hvH.out htl.out hblH.out (fun b : UInt8 => .int .u8 b.toNat) b
open Go.RowKit Go.Lib

def RelIn (W0 w : World) (L : List UInt8) (s3 s4 : Value) (wr : World) : Prop := ∃ p : Nat, p ≤ 8 ∧ p ≤ L.length ∧ s3 = .int .u64 (beV (L.take p) : Int) ∧ s4 = .int .i64 (p : Int) ∧ RdS W0 wr (L.drop p) ∧ Stay W0.heap.size w.heap.size w wr
theorem beV_take {L M' : List UInt8} {p : Nat} {b : UInt8} (h : L.drop p = b :: M') : beV (L.take (p + 1)) = beV (L.take p) * 256 + b.toNat ∧ p < L.length ∧ L.drop (p + 1) = M' := by
  have hp : p < L.length := by
    rcases Nat.lt_or_ge p L.length with h1 | h1
    · exact h1
    · rw [List.drop_eq_nil_iff.2 h1] at h; cases h
  have h1 := List.drop_eq_getElem_cons hp
  rw [h] at h1
  injection h1 with h2 h3
  refine ⟨?_, hp, h3.symm⟩
  rw [List.take_succ_eq_append_getElem hp, beV_snoc, ← h2]
theorem beV_small (L : List UInt8) {p : Nat} (hp : p ≤ 8) : beV (L.take p) ≤ 18446744073709551615 := by
  have h1 := beV_lt (L.take p)
  have h2 : 256 ^ (L.take p).length ≤ 256 ^ 8 := Nat.pow_le_pow_right (by decide) (by rw [List.length_take]; omega)
  have h3 : (256 : Nat) ^ 8 = 18446744073709551616 := by decide
  omega
theorem u64_small {n : Nat} (h : n ≤ 18446744073709551615) : IntKind.u64.wrap (n : Int) = (n : Int) := by
  rw [IntKind.wrap_u64]; omega
theorem or_byte {n : Nat} {b : UInt8} (h : n * 256 + b.toNat ≤ 18446744073709551615) :
    bits .or .u64 (IntKind.u64.wrap ((n : Int) * 256)) (IntKind.u64.wrap (b.toNat : Int)) = ((n * 256 + b.toNat : Nat) : Int) := by
  have hb := b.toNat_lt
  obtain ⟨m, hm⟩ : ∃ m, n * 256 = m := ⟨_, rfl⟩
  have hmi : (n : Int) * 256 = (m : Int) := by omega
  have e1 : IntKind.u64.wrap (m : Int) = (m : Int) := u64_small (by omega)
  have e2 : IntKind.u64.wrap (b.toNat : Int) = (b.toNat : Int) := u64_small (by omega)
  rw [hmi, e1, e2, bits_or_u64_nat m b.toNat (by omega) (by omega)]
  have h1 : n * 256 ||| b.toNat = n * 256 + b.toNat := by
    have := Nat.two_pow_add_eq_or_of_lt (i := 8) (b := b.toNat) (by omega) n
    rw [show 2 ^ 8 = 256 from rfl] at this
    rw [Nat.mul_comm n 256]
    exact this.symm
  rw [← hm, h1]
theorem RdS.lt {W0 w : World} {L : List UInt8} (h : RdS W0 w L) : W0.heap.size < w.heap.size := by
  obtain ⟨A, c, h, _⟩ := h
  exact h.lt
set_option maxHeartbeats 2000000 in
theorem integer_any (W0 w : World) (L : List UInt8) (h : RdS W0 w L) :
    Calls Tryd.prog 85 #[readerP W0] w fun e w' => OutRd W0 (fun n => .int .i64 n) (intS L) w e w' := by
  have hH := Lib.hid h
  clear h
  go_enter Tryd.func85, Tryd.ntmps85
  go_wp2_with fail
  go_loopw [3, 4] (fun s3 s4 wr => RelIn W0 w L s3 s4 wr) (fun _ s4 _ => 8 - (Go.RowKit.intOf s4).toNat)
  case atStart => exact ⟨0, by omega, by omega, rfl, rfl, hH.out, Stay.refl _ _ _⟩
  case round =>
    unfold RelIn at hrel
    obtain ⟨p, hp, hl, rfl, rfl, hrd, hst⟩ := hrel
    have hrdH := Lib.hid hrd; have hstH := Lib.hid hst
    clear hrd hst
    by_cases hlt : p < 8
    · obtain ⟨M, hM⟩ : ∃ M, L.drop p = M := ⟨_, rfl⟩
      obtain ⟨n, hn⟩ : ∃ n, beV (L.take p) = n := ⟨_, rfl⟩
      rw [hM] at hrdH
      have hMH := Lib.hid hM; have hnH := Lib.hid hn
      rw [hn]
      clear hM hn
      go_wp2_with fail
      refine (next_any W0 wr M hrdH.out).mono ?_
      rintro e w' ⟨hs, hcase⟩
      have hsH := Lib.hid (hstH.out.trans (hs.mono hstH.out.size))
      clear hs
      rcases hcase with ⟨hnone, rfl⟩ | ⟨b, M', hsome, rfl, hrd'⟩
      · have hnoH := Lib.hid hnone
        clear hnone
        go_wp2_with fail
        have hno : intS L = none := by
          refine intS_short ?_
          have h1 := hnoH.out
          have h2 := hMH.out
          cases M with
          | nil => have := List.drop_eq_nil_iff.1 h2; omega
          | cons c M => cases h1
        exact ⟨rfl, hsH.out, .inl ⟨hno, rfl⟩⟩
      · have hsoH := Lib.hid hsome; have hrd2 := Lib.hid hrd'
        clear hsome hrd'
        go_wp2_with fail
        have hM := hsoH.out
        cases M with
        | nil => cases hM
        | cons c M =>
          cases hM
          obtain ⟨h1, h2, h3⟩ := beV_take hMH.out
          have h4 := beV_small L (p := p + 1) (by omega)
          rw [hnH.out] at h1
          rw [h1] at h4
          refine ⟨⟨p + 1, by omega, h2, ?_, by go_num, by rw [h3]; exact hrd2.out, hsH.out⟩, by simp [Go.RowKit.intOf]; omega⟩
          rw [h1, or_byte h4]
    · obtain rfl : p = 8 := by omega
      go_wp2_with fail
      have h1 : intS L = some ((beV (L.take 8) : Int) - 9223372036854775808, L.drop 8) := if_neg (by omega)
      have h2 := beV_small L (p := 8) (by omega)
      have h3 : wrap64 (IntKind.u64.wrap ((beV (L.take 8) : Int) - 9223372036854775808)) = (beV (L.take 8) : Int) - 9223372036854775808 := by
        rw [IntKind.wrap_u64]
        unfold wrap64
        omega
      go_ret
      exact ⟨hstH.out, .inr ⟨_, _, h1, by rw [h3]; rfl, hrdH.out⟩⟩
open Go.RowKit Go.Lib

theorem textS_other {b : UInt8} {L : List UInt8} (h : b ≠ 0) : textS (b :: L) = (textS L).map (fun x => (b :: x.1, x.2)) := by
  cases L with
  | nil => rfl
  | cons m r => rw [textS, if_neg h]
theorem textS_end (r : List UInt8) : textS (0 :: 1 :: r) = some ([], r) := by rw [textS, if_pos rfl, if_pos rfl]
theorem textS_zero (r : List UInt8) : textS (0 :: 255 :: r) = (textS r).map (fun x => (0 :: x.1, x.2)) := by rw [textS, if_pos rfl, if_neg (by decide), if_pos rfl]
theorem textS_bad {m : UInt8} (r : List UInt8) (h1 : m ≠ 1) (h2 : m ≠ 255) : textS (0 :: m :: r) = none := by rw [textS, if_pos rfl, if_neg h1, if_neg h2]
theorem textS_on {L M M' acc : List UInt8} {b : UInt8} (h : textS L = (textS M).map (fun x => (acc ++ x.1, x.2))) (hM : textS M = (textS M').map (fun x => (b :: x.1, x.2))) : textS L = (textS M').map (fun x => ((acc ++ [b]) ++ x.1, x.2)) := by
  rw [h, hM]
  cases textS M' <;> simp
/-- How many bytes the reader has left. -/
def rdN (W0 w : World) : Nat := match w.cell? ⟨W0.heap.size, 0, none⟩ with
  | some (.slice _ n _) => n
  | _ => 0
theorem RdS.n {W0 w : World} {L : List UInt8} (h : RdS W0 w L) : rdN W0 w = L.length := by
  obtain ⟨A, c, h, _⟩ := h
  unfold rdN
  rw [h.cell 0 rfl]
theorem u8_ne {a b : UInt8} (h : a ≠ b) : ((a.toNat : Int) == (b.toNat : Int)) = false := by
  rw [beq_eq_false_iff_ne]
  intro q
  exact h (UInt8.toNat_inj.1 (by omega))
def RelTx (W0 w : World) (L : List UInt8) (s3 : Value) (wr : World) : Prop :=
  ∃ acc M, textS L = (textS M).map (fun x => (acc ++ x.1, x.2)) ∧ OwnU w.heap.size s3 acc wr ∧ RdS W0 wr M ∧ Stay W0.heap.size w.heap.size w wr ∧ acc.length + M.length ≤ L.length
theorem RdS.below {W0 w w' : World} {L : List UInt8} (h : RdS W0 w L) {B : Nat} (hb : Below B w w') (hB : W0.heap.size < B) : RdS W0 w' L := by
  obtain ⟨A, c, h1, h2, h3⟩ := h
  exact ⟨A, c, h1.below hb hB, h2, h3.trans (hb.mono (by omega))⟩
set_option maxHeartbeats 4000000 in
theorem text_any (W0 w : World) (L : List UInt8) (h : RdS W0 w L) (hl : L.length ≤ 1099511627776) :
    Calls Tryd.prog 86 #[readerP W0] w fun e w' => OutRd W0 (fun l : List UInt8 => .string ⟨l.toArray⟩) (textS L) w e w' := by
  have hH := Lib.hid h
  have hlt := h.lt
  clear h
  go_enter Tryd.func86, Tryd.ntmps86
  go_wp2_with fail
  go_loopw [3] (fun s3 wr => RelTx W0 w L s3 wr) (fun _ wr => rdN W0 wr)
  case atStart => exact ⟨[], L, by cases textS L <;> simp, World.ownsRow_nil _ _ _ _, hH.out, Stay.refl _ _ _, by simp⟩
  case round =>
    unfold RelTx at hrel
    obtain ⟨acc, M, htx, hown, hrd, hst, hle⟩ := hrel
    obtain ⟨A0, c0, rfl⟩ := hown.form
    have hownH := Lib.hid hown; have hrdH := Lib.hid hrd; have hstH := Lib.hid hst; have htxH := Lib.hid htx
    have hn := Lib.hid hrd.n
    clear hown hrd hst htx
    go_wp2_with fail
    refine (next_any W0 wr M hrdH.out).mono ?_
    rintro e w' ⟨hs, hcase⟩
    have hown1 := Lib.hid (hs.row hownH.out hlt)
    have hsH := Lib.hid (hstH.out.trans (hs.mono hstH.out.size))
    clear hs
    rcases hcase with ⟨hnone, rfl⟩ | ⟨b, M', hsome, rfl, hrd'⟩
    · have hno : Hid (textS L = none) := by
        have h1 := htxH.out
        cases M with
        | nil => exact h1
        | cons c M => cases hnone
      clear hnone
      go_wp2_with fail
      exact ⟨rfl, hsH.out, .inl ⟨hno.out, rfl⟩⟩
    · have hrd2 := Lib.hid hrd'
      obtain rfl : M = b :: M' := by
        cases M with
        | nil => cases hsome
        | cons c M => cases hsome; rfl
      clear hsome hrd'
      by_cases hz : b = 0
      · subst hz
        go_wp2_with fail
        refine (next_any W0 _ M' hrd2.out).mono ?_
        rintro e w2 ⟨hs2, hcase⟩
        have hown2 := Lib.hid (hs2.row hown1.out hlt)
        have hs2H := Lib.hid (hsH.out.trans (hs2.mono hsH.out.size))
        clear hs2
        rcases hcase with ⟨hnone, rfl⟩ | ⟨m, M2, hsome, rfl, hrd'⟩
        · have hno : Hid (textS L = none) := by
            have h1 := htxH.out
            cases M' with
            | nil => exact h1
            | cons c M => cases hnone
          clear hnone
          go_wp2_with fail
          exact ⟨rfl, hs2H.out, .inl ⟨hno.out, rfl⟩⟩
        · have hrd3 := Lib.hid hrd'
          obtain rfl : M' = m :: M2 := by
            cases M' with
            | nil => cases hsome
            | cons c M => cases hsome; rfl
          clear hsome hrd'
          by_cases h1 : m = 1
          · subst h1
            have hfin := Lib.hid (show textS L = some (acc, M2) by rw [htxH.out, textS_end]; simp)
            have hcv := conv_key hown2.out
            go_wp2_with fail
            go_ret
            exact ⟨hs2H.out, .inr ⟨acc, M2, hfin.out, rfl, hrd3.out⟩⟩
          · have hne1 : ((m.toNat : Int) == 1) = false := u8_ne h1
            by_cases h2 : m = 255
            · subst h2
              have hcs : Hid ((#[Value.int .u8 0] : Array Value) = (Lib.byteCells [0]).toArray) := by exact (show _ = _ by simp [Lib.byteCells])
              have htx2 := Lib.hid (textS_on htxH.out (textS_zero M2))
              have hsz := Lib.hid hs2H.out.size
              clear h1
              go_wp2_with fail
              refine (must_yes _ _).mono ?_
              rintro e w3 ⟨rfl, rfl⟩
              go_wp2_with (at_builtin; refine wpList_bytes rfl _ _ rfl w.heap.size _ _ w3 _ 1 [0] _ hcs.out (OwnK.start hown2.out hsz.out) rfl rfl rfl (by simp only [List.length_cons] at hle; omega) ?_; intro v' w4 hq; have hown3 := Lib.hid hq; clear hq)
              have hrd4 := Lib.hid (hrd3.out.below hown3.out.2.1 hlt)
              exact ⟨⟨acc ++ [0], M2, htx2.out, hown3.out.1, hrd4.out, hs2H.out.trans (Stay.of hown3.out.2.1), by simp only [List.length_cons, List.length_append, List.length_nil] at hle ⊢; omega⟩, by rw [hrd4.out.n, hn.out]; simp only [List.length_cons]; omega⟩
            · have hno := Lib.hid (show textS L = none by rw [htxH.out, textS_bad M2 h1 h2]; rfl)
              have hne2 : ((m.toNat : Int) == 255) = false := u8_ne h2
              clear h1 h2
              go_wp2_with fail
              refine (must_no _ _).mono ?_
              rintro e w3 ⟨rfl, rfl⟩
              go_wp2_with fail
              exact ⟨rfl, hs2H.out, .inl ⟨hno.out, rfl⟩⟩
      · have hne : ((b.toNat : Int) == 0) = false := u8_ne hz
        have hcs : Hid ((#[Value.int .u8 (b.toNat : Int)] : Array Value) = (Lib.byteCells [b]).toArray) := by exact (show _ = _ by simp [Lib.byteCells])
        have htx2 := Lib.hid (textS_on htxH.out (textS_other hz))
        have hsz := Lib.hid hsH.out.size
        clear hz
        go_wp2_with (at_builtin; refine wpList_bytes rfl _ _ rfl w.heap.size _ _ w' _ 1 [b] _ hcs.out (OwnK.start hown1.out hsz.out) rfl rfl rfl (by simp only [List.length_cons] at hle; omega) ?_; intro v' w2 hq; have hown2 := Lib.hid hq; clear hq)
        have hrd4 := Lib.hid (hrd2.out.below hown2.out.2.1 hlt)
        exact ⟨⟨acc ++ [b], M', htx2.out, hown2.out.1, hrd4.out, hsH.out.trans (Stay.of hown2.out.2.1), by simp only [List.length_cons, List.length_append, List.length_nil] at hle ⊢; omega⟩, by rw [hrd4.out.n, hn.out]; simp only [List.length_cons]; omega⟩
end Go.Proofs.YtfkimemagbkcoaaDoor
