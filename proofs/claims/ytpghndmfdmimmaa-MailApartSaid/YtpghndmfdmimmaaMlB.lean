/-
  The box of layer 9 as its channels: what lies where, and what becomes of it when one channel changes. Nothing is walked here. Conditions: those written.
-/
import Derived.Test.YtpghndmfdmimmaaMlW
set_option linter.unusedVariables false
set_option linter.unusedSimpArgs false
namespace Go.Proofs.Ytpghndmfdmimmaa
open Go.RowKit Go.Lib

/-- One channel: where its places lie, the first one's number, and the numbers that its messages hold. -/
structure Ch where
  T : Nat
  f : Nat
  q : List Int
def RingAt (cs : List Value) (o n : Nat) (r : Ch) : Prop := cs[o]? = some (.slice (some ⟨r.T, 0, none⟩) n n) ∧ cs[o + 1]? = some (.int .i64 r.f) ∧ cs[o + 2]? = some (.int .i64 (r.q.length : Nat))
/-- From place o of the cells ds on lies a message of the number z. -/
def MsgAt (w : World) (ds : List Value) (o : Nat) (z : Int) : Prop := ∃ A c, (∀ i x, (msgC (.slice (some A) 1 c))[i]? = some x → ds[o + i]? = some x) ∧ UpdV w (.slice (some A) 1 c) z
def Slots (w : World) (n : Nat) (r : Ch) : Prop := ∃ ds, HasC w r.T ds 31 ∧ ds.length = 7 * n ∧ ∀ j z, r.q[j]? = some z → MsgAt w ds ((r.f + j) % n * 7) z
theorem MsgAt.below {w w' : World} {ds : List Value} {o : Nat} {z : Int} (h : MsgAt w ds o z) (hb : Below w.heap.size w w') : MsgAt w' ds o z := by
  obtain ⟨A, c, h1, h2⟩ := h
  exact ⟨A, c, h1, h2.below hb⟩
theorem Slots.below {w w' : World} {n : Nat} {r : Ch} (h : Slots w n r) (hb : Below w.heap.size w w') : Slots w' n r := by
  obtain ⟨ds, h1, h2, h3⟩ := h
  exact ⟨ds, h1.below hb, h2, fun j z hj => (h3 j z hj).below hb⟩
theorem RowV.two {w w' : World} {v : Value} {z : Int} {S T : Nat} {cs ds : List Value} (h : RowV w v z) (k : Two w w' S T) (hS : HasC w S cs 98) (hT : HasC w T ds 31) : RowV w' v z := by
  obtain ⟨Y, c, ys, h1, h2, h3, h4⟩ := h
  exact ⟨Y, c, ys, h1, h2, h3, k.has h4 (h4.types hS (by decide)) (h4.types hT (by decide))⟩
theorem UpdV.two {w w' : World} {v : Value} {z : Int} {S T : Nat} {cs ds : List Value} (h : UpdV w v z) (k : Two w w' S T) (hS : HasC w S cs 98) (hT : HasC w T ds 31) : UpdV w' v z := by
  obtain ⟨X, c, xs, r, h1, h2, h3, h4, h5⟩ := h
  exact ⟨X, c, xs, r, h1, h2, h3, k.has h4 (h4.types hS (by decide)) (h4.types hT (by decide)), h5.two k hS hT⟩
theorem MsgAt.two {w w' : World} {es : List Value} {o : Nat} {z : Int} {S T : Nat} {cs ds : List Value} (h : MsgAt w es o z) (k : Two w w' S T) (hS : HasC w S cs 98) (hT : HasC w T ds 31) : MsgAt w' es o z := by
  obtain ⟨A, c, h1, h2⟩ := h
  exact ⟨A, c, h1, h2.two k hS hT⟩
theorem Slots.two {w w' : World} {n : Nat} {r : Ch} {S T : Nat} {cs ds : List Value} (h : Slots w n r) (k : Two w w' S T) (hS : HasC w S cs 98) (hT : HasC w T ds 31) (hne : r.T ≠ T) : Slots w' n r := by
  obtain ⟨es, h1, h2, h3⟩ := h
  exact ⟨es, k.has h1 (h1.types hS (by decide)) hne, h2, fun j z hj => (h3 j z hj).two k hS hT⟩
/-- The box at block b, made from block B on, of W workers with room for n messages a channel: row f of its channels lies in block S f, channel f, t is st f t. -/
structure BoxI (w : World) (B b W n : Nat) (S : Nat → Nat) (st : Nat → Nat → Ch) : Prop where
  w8 : 1 ≤ W ∧ W ≤ 8
  n64 : 1 ≤ n ∧ n ≤ 64
  head : ∃ Rb rs, HasC w b [.slice (some ⟨Rb, 0, none⟩) W W] 94 ∧ HasC w Rb rs 95 ∧ ∀ f, f < W → ∃ c, W ≤ c ∧ c ≤ maxLen ∧ rs[f]? = some (.slice (some ⟨S f, 0, none⟩) W c)
  rows : ∀ f, f < W → ∃ cs, HasC w (S f) cs 98 ∧ ∀ t, t < W → RingAt cs (t * 3) n (st f t)
  slots : ∀ f t, f < W → t < W → Slots w n (st f t)
  small : ∀ f t, f < W → t < W → (st f t).f < n ∧ (st f t).q.length ≤ n
  inS : ∀ f g, f < W → g < W → S f = S g → f = g
  inT : ∀ f t g u, f < W → t < W → g < W → u < W → (st f t).T = (st g u).T → f = g ∧ t = u
  low : ∀ f, f < W → B ≤ S f ∧ ∀ t, t < W → B ≤ (st f t).T
theorem BoxI.below {w w' : World} {B b W n : Nat} {S : Nat → Nat} {st : Nat → Nat → Ch} (h : BoxI w B b W n S st) (hb : Below w.heap.size w w') : BoxI w' B b W n S st := by
  obtain ⟨h1, h2, ⟨Rb, rs, h3, h4, h5⟩, h6, h7, h8, h9, h10, h11⟩ := h
  refine ⟨h1, h2, ⟨Rb, rs, h3.below hb, h4.below hb, h5⟩, fun f hf => ?_, fun f t hf ht => (h7 f t hf ht).below hb, h8, h9, h10, h11⟩
  obtain ⟨cs, k1, k2⟩ := h6 f hf
  exact ⟨cs, k1.below hb, k2⟩
def upd (st : Nat → Nat → Ch) (f t : Nat) (r : Ch) : Nat → Nat → Ch := fun g u => if g = f ∧ u = t then r else st g u
theorem upd_same (st : Nat → Nat → Ch) (f t : Nat) (r : Ch) : upd st f t r f t = r := if_pos ⟨rfl, rfl⟩
theorem upd_other (st : Nat → Nat → Ch) (f t : Nat) (r : Ch) {g u : Nat} (h : ¬ (g = f ∧ u = t)) : upd st f t r g u = st g u := if_neg h
theorem BoxI.upd {w w' : World} {B b W n : Nat} {S : Nat → Nat} {st : Nat → Nat → Ch} (h : BoxI w B b W n S st) {f t : Nat} (hf : f < W) (ht : t < W) {cs cs' : List Value}
    (hcs : HasC w (S f) cs 98) (hra : ∀ u, u < W → RingAt cs (u * 3) n (st f u)) (k : Two w w' (S f) (st f t).T) (hcs' : HasC w' (S f) cs' 98) (r : Ch) (hrT : r.T = (st f t).T)
    (hr : RingAt cs' (t * 3) n r) (hother : ∀ i, i < t * 3 ∨ t * 3 + 3 ≤ i → cs'[i]? = cs[i]?) (hsl : Slots w' n r) (hsm : r.f < n ∧ r.q.length ≤ n) : BoxI w' B b W n S (upd st f t r) := by
  obtain ⟨h1, h2, ⟨Rb, rs, h3, h4, h5⟩, h6, h7, h8, h9, h10, h11⟩ := h
  obtain ⟨ds, hds, -⟩ := h7 f t hf ht
  refine ⟨h1, h2, ⟨Rb, rs, k.has h3 (h3.types hcs (by decide)) (h3.types hds (by decide)), k.has h4 (h4.types hcs (by decide)) (h4.types hds (by decide)), h5⟩, fun g hg => ?_, fun g u hg hu => ?_, fun g u hg hu => ?_, h9, fun g u g' u' hg hu hg' hu' => ?_, fun g hg => ⟨(h11 g hg).1, fun u hu => ?_⟩⟩
  · by_cases e : g = f
    · subst e
      refine ⟨cs', hcs', fun u hu => ?_⟩
      by_cases e2 : u = t
      · subst e2
        rw [upd_same]
        exact hr
      · rw [upd_other _ _ _ _ (fun x => e2 x.2)]
        obtain ⟨a1, a2, a3⟩ := hra u hu
        have hh : ∀ i, i < 3 → cs'[u * 3 + i]? = cs[u * 3 + i]? := fun i hi => hother _ (by omega)
        exact ⟨(hh 0 (by omega)).trans a1, (hh 1 (by omega)).trans a2, (hh 2 (by omega)).trans a3⟩
    · obtain ⟨es, k1, k2⟩ := h6 g hg
      refine ⟨es, k.has k1 (fun e2 => e (h9 _ _ hg hf e2)) (k1.types hds (by decide)), fun u hu => ?_⟩
      rw [upd_other _ _ _ _ (fun x => e x.1)]
      exact k2 u hu
  · by_cases e : g = f ∧ u = t
    · obtain ⟨rfl, rfl⟩ := e
      rw [upd_same]
      exact hsl
    · rw [upd_other _ _ _ _ e]
      exact (h7 g u hg hu).two k hcs hds (fun e2 => e (h10 _ _ _ _ hg hu hf ht e2))
  · by_cases e : g = f ∧ u = t
    · obtain ⟨rfl, rfl⟩ := e
      rw [upd_same]
      exact hsm
    · rw [upd_other _ _ _ _ e]
      exact h8 g u hg hu
  · have hT : ∀ g u, (Go.Proofs.Ytpghndmfdmimmaa.upd st f t r g u).T = (st g u).T := fun g u => by
      by_cases e : g = f ∧ u = t
      · obtain ⟨rfl, rfl⟩ := e
        rw [upd_same]
        exact hrT
      · rw [upd_other _ _ _ _ e]
    rw [hT, hT]
    exact h10 _ _ _ _ hg hu hg' hu'
  · by_cases e : g = f ∧ u = t
    · obtain ⟨rfl, rfl⟩ := e
      rw [upd_same, hrT]
      exact (h11 _ hg).2 _ hu
    · rw [upd_other _ _ _ _ e]
      exact (h11 _ hg).2 _ hu
theorem splice_in {α : Type} (l : List α) (o : Nat) (x : List α) (i : Nat) (ho : o ≤ l.length) (hi : i < x.length) : (splice l o x)[o + i]? = x[i]? := by
  unfold splice
  rw [List.getElem?_append_right (by simp; omega), List.getElem?_append_left (by simp; omega)]
  congr 1
  simp
  omega
theorem splice_out {α : Type} (l : List α) (o : Nat) (x : List α) (i : Nat) (ho : o + x.length ≤ l.length) (hi : i < o ∨ o + x.length ≤ i) : (splice l o x)[i]? = l[i]? := by
  unfold splice
  rcases hi with hi | hi
  · rw [List.getElem?_append_left (by simp; omega), List.getElem?_take, if_pos hi]
  · rw [List.getElem?_append_right (by simp; omega), List.getElem?_append_right (by simp; omega), List.getElem?_drop]
    congr 1
    simp
    omega
theorem mod_ne {f j m n : Nat} (h : j < m) (hm : m - j < n) : (f + j) % n ≠ (f + m) % n := by
  intro e
  have h1 := Nat.sub_mod_eq_zero_of_mod_eq e.symm
  rw [show f + m - (f + j) = m - j by omega, Nat.mod_eq_of_lt hm] at h1
  omega
theorem msg_len (A : Addr) (c : Nat) {i : Nat} {x : Value} (h : (msgC (.slice (some A) 1 c))[i]? = some x) : i < 7 := by
  have := (List.getElem?_eq_some_iff.1 h).1
  simpa using this
/-- A message more, behind the others. -/
theorem Slots.put {w w' : World} {n : Nat} {r : Ch} {S : Nat} {cs ds : List Value} (hds : HasC w r.T ds 31) (hl : ds.length = 7 * n) (hm : ∀ j z, r.q[j]? = some z → MsgAt w ds ((r.f + j) % n * 7) z)
    (k : Two w w' S r.T) (hS : HasC w S cs 98) (hq : r.q.length < n) (A : Addr) (c : Nat) (z : Int) (hu : UpdV w' (.slice (some A) 1 c) z)
    (hds' : HasC w' r.T (splice ds ((r.f + r.q.length) % n * 7) (msgC (.slice (some A) 1 c))) 31) : Slots w' n ⟨r.T, r.f, r.q ++ [z]⟩ := by
  have hlt : (r.f + r.q.length) % n < n := Nat.mod_lt _ (by omega)
  refine ⟨_, hds', by rw [length_splice _ _ _ (by simp; omega)]; exact hl, fun j y hj => ?_⟩
  by_cases e : j < r.q.length
  · replace hj : r.q[j]? = some y := by
      have : (r.q ++ [z])[j]? = some y := hj
      rwa [List.getElem?_append_left e] at this
    obtain ⟨A', c', h1, h2⟩ := hm j y hj
    refine ⟨A', c', fun i x hi => ?_, h2.two k hS hds⟩
    have hne := mod_ne (f := r.f) (n := n) e (by omega)
    have hi7 := msg_len _ _ hi
    show (splice ds ((r.f + r.q.length) % n * 7) (msgC (.slice (some A) 1 c)))[(r.f + j) % n * 7 + i]? = some x
    rw [splice_out _ _ _ _ (by simp; omega) (by simp; omega)]
    exact h1 i x hi
  · have hlj : j < (r.q ++ [z]).length := (List.getElem?_eq_some_iff.1 hj).1
    obtain rfl : j = r.q.length := by simp at hlj; omega
    obtain rfl : z = y := by simpa using hj
    refine ⟨A, c, fun i x hi => ?_, hu⟩
    have hi7 := msg_len _ _ hi
    show (splice ds ((r.f + r.q.length) % n * 7) (msgC (.slice (some A) 1 c)))[(r.f + r.q.length) % n * 7 + i]? = some x
    rw [splice_in _ _ _ _ (by omega) (by simpa using hi7)]
    exact hi
/-- The first message is gone. -/
theorem Slots.take {w w' : World} {n : Nat} {r : Ch} {S : Nat} {cs ds zs : List Value} (hds : HasC w r.T ds 31) (hl : ds.length = 7 * n) (hm : ∀ j z, r.q[j]? = some z → MsgAt w ds ((r.f + j) % n * 7) z)
    (k : Two w w' S r.T) (hS : HasC w S cs 98) (hf : r.f < n) (z : Int) (q : List Int) (hq : r.q = z :: q) (hqn : r.q.length ≤ n) (hz : zs.length = 7)
    (hds' : HasC w' r.T (splice ds (r.f * 7) zs) 31) : Slots w' n ⟨r.T, (r.f + 1) % n, q⟩ := by
  refine ⟨_, hds', by rw [length_splice _ _ _ (by omega)]; exact hl, fun j y hj => ?_⟩
  have hj' : r.q[j + 1]? = some y := by rw [hq]; exact hj
  have hjl : j + 1 < r.q.length := (List.getElem?_eq_some_iff.1 hj').1
  obtain ⟨A', c', h1, h2⟩ := hm (j + 1) y hj'
  refine ⟨A', c', fun i x hi => ?_, h2.two k hS hds⟩
  have hi7 := msg_len _ _ hi
  have hne := mod_ne (f := r.f) (j := 0) (m := j + 1) (n := n) (by omega) (by omega)
  rw [Nat.add_zero, Nat.mod_eq_of_lt hf] at hne
  have hmm : ((r.f + 1) % n + j) % n = (r.f + (j + 1)) % n := by rw [Nat.mod_add_mod, Nat.add_assoc, Nat.add_comm 1 j]
  have hlt : (r.f + (j + 1)) % n < n := Nat.mod_lt _ (by omega)
  show (splice ds (r.f * 7) zs)[((r.f + 1) % n + j) % n * 7 + i]? = some x
  rw [hmm, splice_out _ _ _ _ (by omega) (by omega)]
  exact h1 i x hi
end Go.Proofs.Ytpghndmfdmimmaa
