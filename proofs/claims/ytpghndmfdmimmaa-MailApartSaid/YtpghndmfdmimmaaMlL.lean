/-
  Words for the laws of layer 9: a list of numbers of 16 bits, what a channel holds by two counters, a store beside the box. Nothing is walked here. Conditions: those written.
-/
import Derived.Test.YtpghndmfdmimmaaMlK
set_option linter.unusedVariables false
set_option linter.unusedSimpArgs false
namespace Go.Proofs.Ytpghndmfdmimmaa
open Go.RowKit Go.Lib

/-- The slice value v holds the numbers l. -/
def U16V (w : World) (v : Value) (l : List Nat) : Prop := ∃ A c, v = .slice A l.length c ∧ l.length ≤ c ∧ c ≤ 9223372036854775807 ∧ (0 < l.length → ∃ ad : Addr, A = some ad ∧ ad.block < w.heap.size ∧ ∀ i x, l[i]? = some x → w.cell? (ad.add i) = some (.int .u16 (x : Nat)))
theorem addr_add_block (a : Addr) (i : Nat) : (a.add i).block = a.block := by unfold Addr.add; split <;> rfl
theorem U16V.below {w w' : World} {v : Value} {l : List Nat} (h : U16V w v l) (hb : Below w.heap.size w w') : U16V w' v l := by
  obtain ⟨A, c, h1, h2, h3, h4⟩ := h
  refine ⟨A, c, h1, h2, h3, fun hp => ?_⟩
  obtain ⟨ad, rfl, h5, h6⟩ := h4 hp
  exact ⟨ad, rfl, Nat.lt_of_lt_of_le h5 hb.size, fun i x hi => (hb.cell (p := ad.add i) (by rw [addr_add_block]; exact h5)).trans (h6 i x hi)⟩
/-- What a channel holds where a have been taken of s that were sent. -/
def Cnt (q : List Int) (a s : Nat) : Prop := a ≤ s ∧ q = (List.range (s - a)).map fun i => ((a + i : Nat) : Int)
theorem Cnt.zero : Cnt [] 0 0 := ⟨Nat.le_refl _, rfl⟩
theorem Cnt.len {q : List Int} {a s : Nat} (h : Cnt q a s) : q.length = s - a := by rw [h.2]; simp
theorem Cnt.push {q : List Int} {a s : Nat} (h : Cnt q a s) : Cnt (q ++ [(s : Int)]) a (s + 1) := by
  obtain ⟨h1, rfl⟩ := h
  refine ⟨by omega, ?_⟩
  rw [show s + 1 - a = (s - a) + 1 by omega, List.range_succ, List.map_append]
  simp
  omega
theorem Cnt.pop {q : List Int} {z : Int} {a s : Nat} (h : Cnt (z :: q) a s) : z = a ∧ a < s ∧ Cnt q (a + 1) s := by
  obtain ⟨h1, h2⟩ := h
  have hl : (z :: q).length = s - a := by rw [h2]; simp
  simp only [List.length_cons] at hl
  rw [show s - a = (s - (a + 1)) + 1 by omega, List.range_succ_eq_map, List.map_cons, List.map_map] at h2
  obtain ⟨e1, e2⟩ := List.cons.inj h2
  refine ⟨by simpa using e1, by omega, by omega, ?_⟩
  rw [e2]
  apply List.map_congr_left
  intro i _
  simp
  omega
theorem Cnt.nil {a s : Nat} (h : Cnt [] a s) : a = s := by
  have := h.len
  have := h.1
  simp at *
  omega
theorem MsgAt.far {w : World} {ds : List Value} {o : Nat} {z : Int} (h : MsgAt w ds o z) {g : Nat} {cs : List Value} {t : TypeId} (hg : HasC w g cs t) (h1 : t ≠ 89) (h2 : t ≠ 37) (i : Nat) (x : Value) : MsgAt (w.setCell ⟨g, i, none⟩ x) ds o z := by
  obtain ⟨A, c, k1, k2⟩ := h
  exact ⟨A, c, k1, k2.far_ hg h1 h2 i x⟩
theorem BoxI.far {w : World} {B b W n : Nat} {S : Nat → Nat} {st : Nat → Nat → Ch} (h : BoxI w B b W n S st) {g : Nat} {cs : List Value} (hg : HasC w g cs 2) (i : Nat) (x : Value) : BoxI (w.setCell ⟨g, i, none⟩ x) B b W n S st := by
  obtain ⟨h1, h2, ⟨Rb, rs, h3, h4, h5⟩, h6, h7, h8, h9, h10, h11⟩ := h
  refine ⟨h1, h2, ⟨Rb, rs, h3.far (h3.types hg (by decide)) x, h4.far (h4.types hg (by decide)) x, h5⟩, fun f hf => ?_, fun f t hf ht => ?_, h8, h9, h10, h11⟩
  · obtain ⟨cs, k1, k2⟩ := h6 f hf
    exact ⟨cs, k1.far (k1.types hg (by decide)) x, k2⟩
  · obtain ⟨ds, k1, k2, k3⟩ := h7 f t hf ht
    exact ⟨ds, k1.far (k1.types hg (by decide)) x, k2, fun j z hj => (k3 j z hj).far hg (by decide) (by decide) i x⟩
theorem BoxI.lenAt {w : World} {B b W n : Nat} {S : Nat → Nat} {st : Nat → Nat → Ch} (h : BoxI w B b W n S st) {f t : Nat} (hf : f < W) (ht : t < W) (d : Int) (hd : ((st f t).q.length : Int) = d) :
    Calls Try.prog 24 #[.pointer (some ⟨b, 0, none⟩), .int .i64 f, .int .i64 t] w fun e w' => e = .returned (.int .i64 d) ∧ w = w' := by
  rw [← hd]
  exact h.len hf ht _ rfl
abbrev nums (l : List Nat) : List Value := l.map fun x : Nat => .int .i64 (x : Nat)
theorem nums_set (l : List Nat) (k x : Nat) : (nums l).set k (.int .i64 (x : Nat)) = nums (l.set k x) := by simp [nums, List.map_set]
theorem nums_at {l : List Nat} {k x : Nat} (h : l[k]? = some x) : (nums l)[k]? = some (.int .i64 (x : Nat)) := by simp [nums, h]
/-- Two rows of counters tell what each channel holds; no counter is above m. -/
def Counts (W : Nat) (st : Nat → Nat → Ch) (sent taken : List Nat) (m : Nat) : Prop :=
  sent.length = W * W ∧ taken.length = W * W ∧ ∀ f t, f < W → t < W → ∃ a s, taken[f * W + t]? = some a ∧ sent[f * W + t]? = some s ∧ s ≤ m ∧ Cnt (st f t).q a s
theorem Counts.zero (W : Nat) (T : Nat → Nat → Nat) : Counts W (fun f t => ⟨T f t, 0, []⟩) (List.replicate (W * W) 0) (List.replicate (W * W) 0) 0 := by
  refine ⟨by simp, by simp, fun f t hf ht => ⟨0, 0, ?_, ?_, Nat.le_refl _, Cnt.zero⟩⟩
  all_goals
    rw [List.getElem?_replicate, if_pos]
    have h1 : f * W ≤ (W - 1) * W := Nat.mul_le_mul_right _ (by omega)
    have h2 : (W - 1) * W + W = W * W := by
      rw [← Nat.succ_mul]
      congr 1
      omega
    omega
theorem place_ne {W f t g u : Nat} (ht : t < W) (hu : u < W) (h : ¬ (g = f ∧ u = t)) : g * W + u ≠ f * W + t := by
  intro e
  have h1 : (g * W + u) / W = (f * W + t) / W := by rw [e]
  have h2 : (g * W + u) % W = (f * W + t) % W := by rw [e]
  rw [Nat.mul_comm g, Nat.mul_comm f, Nat.mul_add_div (by omega), Nat.mul_add_div (by omega), Nat.div_eq_of_lt hu, Nat.div_eq_of_lt ht] at h1
  rw [Nat.mul_comm g, Nat.mul_comm f, Nat.mul_add_mod, Nat.mul_add_mod, Nat.mod_eq_of_lt hu, Nat.mod_eq_of_lt ht] at h2
  exact h ⟨by omega, h2⟩
theorem place_lt {W f t : Nat} (hf : f < W) (ht : t < W) : f * W + t < W * W := by
  have h1 : (f + 1) * W ≤ W * W := Nat.mul_le_mul_right _ (by omega)
  rw [Nat.succ_mul] at h1
  omega
theorem Counts.mono {W m m' : Nat} {st : Nat → Nat → Ch} {sent taken : List Nat} (h : Counts W st sent taken m) (hm : m ≤ m') : Counts W st sent taken m' :=
  ⟨h.1, h.2.1, fun f t hf ht => by
    obtain ⟨a, s, h1, h2, h3, h4⟩ := h.2.2 f t hf ht
    exact ⟨a, s, h1, h2, by omega, h4⟩⟩
theorem Counts.push {W m : Nat} {st : Nat → Nat → Ch} {sent taken : List Nat} (h : Counts W st sent taken m) {f t a s : Nat} (hf : f < W) (ht : t < W) (ha : taken[f * W + t]? = some a) (hs : sent[f * W + t]? = some s) (hc : Cnt (st f t).q a s) (hm : s ≤ m) :
    Counts W (upd st f t ⟨(st f t).T, (st f t).f, (st f t).q ++ [(s : Int)]⟩) (sent.set (f * W + t) (s + 1)) taken (m + 1) := by
  refine ⟨by simpa using h.1, h.2.1, fun g u hg hu => ?_⟩
  by_cases e : g = f ∧ u = t
  · obtain ⟨rfl, rfl⟩ := e
    refine ⟨a, s + 1, ha, ?_, by omega, ?_⟩
    · rw [List.getElem?_set_self (List.getElem?_eq_some_iff.1 hs).1]
    · rw [upd_same]
      exact hc.push
  · obtain ⟨a', s', h1, h2, h3, h4⟩ := h.2.2 g u hg hu
    refine ⟨a', s', h1, ?_, by omega, ?_⟩
    · rw [List.getElem?_set_ne (Ne.symm (place_ne ht hu e))]
      exact h2
    · rw [upd_other _ _ _ _ e]
      exact h4
theorem Counts.pop {W n m : Nat} {st : Nat → Nat → Ch} {sent taken : List Nat} (h : Counts W st sent taken m) {f t a s : Nat} {z : Int} {q : List Int} (hf : f < W) (ht : t < W) (ha : taken[f * W + t]? = some a) (hs : sent[f * W + t]? = some s) (hc : Cnt (st f t).q a s) (hq : (st f t).q = z :: q) (hm : s ≤ m) :
    Counts W (upd st f t ⟨(st f t).T, ((st f t).f + 1) % n, q⟩) sent (taken.set (f * W + t) (a + 1)) (m + 1) := by
  refine ⟨h.1, by simpa using h.2.1, fun g u hg hu => ?_⟩
  by_cases e : g = f ∧ u = t
  · obtain ⟨rfl, rfl⟩ := e
    refine ⟨a + 1, s, ?_, hs, by omega, ?_⟩
    · rw [List.getElem?_set_self (List.getElem?_eq_some_iff.1 ha).1]
    · rw [upd_same]
      rw [hq] at hc
      exact hc.pop.2.2
  · obtain ⟨a', s', h1, h2, h3, h4⟩ := h.2.2 g u hg hu
    refine ⟨a', s', ?_, h2, by omega, ?_⟩
    · rw [List.getElem?_set_ne (Ne.symm (place_ne ht hu e))]
      exact h1
    · rw [upd_other _ _ _ _ e]
      exact h4
end Go.Proofs.Ytpghndmfdmimmaa
