/-
  General words of the proofs of layer 4: worlds one behind the other, a slice value of the program's memory read as a list of counters, a time, a way. Nothing is walked here. No condition but those written.
-/
import Derived.Test.YtdfhchpimpbgfaaGreatDoorStM
import Derived.Test.YtdfhchpimpbgfaaGreatDoorProg
import Derived.Lib.FrozenHead
import Derived.Lib.OthersKept
import Derived.WalkKit
import Derived.WalkLawsBesides
import Derived.WalkSpells
import Derived.Handy
import Derived.Lib.Hide
set_option linter.unusedVariables false
set_option linter.unusedSimpArgs false
namespace Go.Proofs.YtdfhchpimpbgfaaGreatDoor
open Go.RowKit Go.Lib

theorem chainB {B : Nat} {a b c : World} (h : Below B a b) (k : Below b.heap.size b c) (hB : B ≤ b.heap.size) : Below B a c := h.trans (k.mono hB)
theorem drewsN {B : Nat} {a w : World} (h : Below B a w) (n : Nat) : Below B a (w.drewN n) := h.trans ⟨rfl, rfl, rfl, Nat.le_refl _, fun _ _ => rfl⟩
theorem ret_bool {a b : Bool} (h : a = b) : Ending.returned (.bool a) = .returned (.bool b) := by rw [h]
theorem ret_int {k : IntKind} {a b : Int} (h : a = b) : Ending.returned (.int k a) = .returned (.int k b) := by rw [h]
theorem cell_new (w : World) (cs : Array Value) (t : TypeId) (i : Nat) : (w.alloc (.cells cs t)).cell? ⟨w.heap.size, i, none⟩ = cs[i]? := by
  have h := heap_alloc_new w (.cells cs t)
  simp only [World.cell?, h]
  simp
/-- The slice value v has n elements of k cells each, and these cells hold xs. -/
def SlV (w : World) (k : Nat) (v : Value) (n : Nat) (xs : List Value) : Prop :=
  xs.length = n * k ∧ ∃ A c, v = .slice A n c ∧ n ≤ c ∧ c ≤ 9223372036854775807 ∧ (A = none → c = 0) ∧ (0 < n → ∃ ad : Addr, A = some ad ∧ ad.block < w.heap.size ∧ ∀ j u, xs[j]? = some u → w.cell? (ad.add j) = some u)
theorem add_block (a : Addr) (i : Nat) : (a.add i).block = a.block := by unfold Addr.add; split <;> rfl
theorem add_zero (a : Addr) : a.add 0 = a := rfl
theorem add_twice (a : Addr) (i j : Nat) : (a.add i).add j = a.add (i + j) := by
  rcases Nat.eq_zero_or_pos i with rfl | hi
  · rw [Nat.zero_add]; rfl
  · rcases Nat.eq_zero_or_pos j with rfl | hj
    · rfl
    · unfold Addr.add
      simp [Nat.add_assoc, show i ≠ 0 by omega, show j ≠ 0 by omega, show i + j ≠ 0 by omega]
theorem add_more (a : Addr) (i j : Nat) (hj : 0 < j) : a.add (i + j) = ⟨(a.add i).block, (a.add i).off + j, none⟩ := by
  rw [← add_twice]
  obtain ⟨j, rfl⟩ : ∃ k, j = k + 1 := ⟨j - 1, by omega⟩
  rfl
theorem SlV.below {w w' : World} {k n : Nat} {v : Value} {xs : List Value} (h : SlV w k v n xs) (hb : Below w.heap.size w w') : SlV w' k v n xs := by
  obtain ⟨h1, A, c, rfl, h2, h3, h0, h4⟩ := h
  refine ⟨h1, A, c, rfl, h2, h3, h0, fun hn => ?_⟩
  obtain ⟨ad, rfl, h5, h6⟩ := h4 hn
  exact ⟨ad, rfl, Nat.lt_of_lt_of_le h5 hb.size, fun j u hj => (hb.cell (p := ad.add j) (by rw [add_block]; exact h5)).trans (h6 j u hj)⟩
theorem SlV.alloc {w : World} {k n : Nat} {v : Value} {xs : List Value} (h : SlV w k v n xs) (o : Obj) : SlV (w.alloc o) k v n xs := h.below ((Below.refl _ _).alloc (Nat.le_refl _) _)
theorem SlV.drew {w : World} {k n : Nat} {v : Value} {xs : List Value} (h : SlV w k v n xs) : SlV w.drew k v n xs := h.below (Below.refl _ _).drew
theorem SlV.form {w : World} {k n : Nat} {v : Value} {xs : List Value} (h : SlV w k v n xs) : ∃ A c, v = .slice A n c ∧ n ≤ c ∧ c ≤ 9223372036854775807 := by
  obtain ⟨_, A, c, rfl, h2, h3, _⟩ := h
  exact ⟨A, c, rfl, h2, h3⟩
abbrev uv (z : Int) : Value := .int .u32 z
/-- The slice value v holds the counters l. -/
def WordsV (w : World) (v : Value) (l : List Int) : Prop := SlV w 1 v l.length (l.map uv)
theorem WordsV.below {w w' : World} {v : Value} {l : List Int} (h : WordsV w v l) (hb : Below w.heap.size w w') : WordsV w' v l := SlV.below h hb
theorem WordsV.alloc {w : World} {v : Value} {l : List Int} (h : WordsV w v l) (o : Obj) : WordsV (w.alloc o) v l := SlV.alloc h o
theorem WordsV.form {w : World} {v : Value} {l : List Int} (h : WordsV w v l) : ∃ A n c, v = .slice A n c ∧ l.length = n ∧ n ≤ c ∧ c ≤ 9223372036854775807 := by
  obtain ⟨A, c, h1, h2, h3⟩ := SlV.form h
  exact ⟨A, _, c, h1, rfl, h2, h3⟩
theorem WordsV.at {w : World} {A : Option Addr} {n c : Nat} {l : List Int} (h : WordsV w (.slice A n c) l) {i : Nat} (hi : i < l.length) :
    ∃ ad : Addr, A = some ad ∧ (ad.add i).block < w.heap.size ∧ w.cell? (ad.add i) = some (uv l[i]) := by
  obtain ⟨_, A', c', e, _, _, _, h4⟩ := h
  obtain ⟨rfl, _, rfl⟩ := Value.slice.inj e
  obtain ⟨ad, rfl, h5, h6⟩ := h4 (by omega)
  exact ⟨ad, rfl, by rw [add_block]; exact h5, h6 i _ (by simp [hi])⟩
theorem WordsV.nil (w : World) : WordsV w (.slice none 0 0) [] := ⟨rfl, none, 0, rfl, Nat.le_refl _, by decide, fun _ => rfl, fun h => absurd h (by simp)⟩
/-- A cut in front: v[:n]. -/
theorem WordsV.take {w : World} {A : Option Addr} {k c : Nat} {l : List Int} (h : WordsV w (.slice A k c) l) {n : Nat} (hn : n ≤ l.length) : WordsV w (.slice A n c) (l.take n) := by
  obtain ⟨_, A', c', e, h2, h3, h0, h4⟩ := h
  obtain ⟨rfl, _, rfl⟩ := Value.slice.inj e
  have hl : (l.take n).length = n := by rw [List.length_take]; omega
  unfold WordsV
  rw [hl]
  refine ⟨by rw [List.length_map, hl, Nat.mul_one], A, c, rfl, by omega, h3, h0, fun hp => ?_⟩
  obtain ⟨ad, rfl, h5, h6⟩ := h4 (by omega)
  refine ⟨ad, rfl, h5, fun j u hj => h6 j u ?_⟩
  rw [List.map_take, List.getElem?_take] at hj
  split at hj
  · exact hj
  · cases hj
/-- A fresh block of the counters. -/
theorem WordsV.new (w : World) (l : List Int) (t : TypeId) (h : l.length ≤ 9223372036854775807) : WordsV (w.alloc (.cells (l.map uv).toArray t)) (.slice (some ⟨w.heap.size, 0, none⟩) l.length l.length) l := by
  refine ⟨by simp, _, _, rfl, Nat.le_refl _, h, fun h => (by cases h), fun _ => ⟨_, rfl, ?_, fun j u hj => ?_⟩⟩
  · show w.heap.size < _
    simp
  · rw [show (⟨w.heap.size, 0, none⟩ : Addr).add j = ⟨w.heap.size, j, none⟩ by unfold Addr.add; split <;> simp_all]
    rw [cell_new]
    simpa using hj
/-- Counters of 32 bits. -/
def W32 (l : List Int) : Prop := ∀ z ∈ l, 0 ≤ z ∧ z ≤ 4294967295
theorem W32.at {l : List Int} (h : W32 l) {i : Nat} (hi : i < l.length) : 0 ≤ l[i] ∧ l[i] ≤ 4294967295 := h _ (List.getElem_mem hi)
/-- The value v is the time t. -/
def TmV (w : World) (v : Value) (t : Tm) : Prop := ∃ s, v = .agg #[.int .u64 t.e, s] ∧ WordsV w s t.l
theorem TmV.below {w w' : World} {v : Value} {t : Tm} (h : TmV w v t) (hb : Below w.heap.size w w') : TmV w' v t := by
  obtain ⟨s, rfl, h⟩ := h
  exact ⟨s, rfl, h.below hb⟩
/-- A time's epoch has 64 bits, its counters 32. -/
def TmW (t : Tm) : Prop := (0 ≤ t.e ∧ t.e ≤ 18446744073709551615) ∧ W32 t.l
/-- The value v is the way p. -/
def PtV (w : World) (v : Value) (p : Pt) : Prop := ∃ s, v = .agg #[.int .i64 p.lv, .int .u32 p.ad, s] ∧ WordsV w s p.en
theorem PtV.below {w w' : World} {v : Value} {t : Pt} (h : PtV w v t) (hb : Below w.heap.size w w') : PtV w' v t := by
  obtain ⟨s, rfl, h⟩ := h
  exact ⟨s, rfl, h.below hb⟩
def PtW (p : Pt) : Prop := (-9223372036854775808 ≤ p.lv ∧ p.lv ≤ 9223372036854775807) ∧ (0 ≤ p.ad ∧ p.ad ≤ 4294967295) ∧ W32 p.en
/-- Block b of w holds the cells cs of a variable of type t. -/
def HasC (w : World) (b : Nat) (cs : List Value) (t : TypeId) : Prop := w.heap[b]? = some (.cells cs.toArray t (0, 0))
theorem HasC.new (w : World) (cs : List Value) (t : TypeId) : HasC (w.alloc (.cells cs.toArray t)) w.heap.size cs t := heap_alloc_new w _
theorem HasC.lt {w : World} {b : Nat} {cs : List Value} {t : TypeId} (h : HasC w b cs t) : b < w.heap.size := (Array.getElem?_eq_some_iff.1 h).1
theorem HasC.alloc {w : World} {b : Nat} {cs : List Value} {t : TypeId} (h : HasC w b cs t) (o : Obj) : HasC (w.alloc o) b cs t := (Lib.alloc_old w o b h.lt).trans h
theorem HasC.below {w w' : World} {b : Nat} {cs : List Value} {t : TypeId} (h : HasC w b cs t) (hb : Below w.heap.size w w') : HasC w' b cs t := (hb.block b h.lt).trans h
theorem HasC.drew {w : World} {b : Nat} {cs : List Value} {t : TypeId} (h : HasC w b cs t) : HasC w.drew b cs t := h
theorem HasC.cell {w : World} {b : Nat} {cs : List Value} {t : TypeId} (h : HasC w b cs t) (i : Nat) {v : Value} (hi : cs[i]? = some v) : w.cell? ⟨b, i, none⟩ = some v := by
  unfold HasC at h
  simp only [World.cell?, h]
  simpa using hi
theorem HasC.free {w : World} {b : Nat} {cs : List Value} {t : TypeId} (h : HasC w b cs t) (i : Nat) : w.frozen? ⟨b, i, none⟩ = false := Lib.frozen_of_heap h i
theorem boxes1 (w : World) (c0 : List Value) (t0 : TypeId) :
    ∃ W0, w.alloc (.cells c0.toArray t0) = W0 ∧ Below w.heap.size w W0 ∧ HasC W0 w.heap.size c0 t0 ∧ w.heap.size < W0.heap.size :=
  ⟨_, rfl, by go_grown, HasC.new _ _ _, by simp⟩
theorem boxes2 (w : World) (c0 c1 : List Value) (t0 t1 : TypeId) :
    ∃ W0, (w.alloc (.cells c0.toArray t0)).alloc (.cells c1.toArray t1) = W0 ∧ Below w.heap.size w W0 ∧ HasC W0 w.heap.size c0 t0 ∧ HasC W0 (w.heap.size + 1) c1 t1 ∧ w.heap.size + 1 < W0.heap.size := by
  refine ⟨_, rfl, by go_grown, (HasC.new _ _ _).alloc _, ?_, by simp⟩
  have := HasC.new (w.alloc (.cells c0.toArray t0)) c1 t1
  simpa only [World.size_alloc] using this
theorem boxes3 (w : World) (c0 c1 c2 : List Value) (t0 t1 t2 : TypeId) :
    ∃ W0, ((w.alloc (.cells c0.toArray t0)).alloc (.cells c1.toArray t1)).alloc (.cells c2.toArray t2) = W0 ∧ Below w.heap.size w W0 ∧ HasC W0 w.heap.size c0 t0 ∧ HasC W0 (w.heap.size + 1) c1 t1 ∧ HasC W0 (w.heap.size + 1 + 1) c2 t2 ∧ w.heap.size + 1 + 1 < W0.heap.size := by
  refine ⟨_, rfl, by go_grown, ((HasC.new _ _ _).alloc _).alloc _, ?_, ?_, by simp⟩
  · have := (HasC.new (w.alloc (.cells c0.toArray t0)) c1 t1).alloc (.cells c2.toArray t2)
    simpa only [World.size_alloc] using this
  · have := HasC.new ((w.alloc (.cells c0.toArray t0)).alloc (.cells c1.toArray t1)) c2 t2
    simpa only [World.size_alloc] using this
end Go.Proofs.YtdfhchpimpbgfaaGreatDoor
