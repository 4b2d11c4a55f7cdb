/-
  A slice of counters that a call owns, and what is appended to it: a slice that came in, nil or not. Nothing is walked here. No condition but those written.
-/
import Derived.Test.YtdfhchpimpbgfaaGreatDoorStV
import Derived.Laws.AppendOwn
import Derived.Laws.AppendOwnNone
set_option linter.unusedVariables false
set_option linter.unusedSimpArgs false
namespace Go.Proofs.YtdfhchpimpbgfaaGreatDoor
open Go.RowKit Go.Lib

/-- v is a slice of the call's own, in a block from B on, that holds the counters l. -/
def OwnW (B : Nat) (v : Value) (l : List Int) (w : World) : Prop := w.ownsRow B 86 1 v l.length (l.map uv)
theorem ownsRow_below {e : TypeId} {k B n : Nat} {v : Value} {xs : List Value} {w w' : World} (h : w.ownsRow B e k v n xs) (hb : Below w.heap.size w w') : w'.ownsRow B e k v n xs := by
  refine ⟨h.1, ?_⟩
  rcases h.2 with h1 | ⟨g, cap, cur, rfl, h1, h2, h3⟩
  · exact .inl h1
  · exact .inr ⟨g, cap, cur, rfl, h1, (hb.block g (Array.getElem?_eq_some_iff.1 h2).1).trans h2, h3⟩
theorem ownsRow_low {e : TypeId} {k B B' n : Nat} {v : Value} {xs : List Value} {w : World} (h : w.ownsRow B e k v n xs) (hB : B' ≤ B) : w.ownsRow B' e k v n xs := by
  refine ⟨h.1, ?_⟩
  rcases h.2 with h1 | ⟨g, cap, cur, rfl, h1, h3⟩
  · exact .inl h1
  · exact .inr ⟨g, cap, cur, rfl, Nat.le_trans hB h1, h3⟩
theorem OwnW.below {B : Nat} {v : Value} {l : List Int} {w w' : World} (h : OwnW B v l w) (hb : Below w.heap.size w w') : OwnW B v l w' := ownsRow_below h hb
theorem OwnW.drew {B : Nat} {v : Value} {l : List Int} {w : World} (h : OwnW B v l w) : OwnW B v l w.drew := h
theorem OwnW.low {B B' : Nat} {v : Value} {l : List Int} {w : World} (h : OwnW B v l w) (hB : B' ≤ B) : OwnW B' v l w := ownsRow_low h hB
theorem OwnW.nil (B : Nat) (w : World) : OwnW B (.slice none 0 0) [] w := World.ownsRow_nil w B _ _
/-- What the call owns reads as the counters. -/
theorem OwnW.words {B : Nat} {v : Value} {l : List Int} {w : World} (h : OwnW B v l w) : WordsV w v l := by
  rcases h.2 with ⟨rfl, h1⟩ | ⟨g, cap, cur, rfl, _, hg, hc, hm, _⟩
  · refine ⟨by rw [List.length_map, Nat.mul_one], none, 0, by rw [h1], by omega, by decide, fun _ => rfl, fun hn => by omega⟩
  · refine ⟨by rw [List.length_map, Nat.mul_one], _, cap, rfl, hc, by unfold maxLen at hm; omega, (fun e => by cases e), fun _ => ⟨_, rfl, (Array.getElem?_eq_some_iff.1 hg).1, h.cells (g := g) rfl⟩⟩
section
variable {P : Program}
/-- 'v = append(v, s...)': v the call's own, s any slice of cells. -/
theorem wpList_append_sl {ops : Array Oper} {rest : List Oper} {o : Oper} {a : Act} {Q : Exit → Act → World → Prop} (hgd : o.guard = none) (s x : Operand) (t : TypeId)
    (ho : o.op = .call { callee := .builtin .append, args := #[s, x], argTypes := #[t, t] })
    (B : Nat) (e : TypeId) (i : TypeInfo) (z : Value) (k bytes : Nat) (ht : P.underlying t = some (.slice e)) (hi : P.info? e = some i) (hz : i.zero = some z) (hsize : i.size = k) (hby : i.bytes = bytes) (hzs : z.cells.size = k) (hk : 0 < k)
    (v : Value) (n : Nat) (xs : List Value) (hs : a.eval s = v) (w : World) (sv : Value) (m : Nat) (news : List Value) (hown : w.ownsRow B e k v n xs)
    (hx : a.eval x = sv) (hsv : SlV w k sv m news) (h1 : ∀ u ∈ news, u.oneCell' = true) (hlen : n + m ≤ maxLen) (hbytes : (n + m) * bytes ≤ 140737488355328) (hB : B ≤ w.heap.size)
    (h : ∀ v' w', w'.ownsRow B e k v' (n + m) (xs ++ news) → w.grownBy w' v.ownBlock → wpList P ops Q rest (a.put o.dst v') w') : wpList P ops Q (o :: rest) a w := by
  obtain ⟨hl, A, c, rfl, hmc, hc, h0, h4⟩ := hsv
  rcases A with _ | ad
  · have hm : m = 0 := by
      rcases Nat.eq_zero_or_pos m with h | h
      · exact h
      · obtain ⟨ad, h5, _⟩ := h4 h; cases h5
    subst hm
    obtain rfl := h0 rfl
    have hn : news = [] := List.eq_nil_of_length_eq_zero (by simpa using hl)
    subst hn
    refine wpList_append_own_none hgd s x t ho B e i k ht hi v n xs hs hown hx (h v w (by simpa using hown) ⟨rfl, rfl, rfl, Nat.le_refl _, fun _ _ _ => rfl⟩)
  · refine wpList_append_own w hgd s x t ho B e i z k bytes ht hi hz hsize hby hzs hk v n xs hs hown ad m c news hx hl ?_ h1 hlen hbytes hB (fun v' w' h2 h3 _ => h v' w' h2 h3)
    intro j u hj
    have hp : 0 < m := by
      rcases Nat.eq_zero_or_pos m with h | h
      · subst h
        have : news = [] := List.eq_nil_of_length_eq_zero (by simpa using hl)
        subst this
        simp at hj
      · exact h
    obtain ⟨ad', e', _, h6⟩ := h4 hp
    cases e'
    exact h6 j u hj
end
/-- Behind 'append': what lies below the row is as it was. -/
theorem below_grown {B : Nat} {w0 w w' : World} {e : TypeId} {k n : Nat} {v : Value} {xs : List Value} (h : Below B w0 w) (ho : w.ownsRow B e k v n xs) (hB : B ≤ w.heap.size) (hg : w.grownBy w' v.ownBlock) : Below B w0 w' :=
  h.grown hg hB (fun j hj => (ho.lt j hj).1)
/-- A slice of slices of counters. -/
def SlsV (w : World) (v : Value) (vs : List Value) (ls : List (List Int)) : Prop := SlV w 1 v ls.length vs ∧ ∀ j (h : j < ls.length), ∃ s, vs[j]? = some s ∧ WordsV w s ls[j]
theorem SlsV.below {w w' : World} {v : Value} {vs : List Value} {ls : List (List Int)} (h : SlsV w v vs ls) (hb : Below w.heap.size w w') : SlsV w' v vs ls :=
  ⟨h.1.below hb, fun j hj => by obtain ⟨s, h1, h2⟩ := h.2 j hj; exact ⟨s, h1, h2.below hb⟩⟩
theorem SlsV.drew {w : World} {v : Value} {vs : List Value} {ls : List (List Int)} (h : SlsV w v vs ls) : SlsV w.drew v vs ls := h.below (Below.refl _ _).drew
theorem SlsV.alloc {w : World} {v : Value} {vs : List Value} {ls : List (List Int)} (h : SlsV w v vs ls) (o : Obj) : SlsV (w.alloc o) v vs ls := h.below ((Below.refl _ _).alloc (Nat.le_refl _) _)
theorem SlsV.form {w : World} {v : Value} {vs : List Value} {ls : List (List Int)} (h : SlsV w v vs ls) : ∃ A n c, v = .slice A n c ∧ ls.length = n ∧ n ≤ c ∧ c ≤ 9223372036854775807 := by
  obtain ⟨A, c, h1, h2, h3⟩ := SlV.form h.1
  exact ⟨A, _, c, h1, rfl, h2, h3⟩
theorem SlsV.at {w : World} {A : Option Addr} {n c : Nat} {vs : List Value} {ls : List (List Int)} (h : SlsV w (.slice A n c) vs ls) {j : Nat} (hj : j < ls.length) :
    ∃ (ad : Addr) (s : Value), A = some ad ∧ (ad.add j).block < w.heap.size ∧ w.cell? (ad.add j) = some s ∧ WordsV w s ls[j] := by
  obtain ⟨s, h1, h2⟩ := h.2 j hj
  obtain ⟨_, A', c', e, _, _, _, h4⟩ := h.1
  obtain ⟨rfl, _, rfl⟩ := Value.slice.inj e
  obtain ⟨ad, rfl, h5, h6⟩ := h4 (by omega)
  exact ⟨ad, s, rfl, by rw [add_block]; exact h5, h6 j s h1, h2⟩
theorem SlsV.one {w : World} {s : Value} {l : List Int} (h : WordsV w s l) (t : TypeId) : SlsV (w.alloc (.cells #[s] t)) (.slice (some ⟨w.heap.size, 0, none⟩) 1 1) [s] [l] := by
  refine ⟨⟨rfl, _, _, rfl, Nat.le_refl _, by decide, (fun e => by cases e), fun _ => ⟨_, rfl, ?_, fun j u hj => ?_⟩⟩, fun j hj => ?_⟩
  · show w.heap.size < _
    simp
  · rw [show (⟨w.heap.size, 0, none⟩ : Addr).add j = ⟨w.heap.size, j, none⟩ by unfold Addr.add; split <;> simp_all, cell_new]
    simpa using hj
  · obtain rfl : j = 0 := by simpa using hj
    exact ⟨s, rfl, h.alloc _⟩
theorem SlsV.one_at {w : World} {b : Nat} {s : Value} {l : List Int} (h : WordsV w s l) (t : TypeId) (hb : b = w.heap.size) : SlsV (w.alloc (.cells #[s] t)) (.slice (some ⟨b, 0, none⟩) 1 1) [s] [l] := by
  subst hb
  exact SlsV.one h t
theorem SlsV.two {w : World} {s s' : Value} {l l' : List Int} (h : WordsV w s l) (h' : WordsV w s' l') (t : TypeId) : SlsV (w.alloc (.cells #[s, s'] t)) (.slice (some ⟨w.heap.size, 0, none⟩) 2 2) [s, s'] [l, l'] := by
  refine ⟨⟨rfl, _, _, rfl, Nat.le_refl _, by decide, (fun e => by cases e), fun _ => ⟨_, rfl, ?_, fun j u hj => ?_⟩⟩, fun j hj => ?_⟩
  · show w.heap.size < _
    simp
  · rw [show (⟨w.heap.size, 0, none⟩ : Addr).add j = ⟨w.heap.size, j, none⟩ by unfold Addr.add; split <;> simp_all, cell_new]
    simpa using hj
  · have : j = 0 ∨ j = 1 := by simp at hj; omega
    rcases this with rfl | rfl
    · exact ⟨s, rfl, h.alloc _⟩
    · exact ⟨s', rfl, h'.alloc _⟩
theorem SlsV.two_at {w : World} {b : Nat} {s s' : Value} {l l' : List Int} (h : WordsV w s l) (h' : WordsV w s' l') (t : TypeId) (hb : b = w.heap.size) : SlsV (w.alloc (.cells #[s, s'] t)) (.slice (some ⟨b, 0, none⟩) 2 2) [s, s'] [l, l'] := by
  subst hb
  exact SlsV.two h h' t
theorem HasC.set {w : World} {b : Nat} {cs : List Value} {t : TypeId} (h : HasC w b cs t) (i : Nat) (x : Value) : HasC (w.setCell ⟨b, i, none⟩ x) b (cs.set i x) t := by
  unfold HasC at h ⊢
  simp [World.setCell, Array.getElem?_modify, h]
theorem HasC.far {w : World} {b : Nat} {cs : List Value} {t : TypeId} (h : HasC w b cs t) {p : Addr} (hp : b ≠ p.block) (x : Value) : HasC (w.setCell p x) b cs t := (Below.heap_setCell w p x b hp).trans h
/-- A row of the call's own, read out: its block, and what is in it. -/
theorem OwnW.row {B : Nat} {v : Value} {l : List Int} {w : World} (h : OwnW B v l w) (hp : 0 < l.length) :
    ∃ g cap, v = .slice (some ⟨g, 0, none⟩) l.length cap ∧ l.length ≤ cap ∧ cap ≤ 9223372036854775807 ∧ B ≤ g ∧ g < w.heap.size ∧ (∀ i x, l[i]? = some x → w.cell? ⟨g, i, none⟩ = some (uv x)) ∧ (∀ i, w.frozen? ⟨g, i, none⟩ = false) ∧
      (∀ b cs t, HasC w b cs t → t ≠ 86 → b ≠ g) := by
  have hc := fun g (hg : v.ownBlock = some g) => h.cells hg
  rcases h.2 with ⟨rfl, h1⟩ | ⟨g, cap, cur, rfl, hB, hg, hl, hm, _⟩
  · omega
  · refine ⟨g, cap, rfl, hl, by unfold maxLen at hm; omega, hB, (Array.getElem?_eq_some_iff.1 hg).1, fun i x hx => ?_, fun i => Lib.frozen_of_heap hg i, fun b cs t hb ht e => ?_⟩
    · have := hc g rfl i (uv x) (by simp [hx])
      rw [show (⟨g, 0, none⟩ : Addr).add i = ⟨g, i, none⟩ by unfold Addr.add; split <;> simp_all] at this
      exact this
    · subst e
      unfold HasC at hb
      rw [hg] at hb
      injection hb with hb
      injection hb with _ hb
      exact ht hb.symm
theorem OwnW.far {B : Nat} {v : Value} {l : List Int} {w : World} {b : Nat} {cs : List Value} {t : TypeId} (h : OwnW B v l w) (hb : HasC w b cs t) (ht : t ≠ 86) (i : Nat) (x : Value) : OwnW B v l (w.setCell ⟨b, i, none⟩ x) := by
  refine ⟨h.1, ?_⟩
  rcases h.2 with h1 | ⟨g, cap, cur, rfl, hB, hg, h3⟩
  · exact .inl h1
  · refine .inr ⟨g, cap, cur, rfl, hB, (Below.heap_setCell w ⟨b, i, none⟩ x g (fun e => ?_)).trans hg, h3⟩
    have e : g = b := e
    subst e
    unfold HasC at hb
    rw [hg] at hb
    injection hb with hb
    injection hb with _ hb
    exact ht hb.symm
/-- A store ahead of the row's part of the memory. -/
theorem OwnW.under {B : Nat} {v : Value} {l : List Int} {w : World} (h : OwnW B v l w) {p : Addr} (hp : p.block < B) (x : Value) : OwnW B v l (w.setCell p x) := by
  refine ⟨h.1, ?_⟩
  rcases h.2 with h1 | ⟨g, cap, cur, rfl, hB, hg, h3⟩
  · exact .inl h1
  · exact .inr ⟨g, cap, cur, rfl, hB, (Below.heap_setCell w p x g (by omega)).trans hg, h3⟩
/-- One of its counters is written over. -/
theorem OwnW.set {B g n cap : Nat} {l : List Int} {w : World} (h : OwnW B (.slice (some ⟨g, 0, none⟩) n cap) l w) (i : Nat) (z : Int) : OwnW B (.slice (some ⟨g, 0, none⟩) n cap) (l.set i z) (w.setCell ⟨g, i, none⟩ (uv z)) := by
  unfold OwnW
  rw [List.length_set, List.map_set]
  refine ⟨by rw [List.length_set]; exact h.1, ?_⟩
  rcases h.2 with ⟨h1, _⟩ | ⟨g', cap', cur, he, hB, hg, h3, h4, h5, h6⟩
  · cases h1
  · cases he
    refine .inr ⟨g, cap, cur.setIfInBounds i (uv z), rfl, hB, ?_, h3, h4, by simpa using h5, ?_⟩
    · simp [World.setCell, Array.getElem?_modify, hg]
    · rw [Array.toList_setIfInBounds, List.take_set, h6]
end Go.Proofs.YtdfhchpimpbgfaaGreatDoor
