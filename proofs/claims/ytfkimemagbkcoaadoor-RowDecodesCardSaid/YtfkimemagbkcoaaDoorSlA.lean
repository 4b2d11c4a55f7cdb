/-
  Slices of whatever elements: cut in front and behind; appended to a row that the call owns. Nothing is walked here. No condition but those written.
-/
import Derived.Test.YtfkimemagbkcoaaDoorRowV
import Derived.Test.YtfkimemagbkcoaaDoorOwnK
import Derived.Laws.AppendOwn
import Derived.Laws.AppendOwnNone
set_option linter.unusedVariables false
set_option linter.unusedSimpArgs false
namespace Go.Proofs.YtfkimemagbkcoaaDoor
open Go.RowKit Go.Lib

theorem add_zero (a : Addr) : a.add 0 = a := rfl
/-- What the call owns, as a slice. -/
theorem own_slV {T : TypeId} {k B n : Nat} {v : Value} {xs : List Value} {w : World} (h : w.ownsRow B T k v n xs) : SlV w k v n xs := by
  rcases h.2 with ⟨rfl, h0⟩ | ⟨g, cap, cur, rfl, _, hg, h2, h3, h4, h5⟩
  · exact ⟨h.1, none, 0, by rw [h0], by omega, by omega, fun _ => rfl, fun q => by omega⟩
  · refine ⟨h.1, _, _, rfl, h2, by unfold maxLen at h3; exact h3, fun q => (by cases q), fun _ => ⟨_, rfl, (Array.getElem?_eq_some_iff.1 hg).1, fun j u hj => ?_⟩⟩
    rw [← h5, List.getElem?_take] at hj
    split at hj
    · rw [show (⟨g, 0, none⟩ : Addr).add j = ⟨g, j, none⟩ by unfold Addr.add; split <;> simp_all]
      simp only [World.cell?, hg]
      simpa using hj
    · cases hj
/-- s[:m] -/
theorem SlV.front {w : World} {k n m : Nat} {A : Option Addr} {c : Nat} {xs : List Value} (h : SlV w k (.slice A n c) n xs) (hm : m ≤ n) : SlV w k (.slice A m c) m (xs.take (m * k)) := by
  obtain ⟨h1, A', c', e, h2, h3, h0, h4⟩ := h
  obtain ⟨rfl, _, rfl⟩ := Value.slice.inj e
  refine ⟨by rw [List.length_take, h1]; have := Nat.mul_le_mul_right k hm; omega, A, c, rfl, by omega, h3, h0, fun hp => ?_⟩
  obtain ⟨ad, rfl, h5, h6⟩ := h4 (by omega)
  refine ⟨ad, rfl, h5, fun j u hj => h6 j u ?_⟩
  rw [List.getElem?_take] at hj
  split at hj
  · exact hj
  · cases hj
/-- s[m:] -/
theorem SlV.back {w : World} {k n m : Nat} {ad : Addr} {c : Nat} {xs : List Value} (h : SlV w k (.slice (some ad) n c) n xs) (hm : m ≤ n) : SlV w k (.slice (some (ad.add (m * k))) (n - m) (c - m)) (n - m) (xs.drop (m * k)) := by
  obtain ⟨h1, A', c', e, h2, h3, h0, h4⟩ := h
  obtain ⟨rfl, _, rfl⟩ := Value.slice.inj e
  refine ⟨by rw [List.length_drop, h1, Nat.sub_mul], _, _, rfl, by omega, by omega, fun q => (by cases q), fun hp => ?_⟩
  obtain ⟨ad', e', h5, h6⟩ := h4 (by omega)
  cases e'
  refine ⟨_, rfl, by rw [add_block]; exact h5, fun j u hj => ?_⟩
  rw [List.getElem?_drop] at hj
  rw [add_twice]
  exact h6 _ _ hj
section
variable {P : Program}
/-- 'v = append(v, s...)': v the call's own, s any slice. -/
theorem wpList_append_sl {ops : Array Oper} {rest : List Oper} {o : Oper} {a : Act} {Q : Exit → Act → World → Prop} (hgd : o.guard = none) (s x : Operand) (t : TypeId)
    (ho : o.op = .call { callee := .builtin .append, args := #[s, x], argTypes := #[t, t] })
    (B : Nat) (e : TypeId) (i : TypeInfo) (z : Value) (k bytes : Nat) (ht : P.underlying t = some (.slice e)) (hi : P.info? e = some i) (hz : i.zero = some z) (hsize : i.size = k) (hby : i.bytes = bytes) (hzs : z.cells.size = k) (hk : 0 < k)
    (v : Value) (n : Nat) (xs : List Value) (w : World) (sv : Value) (m : Nat) (news : List Value) (hown : w.ownsRow B e k v n xs) (hs : a.eval s = v)
    (hsv : SlV w k sv m news) (hx : a.eval x = sv) (h1 : ∀ u ∈ news, u.oneCell' = true) (hlen : n + m ≤ maxLen) (hbytes : (n + m) * bytes ≤ 140737488355328) (hB : B ≤ w.heap.size)
    (h : ∀ v' w', w'.ownsRow B e k v' (n + m) (xs ++ news) → w.grownBy w' v.ownBlock → wpList P ops Q rest (a.put o.dst v') w') : wpList P ops Q (o :: rest) a w := by
  obtain ⟨hl, A, c, rfl, hmc, hc, h0, h4⟩ := hsv
  rcases A with _ | ad
  · have hm : m = 0 := by
      rcases Nat.eq_zero_or_pos m with h | h
      · exact h
      · obtain ⟨ad, h5, _⟩ := h4 h; cases h5
    subst hm
    obtain rfl := h0 rfl
    have hn : news = [] := List.eq_nil_of_length_eq_zero (by simpa using hl)
    subst hn
    refine wpList_append_own_none hgd s x t ho B e i k ht hi v n xs hs hown hx (h v w (by simpa using hown) ⟨rfl, rfl, rfl, Nat.le_refl _, fun _ _ _ => rfl⟩)
  · refine wpList_append_own w hgd s x t ho B e i z k bytes ht hi hz hsize hby hzs hk v n xs hs hown ad m c news hx hl ?_ h1 hlen hbytes hB (fun v' w' h2 h3 _ => h v' w' h2 h3)
    intro j u hj
    have hp : 0 < m := by
      rcases Nat.eq_zero_or_pos m with h | h
      · subst h
        have : news = [] := List.eq_nil_of_length_eq_zero (by simpa using hl)
        subst this
        simp at hj
      · exact h
    obtain ⟨ad', e', _, h6⟩ := h4 hp
    cases e'
    exact h6 j u hj
end
theorem ownsRow_low {e : TypeId} {k B B' n : Nat} {v : Value} {xs : List Value} {w : World} (h : w.ownsRow B e k v n xs) (hB : B' ≤ B) : w.ownsRow B' e k v n xs := by
  refine ⟨h.1, ?_⟩
  rcases h.2 with h1 | ⟨g, cap, cur, rfl, h1, h3⟩
  · exact .inl h1
  · exact .inr ⟨g, cap, cur, rfl, Nat.le_trans hB h1, h3⟩
/-- What lay below B stays, behind an append to a row that the call owns. -/
theorem below_own {e : TypeId} {k B n : Nat} {v : Value} {xs : List Value} {a w w' : World} (h : Below B a w) (ho : w.ownsRow B e k v n xs) (hg : w.grownBy w' v.ownBlock) (hB : B ≤ w.heap.size) : Below B a w' :=
  h.grown hg hB (fun j hj => (own_lt ho j hj).1)
end Go.Proofs.YtfkimemagbkcoaaDoor
