/-
  A slice that a call owns, carried from append to append, with what else is kept: every block that holds no row of its element type. Nothing is walked here. No condition but those written.
-/
import Derived.Test.YtdfhchpimpbgfaaGreatDoorStV
import Derived.Lib.BufSteps
import Derived.Lib.OthersKept
set_option linter.unusedVariables false
set_option linter.unusedSimpArgs false
namespace Go.Proofs.YtdfhchpimpbgfaaGreatDoor
open Go.RowKit Go.Lib

/-- In w the slice v owns a row of n elements of k cells, xs, in a block from B on; below B nothing has turned since W0, and of what lay in W0 no block but rows of e. -/
def OwnK (e : TypeId) (k B : Nat) (v : Value) (n : Nat) (xs : List Value) (W0 w : World) : Prop :=
  w.ownsRow B e k v n xs ∧ Below B W0 w ∧ B ≤ w.heap.size ∧ Lib.OthersKept e none W0 w
theorem kind_of {e : TypeId} {k B : Nat} {v : Value} {n : Nat} {xs : List Value} {w : World} (h : w.ownsRow B e k v n xs) : ∀ g, v.ownBlock = some g → ∃ c fz, w.heap[g]? = some (.cells c e fz) := by
  intro g hg
  rcases h.2 with ⟨rfl, _⟩ | ⟨g', cap, cur, rfl, _, hgg, _⟩
  · simp [Value.ownBlock] at hg
  · simp [Value.ownBlock] at hg
    subst hg
    exact ⟨cur, _, hgg⟩
theorem own_lt {e : TypeId} {k B : Nat} {v : Value} {n : Nat} {xs : List Value} {w : World} (h : w.ownsRow B e k v n xs) : ∀ g, v.ownBlock = some g → B ≤ g ∧ g < w.heap.size := by
  intro g hg
  rcases h.2 with ⟨rfl, _⟩ | ⟨g', cap, cur, rfl, hb, hgg, _⟩
  · simp [Value.ownBlock] at hg
  · simp [Value.ownBlock] at hg
    subst hg
    exact ⟨hb, (Array.getElem?_eq_some_iff.1 hgg).1⟩
theorem OwnK.start {e : TypeId} {k B : Nat} {v : Value} {n : Nat} {xs : List Value} {w : World} (h : w.ownsRow B e k v n xs) (hB : B ≤ w.heap.size) : OwnK e k B v n xs w w := ⟨h, Below.refl _ _, hB, Lib.OthersKept.refl _ _ _⟩
theorem OwnK.trans {e : TypeId} {k B : Nat} {v v' : Value} {n n' : Nat} {xs xs' : List Value} {W0 w1 w2 : World} (h : OwnK e k B v n xs W0 w1) (h' : OwnK e k B v' n' xs' w1 w2) : OwnK e k B v' n' xs' W0 w2 :=
  ⟨h'.1, h.2.1.trans h'.2.1, h'.2.2.1, h.2.2.2.trans h'.2.2.2⟩
theorem OwnK.alloc {e : TypeId} {k B : Nat} {v : Value} {n : Nat} {xs : List Value} {W0 w : World} (h : OwnK e k B v n xs W0 w) (o : Obj) : OwnK e k B v n xs W0 (w.alloc o) :=
  ⟨h.1.alloc o, h.2.1.alloc h.2.2.1 o, Nat.le_trans h.2.2.1 ((Below.refl 0 w).alloc (Nat.zero_le _) o).size, h.2.2.2.alloc o⟩
theorem OwnK.drew {e : TypeId} {k B : Nat} {v : Value} {n : Nat} {xs : List Value} {W0 w : World} (h : OwnK e k B v n xs W0 w) : OwnK e k B v n xs W0 w.drew := ⟨h.1, h.2.1.drew, h.2.2.1, h.2.2.2.drew⟩
theorem OwnK.grown {e : TypeId} {k B : Nat} {v v' : Value} {n n' : Nat} {xs xs' : List Value} {W0 w w' : World} (h : OwnK e k B v n xs W0 w) (ho : w'.ownsRow B e k v' n' xs') (hg : w.grownBy w' v.ownBlock) : OwnK e k B v' n' xs' W0 w' :=
  ⟨ho, h.2.1.grown hg h.2.2.1 (fun j hj => (own_lt h.1 j hj).1), Nat.le_trans h.2.2.1 hg.size, h.2.2.2.grown hg (kind_of h.1)⟩
/-- Behind a call that keeps all that was there. -/
theorem OwnK.below {e : TypeId} {k B : Nat} {v : Value} {n : Nat} {xs : List Value} {W0 w w' : World} (h : OwnK e k B v n xs W0 w) (hb : Below w.heap.size w w') : OwnK e k B v n xs W0 w' := by
  refine ⟨?_, h.2.1.trans (hb.mono h.2.2.1), Nat.le_trans h.2.2.1 hb.size, ?_⟩
  · refine ⟨h.1.1, ?_⟩
    rcases h.1.2 with h1 | ⟨g, cap, cur, rfl, h1, h2, h3⟩
    · exact .inl h1
    · exact .inr ⟨g, cap, cur, rfl, h1, (hb.block g (Array.getElem?_eq_some_iff.1 h2).1).trans h2, h3⟩
  · intro j o hj hn ho
    have h1 := h.2.2.2 j o hj hn ho
    exact (hb.block j (Array.getElem?_eq_some_iff.1 h1).1).trans h1
/-- v[:0] -/
theorem OwnK.cut0 {e : TypeId} {k B : Nat} {A : Option Addr} {n c : Nat} {xs : List Value} {w : World} (h : w.ownsRow B e k (.slice A n c) n xs) : w.ownsRow B e k (.slice A 0 c) 0 [] := by
  refine ⟨by simp, ?_⟩
  rcases h.2 with ⟨h1, h2⟩ | ⟨g, cap, cur, h1, h2, h3, h4, h5, h6, h7⟩
  · obtain ⟨rfl, rfl, rfl⟩ := Value.slice.inj h1
    exact .inl ⟨rfl, rfl⟩
  · obtain ⟨rfl, _, rfl⟩ := Value.slice.inj h1
    exact .inr ⟨g, c, cur, rfl, h2, h3, Nat.zero_le _, h5, h6, by simp⟩
section
variable {P : Program}
/-- 'v = append(v, ..)', where what is appended lies in the block that the statement has just laid. -/
theorem wpList_appendK {ops : Array Oper} {rest : List Oper} {o : Oper} {a : Act} {Q : Exit → Act → World → Prop} (hgd : o.guard = none) (s x : Operand) (t : TypeId)
    (ho : o.op = .call { callee := .builtin .append, args := #[s, x], argTypes := #[t, t] })
    (B : Nat) (e : TypeId) (i : TypeInfo) (z : Value) (k bytes : Nat) (ht : P.underlying t = some (.slice e)) (hi : P.info? e = some i) (hz : i.zero = some z) (hsize : i.size = k) (hby : i.bytes = bytes) (hzs : z.cells.size = k) (hk : 0 < k)
    (v : Value) (n : Nat) (xs : List Value) (hs : a.eval s = v) (W0 w0 : World) (m : Nat) (news : List Value) (hb : OwnK e k B v n xs W0 w0)
    (hx : a.eval x = .slice (some ⟨w0.heap.size, 0, none⟩) m m) (hl : news.length = m * k) (h1 : ∀ u ∈ news, u.oneCell' = true) (hlen : n + m ≤ 9223372036854775807) (hbytes : (n + m) * bytes ≤ 140737488355328)
    (h : ∀ v' w', OwnK e k B v' (n + m) (xs ++ news) W0 w' → wpList P ops Q rest (a.put o.dst v') w') : wpList P ops Q (o :: rest) a (w0.alloc (.cells news.toArray e)) := by
  have hb' := hb.alloc (.cells news.toArray e)
  refine wpList_append_own _ hgd s x t ho B e i z k bytes ht hi hz hsize hby hzs hk v n xs hs hb'.1 ⟨w0.heap.size, 0, none⟩ m m news hx hl ?_ h1 (by unfold maxLen; omega) hbytes hb'.2.2.1 ?_
  · intro j u hj
    have := cell_new w0 news.toArray e j
    rw [show (⟨w0.heap.size, 0, none⟩ : Addr).add j = ⟨w0.heap.size, j, none⟩ by unfold Addr.add; split <;> simp_all]
    rw [this]
    simpa using hj
  · intro v' w' ho' hg _
    exact h v' w' (hb'.grown ho' hg)
end
end Go.Proofs.YtdfhchpimpbgfaaGreatDoor
