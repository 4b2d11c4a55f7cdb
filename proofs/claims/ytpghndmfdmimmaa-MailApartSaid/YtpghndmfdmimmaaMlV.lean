/-
  General words of the proofs of layer 9: worlds one behind the other, blocks of variables. Nothing is walked here. No condition but those written.
-/
import Derived.Test.YtpghndmfdmimmaaProg
import Derived.Lib.FrozenHead
import Derived.Lib.OthersKept
import Derived.WalkKit
import Derived.WalkLawsBesides
import Derived.WalkSpells
import Derived.Handy
import Derived.Lib.Hide
import Derived.Deep.QuietTactic
import Derived.BigQuiet
import Derived.Laws.AppendOwn
import Derived.Deep.DeepCutAuto
import Derived.Deep.RegionHeld3
set_option linter.unusedVariables false
set_option linter.unusedSimpArgs false
namespace Go.Proofs.Ytpghndmfdmimmaa
open Go.RowKit Go.Lib

theorem chainB {B : Nat} {a b c : World} (h : Below B a b) (k : Below b.heap.size b c) (hB : B ≤ b.heap.size) : Below B a c := h.trans (k.mono hB)
theorem ret_bool {a b : Bool} (h : a = b) : Ending.returned (.bool a) = .returned (.bool b) := by rw [h]
theorem ret_int {k : IntKind} {a b : Int} (h : a = b) : Ending.returned (.int k a) = .returned (.int k b) := by rw [h]
/-- Block b of w holds the cells cs of a variable of type t. -/
def HasC (w : World) (b : Nat) (cs : List Value) (t : TypeId) : Prop := w.heap[b]? = some (.cells cs.toArray t (0, 0))
theorem HasC.new (w : World) (cs : List Value) (t : TypeId) : HasC (w.alloc (.cells cs.toArray t)) w.heap.size cs t := heap_alloc_new w _
theorem has_at (w : World) (b : Nat) (cs : List Value) (t : TypeId) (hb : b = w.heap.size) : HasC (w.alloc (.cells cs.toArray t)) b cs t := by subst hb; exact HasC.new w cs t
theorem HasC.lt {w : World} {b : Nat} {cs : List Value} {t : TypeId} (h : HasC w b cs t) : b < w.heap.size := (Array.getElem?_eq_some_iff.1 h).1
theorem HasC.alloc {w : World} {b : Nat} {cs : List Value} {t : TypeId} (h : HasC w b cs t) (o : Obj) : HasC (w.alloc o) b cs t := (Lib.alloc_old w o b h.lt).trans h
theorem HasC.below {w w' : World} {b : Nat} {cs : List Value} {t : TypeId} (h : HasC w b cs t) (hb : Below w.heap.size w w') : HasC w' b cs t := (hb.block b h.lt).trans h
theorem HasC.drew {w : World} {b : Nat} {cs : List Value} {t : TypeId} (h : HasC w b cs t) : HasC w.drew b cs t := h
theorem HasC.cell {w : World} {b : Nat} {cs : List Value} {t : TypeId} (h : HasC w b cs t) (i : Nat) {v : Value} (hi : cs[i]? = some v) : w.cell? ⟨b, i, none⟩ = some v := by
  unfold HasC at h
  simp only [World.cell?, h]
  simpa using hi
theorem HasC.free {w : World} {b : Nat} {cs : List Value} {t : TypeId} (h : HasC w b cs t) (i : Nat) : w.frozen? ⟨b, i, none⟩ = false := Lib.frozen_of_heap h i
theorem HasC.set {w : World} {b : Nat} {cs : List Value} {t : TypeId} (h : HasC w b cs t) (i : Nat) (x : Value) : HasC (w.setCell ⟨b, i, none⟩ x) b (cs.set i x) t := by
  unfold HasC at h ⊢
  simp [World.setCell, Array.getElem?_modify, h]
theorem HasC.far {w : World} {b : Nat} {cs : List Value} {t : TypeId} (h : HasC w b cs t) {p : Addr} (hp : b ≠ p.block) (x : Value) : HasC (w.setCell p x) b cs t := (Below.heap_setCell w p x b hp).trans h
theorem HasC.grown {w w' : World} {b : Nat} {cs : List Value} {t : TypeId} {row : Option Nat} (h : HasC w b cs t) (hg : w.grownBy w' row) (hne : row ≠ some b) : HasC w' b cs t := (hg.block b h.lt (fun e => hne e.symm)).trans h
theorem HasC.types {w : World} {b c : Nat} {cs ds : List Value} {t u : TypeId} (h : HasC w b cs t) (k : HasC w c ds u) (hne : t ≠ u) : b ≠ c := by
  rintro rfl
  unfold HasC at h k
  rw [h] at k
  injection k with k
  injection k with _ k _
  exact hne k
theorem boxes1 (w : World) (c0 : List Value) (t0 : TypeId) :
    ∃ W0, w.alloc (.cells c0.toArray t0) = W0 ∧ Below w.heap.size w W0 ∧ HasC W0 w.heap.size c0 t0 ∧ W0.heap.size = w.heap.size + 1 :=
  ⟨_, rfl, by go_grown, HasC.new _ _ _, by simp⟩
theorem boxes2 (w : World) (c0 c1 : List Value) (t0 t1 : TypeId) :
    ∃ W0, (w.alloc (.cells c0.toArray t0)).alloc (.cells c1.toArray t1) = W0 ∧ Below w.heap.size w W0 ∧ HasC W0 w.heap.size c0 t0 ∧ HasC W0 (w.heap.size + 1) c1 t1 ∧ W0.heap.size = w.heap.size + 1 + 1 := by
  refine ⟨_, rfl, by go_grown, (HasC.new _ _ _).alloc _, ?_, by simp⟩
  have := HasC.new (w.alloc (.cells c0.toArray t0)) c1 t1
  simpa only [World.size_alloc] using this
/-- append to a nil slice: a copy in a new block. -/
theorem wpList_append_copy {P : Program} {ops : Array Oper} {rest : List Oper} {o : Oper} {a : Act} {Q : Exit → Act → World → Prop} (hgd : o.guard = none) (s x : Operand) (T E : TypeId)
    (ho : o.op = .call { callee := .builtin .append, args := #[s, x], argTypes := #[T, T] }) (z : Value) (size bytes : Nat) (ht : P.underlying T = some (.slice E))
    (hinfo : (P.info? E).map (fun i => (i.zero, i.size, i.bytes)) = some (some z, size, bytes)) (w : World) (hs : a.eval s = .slice none 0 0) (ad : Addr) (n c : Nat) (hx : a.eval x = .slice (some ad) n c)
    (news : List Value) (hl : news.length = n * size) (hnews : ∀ j u, news[j]? = some u → w.cell? (ad.add j) = some u) (h0 : 0 < n) (h63 : n ≤ maxLen) (hb : n * bytes ≤ 281474976710656)
    (h : ∀ cap ys w', w'.heap.size = w.heap.size + 1 → n ≤ cap → cap ≤ maxLen → HasC w' w.heap.size (news ++ ys) E → Below w.heap.size w w' → wpList P ops Q rest (a.put o.dst (.slice (some ⟨w.heap.size, 0, none⟩) n cap)) w') :
    wpList P ops Q (o :: rest) a w := by
  obtain ⟨i0, hi, hz0, hz1, hz2⟩ := info_parts hinfo
  have hmax : (n : Int) ≤ 9223372036854775807 := by unfold maxLen at h63; omega
  have hr := run_append_nil (P := P) w T o.type E i0 z ht hi hz0 ad n c news (by rw [hz1]; exact hl) hnews h0 hmax (by rw [hz2]; exact hb)
  refine wpList_plain hgd fun K hK => ?_
  unfold Oper.wp execOp
  simp only [ho, resolve, invoke, builtin, Sem.run_bind, Sem.run_pure, Result.andThen_ok, List.map_toArray, List.map_cons, List.map_nil, hs, hx, hr]
  refine hK _ _ (h _ (Builtin.zeroCells z.cells (grownCap w n 0 E - n)).toList _ (by simp) (grownCap_ge _ _ _ _) (grownCap_le_maxLen _ _ _ _ h63) ?_ ((Below.refl _ _).drew.alloc (by simp) _))
  have := heap_alloc_new w.drew (.cells (news.toArray ++ Builtin.zeroCells z.cells (grownCap w n 0 E - n)) E)
  unfold HasC
  rw [show (news ++ (Builtin.zeroCells z.cells (grownCap w n 0 E - n)).toList).toArray = news.toArray ++ Builtin.zeroCells z.cells (grownCap w n 0 E - n) by simp]
  exact this
theorem wpList_append_nils {P : Program} {ops : Array Oper} {rest : List Oper} {o : Oper} {a : Act} {Q : Exit → Act → World → Prop} (hgd : o.guard = none) (s x : Operand) (T E : TypeId)
    (ho : o.op = .call { callee := .builtin .append, args := #[s, x], argTypes := #[T, T] }) (z : Value) (size bytes : Nat) (ht : P.underlying T = some (.slice E))
    (hinfo : (P.info? E).map (fun i => (i.zero, i.size, i.bytes)) = some (some z, size, bytes)) (w : World) (hs : a.eval s = .slice none 0 0) (hx : a.eval x = .slice none 0 0)
    (h : wpList P ops Q rest (a.put o.dst (.slice none 0 0)) w) : wpList P ops Q (o :: rest) a w := by
  obtain ⟨i0, hi, hz0, hz1, hz2⟩ := info_parts hinfo
  have hr : (Builtin.append_ #[T, T] o.type #[.slice none 0 0, .slice none 0 0]).run P w = .ok (.slice none 0 0) w := by
    simp [Builtin.append_, run_underlying ht, sizeOf, typeInfo, hi, Builtin.lenOf, Builtin.firstCells, storeCells]
  refine wpList_plain hgd fun K hK => ?_
  unfold Oper.wp execOp
  simp only [ho, resolve, invoke, builtin, Sem.run_bind, Sem.run_pure, Result.andThen_ok, List.map_toArray, List.map_cons, List.map_nil, hs, hx, hr]
  exact hK _ _ h
theorem news_of {w : World} {b : Nat} {cs ds : List Value} {t : TypeId} (h : HasC w b (cs ++ ds) t) : ∀ j u, cs[j]? = some u → w.cell? ((⟨b, 0, none⟩ : Addr).add j) = some u := by
  intro j u hj
  have hlt : j < cs.length := (List.getElem?_eq_some_iff.1 hj).1
  rw [show (⟨b, 0, none⟩ : Addr).add j = ⟨b, j, none⟩ by unfold Addr.add; split <;> simp_all]
  exact h.cell j (by rw [List.getElem?_append_left hlt]; exact hj)
abbrev datC (z : Int) : List Value := [.int .u8 3, .bool false, .int .i64 z, .string ⟨#[]⟩]
abbrev updC (v : Value) : List Value := [v, .int .u64 0, .slice none 0 0, .int .i64 1]
abbrev msgC (v : Value) : List Value := [.int .i64 0, .bool false, .int .i64 0, .int .u64 0, .slice none 0 0, v, .slice none 0 0]
/-- v is a row of one number, z. -/
def RowV (w : World) (v : Value) (z : Int) : Prop := ∃ Y c ys, v = .slice (some ⟨Y, 0, none⟩) 1 c ∧ 1 ≤ c ∧ c ≤ maxLen ∧ HasC w Y (datC z ++ ys) 89
theorem RowV.below {w w' : World} {v : Value} {z : Int} (h : RowV w v z) (hb : Below w.heap.size w w') : RowV w' v z := by
  obtain ⟨Y, c, ys, h1, h2, h3, h4⟩ := h
  exact ⟨Y, c, ys, h1, h2, h3, h4.below hb⟩
theorem RowV.form {w : World} {v : Value} {z : Int} (h : RowV w v z) : ∃ A c, v = .slice (some A) 1 c ∧ 1 ≤ c ∧ c ≤ maxLen := by
  obtain ⟨Y, c, ys, rfl, h2, h3, h4⟩ := h
  exact ⟨_, _, rfl, h2, h3⟩
/-- v is a list of one update, of the row of the one number z. -/
def UpdV (w : World) (v : Value) (z : Int) : Prop := ∃ X c xs r, v = .slice (some ⟨X, 0, none⟩) 1 c ∧ 1 ≤ c ∧ c ≤ maxLen ∧ HasC w X (updC r ++ xs) 37 ∧ RowV w r z
theorem UpdV.below {w w' : World} {v : Value} {z : Int} (h : UpdV w v z) (hb : Below w.heap.size w w') : UpdV w' v z := by
  obtain ⟨X, c, xs, r, h1, h2, h3, h4, h5⟩ := h
  exact ⟨X, c, xs, r, h1, h2, h3, h4.below hb, h5.below hb⟩
theorem UpdV.form {w : World} {v : Value} {z : Int} (h : UpdV w v z) : ∃ A c, v = .slice (some A) 1 c ∧ 1 ≤ c ∧ c ≤ maxLen := by
  obtain ⟨Y, c, ys, r, rfl, h2, h3, h4⟩ := h
  exact ⟨_, _, rfl, h2, h3⟩
theorem datum_info : (Try.prog.info? 89).map (fun i => (i.zero, i.size, i.bytes)) = some (some (.agg #[.int .u8 0, .bool false, .int .i64 0, .string ⟨#[]⟩]), 4, 32) := by kernel_rfl
theorem update_info : (Try.prog.info? 37).map (fun i => (i.zero, i.size, i.bytes)) = some (some (.agg #[.slice none 0 0, .int .u64 0, .slice none 0 0, .int .i64 0]), 4, 64) := by kernel_rfl
theorem word_info : (Try.prog.info? 115).map (fun i => (i.zero, i.size, i.bytes)) = some (some (.int .u32 0), 1, 4) := by kernel_rfl
end Go.Proofs.Ytpghndmfdmimmaa
