/-
  Appending one counter to a call's own row: in place, in its block, or moved to a new one, all else as it was. No condition but those written.
-/
import Derived.Test.YtkpjbmbdndkalaaDoorStSp
set_option linter.unusedVariables false
set_option linter.unusedSimpArgs false
namespace Go.Proofs.YtkpjbmbdndkalaaDoor
open Go.RowKit Go.Lib

theorem grown_none {w w' : World} {r : Option Nat} (h : w.grownBy w' none) : w.grownBy w' r := ⟨h.os, h.tape, h.output, h.size, fun k hk _ => h.block k hk (by simp)⟩
theorem grown_alloc (w : World) (o : Obj) : w.grownBy (w.drew.alloc o) none := ⟨rfl, rfl, rfl, by simp, fun k hk _ => heap_alloc_old w.drew _ hk⟩
theorem run_append1 (B n : Nat) (v : Value) (xs : List Value) (w : World) (hown : w.ownsRow B 60 1 v n xs) (ad : Addr) (c : Nat) (z : Int) (ty : TypeId) (hc : w.cell? ad = some (uv z)) (h63 : n + 1 ≤ maxLen) (hb : (n + 1) * 4 ≤ 140737488355328) (hB : B ≤ w.heap.size) :
    ∃ v' w', (Builtin.append_ #[23, 23] ty #[v, .slice (some ad) 1 c]).run Tryd.prog w = .ok v' w' ∧ w'.ownsRow B 60 1 v' (n + 1) (xs ++ [uv z]) ∧
      ((∃ g cap, v = .slice (some ⟨g, 0, none⟩) n cap ∧ v' = .slice (some ⟨g, 0, none⟩) (n + 1) cap ∧ w.grownBy w' (some g)) ∨ (w.grownBy w' none ∧ ∀ b, v'.ownBlock = some b → w.heap.size ≤ b)) := by
  obtain ⟨i0, hi, hz0, hz1, hz2⟩ := info_parts u32_info
  have hnews : ∀ j u, [uv z][j]? = some u → w.cell? (ad.add j) = some u := by
    intro j u hj
    match j, hj with
    | 0, hj => simp only [List.getElem?_cons_zero, Option.some.injEq] at hj; subst hj; rw [add_zero]; exact hc
    | j + 1, hj => simp at hj
  have h1 : ∀ u ∈ [uv z], u.oneCell' = true := uv_one [z]
  obtain ⟨v', w', hr, ho, hg, _⟩ := run_append_own (P := Tryd.prog) w B 23 ty 60 i0 (.int .u32 0) 1 4 Tryd.underlying23 hi hz0 hz1 hz2 rfl (by decide) v n xs hown ad 1 c [uv z] rfl hnews h1 h63 hb hB
  refine ⟨v', w', hr, ho, ?_⟩
  have hmax : n + 1 ≤ 9223372036854775807 := by unfold maxLen at h63; omega
  rcases hown.2 with ⟨rfl, rfl⟩ | ⟨g, cap, cur, rfl, hbg, hgc, hnc, hcm, hcs, htake⟩
  · have hr2 := run_append_nil (P := Tryd.prog) w 23 ty 60 i0 (.int .u32 0) Tryd.underlying23 hi hz0 ad 1 c [uv z] (by rw [hz1]; rfl) hnews (by decide) (by decide) (by rw [hz2]; decide)
    rw [hr2] at hr
    injection hr with e1 e2
    subst e1 e2
    refine .inr ⟨grown_alloc _ _, fun b hb => ?_⟩
    simp only [Value.ownBlock, Option.some.injEq] at hb
    omega
  · by_cases hroom : n + 1 ≤ cap
    · have hr2 := run_append_room (P := Tryd.prog) w 23 ty 60 i0 Tryd.underlying23 hi g n cap cur hgc ad 1 c [uv z] (by rw [hz1]; rfl) hnews h1 hroom (by rw [hz1, hcs]; simp; omega)
      rw [hr2] at hr
      injection hr with e1 e2
      subst e1
      exact .inl ⟨g, cap, rfl, rfl, by simpa [Value.ownBlock] using hg⟩
    · have holds : ∀ j u, xs[j]? = some u → w.cell? ((⟨g, 0, none⟩ : Addr).add j) = some u := hown.cells (g := g) rfl
      have hr2 := run_append_grow (P := Tryd.prog) w 23 ty 60 i0 (.int .u32 0) Tryd.underlying23 hi hz0 ⟨g, 0, none⟩ n cap xs (by rw [hz1]; exact hown.1) holds ad 1 c [uv z] (by rw [hz1]; rfl) hnews (by omega) (by omega) (by rw [hz2]; exact growslice_fits (by omega) hb)
      rw [hr2] at hr
      injection hr with e1 e2
      subst e1 e2
      refine .inr ⟨grown_alloc _ _, fun b hb => ?_⟩
      simp only [Value.ownBlock, Option.some.injEq] at hb
      omega
theorem wpList_append1 {ops : Array Oper} {rest : List Oper} {o : Oper} {a : Act} {Q : Exit → Act → World → Prop} (hgd : o.guard = none) (s x : Operand)
    (ho : o.op = .call { callee := .builtin .append, args := #[s, x], argTypes := #[23, 23] })
    (B n : Nat) (v : Value) (xs : List Value) (w : World) (hs : a.eval s = v) (hown : w.ownsRow B 60 1 v n xs) (ad : Addr) (c : Nat) (z : Int) (hx : a.eval x = .slice (some ad) 1 c) (hc : w.cell? ad = some (uv z)) (h63 : n + 1 ≤ maxLen) (hb : (n + 1) * 4 ≤ 140737488355328) (hB : B ≤ w.heap.size)
    (h : ∀ v' w', w'.ownsRow B 60 1 v' (n + 1) (xs ++ [uv z]) → ((∃ g cap, v = .slice (some ⟨g, 0, none⟩) n cap ∧ v' = .slice (some ⟨g, 0, none⟩) (n + 1) cap ∧ w.grownBy w' (some g)) ∨ (w.grownBy w' none ∧ ∀ b, v'.ownBlock = some b → w.heap.size ≤ b)) → wpList Tryd.prog ops Q rest (a.put o.dst v') w') : wpList Tryd.prog ops Q (o :: rest) a w := by
  obtain ⟨v', w', hr, h2, h3⟩ := run_append1 B n v xs w hown ad c z o.type hc h63 hb hB
  refine wpList_plain hgd fun K hK => ?_
  unfold Oper.wp execOp
  simp only [ho, resolve, invoke, builtin, Sem.run_bind, Sem.run_pure, Result.andThen_ok, List.map_toArray, List.map_cons, List.map_nil, hs, hx, hr]
  exact hK _ _ (h v' w' h2 h3)
end Go.Proofs.YtkpjbmbdndkalaaDoor
