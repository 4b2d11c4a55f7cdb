/-
  ownWords answers true, of any lists of counters that lie in rows of their own, each in another block. Conditions: those written.
-/
import Derived.Test.YtkpjbmbdndkalaaDoorStOw
import Derived.LoopTactic
import Derived.BigQuiet
set_option linter.unusedVariables false
set_option linter.unusedSimpArgs false
namespace Go.Proofs.YtkpjbmbdndkalaaDoor
open Go.RowKit Go.Lib

def Apt (v u : Value) : Prop := ∀ b, v.ownBlock = some b → u.ownBlock ≠ some b
theorem Apt.symm {v u : Value} (h : Apt v u) : Apt u v := fun b h1 h2 => h b h2 h1
theorem row_kept {w w' : World} {B k n b : Nat} {e : TypeId} {v : Value} {xs : List Value} (h : w.ownsRow B e k v n xs) (hg : w.grownBy w' (some b)) (hne : v.ownBlock ≠ some b) : w'.ownsRow B e k v n xs := by
  obtain ⟨h1, h2 | ⟨g, cap, cur, rfl, hb, hc, h3⟩⟩ := h
  · exact ⟨h1, .inl h2⟩
  · exact ⟨h1, .inr ⟨g, cap, cur, rfl, hb, (hg.block g (Array.getElem?_eq_some_iff.1 hc).1 (fun e => hne e)).trans hc, h3⟩⟩
theorem row_kept0 {w w' : World} {B k n : Nat} {e : TypeId} {v : Value} {xs : List Value} (h : w.ownsRow B e k v n xs) (hg : w.grownBy w' none) : w'.ownsRow B e k v n xs := by
  obtain ⟨h1, h2 | ⟨g, cap, cur, rfl, hb, hc, h3⟩⟩ := h
  · exact ⟨h1, .inl h2⟩
  · exact ⟨h1, .inr ⟨g, cap, cur, rfl, hb, (hg.block g (Array.getElem?_eq_some_iff.1 hc).1 (by simp)).trans hc, h3⟩⟩
theorem row_lt {w : World} {B k n : Nat} {e : TypeId} {v : Value} {xs : List Value} (h : w.ownsRow B e k v n xs) {b : Nat} (hb : v.ownBlock = some b) : B ≤ b ∧ b < w.heap.size := h.lt b hb
theorem row_types {w : World} {B B' k k' n n' : Nat} {e e' : TypeId} {v u : Value} {xs ys : List Value} (h : w.ownsRow B e k v n xs) (h' : w.ownsRow B' e' k' u n' ys) (hne : e ≠ e') : Apt v u := by
  intro b h1 h2
  rcases h.2 with ⟨rfl, _⟩ | ⟨g, cap, cur, rfl, _, hc, _⟩
  · cases h1
  · rcases h'.2 with ⟨rfl, _⟩ | ⟨g', cap', cur', rfl, _, hc', _⟩
    · cases h2
    · simp only [Value.ownBlock, Option.some.injEq] at h1 h2
      subst h1
      subst h2
      rw [hc] at hc'
      simp only [Option.some.injEq, Obj.cells.injEq] at hc'
      exact hne hc'.2.1
theorem row_at {w : World} {B n g cap : Nat} {e : TypeId} {vs : List Value} (h : w.ownsRow B e 1 (.slice (some ⟨g, 0, none⟩) n cap) n vs) (i : Nat) (hi : i < vs.length) : w.cell? ⟨g, i, none⟩ = some vs[i] := by
  have := h.cells (g := g) rfl i vs[i] (by simp [hi])
  rw [show (⟨g, 0, none⟩ : Addr).add i = ⟨g, i, none⟩ by unfold Addr.add; split <;> simp_all] at this
  exact this
theorem row_form {w : World} {B n : Nat} {e : TypeId} {v : Value} {vs : List Value} (h : w.ownsRow B e 1 v n vs) (hn : 0 < n) : ∃ g cap, v = .slice (some ⟨g, 0, none⟩) n cap ∧ n ≤ cap ∧ cap ≤ 9223372036854775807 ∧ B ≤ g ∧ g < w.heap.size := by
  rcases h.2 with ⟨rfl, h1⟩ | ⟨g, cap, cur, rfl, hb, hc, h1, h2, _⟩
  · omega
  · exact ⟨g, cap, rfl, h1, by unfold maxLen at h2; omega, hb, (Array.getElem?_eq_some_iff.1 hc).1⟩
theorem own_pre {w : World} {B g m cap : Nat} {l r : List Int} (h : OwnW B (.slice (some ⟨g, 0, none⟩) m cap) (l ++ r) w) : OwnW B (.slice (some ⟨g, 0, none⟩) l.length cap) l w := by
  obtain ⟨h1, ⟨e, _⟩ | ⟨g', cap', cur, e, hb, hc, h2, h3, h4, h5⟩⟩ := h
  · cases e
  · obtain ⟨e1, e2, e3⟩ := Value.slice.inj e
    obtain rfl : g = g' := by simpa using e1
    subst e3
    rw [List.length_append] at h1 h2
    refine ⟨by simp, .inr ⟨g, cap, cur, rfl, hb, hc, by omega, h3, h4, ?_⟩⟩
    have := congrArg (List.take l.length) h5
    rw [List.take_take, List.map_append, List.take_left' (by simp)] at this
    rw [Nat.mul_one]
    rw [show min l.length ((l ++ r).length * 1) = l.length by simp] at this
    exact this
def mk (i k : Nat) : Int := IntKind.u32.wrap ((i : Int) * 1000 + (k : Int))
def mk2 (i k : Nat) : Int := IntKind.u32.wrap ((-1 - (i : Int)) * 1000 + (k : Int))
def mkL (i n : Nat) : List Int := (List.range n).map (mk i)
def mk2L (i n : Nat) : List Int := (List.range n).map (mk2 i)
theorem mkL_len (i n : Nat) : (mkL i n).length = n := by simp [mkL]
theorem mk2L_len (i n : Nat) : (mk2L i n).length = n := by simp [mk2L]
theorem mk2L_succ (i n : Nat) : mk2L i (n + 1) = mk2L i n ++ [mk2 i n] := by simp [mk2L, List.range_succ]
theorem mkL_succ (i n : Nat) : mkL i (n + 1) = mkL i n ++ [mk i n] := by simp [mkL, List.range_succ]
theorem mkL_at (i n k : Nat) (h : k < n) : (mkL i n)[k]? = some (mk i k) := by simp [mkL, h]
theorem mk2L_at (i n k : Nat) (h : k < n) : (mk2L i n)[k]? = some (mk2 i k) := by simp [mk2L, h]
/-- The lists as the first loops hold them: c j is what list j holds. -/
structure Sx (B : Nat) (vs : List Value) (c : Nat → List Int) (lv : Value) (w : World) : Prop where
  row : w.ownsRow B 23 1 lv vs.length vs
  own : ∀ j (h : j < vs.length), OwnW B vs[j] (c j) w
theorem Sx.set {B : Nat} {vs : List Value} {c : Nat → List Int} {lv : Value} {w : World} (h : Sx B vs c lv w) (hd : ∀ j k (hj : j < vs.length) (hk : k < vs.length), j ≠ k → Apt vs[j] vs[k])
    {i g m cap : Nat} (hi : i < vs.length) (hv : vs[i] = .slice (some ⟨g, 0, none⟩) m cap) (k : Nat) (z : Int) : Sx B vs (fun j => if j = i then (c i).set k z else c j) lv (w.setCell ⟨g, k, none⟩ (uv z)) := by
  have hg : w.grownBy (w.setCell ⟨g, k, none⟩ (uv z)) (some g) := grown_set (grown_refl w g) k _
  have ho := h.own i hi
  have hb : vs[i].ownBlock = some g := by rw [hv]; rfl
  refine ⟨row_kept h.row hg (fun e => row_types h.row ho (by decide) g e hb), fun j hj => ?_⟩
  by_cases e : j = i
  · subst e
    simp only [if_true]
    rw [hv] at ho ⊢
    exact ho.set k z
  · simp only [if_neg e]
    exact row_kept (h.own j hj) hg (fun e2 => hd j i hj hi e g e2 hb)
/-- What lies in blocks of other kinds stays. -/
def KeepT (w0 wr : World) : Prop := ∀ b cs t, HasC w0 b cs t → t ≠ 60 → HasC wr b cs t
theorem KeepT.below {w0 wr w' : World} (h : KeepT w0 wr) (hb : Below wr.heap.size wr w') : KeepT w0 w' := fun b cs t h1 h2 => (h b cs t h1 h2).below hb
theorem KeepT.own {w0 wr w' : World} {B g m cap : Nat} {l : List Int} (h : KeepT w0 wr) (ho : OwnW B (.slice (some ⟨g, 0, none⟩) m cap) l wr) (hg : wr.grownBy w' (some g)) : KeepT w0 w' := by
  intro b cs t h1 h2
  refine (h b cs t h1 h2).grown hg (fun e => ?_)
  have h3 := h b cs t h1 h2
  rcases ho.2 with ⟨e, _⟩ | ⟨g', cap', cur, e4, _, hc, _⟩
  · cases e
  · obtain rfl : g = g' := by simpa using (Value.slice.inj e4).1
    unfold HasC at h3
    subst e
    rw [hc] at h3
    simp only [Option.some.injEq, Obj.cells.injEq] at h3
    exact h2 h3.2.1.symm
theorem KeepT.none {w0 wr w' : World} (h : KeepT w0 wr) (hg : wr.grownBy w' none) : KeepT w0 w' := fun b cs t h1 h2 => (hg.block b (h b cs t h1 h2).lt (by simp)).trans (h b cs t h1 h2)
theorem KeepT.up {w0 wr w' : World} {row : Option Nat} (h : KeepT w0 wr) (hg : wr.grownBy w' row) (hr : ∀ b, row = some b → w0.heap.size ≤ b) : KeepT w0 w' := by
  intro b cs t h1 h2
  refine (hg.block b (h b cs t h1 h2).lt (fun e => ?_)).trans (h b cs t h1 h2)
  have := hr b e.symm
  have := h1.lt
  omega
def RelA (B : Nat) (vs : List Value) (len : Nat → Nat) (lv : Value) (w0 : World) (iv : Value) (wr : World) : Prop :=
  ∃ (i : Nat) (c : Nat → List Int), iv = .int .i64 (i : Int) ∧ i ≤ vs.length ∧ Sx B vs c lv wr ∧ (∀ j, j < vs.length → (c j).length = len j) ∧ (∀ j, j < i → c j = mkL j (len j)) ∧ Below B w0 wr ∧ w0.heap.size ≤ wr.heap.size ∧ KeepT w0 wr
def RelB (B i : Nat) (vs : List Value) (len : Nat → Nat) (lv : Value) (w0 : World) (kv : Value) (wr : World) : Prop :=
  ∃ (k : Nat) (c : Nat → List Int), kv = .int .i64 (k : Int) ∧ k ≤ len i ∧ Sx B vs c lv wr ∧ (∀ j, j < vs.length → (c j).length = len j) ∧ (∀ j, j < i → c j = mkL j (len j)) ∧ (c i).take k = mkL i k ∧ Below B w0 wr ∧ w0.heap.size ≤ wr.heap.size ∧ KeepT w0 wr
/-- The lists as the second loop holds them: us are the longer ones. -/
structure Lo (B B2 : Nat) (vs us : List Value) (len : Nat → Nat) (lv lo : Value) (w : World) : Prop where
  lv_ : w.ownsRow B 23 1 lv vs.length vs
  lo_ : w.ownsRow B2 23 1 lo us.length us
  vs_ : ∀ k (h : k < vs.length), OwnW B vs[k] (mkL k (len k)) w
  us_ : ∀ j (h : j < us.length), OwnW B us[j] (mkL j (len j) ++ mk2L j 8) w
  uv_ : ∀ j (hj : j < us.length) k (hk : k < vs.length), k ≠ j → Apt us[j] vs[k]
theorem Lo.below {B B2 : Nat} {vs us : List Value} {len : Nat → Nat} {lv lo : Value} {w w' : World} (h : Lo B B2 vs us len lv lo w) (hb : Below w.heap.size w w') : Lo B B2 vs us len lv lo w' :=
  ⟨ownsRow_below h.lv_ hb, ownsRow_below h.lo_ hb, fun k hk => (h.vs_ k hk).below hb, fun j hj => (h.us_ j hj).below hb, h.uv_⟩
structure Lx (B : Nat) (vs us : List Value) (len : Nat → Nat) (i : Nat) (x : Value) (q : Nat) (w : World) : Prop where
  x_ : OwnW B x (mkL i (len i) ++ mk2L i q) w
  xv : ∀ k (h : k < vs.length), k ≠ i → Apt x vs[k]
  xu : ∀ j (h : j < us.length), Apt x us[j]
  xi : ∀ h : i < vs.length, Apt x vs[i] ∨ ∃ g m cap, vs[i] = .slice (some ⟨g, 0, none⟩) (len i) cap ∧ x = .slice (some ⟨g, 0, none⟩) m cap
theorem Lx.below {B : Nat} {vs us : List Value} {len : Nat → Nat} {i q : Nat} {x : Value} {w w' : World} (h : Lx B vs us len i x q w) (hb : Below w.heap.size w w') : Lx B vs us len i x q w' := ⟨h.x_.below hb, h.xv, h.xu, h.xi⟩
theorem Lx.step {B B2 : Nat} {vs us : List Value} {len : Nat → Nat} {i q : Nat} {lv lo x v' : Value} {w w' : World} (h : Lo B B2 vs us len lv lo w) (hx : Lx B vs us len i x q w) {n : Nat} {xs : List Value}
    (hxs : xs = (mkL i (len i) ++ mk2L i q).map uv) (ho : w'.ownsRow B 60 1 v' (n + 1) (xs ++ [uv (mk2 i q)])) (hn : n = (mkL i (len i) ++ mk2L i q).length)
    (alt : (∃ g cap, x = .slice (some ⟨g, 0, none⟩) n cap ∧ v' = .slice (some ⟨g, 0, none⟩) (n + 1) cap ∧ w.grownBy w' (some g)) ∨ (w.grownBy w' none ∧ ∀ b, v'.ownBlock = some b → w.heap.size ≤ b)) :
    Lo B B2 vs us len lv lo w' ∧ Lx B vs us len i v' (q + 1) w' := by
  have ho2 : OwnW B v' (mkL i (len i) ++ mk2L i (q + 1)) w' := by
    unfold OwnW
    have e : (mkL i (len i) ++ mk2L i (q + 1)) = (mkL i (len i) ++ mk2L i q) ++ [mk2 i q] := by rw [mk2L_succ, List.append_assoc]
    rw [e, List.length_append, ← hn, List.map_append, ← hxs]
    exact ho
  rcases alt with ⟨g, cap, hxe, rfl, hg⟩ | ⟨hg, hb⟩
  · have hxb : x.ownBlock = some g := by rw [hxe]; rfl
    have hvi : ∀ k (hk : k < vs.length), OwnW B vs[k] (mkL k (len k)) w' := by
      intro k hk
      by_cases e : k = i
      · subst e
        rcases hx.xi hk with ha | ⟨g2, m2, cap2, e1, e2⟩
        · exact row_kept (h.vs_ k hk) hg (ha g hxb)
        · rw [hxe] at e2
          obtain ⟨e3, _, e4⟩ := Value.slice.inj e2
          obtain rfl : g = g2 := by simpa using e3
          subst e4
          rw [e1]
          have := own_pre ho2
          rwa [mkL_len] at this
      · exact row_kept (h.vs_ k hk) hg (hx.xv k hk e g hxb)
    refine ⟨⟨row_kept h.lv_ hg (fun e => row_types h.lv_ hx.x_ (by decide) g e hxb), row_kept h.lo_ hg (fun e => row_types h.lo_ hx.x_ (by decide) g e hxb), hvi, fun j hj => row_kept (h.us_ j hj) hg (hx.xu j hj g hxb), h.uv_⟩,
      ⟨ho2, fun k hk e b hb => hx.xv k hk e b (by rw [hxb]; exact hb), fun j hj b hb => hx.xu j hj b (by rw [hxb]; exact hb), fun hi => ?_⟩⟩
    rcases hx.xi hi with ha | ⟨g2, m2, cap2, e1, e2⟩
    · exact .inl (fun b hb => ha b (by rw [hxb]; exact hb))
    · rw [hxe] at e2
      obtain ⟨e3, _, e4⟩ := Value.slice.inj e2
      obtain rfl : g = g2 := by simpa using e3
      subst e4
      exact .inr ⟨g, _, cap, e1, rfl⟩
  · refine ⟨⟨row_kept0 h.lv_ hg, row_kept0 h.lo_ hg, fun k hk => row_kept0 (h.vs_ k hk) hg, fun j hj => row_kept0 (h.us_ j hj) hg, h.uv_⟩,
      ⟨ho2, fun k hk _ b h1 h2 => ?_, fun j hj b h1 h2 => ?_, fun hi => .inl (fun b h1 h2 => ?_)⟩⟩
    · have := hb b h1; have := (row_lt (h.vs_ k hk) h2).2; omega
    · have := hb b h1; have := (row_lt (h.us_ j hj) h2).2; omega
    · have := hb b h1; have := (row_lt (h.vs_ i hi) h2).2; omega
theorem row_keptO {w w' : World} {B k n : Nat} {e : TypeId} {v u : Value} {xs : List Value} (h : w.ownsRow B e k v n xs) (hg : w.grownBy w' u.ownBlock) (hne : Apt v u) : w'.ownsRow B e k v n xs := by
  obtain ⟨h1, h2 | ⟨g, cap, cur, rfl, hb, hc, h3⟩⟩ := h
  · exact ⟨h1, .inl h2⟩
  · exact ⟨h1, .inr ⟨g, cap, cur, rfl, hb, (hg.block g (Array.getElem?_eq_some_iff.1 hc).1 (fun e => hne g rfl e.symm)).trans hc, h3⟩⟩
theorem Lo.push {B B2 : Nat} {vs us : List Value} {len : Nat → Nat} {lv lo x lo' : Value} {w w' : World} (h : Lo B B2 vs us len lv lo w) (hx : Lx B vs us len us.length x 8 w) (hl : ∀ b, lv.ownBlock = some b → b < B2)
    (ho : w'.ownsRow B2 23 1 lo' (us.length + 1) (us ++ [x])) (hg : w.grownBy w' lo.ownBlock) : Lo B B2 vs (us ++ [x]) len lv lo' w' := by
  refine ⟨row_keptO h.lv_ hg (fun b h1 h2 => ?_), by simpa using ho, fun k hk => row_keptO (h.vs_ k hk) hg (row_types h.lo_ (h.vs_ k hk) (by decide)).symm, fun j hj => ?_, fun j hj k hk hne => ?_⟩
  · have := hl b h1
    have := (row_lt h.lo_ h2).1
    omega
  · rcases Nat.lt_or_ge j us.length with h1 | h1
    · rw [List.getElem_append_left h1]
      exact row_keptO (h.us_ j h1) hg (row_types h.lo_ (h.us_ j h1) (by decide)).symm
    · obtain rfl : j = us.length := by simp at hj; omega
      rw [List.getElem_append_right (Nat.le_refl _)]
      simp only [Nat.sub_self, List.getElem_cons_zero]
      exact row_keptO hx.x_ hg (row_types h.lo_ hx.x_ (by decide)).symm
  · rcases Nat.lt_or_ge j us.length with h1 | h1
    · rw [List.getElem_append_left h1]
      exact h.uv_ j h1 k hk hne
    · obtain rfl : j = us.length := by simp at hj; omega
      rw [List.getElem_append_right (Nat.le_refl _)]
      simp only [Nat.sub_self, List.getElem_cons_zero]
      exact hx.xv k hk hne
def RelC (B : Nat) (vs : List Value) (len : Nat → Nat) (lv : Value) (w0 : World) (lov iv : Value) (wr : World) : Prop :=
  ∃ us lo, lo = lov ∧ iv = .int .i64 (us.length : Int) ∧ us.length ≤ vs.length ∧ Lo B w0.heap.size vs us len lv lo wr ∧ Below B w0 wr ∧ w0.heap.size ≤ wr.heap.size ∧ KeepT w0 wr
def RelD (B B2 i : Nat) (vs us : List Value) (len : Nat → Nat) (lv lo : Value) (w0 : World) (xv kv : Value) (wr : World) : Prop :=
  ∃ (q : Nat) (x : Value), x = xv ∧ kv = .int .i64 (q : Int) ∧ q ≤ 8 ∧ Lo B B2 vs us len lv lo wr ∧ Lx B vs us len i x q wr ∧ Below B w0 wr ∧ w0.heap.size ≤ wr.heap.size ∧ KeepT w0 wr
theorem news_one (w : World) (b : Nat) (v : Value) (t : TypeId) (hb : b = w.heap.size) : ∀ j u, [v][j]? = some u → (w.alloc (.cells #[v] t)).cell? ((⟨b, 0, none⟩ : Addr).add j) = some u := by
  intro j u hj
  subst hb
  match j, hj with
  | 0, hj => simp only [List.getElem?_cons_zero, Option.some.injEq] at hj; subst hj; rw [add_zero, cell_new]; rfl
  | j + 1, hj => simp at hj
theorem alt_keep {w0 : World} {B n : Nat} {x v' : Value} {l : List Int} {w w' : World} (hk : KeepT w0 w) (ho : OwnW B x l w) (alt : (∃ g cap, x = .slice (some ⟨g, 0, none⟩) n cap ∧ v' = .slice (some ⟨g, 0, none⟩) (n + 1) cap ∧ w.grownBy w' (some g)) ∨ (w.grownBy w' none ∧ ∀ b, v'.ownBlock = some b → w.heap.size ≤ b)) : KeepT w0 w' := by
  rcases alt with ⟨g, cap, rfl, _, hg⟩ | ⟨hg, _⟩
  · exact hk.own ho hg
  · exact hk.none hg
theorem alt_grown {B n : Nat} {x v' : Value} {l : List Int} {w w' : World} (ho : OwnW B x l w) (alt : (∃ g cap, x = .slice (some ⟨g, 0, none⟩) n cap ∧ v' = .slice (some ⟨g, 0, none⟩) (n + 1) cap ∧ w.grownBy w' (some g)) ∨ (w.grownBy w' none ∧ ∀ b, v'.ownBlock = some b → w.heap.size ≤ b)) : ∃ row, w.grownBy w' row ∧ ∀ b, row = some b → B ≤ b := by
  rcases alt with ⟨g, cap, rfl, _, hg⟩ | ⟨hg, _⟩
  · exact ⟨_, hg, fun b hb => (row_lt ho (b := b) hb).1⟩
  · exact ⟨_, hg, fun b hb => by cases hb⟩
def RelF (n : Nat) (w3 : World) (iv : Value) (wr : World) : Prop := ∃ p : Nat, iv = .int .i64 (p : Int) ∧ p ≤ n ∧ wr = w3
theorem words_info : (Tryd.prog.info? 23).map (fun i => (i.zero, i.size, i.bytes)) = some (some (.slice none 0 0), 1, 24) := by kernel_rfl
set_option maxHeartbeats 2000000 in
set_option maxRecDepth 1000000 in
theorem ownWords_any (B : Nat) (lv : Value) (vs : List Value) (len : Nat → Nat) (w0 : World) (hrow : w0.ownsRow B 23 1 lv vs.length vs) (hn : vs.length ≤ 1000000) (hlen : ∀ j, len j ≤ 1000000000)
    (hown : ∀ j (h : j < vs.length), ∃ l, l.length = len j ∧ OwnW B vs[j] l w0) (hd : ∀ j k (hj : j < vs.length) (hk : k < vs.length), j ≠ k → Apt vs[j] vs[k]) (hB : B ≤ w0.heap.size) :
    Calls Tryd.prog 50 #[lv] w0 fun e w' => e = .returned (.bool true) ∧ Below B w0 w' ∧ KeepT w0 w' := by
  obtain ⟨j0, hj, hj0, hj1, hj2⟩ := info_parts words_info
  obtain ⟨c0, hc0, hc1⟩ : ∃ c : Nat → List Int, (∀ j, j < vs.length → (c j).length = len j) ∧ ∀ j (h : j < vs.length), OwnW B vs[j] (c j) w0 := by
    refine ⟨fun j => if h : j < vs.length then (hown j h).choose else [], fun j h => ?_, fun j h => ?_⟩
    · simp only [h, dif_pos]; exact (hown j h).choose_spec.1
    · simp only [h, dif_pos]; exact (hown j h).choose_spec.2
  obtain ⟨n, hnn⟩ : ∃ n, vs.length = n := ⟨_, rfl⟩
  obtain ⟨L, nl, cl, rfl, hnl, hlc, hcl⟩ : ∃ L nl cl, lv = .slice L nl cl ∧ nl = n ∧ nl ≤ cl ∧ cl ≤ 9223372036854775807 := by
    rcases hrow.2 with ⟨rfl, h1⟩ | ⟨g, cap, cur, rfl, _, _, h1, h2, _⟩
    · exact ⟨none, 0, 0, rfl, by omega, by omega, by omega⟩
    · exact ⟨_, _, _, rfl, hnn, h1, by unfold maxLen at h2; omega⟩
  have hLb := Lib.hid (show ∀ b, (Value.slice L nl cl).ownBlock = some b → b < w0.heap.size from fun b hb => (row_lt hrow hb).2)
  have hSx := Lib.hid (show Sx B vs c0 (.slice L nl cl) w0 from ⟨hrow, hc1⟩)
  have hc0H := Lib.hid hc0; have hdH := Lib.hid hd; have hlenH := Lib.hid hlen; have hnnH := Lib.hid hnn
  rw [hnn] at hn
  subst hnl
  clear hrow hown hc0 hc1 hd hlen hnn
  go_enter Tryd.func50, Tryd.ntmps50
  go_wp2_with fail
  go_loopw [3] (fun i wr => RelA B vs len (.slice L nl cl) w0 i wr) (fun i _ => nl - (Go.RowKit.intOf i).toNat)
  case atStart => exact ⟨0, c0, rfl, Nat.zero_le _, hSx.out, hc0H.out, fun j h => by omega, Below.refl _ _, Nat.le_refl _, fun _ _ _ h _ => h⟩
  case round =>
    unfold RelA at hrel
    obtain ⟨i, c, rfl, hin, hS, hcl2, hdone, hbw, hsz, hkt⟩ := hrel
    have hktH := Lib.hid hkt
    clear hkt
    rw [hnnH.out] at hin
    by_cases hi : i < nl
    · have hiv : i < vs.length := by rw [hnnH.out]; exact hi
      have hSH := Lib.hid hS; have hclH := Lib.hid hcl2; have hdoH := Lib.hid hdone; have hbwH := Lib.hid hbw; have hszH := Lib.hid hsz
      obtain ⟨gl, capl, eL, _, _, hBl, hgl⟩ := row_form hS.row (by omega)
      obtain ⟨e1, e2, e3⟩ := Value.slice.inj eL
      subst e1
      clear hS hcl2 hdone hbw hsz eL e2 e3
      have hlenI := hlenH.out i
      obtain ⟨m, hm⟩ : ∃ m, len i = m := ⟨_, rfl⟩
      rw [hm] at hlenI
      have hmH := Lib.hid hm
      clear hm
      go_wp2_with fail
      go_loopw [4] (fun k wr => RelB B i vs len (.slice (some ⟨gl, 0, none⟩) nl cl) w0 k wr) (fun k _ => m - (Go.RowKit.intOf k).toNat)
      case atStart => exact ⟨0, c, rfl, Nat.zero_le _, hSH.out, hclH.out, hdoH.out, by simp [mkL], hbwH.out, hszH.out, hktH.out⟩
      case round =>
        unfold RelB at hrel
        obtain ⟨k, d, rfl, hkn, hS, hdl, hdone, hpre, hbw, hsz, hkt⟩ := hrel
        have hktH2 := Lib.hid hkt
        clear hkt
        rw [hmH.out] at hkn
        obtain ⟨A, mi, ci, hvi, hmi, _, hci⟩ := (hS.own i hiv).words.form
        rw [hdl i hiv, hmH.out] at hmi
        subst hmi
        have hrowS := hS.row
        rw [hnnH.out] at hrowS
        have lc_ := row_at hrowS i hiv
        rw [hvi] at lc_
        by_cases hk : k < m
        · obtain ⟨gi, capi, e4, _, _, _, hgi, hcs, hfz, _⟩ := (hS.own i hiv).row (by rw [hdl i hiv, hmH.out]; omega)
          rw [hvi] at e4
          obtain ⟨e5, _, e6⟩ := Value.slice.inj e4
          subst e5 e6
          have hkd : k < (d i).length := by rw [hdl i hiv, hmH.out]; exact hk
          have xc_ := hcs k (d i)[k] (by simp [hkd])
          have xf_ := hfz k
          obtain ⟨y, hy⟩ : ∃ y, (d i)[k] = y := ⟨_, rfl⟩
          rw [hy] at xc_
          obtain ⟨z, hz⟩ : ∃ z, mk i k = z := ⟨_, rfl⟩
          have hzw : IntKind.u32.wrap ((i : Int) * 1000 + (k : Int)) = z := hz
          have hSH2 := Lib.hid hS; have hdlH := Lib.hid hdl; have hdoH2 := Lib.hid hdone; have hprH := Lib.hid hpre; have hbwH2 := Lib.hid hbw; have hszH2 := Lib.hid hsz; have hzH := Lib.hid hz; have hviH := Lib.hid hvi; have hBgi := (row_lt (hS.own i hiv) (b := gi) (by rw [hvi]; rfl)).1
          clear hS hdl hdone hpre hbw hsz hz hy hcs hfz e4 hvi hrowS
          go_wp2_with fail
          go_roundw
          case rel =>
            refine ⟨k + 1, _, by go_num, by rw [hmH.out]; omega, hzH.out ▸ hSH2.out.set hdH.out hiv hviH.out k (mk i k), fun j hj => ?_, fun j hj => ?_, ?_, hbwH2.out.setCell hBgi _, by simpa using hszH2.out, hktH2.out.own (by have := hSH2.out.own i hiv; rwa [hviH.out] at this) (grown_set (grown_refl wr gi) k _)⟩
            · (try dsimp only)
              split
              · rename_i e; subst e; rw [List.length_set]; exact hdlH.out _ hj
              · exact hdlH.out _ hj
            · (try dsimp only)
              rw [if_neg (by omega)]
              exact hdoH2.out j hj
            · (try dsimp only)
              rw [if_pos rfl]
              rw [mkL_succ, ← hprH.out, List.take_add_one, List.take_set_of_le (Nat.le_refl _), List.getElem?_set_self hkd]
              rw [hzH.out]
              rfl
          case measure => simp [Go.RowKit.intOf]; omega
        · obtain rfl : k = m := by omega
          have hSH2 := Lib.hid hS; have hdlH := Lib.hid hdl; have hdoH2 := Lib.hid hdone; have hprH := Lib.hid hpre; have hbwH2 := Lib.hid hbw; have hszH2 := Lib.hid hsz
          clear hS hdl hdone hpre hbw hsz hrowS
          go_wp2_with fail
          go_roundw
          case rel =>
            refine ⟨i + 1, d, by go_num, by rw [hnnH.out]; omega, hSH2.out, hdlH.out, fun j hj => ?_, hbwH2.out, hszH2.out, hktH2.out⟩
            by_cases e : j = i
            · subst e
              have := hprH.out
              rw [List.take_of_length_le (by rw [hdlH.out j hiv, hmH.out]; exact Nat.le_refl _)] at this
              rw [this, hmH.out]
            · exact hdoH2.out j (by omega)
          case measure => simp [Go.RowKit.intOf]; omega
    · obtain rfl : i = nl := by omega
      have hLo := Lib.hid (show Lo B w0.heap.size vs [] len (.slice L i cl) (.slice none 0 0) wr from ⟨hS.row, World.ownsRow_nil _ _ _ _, fun k hk => by
        have := hS.own k hk
        rwa [hdone k (by rw [hnnH.out] at hk; exact hk)] at this, fun j hj => by simp at hj, fun j hj => by simp at hj⟩)
      have hbwH := Lib.hid hbw; have hszH := Lib.hid hsz
      clear hS hcl2 hdone hbw hsz hi hin
      go_wp2_with fail
      go_loopw [5, 6] (fun lo iv wr => RelC B vs len (.slice L i cl) w0 lo iv wr) (fun _ iv _ => i - (Go.RowKit.intOf iv).toNat)
      case atStart => exact ⟨[], _, rfl, rfl, Nat.zero_le _, hLo.out, hbwH.out, hszH.out, hktH.out⟩
      case round =>
        unfold RelC at hrel
        obtain ⟨us, lo, rfl, rfl, hun, hL, hbw, hsz, hkt⟩ := hrel
        have hktH2 := Lib.hid hkt
        clear hkt
        rw [hnnH.out] at hun
        obtain ⟨p, hp⟩ : ∃ p, us.length = p := ⟨_, rfl⟩
        rw [hp] at hun ⊢
        by_cases hpn : p < i
        · have hpv : p < vs.length := by rw [hnnH.out]; exact hpn
          obtain ⟨gl, capl, eL, _, _, _, hgl⟩ := row_form hL.lv_ (by omega)
          obtain ⟨e1, e2, e3⟩ := Value.slice.inj eL
          subst e1
          have hrowS := hL.lv_
          rw [hnnH.out] at hrowS
          have lc_ := row_at hrowS p hpv
          obtain ⟨x0, hx0⟩ : ∃ x, vs[p] = x := ⟨_, rfl⟩
          have hxi : Apt x0 vs[p] ∨ ∃ g m cap, vs[p] = .slice (some ⟨g, 0, none⟩) (len p) cap ∧ x0 = .slice (some ⟨g, 0, none⟩) m cap := by
            rw [hx0]
            have := hL.vs_ p hpv
            rw [hx0] at this
            rcases this.2 with ⟨rfl, _⟩ | ⟨g, cap, cur, rfl, _⟩
            · exact .inl (fun b h => by cases h)
            · rw [mkL_len]
              exact .inr ⟨g, _, cap, rfl, rfl⟩
          have hLx := Lib.hid (show Lx B vs us len p x0 0 wr from ⟨by
              have := hL.vs_ p hpv
              rw [hx0] at this
              simpa [mk2L] using this, fun k hk hne => by
              rw [← hx0]
              exact hdH.out p k hpv hk (by omega), fun j hj => by
              rw [← hx0]
              exact (hL.uv_ j hj p hpv (by omega)).symm, fun _ => hxi⟩)
          have hLH := Lib.hid hL; have hbwH2 := Lib.hid hbw; have hszH2 := Lib.hid hsz; have hpH := Lib.hid hp
          rw [hx0] at lc_
          clear hL hbw hsz hp hx0 hxi hrowS eL e2 e3
          go_wp2_with fail
          go_loopw [7, 8] (fun x kv wr => RelD B w0.heap.size p vs us len (.slice (some ⟨gl, 0, none⟩) i cl) lo w0 x kv wr) (fun _ kv _ => 8 - (Go.RowKit.intOf kv).toNat)
          case atStart => exact ⟨0, _, rfl, rfl, by omega, hLH.out, hLx.out, hbwH2.out, hszH2.out, hktH2.out⟩
          case round =>
            unfold RelD at hrel
            obtain ⟨q, x, rfl, rfl, hq8, hL, hX, hbw, hsz, hkt⟩ := hrel
            have hktH3 := Lib.hid hkt
            clear hkt
            by_cases hq : q < 8
            · obtain ⟨z, hz⟩ : ∃ z, mk2 p q = z := ⟨_, rfl⟩
              have hzw : IntKind.u32.wrap ((-1 - (p : Int)) * 1000 + (q : Int)) = z := hz
              have hzH := Lib.hid hz; have hLH3 := Lib.hid hL; have hXH := Lib.hid hX; have hbwH3 := Lib.hid hbw; have hszH3 := Lib.hid hsz
              have hxl : Hid ((mkL p (len p) ++ mk2L p q).length ≤ 1000000008) := Lib.hid (by rw [List.length_append, mkL_len, mk2L_len]; have := hlenH.out p; omega)
              clear hz hL hX hbw hsz hLx hLH
              go_upto_region 15 with (at_builtin; go_loud (refine wpList_append1 rfl _ _ rfl B _ _ _ _ (by rfl) (hXH.out.x_.below (by go_grown)) ⟨wr.heap.size, 0, none⟩ 1 z (by rfl) (cell_new _ _ _ 0) (by have := hxl.out; unfold maxLen; omega) (by have := hxl.out; omega) (by have := hszH3.out; simp; omega) ?_); intro v1 w1 ho1 alt1)
              have hW1 : Below wr.heap.size wr (wr.alloc (.cells #[.int .u32 z] 60)) := by go_grown
              obtain ⟨hL2, hX2⟩ := Lx.step (hLH3.out.below (by go_grown)) (hXH.out.below (by go_grown)) rfl (by rw [hzH.out]; exact ho1) rfl alt1
              obtain ⟨row1, hg1, hr1⟩ := alt_grown (hXH.out.x_.below (by go_grown)) alt1
              have hbn : Below B w0 w1 := Below.grown (chainB hbwH3.out (by go_grown) (by have := hbwH3.out.size; omega)) hg1 (by have := hszH3.out; simp; omega) hr1
              have hsn : w0.heap.size ≤ w1.heap.size := Nat.le_trans hszH3.out (Nat.le_trans (by simp) hg1.size : wr.heap.size ≤ w1.heap.size)
              have hkn := alt_keep (hktH3.out.below (by go_grown)) (hXH.out.x_.below (by go_grown)) alt1
              have hknH := Lib.hid hkn
              clear hkn
              have hL2H := Lib.hid hL2; have hX2H := Lib.hid hX2; have hbnH := Lib.hid hbn; have hsnH := Lib.hid hsn
              clear ho1 alt1 hL2 hX2 hg1 hr1 hbn hsn hW1
              go_wp2_with fail
              go_roundw
              case rel => exact ⟨q + 1, _, rfl, by go_num, by omega, hL2H.out, hX2H.out, hbnH.out, hsnH.out, hknH.out⟩
              case measure => simp [Go.RowKit.intOf]; omega
            · obtain rfl : q = 8 := by omega
              obtain ⟨Ax, nx, cx, rfl, _, _, _⟩ := hX.x_.words.form
              have hLH3 := Lib.hid hL; have hXH := Lib.hid hX; have hbwH3 := Lib.hid hbw; have hszH3 := Lib.hid hsz
              clear hL hX hbw hsz hLx hLH
              go_upto_region 11 with (at_builtin; go_loud (refine wpList_append_own _ rfl _ _ 43 rfl w0.heap.size 23 j0 (.slice none 0 0) 1 24 Tryd.underlying43 hj hj0 hj1 hj2 rfl (by decide) _ _ _ (by rfl) (hLH3.out.below (by go_grown)).lo_ ⟨wr.heap.size, 0, none⟩ 1 1 [.slice Ax nx cx] (by rfl) rfl (news_one _ _ _ _ rfl) (by simp [Value.oneCell']) (by have := hpH.out; unfold maxLen; omega) (by have := hpH.out; omega) (by have := hszH3.out; simp; omega) ?_); intro v1 w1 ho1 hg1 _)
              have hL2 := Lo.push (hLH3.out.below (by go_grown)) (by rw [hpH.out]; exact hXH.out.below (by go_grown)) hLb.out ho1 hg1
              have hr1 : ∀ b, lo.ownBlock = some b → B ≤ b := fun b hb => Nat.le_trans hB (row_lt hLH3.out.lo_ hb).1
              have hbn : Below B w0 w1 := Below.grown (chainB hbwH3.out (by go_grown) (by have := hbwH3.out.size; omega)) hg1 (by have := hszH3.out; simp; omega) hr1
              have hsn : w0.heap.size ≤ w1.heap.size := Nat.le_trans hszH3.out (Nat.le_trans (by simp) hg1.size : wr.heap.size ≤ w1.heap.size)
              have hknH := Lib.hid ((hktH3.out.below (by go_grown)).up hg1 (fun b hb => (row_lt hLH3.out.lo_ hb).1))
              have hL2H := Lib.hid hL2; have hbnH := Lib.hid hbn; have hsnH := Lib.hid hsn
              clear ho1 hL2 hg1 hr1 hbn hsn
              go_wp2_with fail
              go_roundw
              case rel => exact ⟨us ++ [.slice Ax nx cx], _, rfl, by rw [List.length_append, hpH.out]; go_num, by rw [List.length_append, hpH.out]; simp; omega, hL2H.out, hbnH.out, hsnH.out, hknH.out⟩
              case measure => simp [Go.RowKit.intOf]; omega
        · obtain rfl : p = i := by omega
          have hLH := Lib.hid hL; have hbwH2 := Lib.hid hbw; have hszH2 := Lib.hid hsz; have hpH := Lib.hid hp
          obtain ⟨w3, hw3⟩ : ∃ w3, wr = w3 := ⟨_, rfl⟩
          have hw3H := Lib.hid hw3
          clear hL hbw hsz hp hw3 hLo
          go_wp2_with fail
          go_loopw [9] (fun iv wx => RelF p wr iv wx) (fun iv _ => p - (Go.RowKit.intOf iv).toNat)
          case atStart => exact ⟨0, rfl, Nat.zero_le _, rfl⟩
          case round =>
            unfold RelF at hrel
            obtain ⟨r, rfl, hrp, rfl⟩ := hrel
            by_cases hr : r < p
            · have hrv : r < vs.length := by rw [hnnH.out]; exact hr
              have hru : r < us.length := by rw [hpH.out]; exact hr
              obtain ⟨gl, capl, eL, _, _, _, hgl⟩ := row_form hLH.out.lv_ (by omega)
              obtain ⟨e1, e2, e3⟩ := Value.slice.inj eL
              subst e1
              have hrowS := hLH.out.lv_
              rw [hnnH.out] at hrowS
              have lc_ := row_at hrowS r hrv
              obtain ⟨go, capo, rfl, _, _, _, hgo⟩ := row_form hLH.out.lo_ (by omega)
              have hrowO := hLH.out.lo_
              rw [hpH.out] at hrowO
              have oc_ := row_at hrowO r hru
              obtain ⟨A, m, ci, hvi, hmi, _, hci⟩ := (hLH.out.vs_ r hrv).words.form
              rw [mkL_len] at hmi
              rw [hvi] at lc_
              obtain ⟨gu, cu, hui, hu1, hu2, _, hgu, hucs, _, _⟩ := (hLH.out.us_ r hru).row (by rw [List.length_append, mk2L_len]; omega)
              rw [hui, List.length_append, mkL_len, mk2L_len, hmi] at oc_
              rw [List.length_append, mkL_len, mk2L_len, hmi] at hu1
              have hm9 : m ≤ 1000000000 := by rw [← hmi]; exact hlenH.out r
              have hucH := Lib.hid hucs; have hviH := Lib.hid hvi; have hmiH := Lib.hid hmi
              rw [hpH.out]
              clear hucs hvi hmi hrowS hrowO eL e2 e3 hui
              go_wp2_with fail
              go_loopw [11] (fun iv wx => RelF m wr iv wx) (fun iv _ => m - (Go.RowKit.intOf iv).toNat)
              case atStart => exact ⟨0, rfl, Nat.zero_le _, rfl⟩
              case round =>
                unfold RelF at hrel
                obtain ⟨k, rfl, hkm, rfl⟩ := hrel
                by_cases hk : k < m
                · obtain ⟨gi, capi, e4, _, _, _, hgi, hcs, _, _⟩ := (hLH.out.vs_ r hrv).row (by rw [mkL_len, hmiH.out]; omega)
                  rw [hviH.out] at e4
                  obtain ⟨e5, _, e6⟩ := Value.slice.inj e4
                  subst e5 e6
                  have xc_ := hcs k (mk r k) (mkL_at _ _ _ (by rw [hmiH.out]; exact hk))
                  have yc_ := hucH.out k (mk r k) (by rw [List.getElem?_append_left (by rw [mkL_len, hmiH.out]; exact hk)]; exact mkL_at _ _ _ (by rw [hmiH.out]; exact hk))
                  obtain ⟨z, hz⟩ : ∃ z, mk r k = z := ⟨_, rfl⟩
                  have hzw : IntKind.u32.wrap ((r : Int) * 1000 + (k : Int)) = z := hz
                  rw [hz] at xc_ yc_
                  clear hz hcs e4
                  go_wp2_with fail
                  go_roundw
                  case rel => exact ⟨k + 1, by go_num, by omega, rfl⟩
                  case measure => simp [Go.RowKit.intOf]; omega
                · obtain rfl : k = m := by omega
                  go_wp2_with fail
                  go_loopw [12] (fun iv wx => RelF 8 wr iv wx) (fun iv _ => 8 - (Go.RowKit.intOf iv).toNat)
                  case atStart => exact ⟨0, rfl, Nat.zero_le _, rfl⟩
                  case round =>
                    unfold RelF at hrel
                    obtain ⟨q, rfl, hq8, rfl⟩ := hrel
                    by_cases hq : q < 8
                    · have yc_ := hucH.out (k + q) (mk2 r q) (by rw [List.getElem?_append_right (by rw [mkL_len, hmiH.out]; omega), mkL_len, hmiH.out, Nat.add_sub_cancel_left]; exact mk2L_at _ _ _ hq)
                      obtain ⟨z, hz⟩ : ∃ z, mk2 r q = z := ⟨_, rfl⟩
                      have hzw : IntKind.u32.wrap ((-1 - (r : Int)) * 1000 + (q : Int)) = z := hz
                      rw [hz] at yc_
                      clear hz
                      go_wp2_with fail
                      go_roundw
                      case rel => exact ⟨q + 1, by go_num, by omega, rfl⟩
                      case measure => simp [Go.RowKit.intOf]; omega
                    · obtain rfl : q = 8 := by omega
                      go_wp2_with fail
                      go_roundw
                      case rel => exact ⟨r + 1, by go_num, by omega, rfl⟩
                      case measure => simp [Go.RowKit.intOf]; omega
            · obtain rfl : r = p := by omega
              go_wp2_with fail
              go_ret
              exact ⟨rfl, hbwH2.out, hktH2.out⟩
end Go.Proofs.YtkpjbmbdndkalaaDoor
