/-
  Counted rows: cut in front and behind; appended to those that the call owns. Nothing is walked here. Conditions: those written.
-/
import Derived.Test.YtfkimemagbkcoaaDoorRwY
set_option linter.unusedVariables false
set_option linter.unusedSimpArgs false
namespace Go.Proofs.YtfkimemagbkcoaaDoor
open Go.RowKit Go.Lib Go.Proofs

theorem cellsC_take (ds : List Cd) (m : Nat) (hm : m ≤ ds.length) : (cellsC ds).take (m * 2) = cellsC (ds.take m) := by
  have e : cellsC ds = cellsC (ds.take m) ++ cellsC (ds.drop m) := by
    unfold cellsC
    rw [← List.flatten_append, ← List.map_append, List.take_append_drop]
  rw [e]
  exact List.take_left' (by rw [cellsC_len, List.length_take]; congr 1; omega)
theorem cellsC_drop (ds : List Cd) (m : Nat) (hm : m ≤ ds.length) : (cellsC ds).drop (m * 2) = cellsC (ds.drop m) := by
  have e : cellsC ds = cellsC (ds.take m) ++ cellsC (ds.drop m) := by
    unfold cellsC
    rw [← List.flatten_append, ← List.map_append, List.take_append_drop]
  rw [e]
  exact List.drop_left' (by rw [cellsC_len, List.length_take]; congr 1; omega)
theorem CtsV.front {w : World} {A : Option Addr} {n c m : Nat} {ds : List Cd} (h : CtsV w (.slice A n c) ds) (hm : m ≤ ds.length) : CtsV w (.slice A m c) (ds.take m) := by
  obtain ⟨A', c', e, _⟩ := h.form
  obtain ⟨rfl, rfl, rfl⟩ := Value.slice.inj e
  have h1 := SlV.front (m := m) h.1 hm
  rw [cellsC_take ds m hm] at h1
  refine ⟨?_, fun d hd => h.2 d (List.mem_of_mem_take hd)⟩
  rw [List.length_take, Nat.min_eq_left hm]
  exact h1
theorem CtsV.back {w : World} {ad : Addr} {n c m : Nat} {ds : List Cd} (h : CtsV w (.slice (some ad) n c) ds) (hm : m ≤ ds.length) : CtsV w (.slice (some (ad.add (m * 2))) (n - m) (c - m)) (ds.drop m) := by
  obtain ⟨A', c', e, _⟩ := h.form
  obtain ⟨_, rfl, rfl⟩ := Value.slice.inj e
  have h1 := SlV.back (m := m) h.1 hm
  rw [cellsC_drop ds m hm] at h1
  refine ⟨?_, fun d hd => h.2 d (List.mem_of_mem_drop hd)⟩
  rw [List.length_drop]
  exact h1
theorem CtsV.back_ {w : World} {ad : Addr} {n c m j : Nat} {ds : List Cd} (h : CtsV w (.slice (some ad) n c) ds) (hm : m ≤ ds.length) (hj : ds.length - m = j) : CtsV w (.slice (if c = m then some ad else some (ad.add (m * 2))) j (c - m)) (ds.drop m) := by
  subst hj
  obtain ⟨A', c', e, _⟩ := h.form
  obtain ⟨_, hn, _⟩ := Value.slice.inj e
  have h1 := h.back hm
  rw [hn] at h1
  split
  · rename_i hc
    obtain ⟨⟨h2, A1, c1, e1, h3, h4, h5, h6⟩, h7⟩ := h1
    obtain ⟨_, e2, rfl⟩ := Value.slice.inj e1
    have hz : (ds.drop m).length = 0 := by rw [List.length_drop] at h3 ⊢; omega
    refine ⟨⟨h2, some ad, _, by rw [List.length_drop], h3, h4, fun q => (by cases q), fun q => by omega⟩, h7⟩
  · exact h1
theorem CtsV.drew {w : World} {v : Value} {ds : List Cd} (h : CtsV w v ds) : CtsV w.drew v ds := h.below (Below.refl _ _).drew
section
/-- 'v = append(v, l...)' of counted rows. -/
theorem wpList_ctsK {ops : Array Oper} {rest : List Oper} {o : Oper} {a : Act} {Q : Exit → Act → World → Prop} (hgd : o.guard = none) (s x : Operand)
    (ho : o.op = .call { callee := .builtin .append, args := #[s, x], argTypes := #[41, 41] })
    (B : Nat) (v : Value) (ds : List Cd) (W0 w : World) (sv : Value) (es : List Cd) (hb : OwnKC B v ds W0 w) (hs : a.eval s = v) (hx : a.eval x = sv) (hsv : CtsV w sv es) (hlen : ds.length + es.length ≤ 1099511627776)
    (h : ∀ v' w', OwnKC B v' (ds ++ es) W0 w' → wpList Tryd.prog ops Q rest (a.put o.dst v') w') : wpList Tryd.prog ops Q (o :: rest) a w := by
  obtain ⟨i, hi, hz, hsz, hby⟩ := info_ct
  refine wpList_append_sl hgd s x 41 ho B 45 i _ 2 i.bytes Tryd.underlying41 hi hz hsz rfl rfl (by decide) v ds.length (cellsC ds) w sv es.length (cellsC es) hb.1 hs hsv.1 hx ?_ (by unfold maxLen; omega) ?_ hb.2.2.1 ?_
  · intro u hu
    unfold cellsC at hu
    obtain ⟨xs, hxs, hu⟩ := List.mem_flatten.1 hu
    obtain ⟨d, _, rfl⟩ := List.mem_map.1 hxs
    exact cellsV_one _ u hu
  · have := Nat.mul_le_mul hlen hby
    omega
  · intro v' w' ho' hg
    refine h v' w' ?_
    have := hb.grown ho' hg
    unfold OwnKC cellsC at *
    rw [List.length_append, List.map_append, List.flatten_append]
    exact this
end
theorem OwnKC.cts {B : Nat} {v : Value} {ds : List Cd} {W0 w : World} (h : OwnKC B v ds W0 w) (hr : ∀ d ∈ ds, RowV w (valD d) d.2) : CtsV w v ds := ⟨own_slV h.1, hr⟩
theorem OwnKC.formN {B n : Nat} {v : Value} {ds : List Cd} {W0 w : World} (h : OwnKC B v ds W0 w) (hn : ds.length = n) : ∃ A c, v = .slice A n c := by
  obtain ⟨A, c, rfl⟩ := h.form
  exact ⟨A, c, by rw [hn]⟩
end Go.Proofs.YtfkimemagbkcoaaDoor
