/-
  Facts for the laws of layer 4: what Apply, Then, Join and Meet come to is of its kinds; variables' blocks; lists of ways and times. No condition but those written.
-/
import Derived.Test.YtkpjbmbdndkalaaDoorStKn
set_option linter.unusedVariables false
set_option linter.unusedSimpArgs false
namespace Go.Proofs.YtkpjbmbdndkalaaDoor
open Go.RowKit Go.Lib

theorem W32.getD {l : List Int} (h : W32 l) (i : Nat) : 0 ≤ l.getD i 0 ∧ l.getD i 0 ≤ 4294967295 := by
  rw [List.getD_eq_getElem?_getD]
  cases e : l[i]? with
  | none => simp
  | some z => exact h z (List.mem_of_getElem? e)
theorem ofap_W {t : Tm} {k : Nat} {a : Int} {en : List Int} (wt : TmW t) (hk : k ≤ t.l.length) (ha : 0 ≤ a) (he : W32 en) (hb : (tl t).getD k 0 + a ≤ topK k) : TmW (ofL (ap (tl t) k a en)) := by
  obtain ⟨e, l⟩ := t
  cases k with
  | zero =>
    rw [apply_zero]
    have h1 := wt.1
    simp only [topK, tl, List.getD_cons_zero, if_true] at hb h1
    exact ⟨⟨by simp only; omega, by simp only; omega⟩, he⟩
  | succ j =>
    simp only at hk
    have hj : j < l.length := by omega
    have hx : l[j]? = some l[j] := by simp [hj]
    rw [apply_succ hx]
    refine ⟨wt.1, fun z hz => ?_⟩
    have h2 := wt.2 l[j] (List.getElem_mem hj)
    simp only [topK, tl, List.getD_cons_succ, Nat.succ_ne_zero, if_false] at hb
    rw [List.getD_eq_getElem?_getD, hx, Option.getD_some] at hb
    simp only [List.mem_append, List.mem_cons] at hz
    rcases hz with h | rfl | h
    · exact wt.2 z (List.mem_of_mem_take h)
    · constructor <;> omega
    · exact he z h
theorem zeroTmW : TmW ⟨0, []⟩ := ⟨by simp, fun z hz => by cases hz⟩
theorem applyT_W {p : Pt} {t : Tm} (wp : PtW p) (wt : TmW t) : TmW (applyT p t) := by
  unfold applyT
  split
  · rename_i h
    obtain ⟨_, _, h2, _⟩ := applyE_lv h
    exact ofap_W wt (by unfold keptT; omega) wp.2.1.1 wp.2.2 h2
  · exact zeroTmW
theorem applyT_le (p : Pt) (t : Tm) : (applyT p t).l.length ≤ 1099511627776 := by
  by_cases h : applyE p t = 0
  · have := applyT_len h
    obtain ⟨_, _, _, h3⟩ := applyE_lv h
    omega
  · unfold applyT
    rw [if_neg h]
    simp
theorem W32.put {l m : List Int} {n : Nat} {x : Int} (h : W32 l) (hm : W32 m) (h0 : 0 ≤ x) (h1 : x ≤ 4294967295) : W32 (l.take n ++ x :: m) := by
  intro z hz
  simp only [List.mem_append, List.mem_cons] at hz
  rcases hz with h2 | rfl | h2
  · exact h z (List.mem_of_mem_take h2)
  · exact ⟨h0, h1⟩
  · exact hm z h2
theorem thenP_W {p q : Pt} (wp : PtW p) (wq : PtW q) : PtW (thenP p q) := by
  obtain ⟨pl, pa, pe⟩ := p
  obtain ⟨ql, qa, qe⟩ := q
  obtain ⟨⟨a1, a2⟩, ⟨a3, a4⟩, a5⟩ := wp
  obtain ⟨⟨b1, b2⟩, ⟨b3, b4⟩, b5⟩ := wq
  simp only at a1 a2 a3 a4 a5 b1 b2 b3 b4 b5
  have hg := a5.getD (pe.length - ql.toNat - 1)
  have hz : PtW ⟨0, 0, []⟩ := ⟨by simp, by simp, fun z hz => by cases hz⟩
  unfold thenP
  split
  · rename_i h
    unfold thenE at h
    simp only at h ⊢
    split at h
    · cases h
    · split at h
      · rename_i h1 h2
        split at h
        · cases h
        · rw [if_pos h2]
          exact ⟨⟨a1, a2⟩, ⟨a3, a4⟩, W32.put a5 b5 (by omega) (by omega)⟩
      · rename_i h1 h2
        rw [if_neg h2]
        split at h
        · rename_i h3
          rw [if_pos h3]
          split at h
          · cases h
          · exact ⟨⟨a1, a2⟩, ⟨by simp only; omega, by simp only; omega⟩, b5⟩
        · rename_i h3
          rw [if_neg h3]
          split at h
          · cases h
          · exact ⟨⟨by simp only; omega, by simp only; omega⟩, ⟨b3, b4⟩, b5⟩
  · exact hz
theorem thenP_le {p q : Pt} (hp : p.en.length ≤ 40) (hq : q.en.length ≤ 40) : (thenP p q).en.length ≤ 1099511627776 := by
  unfold thenP
  split
  · split
    · simp only [List.length_append, List.length_take, List.length_cons]
      omega
    · split <;> (simp only; omega)
  · simp
theorem zipL_mem {f : Int → Int → Int} (P : Int → Prop) (hf : ∀ x y, P x → P y → P (f x y)) : ∀ a b : List Int, (∀ z ∈ a, P z) → (∀ z ∈ b, P z) → ∀ z ∈ zipL f a b, P z
  | [], [], _, _, z, hz => by simp [zipL] at hz
  | [], _ :: _, _, _, z, hz => by simp [zipL] at hz
  | _ :: _, [], _, _, z, hz => by simp [zipL] at hz
  | x :: a, y :: b, ha, hb, z, hz => by
    simp only [zipL, List.mem_cons] at hz
    rcases hz with rfl | hz
    · exact hf _ _ (ha x (by simp)) (hb y (by simp))
    · exact zipL_mem P hf a b (fun z h => ha z (by simp [h])) (fun z h => hb z (by simp [h])) z hz
theorem chosen_W {f : Int → Int → Int} (hf : ∀ x y, f x y = x ∨ f x y = y) {a b : Tm} (wa : TmW a) (wb : TmW b) : TmW (chosenT f a b) := by
  unfold chosenT
  split
  · refine ⟨?_, ?_⟩
    · simp only
      have h1 := wa.1
      have h2 := wb.1
      rcases hf a.e b.e with h | h <;> rw [h] <;> assumption
    · refine zipL_mem (fun z => 0 ≤ z ∧ z ≤ 4294967295) (fun x y hx hy => ?_) a.l b.l wa.2 wb.2
      rcases hf x y with h | h <;> rw [h] <;> assumption
  · exact zeroTmW
theorem max_or (x y : Int) : max x y = x ∨ max x y = y := by omega
theorem min_or (x y : Int) : min x y = x ∨ min x y = y := by omega
theorem pts2 (w : World) (x y : Pt) (P Q : Option Addr) (m n cp cq : Nat) (T : TypeId) (a1 a2 b1 b2 : Value) (h1 : m = x.en.length) (h2 : n = y.en.length) (g1 : m ≤ cp) (f1 : cp ≤ 9223372036854775807) (g2 : n ≤ cq) (f2 : cq ≤ 9223372036854775807) :
    PtsV (w.alloc (.cells #[a1, b1, .slice P m cp, a2, b2, .slice Q n cq] T)) (.slice (some ⟨w.heap.size, 0, none⟩) 2 2) [x, y] := by
  refine ⟨_, _, rfl, Nat.le_refl _, by decide, fun j hj => ?_⟩
  match j, hj with
  | 0, _ => exact ⟨_, _, _, _, rfl, h1, g1, f1, by rw [add_block]; simp, by rw [show (⟨w.heap.size, 0, none⟩ : Addr).add (0 * 3 + 2) = ⟨w.heap.size, 2, none⟩ from rfl, cell_new]; rfl⟩
  | 1, _ => exact ⟨_, _, _, _, rfl, h2, g2, f2, by rw [add_block]; simp, by rw [show (⟨w.heap.size, 0, none⟩ : Addr).add (1 * 3 + 2) = ⟨w.heap.size, 5, none⟩ from rfl, cell_new]; rfl⟩
theorem tms2 (w : World) (x y : Tm) (P Q : Option Addr) (m n cp cq : Nat) (T : TypeId) (a1 a2 : Value) (h1 : m = x.l.length) (h2 : n = y.l.length) (g1 : m ≤ cp) (f1 : cp ≤ 9223372036854775807) (g2 : n ≤ cq) (f2 : cq ≤ 9223372036854775807) :
    TmsV (w.alloc (.cells #[a1, .slice P m cp, a2, .slice Q n cq] T)) (.slice (some ⟨w.heap.size, 0, none⟩) 2 2) [x, y] := by
  refine ⟨_, _, rfl, Nat.le_refl _, by decide, fun j hj => ?_⟩
  match j, hj with
  | 0, _ => exact ⟨_, _, _, _, rfl, h1, g1, f1, by rw [add_block]; simp, by rw [show (⟨w.heap.size, 0, none⟩ : Addr).add (0 * 2 + 1) = ⟨w.heap.size, 1, none⟩ from rfl, cell_new]; rfl⟩
  | 1, _ => exact ⟨_, _, _, _, rfl, h2, g2, f2, by rw [add_block]; simp, by rw [show (⟨w.heap.size, 0, none⟩ : Addr).add (1 * 2 + 1) = ⟨w.heap.size, 3, none⟩ from rfl, cell_new]; rfl⟩
theorem tms3 (w : World) (x y z : Tm) (P Q R : Option Addr) (m n k cp cq cr : Nat) (T : TypeId) (a1 a2 a3 : Value) (h1 : m = x.l.length) (h2 : n = y.l.length) (h3 : k = z.l.length) (g1 : m ≤ cp) (f1 : cp ≤ 9223372036854775807) (g2 : n ≤ cq) (f2 : cq ≤ 9223372036854775807) (g3 : k ≤ cr) (f3 : cr ≤ 9223372036854775807) :
    TmsV (w.alloc (.cells #[a1, .slice P m cp, a2, .slice Q n cq, a3, .slice R k cr] T)) (.slice (some ⟨w.heap.size, 0, none⟩) 3 3) [x, y, z] := by
  refine ⟨_, _, rfl, Nat.le_refl _, by decide, fun j hj => ?_⟩
  match j, hj with
  | 0, _ => exact ⟨_, _, _, _, rfl, h1, g1, f1, by rw [add_block]; simp, by rw [show (⟨w.heap.size, 0, none⟩ : Addr).add (0 * 2 + 1) = ⟨w.heap.size, 1, none⟩ from rfl, cell_new]; rfl⟩
  | 1, _ => exact ⟨_, _, _, _, rfl, h2, g2, f2, by rw [add_block]; simp, by rw [show (⟨w.heap.size, 0, none⟩ : Addr).add (1 * 2 + 1) = ⟨w.heap.size, 3, none⟩ from rfl, cell_new]; rfl⟩
  | 2, _ => exact ⟨_, _, _, _, rfl, h3, g3, f3, by rw [add_block]; simp, by rw [show (⟨w.heap.size, 0, none⟩ : Addr).add (2 * 2 + 1) = ⟨w.heap.size, 5, none⟩ from rfl, cell_new]; rfl⟩
theorem boxes4 (w : World) (c0 c1 c2 c3 : List Value) (t0 t1 t2 t3 : TypeId) :
    ∃ W0, (((w.alloc (.cells c0.toArray t0)).alloc (.cells c1.toArray t1)).alloc (.cells c2.toArray t2)).alloc (.cells c3.toArray t3) = W0 ∧ Below w.heap.size w W0 ∧ HasC W0 w.heap.size c0 t0 ∧ HasC W0 (w.heap.size + 1) c1 t1 ∧ HasC W0 (w.heap.size + 1 + 1) c2 t2 ∧ HasC W0 (w.heap.size + 1 + 1 + 1) c3 t3 ∧ w.heap.size + 1 + 1 + 1 < W0.heap.size := by
  refine ⟨_, rfl, by go_grown, (((HasC.new _ _ _).alloc _).alloc _).alloc _, ?_, ?_, ?_, by simp⟩
  · have := HasC.new (w.alloc (.cells c0.toArray t0)) c1 t1
    simpa only [World.size_alloc] using (this.alloc (.cells c2.toArray t2)).alloc (.cells c3.toArray t3)
  · have := HasC.new ((w.alloc (.cells c0.toArray t0)).alloc (.cells c1.toArray t1)) c2 t2
    simpa only [World.size_alloc] using this.alloc (.cells c3.toArray t3)
  · have := HasC.new (((w.alloc (.cells c0.toArray t0)).alloc (.cells c1.toArray t1)).alloc (.cells c2.toArray t2)) c3 t3
    simpa only [World.size_alloc] using this
end Go.Proofs.YtkpjbmbdndkalaaDoor
