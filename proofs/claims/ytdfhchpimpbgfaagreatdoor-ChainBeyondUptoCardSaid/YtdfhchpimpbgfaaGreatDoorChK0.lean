/-
  What the law's own known answers, at this program: true. Condition: the table of the powers of ten lies as its initialiser lays it.
-/
import Derived.Test.YtdfhchpimpbgfaaGreatDoorStOwn
set_option linter.unusedVariables false
set_option linter.unusedSimpArgs false
namespace Go.Proofs.YtdfhchpimpbgfaaGreatDoor
open Go.RowKit Go.Lib

theorem lit1 (w : World) (x : Int) : WordsV (w.alloc (.cells #[.int .u32 x] 86)) (.slice (some ⟨w.heap.size, 0, none⟩) 1 1) [x] := WordsV.new w [x] _ (by simp)
theorem lit2 (w : World) (x y : Int) : WordsV (w.alloc (.cells #[.int .u32 x, .int .u32 y] 86)) (.slice (some ⟨w.heap.size, 0, none⟩) 2 2) [x, y] := WordsV.new w [x, y] _ (by simp)
theorem tmW (e : Int) (l : List Int) (h : 0 ≤ e ∧ e ≤ 18446744073709551615) (hl : (l.all fun z => decide (0 ≤ z ∧ z ≤ 4294967295)) = true) : TmW ⟨e, l⟩ :=
  ⟨h, fun z hz => by simpa using List.all_eq_true.1 hl z hz⟩
theorem lit1_at (w : World) (b : Nat) (x : Int) (hb : b = w.heap.size) : WordsV (w.alloc (.cells #[.int .u32 x] 86)) (.slice (some ⟨b, 0, none⟩) 1 1) [x] := by subst hb; exact lit1 w x
theorem lit2_at (w : World) (b : Nat) (x y : Int) (hb : b = w.heap.size) : WordsV (w.alloc (.cells #[.int .u32 x, .int .u32 y] 86)) (.slice (some ⟨b, 0, none⟩) 2 2) [x, y] := by subst hb; exact lit2 w x y
theorem has_at (w : World) (b : Nat) (cs : List Value) (t : TypeId) (hb : b = w.heap.size) : HasC (w.alloc (.cells cs.toArray t)) b cs t := by subst hb; exact HasC.new w cs t

theorem W32.getD {l : List Int} (h : W32 l) (i : Nat) : 0 ≤ l.getD i 0 ∧ l.getD i 0 ≤ 4294967295 := by
  rw [List.getD_eq_getElem?_getD]
  cases e : l[i]? with
  | none => simp
  | some z => exact h z (List.mem_of_getElem? e)
theorem zeroTmW : TmW ⟨0, []⟩ := ⟨by simp, fun z hz => by cases hz⟩
theorem W32.put {l m : List Int} {n : Nat} {x : Int} (h : W32 l) (hm : W32 m) (h0 : 0 ≤ x) (h1 : x ≤ 4294967295) : W32 (l.take n ++ x :: m) := by
  intro z hz
  simp only [List.mem_append, List.mem_cons] at hz
  rcases hz with h2 | rfl | h2
  · exact h z (List.mem_of_mem_take h2)
  · exact ⟨h0, h1⟩
  · exact hm z h2
theorem zipL_mem {f : Int → Int → Int} (P : Int → Prop) (hf : ∀ x y, P x → P y → P (f x y)) : ∀ a b : List Int, (∀ z ∈ a, P z) → (∀ z ∈ b, P z) → ∀ z ∈ zipL f a b, P z
  | [], [], _, _, z, hz => by simp [zipL] at hz
  | [], _ :: _, _, _, z, hz => by simp [zipL] at hz
  | _ :: _, [], _, _, z, hz => by simp [zipL] at hz
  | x :: a, y :: b, ha, hb, z, hz => by
    simp only [zipL, List.mem_cons] at hz
    rcases hz with rfl | hz
    · exact hf _ _ (ha x (by simp)) (hb y (by simp))
    · exact zipL_mem P hf a b (fun z h => ha z (by simp [h])) (fun z h => hb z (by simp [h])) z hz
theorem chosen_W {f : Int → Int → Int} (hf : ∀ x y, f x y = x ∨ f x y = y) {a b : Tm} (wa : TmW a) (wb : TmW b) : TmW (chosenT f a b) := by
  unfold chosenT
  split
  · refine ⟨?_, ?_⟩
    · simp only
      have h1 := wa.1
      have h2 := wb.1
      rcases hf a.e b.e with h | h <;> rw [h] <;> assumption
    · refine zipL_mem (fun z => 0 ≤ z ∧ z ≤ 4294967295) (fun x y hx hy => ?_) a.l b.l wa.2 wb.2
      rcases hf x y with h | h <;> rw [h] <;> assumption
  · exact zeroTmW
theorem max_or (x y : Int) : max x y = x ∨ max x y = y := by omega
theorem min_or (x y : Int) : min x y = x ∨ min x y = y := by omega
theorem boxes4 (w : World) (c0 c1 c2 c3 : List Value) (t0 t1 t2 t3 : TypeId) :
    ∃ W0, (((w.alloc (.cells c0.toArray t0)).alloc (.cells c1.toArray t1)).alloc (.cells c2.toArray t2)).alloc (.cells c3.toArray t3) = W0 ∧ Below w.heap.size w W0 ∧ HasC W0 w.heap.size c0 t0 ∧ HasC W0 (w.heap.size + 1) c1 t1 ∧ HasC W0 (w.heap.size + 1 + 1) c2 t2 ∧ HasC W0 (w.heap.size + 1 + 1 + 1) c3 t3 ∧ w.heap.size + 1 + 1 + 1 < W0.heap.size := by
  refine ⟨_, rfl, by go_grown, (((HasC.new _ _ _).alloc _).alloc _).alloc _, ?_, ?_, ?_, by simp⟩
  · have := HasC.new (w.alloc (.cells c0.toArray t0)) c1 t1
    simpa only [World.size_alloc] using (this.alloc (.cells c2.toArray t2)).alloc (.cells c3.toArray t3)
  · have := HasC.new ((w.alloc (.cells c0.toArray t0)).alloc (.cells c1.toArray t1)) c2 t2
    simpa only [World.size_alloc] using this.alloc (.cells c3.toArray t3)
  · have := HasC.new (((w.alloc (.cells c0.toArray t0)).alloc (.cells c1.toArray t1)).alloc (.cells c2.toArray t2)) c3 t3
    simpa only [World.size_alloc] using this

end Go.Proofs.YtdfhchpimpbgfaaGreatDoor
