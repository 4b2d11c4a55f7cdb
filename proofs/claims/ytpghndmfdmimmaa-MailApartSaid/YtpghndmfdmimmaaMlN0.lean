/-
  The box of layer 9 while it is made: row by row, channel by channel. Nothing is walked here but newRing. Conditions: those written.
-/
import Derived.Test.YtpghndmfdmimmaaMlS
import Derived.Laws.MakeOwn
set_option linter.unusedVariables false
set_option linter.unusedSimpArgs false
namespace Go.Proofs.Ytpghndmfdmimmaa
open Go.RowKit Go.Lib

theorem msg_info : (Try.prog.info? 31).map (fun i => (i.zero, i.size, i.bytes)) = some (some (.agg #[.int .i64 0, .bool false, .int .i64 0, .int .u64 0, .slice none 0 0, .slice none 0 0, .slice none 0 0]), 7, 104) := by kernel_rfl
theorem ring_info : (Try.prog.info? 98).map (fun i => (i.zero, i.size, i.bytes)) = some (some (.agg #[.slice none 0 0, .int .i64 0, .int .i64 0]), 3, 40) := by kernel_rfl
theorem rings_info : (Try.prog.info? 95).map (fun i => (i.zero, i.size, i.bytes)) = some (some (.slice none 0 0), 1, 24) := by kernel_rfl
theorem i64_info : (Try.prog.info? 2).map (fun i => (i.zero, i.size, i.bytes)) = some (some (.int .i64 0), 1, 8) := by kernel_rfl
theorem make_msgs (n : Nat) (hn : n ≤ 64) : ∃ ds : List Value, ds.length = 7 * n ∧ ∀ W, (Instr.makeSlice 96 (.int .i64 (n : Int)) (.int .i64 (n : Int))).run Try.prog W = .ok (.slice (some ⟨W.heap.size, 0, none⟩) n n) (W.alloc (.cells ds.toArray 31)) := by
  obtain ⟨i0, hi, hz0, hz1, hz2⟩ := info_parts msg_info
  refine ⟨(madeCells (Value.agg #[.int .i64 0, .bool false, .int .i64 0, .int .u64 0, .slice none 0 0, .slice none 0 0, .slice none 0 0]).cells (n * 7)).toList, by rw [Array.length_toList, size_madeCells]; omega, fun W => ?_⟩
  rw [run_make W _ _ i0 _ Try.underlying96 hi hz0 .i64 .i64 n n (by omega) (Int.le_refl _) (by rw [hz2]; omega) (by omega), hz1]
  simp only [Int.toNat_natCast, Array.toArray_toList]
theorem make_ones (t E : TypeId) (z : Value) (bytes : Nat) (ht : Try.prog.underlying t = some (.slice E)) (hinfo : (Try.prog.info? E).map (fun i => (i.zero, i.size, i.bytes)) = some (some z, 1, bytes)) (hzc : z.cells = #[z]) (hb : bytes ≤ 64) (n : Nat) (hn : n ≤ 64) (W : World) :
    (Instr.makeSlice t (.int .i64 (n : Int)) (.int .i64 (n : Int))).run Try.prog W = .ok (.slice (some ⟨W.heap.size, 0, none⟩) n n) (W.alloc (.cells (Array.replicate n z) E)) := by
  obtain ⟨i0, hi, hz0, hz1, hz2⟩ := info_parts hinfo
  have hbn : (i0.bytes : Int) * (n : Int) ≤ 64 * (n : Int) := Int.mul_le_mul_of_nonneg_right (by omega) (by omega)
  rw [run_make W _ _ i0 _ ht hi hz0 .i64 .i64 n n (by omega) (Int.le_refl _) (by omega) (by omega), hz1]
  have h : madeCells z.cells n = Array.replicate n z := by
    apply Array.ext'
    rw [hzc, toList_madeCells_one]
    simp
  simp only [Int.toNat_natCast, Nat.mul_one, h]
set_option maxRecDepth 100000 in
set_option maxHeartbeats 1000000 in
theorem newRing_any (n : Nat) (w : World) (hn : 1 ≤ n) (hn2 : n ≤ 64) :
    Calls Try.prog 28 #[.int .i64 n] w fun e w' => ∃ T ds, e = .returned (.agg #[.slice (some ⟨T, 0, none⟩) n n, .int .i64 0, .int .i64 0]) ∧ HasC w' T ds 31 ∧ ds.length = 7 * n ∧ w.heap.size ≤ T ∧ Below w.heap.size w w' := by
  obtain ⟨ds, hd, hmk⟩ := make_msgs n hn2
  have hdH := Lib.hid hd
  clear hd
  go_enter Try.func28, Try.ntmps28
  go_wp2
  refine bodyPost_ret (v := .agg #[.slice (some ⟨w.heap.size + 1, 0, none⟩) n n, .int .i64 0, .int .i64 0]) (by simp [results, Try.results28, go_sem]) rfl ⟨w.heap.size + 1, ds, rfl, has_at _ _ _ _ (by simp), hdH.out, by omega, ?_⟩
  clear hmk hdH
  go_grown
theorem own_ne {w : World} {B k n b : Nat} {v : Value} {xs cs : List Value} {t e : TypeId} (h : w.ownsRow B e k v n xs) (hb : HasC w b cs t) (ht : t ≠ e) : v.ownBlock ≠ some b := by
  rcases h.2 with ⟨rfl, -⟩ | ⟨g, cap, cur, rfl, -, hg, -⟩
  · simp [Value.ownBlock]
  · intro e
    have e : g = b := by simpa [Value.ownBlock] using e
    subst e
    unfold HasC at hb
    rw [hg] at hb
    simp only [Option.some.injEq, Obj.cells.injEq] at hb
    exact ht hb.2.1.symm
theorem own_form {w : World} {B k n : Nat} {v : Value} {xs : List Value} {e : TypeId} (h : w.ownsRow B e k v n xs) (hn : 0 < n) : ∃ g cap cs, v = .slice (some ⟨g, 0, none⟩) n cap ∧ B ≤ g ∧ n ≤ cap ∧ cap ≤ maxLen ∧ HasC w g cs e ∧ cs.take (n * k) = xs := by
  rcases h.2 with ⟨rfl, h0⟩ | ⟨g, cap, cur, rfl, hB, hg, hnc, hcm, hcs, htake⟩
  · omega
  · exact ⟨g, cap, cur.toList, rfl, hB, hnc, hcm, by simpa [HasC] using hg, htake⟩
theorem own_lt {w : World} {B k n : Nat} {v : Value} {xs : List Value} {e : TypeId} (h : w.ownsRow B e k v n xs) : ∀ b, v.ownBlock = some b → B ≤ b ∧ b < w.heap.size := by
  intro b hb
  rcases h.2 with ⟨rfl, h0⟩ | ⟨g, cap, cur, rfl, hB, hg, hnc, hcm, hcs, htake⟩
  · simp [Value.ownBlock] at hb
  · have e : g = b := by simpa [Value.ownBlock] using hb
    subst e
    exact ⟨hB, (Array.getElem?_eq_some_iff.1 hg).1⟩
theorem own_below {w w' : World} {B k n : Nat} {v : Value} {xs : List Value} {e : TypeId} (h : w.ownsRow B e k v n xs) (hb : Below w.heap.size w w') : w'.ownsRow B e k v n xs := by
  refine ⟨h.1, ?_⟩
  rcases h.2 with h0 | ⟨g, cap, cur, rfl, hB, hg, hnc, hcm, hcs, htake⟩
  · exact .inl h0
  · exact .inr ⟨g, cap, cur, rfl, hB, (hb.block g (Array.getElem?_eq_some_iff.1 hg).1).trans hg, hnc, hcm, hcs, htake⟩
theorem own_far {w : World} {B k n : Nat} {v : Value} {xs : List Value} {e : TypeId} (h : w.ownsRow B e k v n xs) {p : Addr} (hp : v.ownBlock ≠ some p.block) (x : Value) : (w.setCell p x).ownsRow B e k v n xs := by
  refine ⟨h.1, ?_⟩
  rcases h.2 with h0 | ⟨g, cap, cur, rfl, hB, hg, hnc, hcm, hcs, htake⟩
  · exact .inl h0
  · exact .inr ⟨g, cap, cur, rfl, hB, (Below.heap_setCell w p x g (fun e => hp (by simp [Value.ownBlock, e]))).trans hg, hnc, hcm, hcs, htake⟩
/-- Rows below f are made, of row f the first j channels. -/
structure NewI (w : World) (b Rb B W n f j : Nat) (S : Nat → Nat) (T : Nat → Nat → Nat) (v : Value) (xs rs : List Value) : Prop where
  box : HasC w b [.slice (some ⟨Rb, 0, none⟩) W W] 94
  tab : HasC w Rb rs 95
  len : rs.length = W
  done : ∀ g, g < f → ∃ c cs, W ≤ c ∧ c ≤ maxLen ∧ rs[g]? = some (.slice (some ⟨S g, 0, none⟩) W c) ∧ HasC w (S g) cs 98 ∧ (∀ t, t < W → RingAt cs (t * 3) n ⟨T g t, 0, []⟩) ∧ B ≤ S g
  now : f < W → rs[f]? = some v
  own : w.ownsRow B 98 3 v j xs
  zero : j = 0 → v = .slice none 0 0
  part : ∀ t, t < j → RingAt xs (t * 3) n ⟨T f t, 0, []⟩
  rest : ∀ g, f < g → g < W → rs[g]? = some (.slice none 0 0)
  slots : ∀ g t, ((g < f ∧ t < W) ∨ (g = f ∧ t < j)) → ∃ ds, HasC w (T g t) ds 31 ∧ ds.length = 7 * n ∧ B ≤ T g t
  inT : ∀ g t h u, ((g < f ∧ t < W) ∨ (g = f ∧ t < j)) → ((h < f ∧ u < W) ∨ (h = f ∧ u < j)) → T g t = T h u → g = h ∧ t = u
theorem RingAt.T_eq {cs : List Value} {o n m : Nat} {r s : Ch} (h : RingAt cs o n r) (k : RingAt cs o m s) : r.T = s.T := by
  have := h.1.symm.trans k.1
  simp at this
  exact this.1
theorem RingAt.take {cs : List Value} {o n m : Nat} {r : Ch} (h : RingAt (cs.take m) o n r) : RingAt cs o n r := by
  have k : ∀ i x, (cs.take m)[i]? = some x → cs[i]? = some x := fun i x hx => by
    rw [List.getElem?_take] at hx
    split at hx
    · exact hx
    · cases hx
  exact ⟨k _ _ h.1, k _ _ h.2.1, k _ _ h.2.2⟩
theorem NewI.apart {w : World} {b Rb B W n f j : Nat} {S : Nat → Nat} {T : Nat → Nat → Nat} {v : Value} {xs rs : List Value} (h : NewI w b Rb B W n f j S T v xs rs) (hW : 0 < W) {g : Nat} (hg : g < f) : v.ownBlock ≠ some (S g) := by
  intro e
  rcases Nat.eq_zero_or_pos j with h0 | h0
  · rw [h.zero h0] at e
    cases e
  · obtain ⟨g', cap, cs, rfl, hB, h1, h2, hcs, htake⟩ := own_form h.own h0
    have e : g' = S g := by simpa [Value.ownBlock] using e
    subst e
    obtain ⟨c, ds, -, -, -, hds, hr, -⟩ := h.done g hg
    have e2 : cs = ds := by
      unfold HasC at hcs hds
      rw [hcs] at hds
      simpa using hds
    subst e2
    have a1 := h.part 0 h0
    rw [← htake] at a1
    have e3 := (RingAt.take a1).T_eq (hr 0 hW)
    exact absurd (h.inT f 0 g 0 (.inr ⟨rfl, h0⟩) (.inl ⟨hg, hW⟩) e3).1 (by omega)
theorem RingAt.append {cs : List Value} {o n : Nat} {r : Ch} (h : RingAt cs o n r) (l : List Value) : RingAt (cs ++ l) o n r := by
  have k : ∀ i x, cs[i]? = some x → (cs ++ l)[i]? = some x := fun i x hx => by
    rw [List.getElem?_append_left (List.getElem?_eq_some_iff.1 hx).1]
    exact hx
  exact ⟨k _ _ h.1, k _ _ h.2.1, k _ _ h.2.2⟩
/-- A channel more. -/
theorem NewI.step {w w1 w3 : World} {b Rb B W n f j : Nat} {S : Nat → Nat} {T : Nat → Nat → Nat} {v v' : Value} {xs rs : List Value} (h : NewI w b Rb B W n f j S T v xs rs) (hW : 0 < W) (hf : f < W) (hj : j < W)
    (hb : Below w.heap.size w w1) {T' : Nat} {ds : List Value} (hT : HasC w1 T' ds 31) (hd : ds.length = 7 * n) (hT' : w.heap.size ≤ T') (hB : B ≤ w.heap.size)
    (hown : w3.ownsRow B 98 3 v' (j + 1) (xs ++ [.slice (some ⟨T', 0, none⟩) n n, .int .i64 0, .int .i64 0])) (hg : w1.grownBy w3 v.ownBlock) :
    NewI (w3.setCell ⟨Rb, f, none⟩ v') b Rb B W n f (j + 1) S (fun g t => if g = f ∧ t = j then T' else T g t) v' (xs ++ [.slice (some ⟨T', 0, none⟩) n n, .int .i64 0, .int .i64 0]) (rs.set f v') := by
  have hxl : xs.length = j * 3 := h.own.1
  have hbox3 := (h.box.below hb).grown hg (own_ne (own_below h.own hb) (h.box.below hb) (by decide))
  have htab3 := (h.tab.below hb).grown hg (own_ne (own_below h.own hb) (h.tab.below hb) (by decide))
  have hT3 := hT.grown hg (own_ne (own_below h.own hb) hT (by decide))
  have hold : ∀ g t, ((g < f ∧ t < W) ∨ (g = f ∧ t < j)) → ¬ (g = f ∧ t = j) := fun g t hgt e => by omega
  have hnew : ∀ g t, ((g < f ∧ t < W) ∨ (g = f ∧ t < j + 1)) → ((g < f ∧ t < W) ∨ (g = f ∧ t < j)) ∨ (g = f ∧ t = j) := fun g t hgt => by omega
  have hTlt : ∀ g t, ((g < f ∧ t < W) ∨ (g = f ∧ t < j)) → T g t < w.heap.size := fun g t hgt => by
    obtain ⟨es, h1, -⟩ := h.slots g t hgt
    exact h1.lt
  refine ⟨hbox3.far (hbox3.types htab3 (by decide)) _, by simpa using htab3.set f v', by simpa using h.len, fun g hgf => ?_, fun _ => by rw [List.getElem?_set_self (by rw [h.len]; exact hf)], own_far hown (own_ne hown htab3 (by decide)) _, fun e => by omega, fun t ht => ?_, fun g hfg hgW => ?_, fun g t hgt => ?_, fun g t k u hgt hku e => ?_⟩
  · obtain ⟨c, cs, h1, h2, h3, h4, h5, h6⟩ := h.done g hgf
    have h4' := (h4.below hb).grown hg (h.apart hW hgf)
    refine ⟨c, cs, h1, h2, by rw [List.getElem?_set_ne (by omega)]; exact h3, h4'.far (h4'.types htab3 (by decide)) _, fun t ht => ?_, h6⟩
    have := h5 t ht
    rw [if_neg (by omega)]
    exact this
  · rcases Nat.lt_or_ge t j with htj | htj
    · rw [if_neg (by omega)]
      exact (h.part t htj).append _
    · obtain rfl : t = j := by omega
      rw [if_pos ⟨rfl, rfl⟩]
      refine ⟨?_, ?_, ?_⟩
      · rw [List.getElem?_append_right (by omega), show t * 3 - xs.length = 0 by omega]
        rfl
      · rw [List.getElem?_append_right (by omega), show t * 3 + 1 - xs.length = 1 by omega]
        rfl
      · rw [List.getElem?_append_right (by omega), show t * 3 + 2 - xs.length = 2 by omega]
        rfl
  · rw [List.getElem?_set_ne (by omega)]
    exact h.rest g hfg hgW
  · rcases hnew g t hgt with h0 | ⟨rfl, rfl⟩
    · rw [if_neg (hold g t h0)]
      obtain ⟨es, h1, h2, h3⟩ := h.slots g t h0
      have h1' := (h1.below hb).grown hg (own_ne (own_below h.own hb) (h1.below hb) (by decide))
      exact ⟨es, h1'.far (h1'.types htab3 (by decide)) _, h2, h3⟩
    · rw [if_pos ⟨rfl, rfl⟩]
      exact ⟨ds, hT3.far (hT3.types htab3 (by decide)) _, hd, by omega⟩
  · rcases hnew g t hgt with h0 | ⟨rfl, rfl⟩ <;> rcases hnew k u hku with k0 | ⟨rfl, rfl⟩
    · simp only [if_neg (hold _ _ h0), if_neg (hold _ _ k0)] at e
      exact h.inT _ _ _ _ h0 k0 e
    · simp only [if_neg (hold _ _ h0), and_self, if_true] at e
      have := hTlt _ _ h0
      omega
    · simp only [if_neg (hold _ _ k0), and_self, if_true] at e
      have := hTlt _ _ k0
      omega
    · exact ⟨rfl, rfl⟩
/-- The next row. -/
theorem NewI.next {w : World} {b Rb B W n f : Nat} {S : Nat → Nat} {T : Nat → Nat → Nat} {v : Value} {xs rs : List Value} (h : NewI w b Rb B W n f W S T v xs rs) (hW : 0 < W) (hf : f < W) :
    ∃ S', NewI w b Rb B W n (f + 1) 0 S' T (.slice none 0 0) [] rs := by
  obtain ⟨g', cap, cs, rfl, hB, h1, h2, hcs, htake⟩ := own_form h.own hW
  have hc : ∀ g t, ((g < f + 1 ∧ t < W) ∨ (g = f + 1 ∧ t < 0)) → ((g < f ∧ t < W) ∨ (g = f ∧ t < W)) := fun g t hgt => by omega
  refine ⟨fun g => if g = f then g' else S g, h.box, h.tab, h.len, fun g hg => ?_, fun hf1 => h.rest _ (by omega) hf1, ⟨rfl, .inl ⟨rfl, rfl⟩⟩, fun _ => rfl, fun t ht => absurd ht (by omega), fun g hfg hgW => h.rest g (by omega) hgW, fun g t hgt => h.slots g t (hc g t hgt), fun g t k u hgt hku e => h.inT _ _ _ _ (hc g t hgt) (hc k u hku) e⟩
  rcases Nat.lt_or_ge g f with hgf | hgf
  · simp only [if_neg (show ¬ g = f by omega)]
    exact h.done g hgf
  · obtain rfl : g = f := by omega
    simp only [if_true]
    exact ⟨cap, cs, h1, h2, h.now hf, hcs, fun t ht => by have := h.part t ht; rw [← htake] at this; exact this.take, hB⟩
/-- All is made. -/
theorem NewI.all {w : World} {b Rb B W n : Nat} {S : Nat → Nat} {T : Nat → Nat → Nat} {v : Value} {xs rs : List Value} (h : NewI w b Rb B W n W 0 S T v xs rs) (hW : 1 ≤ W) (hW8 : W ≤ 8) (hn : 1 ≤ n) (hn2 : n ≤ 64) :
    BoxI w B b W n S (fun f t => ⟨T f t, 0, []⟩) := by
  refine ⟨⟨hW, hW8⟩, ⟨hn, hn2⟩, ⟨Rb, rs, h.box, h.tab, fun f hf => ?_⟩, fun f hf => ?_, fun f t hf ht => ?_, fun f t hf ht => ⟨hn, Nat.zero_le _⟩, fun f g hf hg e => ?_, fun f t g u hf ht hg hu e => h.inT _ _ _ _ (.inl ⟨hf, ht⟩) (.inl ⟨hg, hu⟩) e, fun f hf => ⟨?_, fun t ht => ?_⟩⟩
  · obtain ⟨c, cs, h1, h2, h3, -⟩ := h.done f hf
    exact ⟨c, h1, h2, h3⟩
  · obtain ⟨c, cs, h1, h2, h3, h4, h5, -⟩ := h.done f hf
    exact ⟨cs, h4, h5⟩
  · obtain ⟨ds, h1, h2, -⟩ := h.slots f t (.inl ⟨hf, ht⟩)
    exact ⟨ds, h1, h2, fun j z hj => by simp at hj⟩
  · obtain ⟨c, cs, -, -, -, h4, h5, -⟩ := h.done f hf
    obtain ⟨c', cs', -, -, -, h4', h5', -⟩ := h.done g hg
    rw [← e] at h4'
    have e2 : cs = cs' := by
      unfold HasC at h4 h4'
      rw [h4] at h4'
      simpa using h4'
    subst e2
    exact (h.inT f 0 g 0 (.inl ⟨hf, hW⟩) (.inl ⟨hg, hW⟩) ((h5 0 hW).T_eq (h5' 0 hW))).1
  · obtain ⟨c, cs, -, -, -, -, -, h6⟩ := h.done f hf
    exact h6
  · obtain ⟨ds, -, -, h3⟩ := h.slots f t (.inl ⟨hf, ht⟩)
    exact h3
end Go.Proofs.Ytpghndmfdmimmaa
