/-
  Words of layer 5's counts: the map from texts of times to times with counts; what a look-up, a store, a delete do to it. Nothing is walked here. Conditions: those written.
-/
import Derived.Test.YtdfhchpimpbgfaaGreatDoorChV
import Derived.Test.YtdfhchpimpbgfaaGreatDoorChP
import Derived.Test.YtdfhchpimpbgfaaGreatDoorChN
import Derived.Maps.OwnSet
import Derived.Maps.RangeWalk
import Derived.Sort.EncStr
set_option linter.unusedVariables false
set_option linter.unusedSimpArgs false
namespace Go.Proofs.YtdfhchpimpbgfaaGreatDoor
open Go.RowKit Go.Lib Go.Proofs

/-- Each element is its own datum. -/
def Rv (v : Value) : Option (DataW Value × List MemPlace) := some (.held v, [])
theorem lawS : Go.Maps.Keyed Tryz.prog 9 := Go.Maps.string_keyed Tryz.underlying9
def keyT (t : Tm) : Lit := .string (printT t)
def keyV (t : Tm) : Value := .string ⟨(printT t).toArray⟩
theorem isKeyS (l : List UInt8) : WideAt.IsKeyLit (.string l) := by unfold WideAt.IsKeyLit; trivial
theorem keyT_inj {t u : Tm} (ht : TmW t) (hu : TmW u) (h : keyT t = keyT u) : t = u := printT_inj ht hu (Lit.string.inj h)
theorem keyOf_t {t : Tm} (ht : TmW t) (hl : t.l.length ≤ 1000000) : keyOf Tryz.prog 9 (keyV t) = some (keyT t) := by
  have h := Go.WideMaps.keyOf_string_mk (P := Tryz.prog) (k := 9) Tryz.underlying9 (s := ⟨(printT t).toArray⟩) (by
    have := printT_len ht hl
    show (printT t).toArray.size ≤ _
    rw [List.size_toArray]
    unfold maxLen; omega)
  exact h
/-- A time with a count, as it lies in the map. -/
def cellsH (d : Td) (z : Int) : List Value := [.int .u64 d.t.e, .slice d.A d.t.l.length d.c, .int .i64 z]
def valH (d : Td) (z : Int) : Value := .agg #[.int .u64 d.t.e, .slice d.A d.t.l.length d.c, .int .i64 z]
def zeroH : Value := .agg #[.int .u64 0, .slice none 0 0, .int .i64 0]
/-- What the map D holds: the counts M, none 0, each with its time in a block of its own. -/
structure HeldM (D : DataW Value) (M : Tm → Int) (w : World) : Prop where
  there : ∀ t, M t ≠ 0 → ∃ d : Td, d.t = t ∧ TmW t ∧ t.l.length ≤ 1000000 ∧ OwnW 0 (slD d) d.t.l w ∧ ∀ zd, D.atKey (keyT t) zd = .held (valH d (M t))
  only : ∀ kl, Go.Maps.has D kl = true → ∃ t, M t ≠ 0 ∧ kl = keyT t
  wide : ∀ t, -9223372036854775808 ≤ M t ∧ M t ≤ 9223372036854775807
theorem HeldM.has {D : DataW Value} {M : Tm → Int} {w : World} (h : HeldM D M w) {t : Tm} (ht : M t ≠ 0) : Go.Maps.has D (keyT t) = true := by
  obtain ⟨d, _, _, _, _, h1⟩ := h.there t ht
  exact Go.Maps.has_true_of_atKey h1
theorem HeldM.not {D : DataW Value} {M : Tm → Int} {w : World} (h : HeldM D M w) {t : Tm} (wt : TmW t) (ht : M t = 0) : Go.Maps.has D (keyT t) = false := by
  cases hh : Go.Maps.has D (keyT t)
  · rfl
  · obtain ⟨u, hu, e⟩ := h.only _ hh
    obtain ⟨d, hd, wu, _⟩ := h.there u hu
    have := keyT_inj wt wu e
    subst this
    exact absurd ht hu
theorem HeldM.keep {D : DataW Value} {M : Tm → Int} {w w' : World} (h : HeldM D M w) (hk : ∀ (v : Value) (l : List Int), OwnW 0 v l w → OwnW 0 v l w') : HeldM D M w' :=
  ⟨fun t ht => by obtain ⟨d, h1, h2, h3, h4, h5⟩ := h.there t ht; exact ⟨d, h1, h2, h3, hk _ _ h4, h5⟩, h.only, h.wide⟩
/-- A row stays where a map is written. -/
theorem OwnW.mapped {B b : Nat} {v : Value} {l : List Int} {w w' : World} {es : Array MapEntry} {c : Nat} (h : OwnW B v l w) (hb : w.heap[b]? = some (.map es c)) (hg : w.grownBy w' (some b)) : OwnW B v l w' := by
  refine ⟨h.1, ?_⟩
  rcases h.2 with h1 | ⟨g, cap, cur, rfl, hB, hgg, h3⟩
  · exact .inl h1
  · refine .inr ⟨g, cap, cur, rfl, hB, (hg.block g (Array.getElem?_eq_some_iff.1 hgg).1 (fun e => ?_)).trans hgg, h3⟩
    have e := Option.some.inj e
    subst e
    rw [hb] at hgg
    cases hgg
/-- A row stays where an iterator moves. -/
theorem OwnW.iterd {B b : Nat} {v : Value} {l : List Int} {w w' : World} (h : OwnW B v l w) (hb : w.heap.size ≤ b) (hg : w.grownBy w' (some b)) : OwnW B v l w' := by
  refine ⟨h.1, ?_⟩
  rcases h.2 with h1 | ⟨g, cap, cur, rfl, hB, hgg, h3⟩
  · exact .inl h1
  · have hlt := (Array.getElem?_eq_some_iff.1 hgg).1
    exact .inr ⟨g, cap, cur, rfl, hB, (hg.block g hlt (fun e => by have := Option.some.inj e; omega)).trans hgg, h3⟩
/-- The variable of counts in block cb, whose map lies in block mb, holds the counts M: at most N. -/
structure CtI (N cb mb : Nat) (M : Tm → Int) (w : World) : Prop where
  box : HasC w cb [.map (some mb)] 104
  inv : ∃ D, w.ownsMap Tryz.prog 9 Rv mb N D ∧ HeldM D M w
theorem CtI.below {N cb mb : Nat} {M : Tm → Int} {w w' : World} (h : CtI N cb mb M w) (hb : Below w.heap.size w w') : CtI N cb mb M w' := by
  obtain ⟨h1, D, h2, h3⟩ := h
  exact ⟨h1.below hb, D, h2.kept (row := none) ⟨hb.os, hb.tape, hb.output, hb.size, fun i hi _ => hb.block i hi⟩ (by simp), h3.keep fun v l h => h.below hb⟩
theorem CtI.mono {N N' cb mb : Nat} {M : Tm → Int} {w : World} (h : CtI N cb mb M w) (hn : N ≤ N') : CtI N' cb mb M w := by
  obtain ⟨h1, D, h2, h3⟩ := h
  exact ⟨h1, D, h2.mono hn, h3⟩
theorem CtI.lt {N cb mb : Nat} {M : Tm → Int} {w : World} (h : CtI N cb mb M w) : mb < w.heap.size := by
  obtain ⟨_, D, h2, _⟩ := h
  exact h2.lt
theorem CtI.ne {N cb mb : Nat} {M : Tm → Int} {w : World} (h : CtI N cb mb M w) : cb ≠ mb := by
  obtain ⟨h1, D, ⟨es, c, h2, _⟩, _⟩ := h
  intro e
  subst e
  unfold HasC at h1
  rw [h2] at h1
  cases h1
/-- Other variables stay where the map is written. -/
theorem CtI.neBox {N cb mb b : Nat} {M : Tm → Int} {w : World} {cs : List Value} {t : TypeId} (h : CtI N cb mb M w) (hb : HasC w b cs t) : b ≠ mb := by
  obtain ⟨h1, D, ⟨es, c, h2, _⟩, _⟩ := h
  intro e
  subst e
  unfold HasC at hb
  rw [h2] at hb
  cases hb
theorem zeroH_run (w : World) : (zeroValue 59).run Tryz.prog w = .ok zeroH w := by kernel_rfl
/-- What a look-up finds. -/
def lookH (M : Tm → Int) (t : Tm) (v : Value) : Prop := ∃ e s, v = .agg #[.int .u64 e, s, .int .i64 (M t)]
theorem HeldM.look {N mb : Nat} {D : DataW Value} {M : Tm → Int} {w : World} (hD : w.ownsMap Tryz.prog 9 Rv mb N D) (h : HeldM D M w) {t : Tm} (wt : TmW t) (hl : t.l.length ≤ 1000000) :
    ∃ v, lookH M t v ∧ ∀ w', (∀ b, b < w.heap.size → w'.heap[b]? = w.heap[b]?) → (Instr.lookup 102 (.map (some mb)) (keyV t) false).run Tryz.prog w' = .ok v w' := by
  have hlt := hD.lt
  have hcase : ∃ v, lookH M t v ∧ D.atKey (keyT t) (.held zeroH) = .held v := by
    by_cases hz : M t = 0
    · refine ⟨zeroH, ⟨0, .slice none 0 0, by rw [hz]; rfl⟩, ?_⟩
      exact Go.Maps.atKey_of_not_has (h.not wt hz) _
    · obtain ⟨d, hd, _, _, _, h1⟩ := h.there t hz
      exact ⟨valH d (M t), ⟨_, _, rfl⟩, h1 _⟩
  obtain ⟨v, hv, hat⟩ := hcase
  refine ⟨v, hv, fun w' hw' => ?_⟩
  have hD' : w'.ownsMap Tryz.prog 9 Rv mb N D := by
    obtain ⟨es, c, hb, r⟩ := hD
    exact ⟨es, c, (hw' mb hlt).trans hb, r⟩
  obtain ⟨u, ps, hrun, hu⟩ := hD'.lookup lawS Tryz.underlying102 (zeroH_run w') (zd := .held zeroH) (zp := []) rfl (keyOf_t wt hl)
  have e : u = v := by
    unfold Rv at hu
    rw [hat] at hu
    simp at hu
    exact hu.1
  rw [hrun, e]
/-- A count is put in. -/
theorem HeldM.put {D : DataW Value} {M : Tm → Int} {w w' : World} (hm : Go.Maps.IsMap D) (h : HeldM D M w) (hk : ∀ (v : Value) (l : List Int), OwnW 0 v l w → OwnW 0 v l w') {d : Td} {z s : Int} (wt : TmW d.t) (hl : d.t.l.length ≤ 1000000) (ho : OwnW 0 (slD d) d.t.l w') (hs : s = wrapC (M d.t + z)) (h0 : s ≠ 0) :
    HeldM (D.put (keyT d.t) (.held (valH d s))) (addM M (d.t, z)) w' := by
  have hsame : addM M (d.t, z) d.t = s := by rw [hs]; exact addM_same M (d.t, z)
  refine ⟨fun t ht => ?_, fun kl hkl => ?_, fun t => ?_⟩
  · by_cases e : t = d.t
    · subst e
      exact ⟨d, rfl, wt, hl, ho, fun zd => by rw [hsame]; exact Go.Maps.atKey_put_same hm (isKeyS _) _ _⟩
    · rw [addM_other M (d.t, z) e] at ht ⊢
      obtain ⟨d', h1, h2, h3, h4, h5⟩ := h.there t ht
      refine ⟨d', h1, h2, h3, hk _ _ h4, fun zd => ?_⟩
      rw [Go.Maps.atKey_put_other (fun q => e (keyT_inj h2 wt q))]
      exact h5 zd
  · by_cases e : kl = keyT d.t
    · exact ⟨d.t, by rw [hsame]; exact h0, e⟩
    · rw [Go.Maps.has_put_other e] at hkl
      obtain ⟨t, h1, h2⟩ := h.only kl hkl
      have ht : t ≠ d.t := fun q => e (by rw [h2, q])
      exact ⟨t, by rw [addM_other M (d.t, z) ht]; exact h1, h2⟩
  · by_cases e : t = d.t
    · subst e
      rw [hsame, hs]
      unfold wrapC; omega
    · rw [addM_other M (d.t, z) e]; exact h.wide t
/-- A count comes to 0. -/
theorem HeldM.del {D : DataW Value} {M : Tm → Int} {w w' : World} (h : HeldM D M w) (hk : ∀ (v : Value) (l : List Int), OwnW 0 v l w → OwnW 0 v l w') {t : Tm} {z : Int} (wt : TmW t) (hs : wrapC (M t + z) = 0) :
    HeldM (D.del (keyT t)) (addM M (t, z)) w' := by
  have hsame : addM M (t, z) t = 0 := by rw [← hs]; exact addM_same M (t, z)
  refine ⟨fun u hu => ?_, fun kl hkl => ?_, fun u => ?_⟩
  · have e : u ≠ t := fun q => hu (by rw [q]; exact hsame)
    rw [addM_other M (t, z) e] at hu ⊢
    obtain ⟨d', h1, h2, h3, h4, h5⟩ := h.there u hu
    refine ⟨d', h1, h2, h3, hk _ _ h4, fun zd => ?_⟩
    rw [Go.Maps.atKey_del_other (fun q => e (keyT_inj h2 wt q))]
    exact h5 zd
  · by_cases e : kl = keyT t
    · rw [e, Go.Maps.has_del_same] at hkl
      cases hkl
    · rw [Go.Maps.has_del_other e] at hkl
      obtain ⟨u, h1, h2⟩ := h.only kl hkl
      have ht : u ≠ t := fun q => e (by rw [h2, q])
      exact ⟨u, by rw [addM_other M (t, z) ht]; exact h1, h2⟩
  · by_cases e : u = t
    · subst e
      rw [hsame]; omega
    · rw [addM_other M (t, z) e]; exact h.wide u
section
variable {H : Type} {P : Program}
/-- 'm[k] = v' as one operation. -/
theorem wp_mapUpdate (w : World) {o : Oper} {a : Act} {K : Act → World → Prop} {Q : Exit → Act → World → Prop}
    (m x v : Operand) (t : TypeId) (hop : o.op = Op.mapUpdate t m x v)
    (k e : TypeId) (Kd : Go.Maps.Keyed P k) (ht : P.underlying t = some (.map k e)) (R : Value → Option (DataW H × List MemPlace)) (b n : Nat) (D : DataW H)
    (hm : a.eval m = .map (some b)) (hown : w.ownsMap P k R b n D) (hn : n < maxLen) (key val : Value) (kl : Lit) (hx : a.eval x = key) (hv : a.eval v = val) (hkey : keyOf P k key = some kl)
    (d : DataW H) (ps : List MemPlace) (hval : R val = some (d, ps))
    (hK : ∀ w', w'.ownsMap P k R b (n + 1) (D.put kl d) → w.grownBy w' (some b) → K (a.put o.dst undef) w') : o.wp P a w K Q := by
  obtain ⟨w', hrun, r1, r2⟩ := hown.update Kd ht hn hkey hval
  unfold Oper.wp
  simp [execOp, hop, hm, hx, hv, hrun, Result.andThen]
  exact hK w' r1 r2
end
end Go.Proofs.YtdfhchpimpbgfaaGreatDoor
