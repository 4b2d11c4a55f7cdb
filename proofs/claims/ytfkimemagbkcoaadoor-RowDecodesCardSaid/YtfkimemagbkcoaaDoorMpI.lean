/-
  A map from texts to places that a call owns: which keys it has, and at which place each stands. Nothing is walked here. No condition but those written.
-/
import Derived.Test.YtfkimemagbkcoaaDoorDw
import Derived.Test.YtfkimemagbkcoaaDoorProg
import Derived.Maps.OwnSet
import Derived.Maps.Views
import Derived.StringKeys
set_option linter.unusedVariables false
set_option linter.unusedSimpArgs false
namespace Go.Proofs.YtfkimemagbkcoaaDoor
open Go.RowKit Go.Lib
open Go.Maps (has IsMap)

/-- What the map answers of a key: the place at which it stands among the keys, and whether it does. -/
def lookI (keys : List (List UInt8)) (key : List UInt8) : Int × Bool := if key ∈ keys then ((keys.idxOf key : Nat), true) else (0, false)
/-- Block b is a map that has just these keys, each with its place. -/
def MpI (b : Nat) (keys : List (List UInt8)) (w : World) : Prop :=
  ∃ D : DataW Unit, w.ownsMap Tryd.prog 9 (plainElem Tryd.prog 3) b keys.length D ∧ IsMap D ∧
    ∀ key : List UInt8, (key ∈ keys → has D (.string key) = true ∧ ∀ z, D.atKey (.string key) z = .lit (.int .i64 (keys.idxOf key : Nat))) ∧ (key ∉ keys → has D (.string key) = false)
theorem MpI.lt {b : Nat} {keys : List (List UInt8)} {w : World} (h : MpI b keys w) : b < w.heap.size := by
  obtain ⟨D, h1, _⟩ := h
  exact h1.lt
theorem MpI.kept {b : Nat} {keys : List (List UInt8)} {w w' : World} {row : Option Nat} (h : MpI b keys w) (hg : w.grownBy w' row) (hne : some b ≠ row) : MpI b keys w' := by
  obtain ⟨D, h1, h2⟩ := h
  exact ⟨D, h1.kept hg hne, h2⟩
theorem MpI.alloc {b : Nat} {keys : List (List UInt8)} {w : World} (h : MpI b keys w) (o : Obj) : MpI b keys (w.alloc o) := by
  obtain ⟨D, h1, h2⟩ := h
  exact ⟨D, h1.alloc o, h2⟩
theorem MpI.drew {b : Nat} {keys : List (List UInt8)} {w : World} (h : MpI b keys w) : MpI b keys w.drew := h
theorem MpI.below {b : Nat} {keys : List (List UInt8)} {w w' : World} (h : MpI b keys w) (hb : Below w.heap.size w w') : MpI b keys w' := by
  obtain ⟨D, h1, h2⟩ := h
  exact ⟨D, h1.kept (row := none) ⟨hb.os, hb.tape, hb.output, hb.size, fun k hk _ => hb.block k hk⟩ (by simp), h2⟩
theorem MpI.setCell {b : Nat} {keys : List (List UInt8)} {w : World} (h : MpI b keys w) {a : Addr} (ha : b ≠ a.block) (u : Value) : MpI b keys (w.setCell a u) := by
  obtain ⟨D, h1, h2⟩ := h
  exact ⟨D, h1.setCell ha u, h2⟩
/-- While rows of some kind are written. -/
theorem MpI.others {b : Nat} {keys : List (List UInt8)} {w w' : World} {e : TypeId} (h : MpI b keys w) (ho : OthersKept e none w w') : MpI b keys w' := by
  obtain ⟨D, ⟨es, clock, h1, h2⟩, h3⟩ := h
  exact ⟨D, ⟨es, clock, ho b _ h1 (by simp) (fun c fz q => by cases q), h2⟩, h3⟩
/-- It is no row's block. -/
theorem MpI.noRow {b B n k : Nat} {keys : List (List UInt8)} {w : World} {e : TypeId} {v : Value} {xs : List Value} (h : MpI b keys w) (h' : w.ownsRow B e k v n xs) : some b ≠ v.ownBlock := by
  obtain ⟨D, ⟨es, clock, h1, h2⟩, h3⟩ := h
  rcases h'.2 with ⟨rfl, _⟩ | ⟨g, cap, cur, rfl, _, hg, _⟩
  · simp [Value.ownBlock]
  · intro q
    have : b = g := by simpa [Value.ownBlock] using q
    subst this
    rw [h1] at hg
    cases hg
theorem MpI.made (w : World) : MpI w.heap.size [] (w.alloc (.map #[] 0)) :=
  ⟨_, World.ownsMap_made w _ _ _, Maps.isMap_empty, fun key => ⟨fun h => (by cases h), fun _ => rfl⟩⟩
theorem key_lit (l : List UInt8) : WideAt.IsKeyLit (.string l) := trivial
theorem key_law : Maps.Keyed Tryd.prog 9 := Maps.string_keyed Tryd.underlying9
theorem zero_int (w : World) : (zeroValue 3).run Tryd.prog w = .ok (.int .i64 0) w := by kernel_rfl
theorem key_of (s : ByteArray) (h : s.size ≤ 140737488355328) : keyOf Tryd.prog 9 (.string s) = some (.string s.data.toList) := Go.WideMaps.keyOf_string_mk Tryd.underlying9 (by unfold maxLen; omega)
section
variable {ops : Array Oper} {rest : List Oper} {o : Oper} {a : Act} {Q : Exit → Act → World → Prop}
/-- 'v, ok := m[k]'. -/
theorem wpList_mpi_look (w : World) (hg : o.guard = none) (m x : Operand) (hop : o.op = Op.lookup 87 m x true) (b : Nat) (keys : List (List UInt8)) (hm : a.eval m = .map (some b)) (hown : MpI b keys w)
    (s : ByteArray) (hx : a.eval x = .string s) (hs : s.size ≤ 140737488355328)
    (hK : wpList Tryd.prog ops Q rest (a.put o.dst (.tuple #[.int .i64 (lookI keys s.data.toList).1, .bool (lookI keys s.data.toList).2])) w) : wpList Tryd.prog ops Q (o :: rest) a w := by
  obtain ⟨D, h1, _, h2⟩ := hown
  refine wpList_lookup_own_ok_int w hg m x 87 hop 9 3 .i64 key_law Tryd.underlying87 Tryd.underlying3 (zero_int w) b _ D hm h1 _ _ hx (key_of s hs) ?_
  intro c hat hwc
  obtain ⟨h3, h4⟩ := h2 s.data.toList
  unfold lookI at hK
  by_cases hk : s.data.toList ∈ keys
  · obtain ⟨h5, h6⟩ := h3 hk
    rw [if_pos hk] at hK
    rw [h6] at hat
    obtain rfl : ((keys.idxOf s.data.toList : Nat) : Int) = c := by simpa using hat
    rw [h5]
    exact hK
  · rw [if_neg hk] at hK
    rw [Maps.atKey_of_not_has (h4 hk)] at hat
    obtain rfl : (0 : Int) = c := by simpa using hat
    rw [h4 hk]
    exact hK
/-- 'm[k] = len(keys)', of a key that is not there. -/
theorem wpList_mpi_put (w : World) (hg : o.guard = none) (m x v : Operand) (hop : o.op = Op.mapUpdate 87 m x v) (b : Nat) (keys : List (List UInt8)) (hm : a.eval m = .map (some b)) (hown : MpI b keys w)
    (s : ByteArray) (hx : a.eval x = .string s) (hs : s.size ≤ 140737488355328) (hnew : s.data.toList ∉ keys) (hv : a.eval v = .int .i64 (keys.length : Nat)) (hn : keys.length ≤ 1099511627776)
    (hK : ∀ w', MpI b (keys ++ [s.data.toList]) w' → w.grownBy w' (some b) → wpList Tryd.prog ops Q rest (a.put o.dst undef) w') : wpList Tryd.prog ops Q (o :: rest) a w := by
  obtain ⟨D, h1, hI, h2⟩ := hown
  refine wpList_mapUpdate_own w hg m x v 87 hop 9 3 key_law Tryd.underlying87 _ b _ D hm h1 (by unfold maxLen; omega) _ _ _ hx hv (key_of s hs) (.lit (.int .i64 (keys.length : Nat))) [] (plainElem_int Tryd.underlying3 ?_) ?_
  · simp [Lit.wf, IntKind.min, IntKind.max, IntKind.signed, IntKind.bits]
    try omega
  · intro w' h3 h4
    refine hK w' ⟨_, by simpa using h3, hI.put _ _, fun key => ?_⟩ h4
    by_cases hk : key = s.data.toList
    · subst hk
      refine ⟨fun _ => ⟨Maps.has_put_same hI (key_lit _) _, fun z => ?_⟩, fun q => absurd (by simp) q⟩
      rw [Maps.atKey_put_same hI (key_lit _), List.idxOf_append, if_neg hnew]
      simp
    · have hne : (Lit.string key) ≠ .string s.data.toList := fun q => hk (by injection q)
      obtain ⟨h5, h6⟩ := h2 key
      refine ⟨fun hm => ?_, fun hm => ?_⟩
      · have hm' : key ∈ keys := by simpa [hk] using hm
        obtain ⟨h7, h8⟩ := h5 hm'
        refine ⟨by rw [Maps.has_put_other hne]; exact h7, fun z => ?_⟩
        rw [Maps.atKey_put_other hne, h8, List.idxOf_append, if_pos hm']
      · rw [Maps.has_put_other hne]
        exact h6 (fun q => hm (by simp [q]))
end
end Go.Proofs.YtfkimemagbkcoaaDoor
