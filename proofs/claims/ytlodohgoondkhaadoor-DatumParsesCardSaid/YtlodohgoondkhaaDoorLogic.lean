/-
  What datum.Not, And and Or answer, at this program: for all data. Condition: the tables of Go's library lie as their initialisers lay them.
-/
import Derived.Test.YtlodohgoondkhaaDoorStrict
import Derived.Deep.RegionWith
set_option linter.unusedVariables false
set_option linter.unusedSimpArgs false
namespace Go.Proofs.YtlodohgoondkhaaDoor
open Go.RowKit Go.Lib

theorem bcell {W w1 : World} (hb : Below W.heap.size W w1) : (∀ b o, b < W.heap.size → w1.cell? ⟨b, o, none⟩ = W.cell? ⟨b, o, none⟩) ∧ (∀ b o, b < W.heap.size → w1.frozen? ⟨b, o, none⟩ = W.frozen? ⟨b, o, none⟩) :=
  ⟨fun b o h => hb.cell (p := ⟨b, o, none⟩) h, fun b o h => hb.frozen (p := ⟨b, o, none⟩) h⟩

/-- And (the boolean that decides: false), Or (true). -/
def decS (al : Bool) (a b : Dat) : Dat × Int :=
  if fitsD 2 a = false then (zeroD, 13) else if fitsD 2 b = false then (zeroD, 13)
  else if (a.k = 2 ∧ a.b = al) ∨ (b.k = 2 ∧ b.b = al) then (boolD al, 0)
  else if a.k = 1 ∨ b.k = 1 then (nullD, 0) else (boolD (!al), 0)
theorem fits_bool {d : Dat} (h : fitsD 2 d = true) : d = nullD ∨ ∃ x, d = boolD x := by
  unfold fitsD at h
  simp only [Bool.and_eq_true, Bool.or_eq_true, beq_iff_eq] at h
  rcases ok_cases h.1 with rfl | ⟨x, rfl⟩ | ⟨x, rfl⟩ | ⟨x, rfl, _⟩
  · exact .inl rfl
  · exact .inr ⟨x, rfl⟩
  · exact absurd h.2 (by simp [intD])
  · exact absurd h.2 (by simp [textD])
theorem dat_parts {k : Int} {b : Bool} {n : Int} {s : ByteArray} {d : Dat} (h : (⟨k, b, n, s⟩ : Dat) = d) : k = d.k ∧ b = d.b ∧ n = d.n ∧ s = d.s := by subst h; exact ⟨rfl, rfl, rfl, rfl⟩

set_option maxHeartbeats 1000000 in
theorem boolean_any (b : Bool) (w : World) :
    Calls Tryd.prog 86 #[.bool b] w fun e w' => e = .returned (.agg #[.int .u8 2, .bool b, .int .i64 0, .string ⟨#[]⟩]) ∧ Below w.heap.size w w' := by
  go_enter Tryd.func86, Tryd.ntmps86
  go_wp2
  go_returns
  exact ⟨rfl, by go_grown⟩
set_option maxHeartbeats 1000000 in
theorem null_any (w : World) :
    Calls Tryd.prog 102 #[] w fun e w' => e = .returned (.agg #[.int .u8 1, .bool false, .int .i64 0, .string ⟨#[]⟩]) ∧ Below w.heap.size w w' := by
  go_enter Tryd.func102, Tryd.ntmps102
  go_wp2
  go_returns
  exact ⟨rfl, by go_grown⟩

/-- Two boxed data and a result's variable. -/
theorem boxes2 (w : World) (ka : Int) (ba : Bool) (na : Int) (sa : ByteArray) (kb : Int) (bb : Bool) (nb : Int) (sb : ByteArray) :
    ∃ W0, ((w.alloc (.cells #[.int .u8 ka, .bool ba, .int .i64 na, .string sa] 24)).alloc (.cells #[.int .u8 kb, .bool bb, .int .i64 nb, .string sb] 24)).alloc (.cells #[.int .u8 0, .bool false, .int .i64 0, .string ⟨#[]⟩] 24) = W0 ∧ Below w.heap.size w W0 ∧
      Has W0 w.heap.size (.int .u8 ka) (.bool ba) (.int .i64 na) (.string sa) ∧ Has W0 (w.heap.size + 1) (.int .u8 kb) (.bool bb) (.int .i64 nb) (.string sb) ∧ Has W0 (w.heap.size + 1 + 1) (.int .u8 0) (.bool false) (.int .i64 0) (.string ⟨#[]⟩) ∧ w.heap.size + 1 + 1 < W0.heap.size := by
  refine ⟨_, rfl, by go_grown, ((Has.new _ _ _ _ _).alloc _).alloc _, ?_, ?_, by simp⟩
  · have := (Has.new (w.alloc (.cells #[.int .u8 ka, .bool ba, .int .i64 na, .string sa] 24)) (.int .u8 kb) (.bool bb) (.int .i64 nb) (.string sb)).alloc (.cells #[.int .u8 0, .bool false, .int .i64 0, .string ⟨#[]⟩] 24)
    simpa only [World.size_alloc] using this
  · have := Has.new ((w.alloc (.cells #[.int .u8 ka, .bool ba, .int .i64 na, .string sa] 24)).alloc (.cells #[.int .u8 kb, .bool bb, .int .i64 nb, .string sb] 24)) (.int .u8 0) (.bool false) (.int .i64 0) (.string ⟨#[]⟩)
    simpa only [World.size_alloc] using this

end Go.Proofs.YtlodohgoondkhaaDoor
