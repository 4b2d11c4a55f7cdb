/-
  What datum.Check and its helpers answer, at this program: for every datum. Condition: unicode/utf8's two tables and internal/strconv's table of powers lie as their initialisers lay them.
-/
import Derived.Test.YtlodohgoondkhaaDoorPlain
import Derived.Test.YtlodohgoondkhaaDoorShelf
import Derived.Lib.LaidTab
import Derived.Shelf.Unicode.DecodeSlow
import Derived.Lib.ItoaNum
import Derived.Lib.FrozenHead
import Derived.Lib.OthersKept
import Derived.WalkKit
import Derived.WalkLawsBesides
import Derived.WalkSpells
import Derived.Handy
set_option linter.unusedVariables false
set_option linter.unusedSimpArgs false
namespace Go.Proofs.YtlodohgoondkhaaDoor
open Go.RowKit Go.Lib

/-- The tables of Go's library that the proofs read, as the program's text lays them. -/
structure Tabs (w : World) : Prop where
  u8 : Lib.Utf8Tabs 0 1 w
  pow : Lib.TabIs Tryd.prog w "internal/strconv.uint64pow10" .u64 Lib.pow10Tab
  size : 3 < w.heap.size

theorem pow_global : Tryd.prog.globalNamed "internal/strconv.uint64pow10" = some 3 := by kernel_rfl

theorem Tabs.below {w w' : World} (h : Tabs w) (hb : Below w.heap.size w w') : Tabs w' := by
  refine ⟨Utf8Tabs_below h.u8 hb, ?_, Nat.lt_of_lt_of_le h.size hb.size⟩
  have hv := h.pow
  unfold Lib.TabIs World.var? at hv ⊢
  simp only [pow_global, Option.bind_some] at hv ⊢
  rw [hb.block 3 h.size]
  exact hv
theorem Tabs.alloc {w : World} (h : Tabs w) (o : Obj) : Tabs (w.alloc o) := h.below ((Below.refl _ _).alloc (Nat.le_refl _) _)
theorem Tabs.drew {w : World} (h : Tabs w) : Tabs w.drew := h.below (Below.refl _ _).drew

/-- Behind new blocks and a call that keeps what was there. -/
theorem chainB {B : Nat} {a b c : World} (h : Below B a b) (k : Below b.heap.size b c) (hB : B ≤ b.heap.size) : Below B a c := h.trans (k.mono hB)

theorem toList_size (s : ByteArray) : s.toList.isEmpty = decide (s.size = 0) := by
  rw [ByteArray.toList_eq]
  rcases s with ⟨⟨l⟩⟩
  cases l <;> simp [ByteArray.size]

theorem ret_bool {a b : Bool} (h : a = b) : Ending.returned (.bool a) = .returned (.bool b) := by rw [h]
theorem ret_int {k : IntKind} {a b : Int} (h : a = b) : Ending.returned (.int k a) = .returned (.int k b) := by rw [h]

theorem cell_new (w : World) (cs : Array Value) (t : TypeId) (i : Nat) : (w.alloc (.cells cs t)).cell? ⟨w.heap.size, i, none⟩ = cs[i]? := by
  have h := heap_alloc_new w (.cells cs t)
  simp only [World.cell?, h]
  simp

abbrev dv (k : Int) (b : Bool) (n : Int) (s : ByteArray) : Value := .agg #[.int .u8 k, .bool b, .int .i64 n, .string s]

set_option maxHeartbeats 1000000 in
/-- datum.wellFormed -/
theorem wellFormed_any (k : Int) (b : Bool) (n : Int) (s : ByteArray) (w : World) (hT : Tabs w) (hs : s.size ≤ 9223372036854775807) :
    Calls Tryd.prog 53 #[.agg #[.int .u8 k, .bool b, .int .i64 n, .string s]] w fun e w' => e = .returned (.bool (form ⟨k, b, n, s⟩)) ∧ Below w.heap.size w w' := by
  have hTH := Lib.hid hT
  clear hT
  by_cases h1 : k = 1
  · subst h1
    by_cases hn : n = 0
    · subst hn
      cases b with
      | true =>
        have hf : form ⟨1, true, 0, s⟩ = false := rfl
        rw [hf]; clear hf
        go_enter Tryd.func53, Tryd.ntmps53
        go_wp2
        go_ret
        exact ⟨rfl, by go_grown⟩
      | false =>
        have hf : form ⟨1, false, 0, s⟩ = decide (s.size = 0) := by simp [form]
        rw [hf]; clear hf
        go_enter Tryd.func53, Tryd.ntmps53
        go_wp2
        go_ret
        exact ⟨ret_bool (toList_size s), by go_grown⟩
    · have hf : form ⟨1, b, n, s⟩ = false := by simp [form, hn]
      rw [hf]; clear hf
      go_enter Tryd.func53, Tryd.ntmps53
      go_wp2
      go_ret
      exact ⟨rfl, by go_grown⟩
  · by_cases h3 : k = 3
    · subst h3
      cases b with
      | true =>
        have hf : form ⟨3, true, n, s⟩ = false := rfl
        rw [hf]; clear hf
        go_enter Tryd.func53, Tryd.ntmps53
        go_wp2
        go_ret
        exact ⟨rfl, by go_grown⟩
      | false =>
        have hf : form ⟨3, false, n, s⟩ = decide (s.size = 0) := by simp [form]
        rw [hf]; clear hf
        go_enter Tryd.func53, Tryd.ntmps53
        go_wp2
        go_ret
        exact ⟨ret_bool (toList_size s), by go_grown⟩
    · by_cases h2 : k = 2
      · subst h2
        by_cases hn : n = 0
        · subst hn
          have hf : form ⟨2, b, 0, s⟩ = decide (s.size = 0) := by simp [form]
          rw [hf]; clear hf
          go_enter Tryd.func53, Tryd.ntmps53
          go_wp2
          go_ret
          exact ⟨ret_bool (toList_size s), by go_grown⟩
        · have hf : form ⟨2, b, n, s⟩ = false := by simp [form, hn]
          rw [hf]; clear hf
          go_enter Tryd.func53, Tryd.ntmps53
          go_wp2
          go_ret
          exact ⟨rfl, by go_grown⟩
      · by_cases h4 : k = 4
        · subst h4
          cases b with
          | true =>
            have hf : form ⟨4, true, n, s⟩ = false := rfl
            rw [hf]; clear hf
            go_enter Tryd.func53, Tryd.ntmps53
            go_wp2
            go_ret
            exact ⟨rfl, by go_grown⟩
          | false =>
            by_cases hn : n = 0
            · subst hn
              have hf : form ⟨4, false, 0, s⟩ = validD s.data.toList := by simp [form]
              rw [hf]; clear hf
              go_enter Tryd.func53, Tryd.ntmps53
              go_wp2_with fail
              refine (Tryd.utf8_ValidString s _ hs (hTH.out.alloc _).u8).mono ?_
              rintro e w' ⟨rfl, hb⟩
              go_wp2
              go_ret
              exact ⟨rfl, chainB (by go_grown) hb (by simp)⟩
            · have hf : form ⟨4, false, n, s⟩ = false := by simp [form, hn]
              rw [hf]; clear hf
              go_enter Tryd.func53, Tryd.ntmps53
              go_wp2
              go_ret
              exact ⟨rfl, by go_grown⟩
        · have hf : form ⟨k, b, n, s⟩ = false := by simp [form, h1, h2, h3, h4]
          rw [hf]; clear hf
          go_enter Tryd.func53, Tryd.ntmps53
          go_wp2
          go_ret
          exact ⟨rfl, by go_grown⟩

set_option maxHeartbeats 1000000 in
/-- datum.Check -/
theorem check_any (k : Int) (b : Bool) (n : Int) (s : ByteArray) (w : World) (hT : Tabs w) (hs : s.size ≤ 9223372036854775807) :
    Calls Tryd.prog 16 #[.agg #[.int .u8 k, .bool b, .int .i64 n, .string s]] w fun e w' => e = .returned (.int .u16 (chk ⟨k, b, n, s⟩)) ∧ Below w.heap.size w w' := by
  have hTH := Lib.hid hT
  clear hT
  cases hf : form ⟨k, b, n, s⟩ with
  | false =>
    have hc := Lib.hid (chk_bad hf)
    go_enter Tryd.func16, Tryd.ntmps16
    go_wp2_with fail
    refine (wellFormed_any k b n s _ (hTH.out.alloc _) hs).mono ?_
    rintro e w' ⟨rfl, hb⟩
    go_wp2
    go_ret
    exact ⟨ret_int hc.out.symm, chainB (by go_grown) hb (by simp)⟩
  | true =>
    have hc := Lib.hid (chk_of_form hf)
    by_cases hl : 1000 < s.size
    · go_enter Tryd.func16, Tryd.ntmps16
      go_wp2_with fail
      refine (wellFormed_any k b n s _ (hTH.out.alloc _) hs).mono ?_
      rintro e w' ⟨rfl, hb⟩
      have hcell : w'.cell? ⟨w.heap.size, 3, none⟩ = some (.string s) := by rw [hb.cell (by simp)]; exact cell_new w _ _ 3
      have hlz : (1000 : Int) < (s.size : Int) := by omega
      go_wp2
      go_ret
      exact ⟨ret_int (by rw [hc.out]; simp [hl]), chainB (by go_grown) hb (by simp)⟩
    · go_enter Tryd.func16, Tryd.ntmps16
      go_wp2_with fail
      refine (wellFormed_any k b n s _ (hTH.out.alloc _) hs).mono ?_
      rintro e w' ⟨rfl, hb⟩
      have hcell : w'.cell? ⟨w.heap.size, 3, none⟩ = some (.string s) := by rw [hb.cell (by simp)]; exact cell_new w _ _ 3
      have hlz : ¬ (1000 : Int) < (s.size : Int) := by omega
      go_wp2
      go_ret
      exact ⟨ret_int (by rw [hc.out]; simp [hl]), chainB (by go_grown) hb (by simp)⟩

set_option maxHeartbeats 1000000 in
theorem isNull_any (k : Int) (b : Bool) (n : Int) (s : ByteArray) (w : World) :
    Calls Tryd.prog 84 #[.agg #[.int .u8 k, .bool b, .int .i64 n, .string s]] w fun e w' => e = .returned (.bool (k == 1)) ∧ Below w.heap.size w w' := by
  go_enter Tryd.func84, Tryd.ntmps84
  go_wp2
  go_ret
  exact ⟨rfl, by go_grown⟩

/-- Is a datum null, or of a kind, and may it be? -/
def fitsD (kk : Int) (d : Dat) : Bool := okD d && (d.k == kk || d.k == 1)

theorem okD_chk {d : Dat} (h : okD d = true) : chk d = 0 := by simpa [okD] using h
theorem okD_chk_ne {d : Dat} (h : okD d = false) : (chk d == 0) = false := by simpa [okD] using h

set_option maxHeartbeats 1000000 in
theorem fits_any (k : Int) (b : Bool) (n : Int) (s : ByteArray) (kk : Int) (w : World) (hT : Tabs w) (hs : s.size ≤ 9223372036854775807) :
    Calls Tryd.prog 108 #[.agg #[.int .u8 k, .bool b, .int .i64 n, .string s], .int .u8 kk] w fun e w' => e = .returned (.bool (fitsD kk ⟨k, b, n, s⟩)) ∧ Below w.heap.size w w' := by
  have hTH := Lib.hid hT
  clear hT
  have hcell : ∀ w', Below (w.alloc (.cells #[.int .u8 k, .bool b, .int .i64 n, .string s] 24)).heap.size (w.alloc (.cells #[.int .u8 k, .bool b, .int .i64 n, .string s] 24)) w' →
      w'.cell? ⟨w.heap.size, 0, none⟩ = some (.int .u8 k) ∧ w'.cell? ⟨w.heap.size, 1, none⟩ = some (.bool b) ∧ w'.cell? ⟨w.heap.size, 2, none⟩ = some (.int .i64 n) ∧ w'.cell? ⟨w.heap.size, 3, none⟩ = some (.string s) := fun w' hb =>
    ⟨by rw [hb.cell (by simp)]; exact cell_new w _ _ 0, by rw [hb.cell (by simp)]; exact cell_new w _ _ 1, by rw [hb.cell (by simp)]; exact cell_new w _ _ 2, by rw [hb.cell (by simp)]; exact cell_new w _ _ 3⟩
  have hcH := Lib.hid hcell
  clear hcell
  cases ho : okD ⟨k, b, n, s⟩ with
  | false =>
    have hf : fitsD kk ⟨k, b, n, s⟩ = false := by simp [fitsD, ho]
    rw [hf]
    have hc := okD_chk_ne ho
    generalize hx : chk ⟨k, b, n, s⟩ = c at hc
    have hxH := Lib.hid hx
    clear hx hf ho
    go_enter Tryd.func108, Tryd.ntmps108
    go_wp2_with fail
    refine (check_any k b n s _ (hTH.out.alloc _) hs).mono ?_
    rintro e w' ⟨rfl, hb⟩
    rw [hxH.out]
    go_wp2
    go_ret
    exact ⟨rfl, chainB (by go_grown) hb (by simp)⟩
  | true =>
    have hc := Lib.hid (okD_chk ho)
    by_cases h1 : k = kk
    · subst h1
      have hf : fitsD k ⟨k, b, n, s⟩ = true := by simp [fitsD, ho]
      rw [hf]
      clear hf ho
      go_enter Tryd.func108, Tryd.ntmps108
      go_wp2_with fail
      refine (check_any k b n s _ (hTH.out.alloc _) hs).mono ?_
      rintro e w' ⟨rfl, hb⟩
      rw [hc.out]
      obtain ⟨g0, g1, g2, g3⟩ := hcH.out w' hb
      go_wp2
      go_ret
      exact ⟨rfl, chainB (by go_grown) hb (by simp)⟩
    · have h1b : (k == kk) = false := by simpa using h1
      have hf : fitsD kk ⟨k, b, n, s⟩ = (k == 1) := by simp [fitsD, ho, h1b]
      rw [hf]
      clear hf ho
      go_enter Tryd.func108, Tryd.ntmps108
      go_wp2_with fail
      refine (check_any k b n s _ (hTH.out.alloc _) hs).mono ?_
      rintro e w' ⟨rfl, hb⟩
      rw [hc.out]
      obtain ⟨g0, g1, g2, g3⟩ := hcH.out w' hb
      go_wp2_with fail
      refine (isNull_any k b n s _).mono ?_
      rintro e w2 ⟨rfl, hb2⟩
      go_wp2
      go_ret
      exact ⟨rfl, chainB (chainB (by go_grown) hb (by simp)) hb2 (by have := hb.size; simp at this; omega)⟩

/-! ### a datum's block -/
/-- Block b is a datum's variable, and holds these four. -/
def Has (w : World) (b : Nat) (c0 c1 c2 c3 : Value) : Prop := w.heap[b]? = some (.cells #[c0, c1, c2, c3] 24 (0, 0))
theorem Has.new (w : World) (c0 c1 c2 c3 : Value) : Has (w.alloc (.cells #[c0, c1, c2, c3] 24)) w.heap.size c0 c1 c2 c3 := heap_alloc_new w _
theorem Has.lt {w : World} {b : Nat} {c0 c1 c2 c3 : Value} (h : Has w b c0 c1 c2 c3) : b < w.heap.size := (Array.getElem?_eq_some_iff.1 h).1
theorem Has.alloc {w : World} {b : Nat} {c0 c1 c2 c3 : Value} (h : Has w b c0 c1 c2 c3) (o : Obj) : Has (w.alloc o) b c0 c1 c2 c3 := (Lib.alloc_old w o b h.lt).trans h
theorem Has.below {w w' : World} {b : Nat} {c0 c1 c2 c3 : Value} (h : Has w b c0 c1 c2 c3) (hb : Below w.heap.size w w') : Has w' b c0 c1 c2 c3 := (hb.block b h.lt).trans h
theorem Has.drew {w : World} {b : Nat} {c0 c1 c2 c3 : Value} (h : Has w b c0 c1 c2 c3) : Has w.drew b c0 c1 c2 c3 := h
theorem Has.cells {w : World} {b : Nat} {c0 c1 c2 c3 : Value} (h : Has w b c0 c1 c2 c3) :
    w.cell? ⟨b, 0, none⟩ = some c0 ∧ w.cell? ⟨b, 1, none⟩ = some c1 ∧ w.cell? ⟨b, 2, none⟩ = some c2 ∧ w.cell? ⟨b, 3, none⟩ = some c3 := by
  unfold Has at h
  refine ⟨?_, ?_, ?_, ?_⟩ <;> (simp only [World.cell?, h]; simp)
theorem Has.free {w : World} {b : Nat} {c0 c1 c2 c3 : Value} (h : Has w b c0 c1 c2 c3) :
    w.frozen? ⟨b, 0, none⟩ = false ∧ w.frozen? ⟨b, 1, none⟩ = false ∧ w.frozen? ⟨b, 2, none⟩ = false ∧ w.frozen? ⟨b, 3, none⟩ = false := by
  unfold Has at h
  exact ⟨Lib.frozen_of_heap h 0, Lib.frozen_of_heap h 1, Lib.frozen_of_heap h 2, Lib.frozen_of_heap h 3⟩
end Go.Proofs.YtlodohgoondkhaaDoor
