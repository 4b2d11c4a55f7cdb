/-
  What the document's 'of' answers, at this program: whether one or two data have a kind, or are null. Condition: their texts have at most 2^47 bytes.
-/
import Derived.Test.YtlodohgoondkhaaDoorRefCheck
import Derived.Test.YtlodohgoondkhaaDoorLogic
import Derived.Lib.SmallJoins
set_option linter.unusedVariables false
set_option linter.unusedSimpArgs false
namespace Go.Proofs.YtlodohgoondkhaaDoor
open Go.RowKit Go.Lib

/-- 1: one is null; 0: none; -1: they have not all the kind. -/
def ofS (kk : Int) (l : List Dat) : Int := if l.all (fitsD kk) then (if l.any (fun d => d.k == 1) then 1 else 0) else -1
theorem fits_no1 {kk k : Int} {b : Bool} {n : Int} {s : ByteArray} (h : ¬ chk ⟨k, b, n, s⟩ = 0) : fitsD kk ⟨k, b, n, s⟩ = false := by unfold fitsD okD; simp [h]
theorem fits_no2 {kk k : Int} {b : Bool} {n : Int} {s : ByteArray} (h : ¬ k = kk) (h1 : ¬ k = 1) : fitsD kk ⟨k, b, n, s⟩ = false := by unfold fitsD; simp [h, h1]
theorem fits_yes {kk k : Int} {b : Bool} {n : Int} {s : ByteArray} (h : chk ⟨k, b, n, s⟩ = 0) (h1 : k = kk ∨ k = 1) : fitsD kk ⟨k, b, n, s⟩ = true := by unfold fitsD okD; simp [h, h1]
theorem lt_of_blk {w : World} {b : Nat} {o : Obj} (h : w.heap[b]? = some o) : b < w.heap.size := (Array.getElem?_eq_some_iff.1 h).1

/-- What the rounds hold, at 1. -/
def RelO1 (kk : Int) (k0 : Int) (b0 : Bool) (n0 : Int) (s0 : ByteArray) (w0 : World) (z i : Value) (wr : World) : Prop := ((i = .int .i64 0 ∧ z = .int .i64 0) ∨ (i = .int .i64 1 ∧ z = .int .i64 (if ((k0 == 1)) = true then 1 else 0) ∧ fitsD kk ⟨k0, b0, n0, s0⟩ = true)) ∧ Below w0.heap.size w0 wr
set_option maxRecDepth 100000 in
set_option maxHeartbeats 8000000 in
theorem refOf1 (kk : Int) (k0 : Int) (b0 : Bool) (n0 : Int) (s0 : ByteArray) (bk : Nat) (T : TypeId) (w : World) (hbk : w.heap[bk]? = some (.cells #[.int .u8 k0, .bool b0, .int .i64 n0, .string s0] T (0, 0))) (hs0 : s0.size ≤ 140737488355328) :
    Calls Tryd.prog 83 #[.int .u8 kk, .slice (some ⟨bk, 0, none⟩) 1 1] w fun e w' => e = .returned (.int .i64 (ofS kk [⟨k0, b0, n0, s0⟩])) ∧ Below w.heap.size w w' := by
  obtain ⟨r, hr⟩ : ∃ r, ofS kk [⟨k0, b0, n0, s0⟩] = r := ⟨_, rfl⟩
  rw [hr]
  have hrH := Lib.hid hr
  clear hr
  have hbkH := Lib.hid hbk
  have hlt := Go.Proofs.YtlodohgoondkhaaDoor.lt_of_blk hbk
  clear hbk
  go_enter Tryd.func83, Tryd.ntmps83
  go_wp2_with fail
  go_loopw [5, 6] (fun z i wr => RelO1 kk k0 b0 n0 s0 w z i wr) (fun _ i _ => 1 - (Go.RowKit.intOf i).toNat)
  case atStart => exact ⟨.inl ⟨rfl, rfl⟩, Below.refl _ _⟩
  case round =>
    unfold RelO1 at hrel
    obtain ⟨hrel, hb0⟩ := hrel
    have hb0H := Lib.hid hb0
    have hwr : wr.heap[bk]? = some (.cells #[.int .u8 k0, .bool b0, .int .i64 n0, .string s0] T (0, 0)) := (hb0.block bk hlt).trans hbkH.out
    have hsz := hb0.size
    clear hb0
    rcases hrel with ⟨rfl, rfl⟩ | ⟨rfl, rfl, f0⟩
    · have hltr : bk < wr.heap.size := Nat.lt_of_lt_of_le hlt hsz
      have c0 : wr.cell? ⟨bk, 0, none⟩ = some (.int .u8 k0) := by rw [Go.Joins.cell_of_block hwr]; rfl
      have c1 : wr.cell? ⟨bk, 1, none⟩ = some (.bool b0) := by rw [Go.Joins.cell_of_block hwr]; rfl
      have c2 : wr.cell? ⟨bk, 2, none⟩ = some (.int .i64 n0) := by rw [Go.Joins.cell_of_block hwr]; rfl
      have c3 : wr.cell? ⟨bk, 3, none⟩ = some (.string s0) := by rw [Go.Joins.cell_of_block hwr]; rfl
      clear hwr 
      by_cases h0 : chk ⟨k0, b0, n0, s0⟩ = 0
      · have h0H := Lib.hid h0
        clear h0
        by_cases h1 : k0 = kk
        · have hg : (k0 != kk) = false := by simp [h1]
          by_cases h2 : k0 = 1
          · have hg2 : (k0 == 1) = true := by simp [h2]
            have hg3 : (k0 != 1) = false := by simp [h2]
            have h2H := Lib.hid h2; have h1H := Lib.hid h1; clear h1 h2
            go_wp2_with (go_at_call 17; go_must (refine (refCheck_any k0 b0 n0 s0 _ hs0).mono ?_; rw [h0H.out]; rintro e w' ⟨rfl, hb'⟩; have hb := hb0H.out.trans (hb'.mono hsz); have c0' : w'.cell? ⟨bk, 0, none⟩ = some (.int .u8 k0) := ((hb'.cell (p := ⟨bk, 0, none⟩) hltr).trans c0); clear hb' c0 c1 c2 c3))
            go_roundw
            case rel => exact ⟨.inr (⟨by go_num, (by simp_all), fits_yes h0H.out (.inl h1H.out)⟩), hb⟩
            case measure => simp [Go.RowKit.intOf]
          · have hg2 : (k0 == 1) = false := by simp [h2]
            have hg3 : (k0 != 1) = true := by simp [h2]
            have h2H := Lib.hid h2; have h1H := Lib.hid h1; clear h1 h2
            go_wp2_with (go_at_call 17; go_must (refine (refCheck_any k0 b0 n0 s0 _ hs0).mono ?_; rw [h0H.out]; rintro e w' ⟨rfl, hb'⟩; have hb := hb0H.out.trans (hb'.mono hsz); have c0' : w'.cell? ⟨bk, 0, none⟩ = some (.int .u8 k0) := ((hb'.cell (p := ⟨bk, 0, none⟩) hltr).trans c0); clear hb' c0 c1 c2 c3))
            go_roundw
            case rel => exact ⟨.inr (⟨by go_num, (by simp_all), fits_yes h0H.out (.inl h1H.out)⟩), hb⟩
            case measure => simp [Go.RowKit.intOf]
        · have hg : (k0 != kk) = true := by simp [h1]
          by_cases h2 : k0 = 1
          · have hg2 : (k0 == 1) = true := by simp [h2]
            have hg3 : (k0 != 1) = false := by simp [h2]
            have h2H := Lib.hid h2; have h1H := Lib.hid h1; clear h1 h2
            go_wp2_with (go_at_call 17; go_must (refine (refCheck_any k0 b0 n0 s0 _ hs0).mono ?_; rw [h0H.out]; rintro e w' ⟨rfl, hb'⟩; have hb := hb0H.out.trans (hb'.mono hsz); have c0' : w'.cell? ⟨bk, 0, none⟩ = some (.int .u8 k0) := ((hb'.cell (p := ⟨bk, 0, none⟩) hltr).trans c0); clear hb' c0 c1 c2 c3))
            go_roundw
            case rel => exact ⟨.inr (⟨by go_num, (by simp_all), fits_yes h0H.out (.inr h2H.out)⟩), hb⟩
            case measure => simp [Go.RowKit.intOf]
          · have hg2 : (k0 == 1) = false := by simp [h2]
            have hg3 : (k0 != 1) = true := by simp [h2]
            have h2H := Lib.hid h2; have h1H := Lib.hid h1; clear h1 h2
            go_wp2_with (go_at_call 17; go_must (refine (refCheck_any k0 b0 n0 s0 _ hs0).mono ?_; rw [h0H.out]; rintro e w' ⟨rfl, hb'⟩; have hb := hb0H.out.trans (hb'.mono hsz); have c0' : w'.cell? ⟨bk, 0, none⟩ = some (.int .u8 k0) := ((hb'.cell (p := ⟨bk, 0, none⟩) hltr).trans c0); clear hb' c0 c1 c2 c3))
            go_ret
            exact ⟨ret_i64 (by rw [← hrH.out]; unfold ofS; simp [fits_no2 h1H.out h2H.out]), hb⟩
      · have h0H := Lib.hid h0
        obtain ⟨u, hu⟩ : ∃ u, chk ⟨k0, b0, n0, s0⟩ = u := ⟨_, rfl⟩
        have huH := Lib.hid hu
        rw [hu] at h0
        have hg : (u != 0) = true := by simpa using h0
        clear h0 hu
        go_wp2_with (go_at_call 17; go_must (refine (refCheck_any k0 b0 n0 s0 _ hs0).mono ?_; rw [huH.out]; rintro e w' ⟨rfl, hb'⟩; have hb := hb0H.out.trans (hb'.mono hsz); have c0' : w'.cell? ⟨bk, 0, none⟩ = some (.int .u8 k0) := ((hb'.cell (p := ⟨bk, 0, none⟩) hltr).trans c0); clear hb' c0 c1 c2 c3))
        go_ret
        exact ⟨ret_i64 (by rw [← hrH.out]; unfold ofS; simp [fits_no1 h0H.out]), hb⟩
    · have z0H := Lib.hid f0; clear hwr f0
      obtain ⟨zz, hzz⟩ : ∃ zz, (if ((k0 == 1)) = true then (1 : Int) else 0) = zz := ⟨_, rfl⟩
      rw [hzz]
      have hzzH := Lib.hid hzz
      clear hzz
      go_wp2_with fail
      go_ret
      exact ⟨ret_i64 (by rw [← hrH.out, ← hzzH.out]; unfold ofS; simp [z0H.out]), hb0H.out⟩

/-- What the rounds hold, at 2. -/
def RelO2 (kk : Int) (k0 : Int) (b0 : Bool) (n0 : Int) (s0 : ByteArray) (k1 : Int) (b1 : Bool) (n1 : Int) (s1 : ByteArray) (w0 : World) (z i : Value) (wr : World) : Prop := ((i = .int .i64 0 ∧ z = .int .i64 0) ∨ (i = .int .i64 1 ∧ z = .int .i64 (if ((k0 == 1)) = true then 1 else 0) ∧ fitsD kk ⟨k0, b0, n0, s0⟩ = true) ∨ (i = .int .i64 2 ∧ z = .int .i64 (if ((k0 == 1) || (k1 == 1)) = true then 1 else 0) ∧ fitsD kk ⟨k0, b0, n0, s0⟩ = true ∧ fitsD kk ⟨k1, b1, n1, s1⟩ = true)) ∧ Below w0.heap.size w0 wr
set_option maxRecDepth 100000 in
set_option maxHeartbeats 8000000 in
theorem refOf2 (kk : Int) (k0 : Int) (b0 : Bool) (n0 : Int) (s0 : ByteArray) (k1 : Int) (b1 : Bool) (n1 : Int) (s1 : ByteArray) (bk : Nat) (T : TypeId) (w : World) (hbk : w.heap[bk]? = some (.cells #[.int .u8 k0, .bool b0, .int .i64 n0, .string s0, .int .u8 k1, .bool b1, .int .i64 n1, .string s1] T (0, 0))) (hs0 : s0.size ≤ 140737488355328) (hs1 : s1.size ≤ 140737488355328) :
    Calls Tryd.prog 83 #[.int .u8 kk, .slice (some ⟨bk, 0, none⟩) 2 2] w fun e w' => e = .returned (.int .i64 (ofS kk [⟨k0, b0, n0, s0⟩, ⟨k1, b1, n1, s1⟩])) ∧ Below w.heap.size w w' := by
  obtain ⟨r, hr⟩ : ∃ r, ofS kk [⟨k0, b0, n0, s0⟩, ⟨k1, b1, n1, s1⟩] = r := ⟨_, rfl⟩
  rw [hr]
  have hrH := Lib.hid hr
  clear hr
  have hbkH := Lib.hid hbk
  have hlt := Go.Proofs.YtlodohgoondkhaaDoor.lt_of_blk hbk
  clear hbk
  go_enter Tryd.func83, Tryd.ntmps83
  go_wp2_with fail
  go_loopw [5, 6] (fun z i wr => RelO2 kk k0 b0 n0 s0 k1 b1 n1 s1 w z i wr) (fun _ i _ => 2 - (Go.RowKit.intOf i).toNat)
  case atStart => exact ⟨.inl ⟨rfl, rfl⟩, Below.refl _ _⟩
  case round =>
    unfold RelO2 at hrel
    obtain ⟨hrel, hb0⟩ := hrel
    have hb0H := Lib.hid hb0
    have hwr : wr.heap[bk]? = some (.cells #[.int .u8 k0, .bool b0, .int .i64 n0, .string s0, .int .u8 k1, .bool b1, .int .i64 n1, .string s1] T (0, 0)) := (hb0.block bk hlt).trans hbkH.out
    have hsz := hb0.size
    clear hb0
    rcases hrel with ⟨rfl, rfl⟩ | ⟨rfl, rfl, f0⟩ | ⟨rfl, rfl, f0, f1⟩
    · have hltr : bk < wr.heap.size := Nat.lt_of_lt_of_le hlt hsz
      have c0 : wr.cell? ⟨bk, 0, none⟩ = some (.int .u8 k0) := by rw [Go.Joins.cell_of_block hwr]; rfl
      have c1 : wr.cell? ⟨bk, 1, none⟩ = some (.bool b0) := by rw [Go.Joins.cell_of_block hwr]; rfl
      have c2 : wr.cell? ⟨bk, 2, none⟩ = some (.int .i64 n0) := by rw [Go.Joins.cell_of_block hwr]; rfl
      have c3 : wr.cell? ⟨bk, 3, none⟩ = some (.string s0) := by rw [Go.Joins.cell_of_block hwr]; rfl
      clear hwr 
      by_cases h0 : chk ⟨k0, b0, n0, s0⟩ = 0
      · have h0H := Lib.hid h0
        clear h0
        by_cases h1 : k0 = kk
        · have hg : (k0 != kk) = false := by simp [h1]
          by_cases h2 : k0 = 1
          · have hg2 : (k0 == 1) = true := by simp [h2]
            have hg3 : (k0 != 1) = false := by simp [h2]
            have h2H := Lib.hid h2; have h1H := Lib.hid h1; clear h1 h2
            go_wp2_with (go_at_call 17; go_must (refine (refCheck_any k0 b0 n0 s0 _ hs0).mono ?_; rw [h0H.out]; rintro e w' ⟨rfl, hb'⟩; have hb := hb0H.out.trans (hb'.mono hsz); have c0' : w'.cell? ⟨bk, 0, none⟩ = some (.int .u8 k0) := ((hb'.cell (p := ⟨bk, 0, none⟩) hltr).trans c0); clear hb' c0 c1 c2 c3))
            go_roundw
            case rel => exact ⟨.inr (.inl ⟨by go_num, (by simp_all), fits_yes h0H.out (.inl h1H.out)⟩), hb⟩
            case measure => simp [Go.RowKit.intOf]
          · have hg2 : (k0 == 1) = false := by simp [h2]
            have hg3 : (k0 != 1) = true := by simp [h2]
            have h2H := Lib.hid h2; have h1H := Lib.hid h1; clear h1 h2
            go_wp2_with (go_at_call 17; go_must (refine (refCheck_any k0 b0 n0 s0 _ hs0).mono ?_; rw [h0H.out]; rintro e w' ⟨rfl, hb'⟩; have hb := hb0H.out.trans (hb'.mono hsz); have c0' : w'.cell? ⟨bk, 0, none⟩ = some (.int .u8 k0) := ((hb'.cell (p := ⟨bk, 0, none⟩) hltr).trans c0); clear hb' c0 c1 c2 c3))
            go_roundw
            case rel => exact ⟨.inr (.inl ⟨by go_num, (by simp_all), fits_yes h0H.out (.inl h1H.out)⟩), hb⟩
            case measure => simp [Go.RowKit.intOf]
        · have hg : (k0 != kk) = true := by simp [h1]
          by_cases h2 : k0 = 1
          · have hg2 : (k0 == 1) = true := by simp [h2]
            have hg3 : (k0 != 1) = false := by simp [h2]
            have h2H := Lib.hid h2; have h1H := Lib.hid h1; clear h1 h2
            go_wp2_with (go_at_call 17; go_must (refine (refCheck_any k0 b0 n0 s0 _ hs0).mono ?_; rw [h0H.out]; rintro e w' ⟨rfl, hb'⟩; have hb := hb0H.out.trans (hb'.mono hsz); have c0' : w'.cell? ⟨bk, 0, none⟩ = some (.int .u8 k0) := ((hb'.cell (p := ⟨bk, 0, none⟩) hltr).trans c0); clear hb' c0 c1 c2 c3))
            go_roundw
            case rel => exact ⟨.inr (.inl ⟨by go_num, (by simp_all), fits_yes h0H.out (.inr h2H.out)⟩), hb⟩
            case measure => simp [Go.RowKit.intOf]
          · have hg2 : (k0 == 1) = false := by simp [h2]
            have hg3 : (k0 != 1) = true := by simp [h2]
            have h2H := Lib.hid h2; have h1H := Lib.hid h1; clear h1 h2
            go_wp2_with (go_at_call 17; go_must (refine (refCheck_any k0 b0 n0 s0 _ hs0).mono ?_; rw [h0H.out]; rintro e w' ⟨rfl, hb'⟩; have hb := hb0H.out.trans (hb'.mono hsz); have c0' : w'.cell? ⟨bk, 0, none⟩ = some (.int .u8 k0) := ((hb'.cell (p := ⟨bk, 0, none⟩) hltr).trans c0); clear hb' c0 c1 c2 c3))
            go_ret
            exact ⟨ret_i64 (by rw [← hrH.out]; unfold ofS; simp [fits_no2 h1H.out h2H.out]), hb⟩
      · have h0H := Lib.hid h0
        obtain ⟨u, hu⟩ : ∃ u, chk ⟨k0, b0, n0, s0⟩ = u := ⟨_, rfl⟩
        have huH := Lib.hid hu
        rw [hu] at h0
        have hg : (u != 0) = true := by simpa using h0
        clear h0 hu
        go_wp2_with (go_at_call 17; go_must (refine (refCheck_any k0 b0 n0 s0 _ hs0).mono ?_; rw [huH.out]; rintro e w' ⟨rfl, hb'⟩; have hb := hb0H.out.trans (hb'.mono hsz); have c0' : w'.cell? ⟨bk, 0, none⟩ = some (.int .u8 k0) := ((hb'.cell (p := ⟨bk, 0, none⟩) hltr).trans c0); clear hb' c0 c1 c2 c3))
        go_ret
        exact ⟨ret_i64 (by rw [← hrH.out]; unfold ofS; simp [fits_no1 h0H.out]), hb⟩
    · have z0H := Lib.hid f0; have hltr : bk < wr.heap.size := Nat.lt_of_lt_of_le hlt hsz
      have c0 : wr.cell? ⟨bk, 4, none⟩ = some (.int .u8 k1) := by rw [Go.Joins.cell_of_block hwr]; rfl
      have c1 : wr.cell? ⟨bk, 5, none⟩ = some (.bool b1) := by rw [Go.Joins.cell_of_block hwr]; rfl
      have c2 : wr.cell? ⟨bk, 6, none⟩ = some (.int .i64 n1) := by rw [Go.Joins.cell_of_block hwr]; rfl
      have c3 : wr.cell? ⟨bk, 7, none⟩ = some (.string s1) := by rw [Go.Joins.cell_of_block hwr]; rfl
      clear hwr f0
      obtain ⟨zz, hzz⟩ : ∃ zz, (if ((k0 == 1)) = true then (1 : Int) else 0) = zz := ⟨_, rfl⟩
      rw [hzz]
      have hzzH := Lib.hid hzz
      clear hzz
      by_cases h0 : chk ⟨k1, b1, n1, s1⟩ = 0
      · have h0H := Lib.hid h0
        clear h0
        by_cases h1 : k1 = kk
        · have hg : (k1 != kk) = false := by simp [h1]
          by_cases h2 : k1 = 1
          · have hg2 : (k1 == 1) = true := by simp [h2]
            have hg3 : (k1 != 1) = false := by simp [h2]
            have h2H := Lib.hid h2; have h1H := Lib.hid h1; clear h1 h2
            go_wp2_with (go_at_call 17; go_must (refine (refCheck_any k1 b1 n1 s1 _ hs1).mono ?_; rw [h0H.out]; rintro e w' ⟨rfl, hb'⟩; have hb := hb0H.out.trans (hb'.mono hsz); have c0' : w'.cell? ⟨bk, 4, none⟩ = some (.int .u8 k1) := ((hb'.cell (p := ⟨bk, 4, none⟩) hltr).trans c0); clear hb' c0 c1 c2 c3))
            go_roundw
            case rel => exact ⟨.inr (.inr (⟨by go_num, (by have hzz := hzzH.out; simp_all), z0H.out, fits_yes h0H.out (.inl h1H.out)⟩)), hb⟩
            case measure => simp [Go.RowKit.intOf]
          · have hg2 : (k1 == 1) = false := by simp [h2]
            have hg3 : (k1 != 1) = true := by simp [h2]
            have h2H := Lib.hid h2; have h1H := Lib.hid h1; clear h1 h2
            go_wp2_with (go_at_call 17; go_must (refine (refCheck_any k1 b1 n1 s1 _ hs1).mono ?_; rw [h0H.out]; rintro e w' ⟨rfl, hb'⟩; have hb := hb0H.out.trans (hb'.mono hsz); have c0' : w'.cell? ⟨bk, 4, none⟩ = some (.int .u8 k1) := ((hb'.cell (p := ⟨bk, 4, none⟩) hltr).trans c0); clear hb' c0 c1 c2 c3))
            go_roundw
            case rel => exact ⟨.inr (.inr (⟨by go_num, (by have hzz := hzzH.out; simp_all), z0H.out, fits_yes h0H.out (.inl h1H.out)⟩)), hb⟩
            case measure => simp [Go.RowKit.intOf]
        · have hg : (k1 != kk) = true := by simp [h1]
          by_cases h2 : k1 = 1
          · have hg2 : (k1 == 1) = true := by simp [h2]
            have hg3 : (k1 != 1) = false := by simp [h2]
            have h2H := Lib.hid h2; have h1H := Lib.hid h1; clear h1 h2
            go_wp2_with (go_at_call 17; go_must (refine (refCheck_any k1 b1 n1 s1 _ hs1).mono ?_; rw [h0H.out]; rintro e w' ⟨rfl, hb'⟩; have hb := hb0H.out.trans (hb'.mono hsz); have c0' : w'.cell? ⟨bk, 4, none⟩ = some (.int .u8 k1) := ((hb'.cell (p := ⟨bk, 4, none⟩) hltr).trans c0); clear hb' c0 c1 c2 c3))
            go_roundw
            case rel => exact ⟨.inr (.inr (⟨by go_num, (by have hzz := hzzH.out; simp_all), z0H.out, fits_yes h0H.out (.inr h2H.out)⟩)), hb⟩
            case measure => simp [Go.RowKit.intOf]
          · have hg2 : (k1 == 1) = false := by simp [h2]
            have hg3 : (k1 != 1) = true := by simp [h2]
            have h2H := Lib.hid h2; have h1H := Lib.hid h1; clear h1 h2
            go_wp2_with (go_at_call 17; go_must (refine (refCheck_any k1 b1 n1 s1 _ hs1).mono ?_; rw [h0H.out]; rintro e w' ⟨rfl, hb'⟩; have hb := hb0H.out.trans (hb'.mono hsz); have c0' : w'.cell? ⟨bk, 4, none⟩ = some (.int .u8 k1) := ((hb'.cell (p := ⟨bk, 4, none⟩) hltr).trans c0); clear hb' c0 c1 c2 c3))
            go_ret
            exact ⟨ret_i64 (by rw [← hrH.out]; unfold ofS; simp [fits_no2 h1H.out h2H.out]), hb⟩
      · have h0H := Lib.hid h0
        obtain ⟨u, hu⟩ : ∃ u, chk ⟨k1, b1, n1, s1⟩ = u := ⟨_, rfl⟩
        have huH := Lib.hid hu
        rw [hu] at h0
        have hg : (u != 0) = true := by simpa using h0
        clear h0 hu
        go_wp2_with (go_at_call 17; go_must (refine (refCheck_any k1 b1 n1 s1 _ hs1).mono ?_; rw [huH.out]; rintro e w' ⟨rfl, hb'⟩; have hb := hb0H.out.trans (hb'.mono hsz); have c0' : w'.cell? ⟨bk, 4, none⟩ = some (.int .u8 k1) := ((hb'.cell (p := ⟨bk, 4, none⟩) hltr).trans c0); clear hb' c0 c1 c2 c3))
        go_ret
        exact ⟨ret_i64 (by rw [← hrH.out]; unfold ofS; simp [fits_no1 h0H.out]), hb⟩
    · have z0H := Lib.hid f0; have z1H := Lib.hid f1; clear hwr f0 f1
      obtain ⟨zz, hzz⟩ : ∃ zz, (if ((k0 == 1) || (k1 == 1)) = true then (1 : Int) else 0) = zz := ⟨_, rfl⟩
      rw [hzz]
      have hzzH := Lib.hid hzz
      clear hzz
      go_wp2_with fail
      go_ret
      exact ⟨ret_i64 (by rw [← hrH.out, ← hzzH.out]; unfold ofS; simp [z0H.out, z1H.out]), hb0H.out⟩

end Go.Proofs.YtlodohgoondkhaaDoor
