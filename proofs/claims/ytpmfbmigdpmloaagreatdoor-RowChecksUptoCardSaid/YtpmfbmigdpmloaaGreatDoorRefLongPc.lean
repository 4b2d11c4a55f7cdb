/-
  Texts that belong together: RefLong. What each one says stands ahead of it.
-/
import Derived.Test.YtpmfbmigdpmloaaGreatDoorRuneSPc
import Derived.Test.YtpmfbmigdpmloaaGreatDoorProg
import Derived.WalkKit
import Derived.WalkLawsBesides
import Derived.WalkSpells
import Derived.Handy
/-
  What the document's reader of one rune answers, at this program, at every place of every text. No condition.
-/
set_option linter.unusedVariables false
set_option linter.unusedSimpArgs false
namespace Go.Proofs.YtpmfbmigdpmloaaGreatDoor
open Go.RowKit Go.Lib

theorem idx_run (s : ByteArray) (p : Nat) (z : Int) (hz : z = (p : Int)) (h : p < s.size) (w : World) : (Instr.index 9 (.string s) (.int .i64 z)).run Tryz.prog w = .ok (.int .u8 (bt s p : Int)) w := by
  subst hz
  rw [run_index_string w 9 s .i64 (p : Int) Tryz.underlying9, dif_pos ⟨by omega, by omega⟩]
  have : s.get! p = s[p]'h := by
    rcases s with ⟨a⟩
    simp only [ByteArray.get!, ByteArray.getElem_eq_getElem_data]
    exact getElem!_pos a p h
  simp only [bt, this, Int.toNat_natCast]
theorem ret_i64 {a b : Int} (h : a = b) : Ending.returned (.int .i64 a) = .returned (.int .i64 b) := by rw [h]

set_option maxRecDepth 100000 in
set_option maxHeartbeats 4000000 in
theorem long_one (s : ByteArray) (p : Nat) (w : World) (hp : p < s.size) (hs : s.size ≤ 140737488355328) (hcl : bt s p < 194 ∨ 245 ≤ bt s p) :
    Calls Tryz.prog 92 #[.string s, .int .i64 (p : Int)] w fun e w' => e = .returned (.int .i64 (longS s p : Int)) ∧ Below w.heap.size w w' := by
  obtain ⟨r, hr⟩ : ∃ r, longS s p = r := ⟨_, rfl⟩
  rw [hr]
  unfold longS at hr
  have x0 := idx_run s p (p : Int) rfl hp
  obtain ⟨c0, hc0⟩ : ∃ c, bt s p = c := ⟨_, rfl⟩
  obtain ⟨c1, hc1⟩ : ∃ c, bt s (p + 1) = c := ⟨_, rfl⟩
  obtain ⟨c2, hc2⟩ : ∃ c, bt s (p + 2) = c := ⟨_, rfl⟩
  obtain ⟨c3, hc3⟩ : ∃ c, bt s (p + 3) = c := ⟨_, rfl⟩
  have g0 := bt_lt s p; have g1 := bt_lt s (p + 1); have g2 := bt_lt s (p + 2); have g3 := bt_lt s (p + 3)
  rw [hc0] at g0; rw [hc1] at g1; rw [hc2] at g2; rw [hc3] at g3
  rw [hc0, hc1, hc2, hc3] at hr
  rw [hc0] at x0 hcl
  clear hc0 hc1 hc2 hc3
  have hrH := Lib.hid hr
  clear hr
  rcases (show c0 < 128 ∨ (128 ≤ c0 ∧ c0 < 194) ∨ 245 ≤ c0 by omega) with h | h | h
  all_goals
    go_enter Tryz.func92, Tryz.ntmps92
    go_wp2
    all_goals (go_ret; refine ⟨ret_i64 ?_, by go_grown⟩; rw [← hrH.out]; unfold longN; (repeat' split) <;> omega)

set_option maxRecDepth 100000 in
set_option maxHeartbeats 4000000 in
theorem long_short2 (s : ByteArray) (p : Nat) (w : World) (hp : p < s.size) (hs : s.size ≤ 140737488355328) (hcl : 194 ≤ bt s p ∧ bt s p < 224) (hn : s.size < p + 2) :
    Calls Tryz.prog 92 #[.string s, .int .i64 (p : Int)] w fun e w' => e = .returned (.int .i64 (longS s p : Int)) ∧ Below w.heap.size w w' := by
  obtain ⟨r, hr⟩ : ∃ r, longS s p = r := ⟨_, rfl⟩
  rw [hr]
  unfold longS at hr
  have x0 := idx_run s p (p : Int) rfl hp
  obtain ⟨c0, hc0⟩ : ∃ c, bt s p = c := ⟨_, rfl⟩
  obtain ⟨c1, hc1⟩ : ∃ c, bt s (p + 1) = c := ⟨_, rfl⟩
  obtain ⟨c2, hc2⟩ : ∃ c, bt s (p + 2) = c := ⟨_, rfl⟩
  obtain ⟨c3, hc3⟩ : ∃ c, bt s (p + 3) = c := ⟨_, rfl⟩
  have g0 := bt_lt s p; have g1 := bt_lt s (p + 1); have g2 := bt_lt s (p + 2); have g3 := bt_lt s (p + 3)
  rw [hc0] at g0; rw [hc1] at g1; rw [hc2] at g2; rw [hc3] at g3
  rw [hc0, hc1, hc2, hc3] at hr
  rw [hc0] at x0 hcl
  clear hc0 hc1 hc2 hc3
  have hrH := Lib.hid hr
  clear hr
  obtain ⟨h1, h2⟩ := hcl
  go_enter Tryz.func92, Tryz.ntmps92
  go_wp2
  all_goals first
    | (exfalso; omega)
    | (go_ret; refine ⟨ret_i64 ?_, by go_grown⟩; rw [← hrH.out]; unfold longN; (repeat' split) <;> omega)

/-- What the rounds of the reader hold, at 2 bytes. -/
def RelL2 (c0 c1 c2 c3 : Nat) (v i : Value) : Prop := (i = .int .i64 1 ∧ v = .int .i64 ((c0 : Int) - 192)) ∨ (i = .int .i64 2 ∧ v = .int .i64 (64 * ((c0 : Int) - 192) + (c1 : Int) - 128) ∧ 128 ≤ c1 ∧ c1 < 192)
set_option maxRecDepth 100000 in
set_option maxHeartbeats 4000000 in
theorem long_2 (s : ByteArray) (p : Nat) (w : World) (hp : p < s.size) (hs : s.size ≤ 140737488355328) (hcl : 194 ≤ bt s p ∧ bt s p < 224) (hn : p + 2 ≤ s.size) :
    Calls Tryz.prog 92 #[.string s, .int .i64 (p : Int)] w fun e w' => e = .returned (.int .i64 (longS s p : Int)) ∧ Below w.heap.size w w' := by
  obtain ⟨r, hr⟩ : ∃ r, longS s p = r := ⟨_, rfl⟩
  rw [hr]
  unfold longS at hr
  have x0 := idx_run s p (p : Int) rfl hp
  have x1 := idx_run s (p + 1) ((p : Int) + 1) (by omega) (by omega)
  obtain ⟨c0, hc0⟩ : ∃ c, bt s p = c := ⟨_, rfl⟩
  obtain ⟨c1, hc1⟩ : ∃ c, bt s (p + 1) = c := ⟨_, rfl⟩
  obtain ⟨c2, hc2⟩ : ∃ c, bt s (p + 2) = c := ⟨_, rfl⟩
  obtain ⟨c3, hc3⟩ : ∃ c, bt s (p + 3) = c := ⟨_, rfl⟩
  have g0 := bt_lt s p; have g1 := bt_lt s (p + 1); have g2 := bt_lt s (p + 2); have g3 := bt_lt s (p + 3)
  rw [hc0] at g0; rw [hc1] at g1; rw [hc2] at g2; rw [hc3] at g3
  rw [hc0, hc1, hc2, hc3] at hr
  rw [hc0] at x0 hcl
  rw [hc1] at x1
  clear hc0 hc1 hc2 hc3
  have hrH := Lib.hid hr
  clear hr
  obtain ⟨h1, h2⟩ := hcl
  go_enter Tryz.func92, Tryz.ntmps92
  go_wp2
  (try generalize decide ((c0 : Int) < 128) = d1)
  (try generalize decide ((c0 : Int) < 224) = d2)
  (try generalize decide ((c0 : Int) < 240) = d3)
  (try generalize decide ((c0 : Int) < 245) = d4)
  go_loopw [7, 8] (fun v i wr => w = wr ∧ RelL2 c0 c1 c2 c3 v i) (fun _ i _ => 2 - (intOf i).toNat)
  case atStart => exact ⟨rfl, .inl ⟨rfl, rfl⟩⟩
  case round =>
    obtain ⟨rfl, hrel⟩ := hrel
    unfold RelL2 at hrel
    rcases hrel with ⟨rfl, rfl⟩ | ⟨rfl, rfl, u1, t1⟩
    · rcases (show (c1 < 128 ∨ 192 ≤ c1) ∨ (128 ≤ c1 ∧ c1 < 192) by omega) with hb | ⟨hb1, hb2⟩
      · go_wp2
        all_goals first | (go_ret; refine ⟨ret_i64 ?_, by go_grown⟩; rw [← hrH.out]; unfold longN; (repeat' split) <;> omega) | (exfalso; omega)
      · go_wp2
        all_goals first
          | (go_roundw
             case rel => first | exact ⟨rfl, .inr (⟨by go_num, by go_num, hb1, hb2⟩)⟩ | exact ⟨trivial, .inr (⟨by go_num, by go_num, hb1, hb2⟩)⟩ | ((repeat apply Exists.intro); first | exact ⟨⟨rfl, .inr (⟨by go_num, by go_num, hb1, hb2⟩)⟩, rfl⟩ | exact ⟨⟨trivial, .inr (⟨by go_num, by go_num, hb1, hb2⟩)⟩, rfl⟩ | exact ⟨.inr (⟨by go_num, by go_num, hb1, hb2⟩), rfl⟩)
             case measure => simp [intOf])
          | (exfalso; omega)
    · go_wp2
      all_goals (go_ret; refine ⟨ret_i64 ?_, by go_grown⟩; rw [← hrH.out]; unfold longN; (repeat' split) <;> omega)

set_option maxRecDepth 100000 in
set_option maxHeartbeats 4000000 in
theorem long_short3 (s : ByteArray) (p : Nat) (w : World) (hp : p < s.size) (hs : s.size ≤ 140737488355328) (hcl : 224 ≤ bt s p ∧ bt s p < 240) (hn : s.size < p + 3) :
    Calls Tryz.prog 92 #[.string s, .int .i64 (p : Int)] w fun e w' => e = .returned (.int .i64 (longS s p : Int)) ∧ Below w.heap.size w w' := by
  obtain ⟨r, hr⟩ : ∃ r, longS s p = r := ⟨_, rfl⟩
  rw [hr]
  unfold longS at hr
  have x0 := idx_run s p (p : Int) rfl hp
  obtain ⟨c0, hc0⟩ : ∃ c, bt s p = c := ⟨_, rfl⟩
  obtain ⟨c1, hc1⟩ : ∃ c, bt s (p + 1) = c := ⟨_, rfl⟩
  obtain ⟨c2, hc2⟩ : ∃ c, bt s (p + 2) = c := ⟨_, rfl⟩
  obtain ⟨c3, hc3⟩ : ∃ c, bt s (p + 3) = c := ⟨_, rfl⟩
  have g0 := bt_lt s p; have g1 := bt_lt s (p + 1); have g2 := bt_lt s (p + 2); have g3 := bt_lt s (p + 3)
  rw [hc0] at g0; rw [hc1] at g1; rw [hc2] at g2; rw [hc3] at g3
  rw [hc0, hc1, hc2, hc3] at hr
  rw [hc0] at x0 hcl
  clear hc0 hc1 hc2 hc3
  have hrH := Lib.hid hr
  clear hr
  obtain ⟨h1, h2⟩ := hcl
  go_enter Tryz.func92, Tryz.ntmps92
  go_wp2
  all_goals first
    | (exfalso; omega)
    | (go_ret; refine ⟨ret_i64 ?_, by go_grown⟩; rw [← hrH.out]; unfold longN; (repeat' split) <;> omega)

/-- What the rounds of the reader hold, at 3 bytes. -/
def RelL3 (c0 c1 c2 c3 : Nat) (v i : Value) : Prop := (i = .int .i64 1 ∧ v = .int .i64 ((c0 : Int) - 224)) ∨ (i = .int .i64 2 ∧ v = .int .i64 (64 * ((c0 : Int) - 224) + (c1 : Int) - 128) ∧ 128 ≤ c1 ∧ c1 < 192) ∨ (i = .int .i64 3 ∧ v = .int .i64 (64 * (64 * ((c0 : Int) - 224) + (c1 : Int) - 128) + (c2 : Int) - 128) ∧ 128 ≤ c1 ∧ c1 < 192 ∧ 128 ≤ c2 ∧ c2 < 192)
set_option maxRecDepth 100000 in
set_option maxHeartbeats 4000000 in
theorem long_3 (s : ByteArray) (p : Nat) (w : World) (hp : p < s.size) (hs : s.size ≤ 140737488355328) (hcl : 224 ≤ bt s p ∧ bt s p < 240) (hn : p + 3 ≤ s.size) :
    Calls Tryz.prog 92 #[.string s, .int .i64 (p : Int)] w fun e w' => e = .returned (.int .i64 (longS s p : Int)) ∧ Below w.heap.size w w' := by
  obtain ⟨r, hr⟩ : ∃ r, longS s p = r := ⟨_, rfl⟩
  rw [hr]
  unfold longS at hr
  have x0 := idx_run s p (p : Int) rfl hp
  have x1 := idx_run s (p + 1) ((p : Int) + 1) (by omega) (by omega)
  have x2 := idx_run s (p + 2) ((p : Int) + 2) (by omega) (by omega)
  obtain ⟨c0, hc0⟩ : ∃ c, bt s p = c := ⟨_, rfl⟩
  obtain ⟨c1, hc1⟩ : ∃ c, bt s (p + 1) = c := ⟨_, rfl⟩
  obtain ⟨c2, hc2⟩ : ∃ c, bt s (p + 2) = c := ⟨_, rfl⟩
  obtain ⟨c3, hc3⟩ : ∃ c, bt s (p + 3) = c := ⟨_, rfl⟩
  have g0 := bt_lt s p; have g1 := bt_lt s (p + 1); have g2 := bt_lt s (p + 2); have g3 := bt_lt s (p + 3)
  rw [hc0] at g0; rw [hc1] at g1; rw [hc2] at g2; rw [hc3] at g3
  rw [hc0, hc1, hc2, hc3] at hr
  rw [hc0] at x0 hcl
  rw [hc1] at x1
  rw [hc2] at x2
  clear hc0 hc1 hc2 hc3
  have hrH := Lib.hid hr
  clear hr
  obtain ⟨h1, h2⟩ := hcl
  go_enter Tryz.func92, Tryz.ntmps92
  go_wp2
  (try generalize decide ((c0 : Int) < 128) = d1)
  (try generalize decide ((c0 : Int) < 224) = d2)
  (try generalize decide ((c0 : Int) < 240) = d3)
  (try generalize decide ((c0 : Int) < 245) = d4)
  go_loopw [7, 8] (fun v i wr => w = wr ∧ RelL3 c0 c1 c2 c3 v i) (fun _ i _ => 3 - (intOf i).toNat)
  case atStart => exact ⟨rfl, .inl ⟨rfl, rfl⟩⟩
  case round =>
    obtain ⟨rfl, hrel⟩ := hrel
    unfold RelL3 at hrel
    rcases hrel with ⟨rfl, rfl⟩ | ⟨rfl, rfl, u1, t1⟩ | ⟨rfl, rfl, u1, t1, u2, t2⟩
    · rcases (show (c1 < 128 ∨ 192 ≤ c1) ∨ (128 ≤ c1 ∧ c1 < 192) by omega) with hb | ⟨hb1, hb2⟩
      · go_wp2
        all_goals first | (go_ret; refine ⟨ret_i64 ?_, by go_grown⟩; rw [← hrH.out]; unfold longN; (repeat' split) <;> omega) | (exfalso; omega)
      · go_wp2
        all_goals first
          | (go_roundw
             case rel => first | exact ⟨rfl, .inr (.inl ⟨by go_num, by go_num, hb1, hb2⟩)⟩ | exact ⟨trivial, .inr (.inl ⟨by go_num, by go_num, hb1, hb2⟩)⟩ | ((repeat apply Exists.intro); first | exact ⟨⟨rfl, .inr (.inl ⟨by go_num, by go_num, hb1, hb2⟩)⟩, rfl⟩ | exact ⟨⟨trivial, .inr (.inl ⟨by go_num, by go_num, hb1, hb2⟩)⟩, rfl⟩ | exact ⟨.inr (.inl ⟨by go_num, by go_num, hb1, hb2⟩), rfl⟩)
             case measure => simp [intOf])
          | (exfalso; omega)
    · rcases (show (c2 < 128 ∨ 192 ≤ c2) ∨ (128 ≤ c2 ∧ c2 < 192) by omega) with hb | ⟨hb1, hb2⟩
      · go_wp2
        all_goals first | (go_ret; refine ⟨ret_i64 ?_, by go_grown⟩; rw [← hrH.out]; unfold longN; (repeat' split) <;> omega) | (exfalso; omega)
      · go_wp2
        all_goals first
          | (go_roundw
             case rel => first | exact ⟨rfl, .inr (.inr (⟨by go_num, by go_num, u1, t1, hb1, hb2⟩))⟩ | exact ⟨trivial, .inr (.inr (⟨by go_num, by go_num, u1, t1, hb1, hb2⟩))⟩ | ((repeat apply Exists.intro); first | exact ⟨⟨rfl, .inr (.inr (⟨by go_num, by go_num, u1, t1, hb1, hb2⟩))⟩, rfl⟩ | exact ⟨⟨trivial, .inr (.inr (⟨by go_num, by go_num, u1, t1, hb1, hb2⟩))⟩, rfl⟩ | exact ⟨.inr (.inr (⟨by go_num, by go_num, u1, t1, hb1, hb2⟩)), rfl⟩)
             case measure => simp [intOf])
          | (exfalso; omega)
    · go_wp2
      all_goals (go_ret; refine ⟨ret_i64 ?_, by go_grown⟩; rw [← hrH.out]; unfold longN; (repeat' split) <;> omega)

set_option maxRecDepth 100000 in
set_option maxHeartbeats 4000000 in
theorem long_short4 (s : ByteArray) (p : Nat) (w : World) (hp : p < s.size) (hs : s.size ≤ 140737488355328) (hcl : 240 ≤ bt s p ∧ bt s p < 245) (hn : s.size < p + 4) :
    Calls Tryz.prog 92 #[.string s, .int .i64 (p : Int)] w fun e w' => e = .returned (.int .i64 (longS s p : Int)) ∧ Below w.heap.size w w' := by
  obtain ⟨r, hr⟩ : ∃ r, longS s p = r := ⟨_, rfl⟩
  rw [hr]
  unfold longS at hr
  have x0 := idx_run s p (p : Int) rfl hp
  obtain ⟨c0, hc0⟩ : ∃ c, bt s p = c := ⟨_, rfl⟩
  obtain ⟨c1, hc1⟩ : ∃ c, bt s (p + 1) = c := ⟨_, rfl⟩
  obtain ⟨c2, hc2⟩ : ∃ c, bt s (p + 2) = c := ⟨_, rfl⟩
  obtain ⟨c3, hc3⟩ : ∃ c, bt s (p + 3) = c := ⟨_, rfl⟩
  have g0 := bt_lt s p; have g1 := bt_lt s (p + 1); have g2 := bt_lt s (p + 2); have g3 := bt_lt s (p + 3)
  rw [hc0] at g0; rw [hc1] at g1; rw [hc2] at g2; rw [hc3] at g3
  rw [hc0, hc1, hc2, hc3] at hr
  rw [hc0] at x0 hcl
  clear hc0 hc1 hc2 hc3
  have hrH := Lib.hid hr
  clear hr
  obtain ⟨h1, h2⟩ := hcl
  go_enter Tryz.func92, Tryz.ntmps92
  go_wp2
  all_goals first
    | (exfalso; omega)
    | (go_ret; refine ⟨ret_i64 ?_, by go_grown⟩; rw [← hrH.out]; unfold longN; (repeat' split) <;> omega)

/-- What the rounds of the reader hold, at 4 bytes. -/
def RelL4 (c0 c1 c2 c3 : Nat) (v i : Value) : Prop := (i = .int .i64 1 ∧ v = .int .i64 ((c0 : Int) - 240)) ∨ (i = .int .i64 2 ∧ v = .int .i64 (64 * ((c0 : Int) - 240) + (c1 : Int) - 128) ∧ 128 ≤ c1 ∧ c1 < 192) ∨ (i = .int .i64 3 ∧ v = .int .i64 (64 * (64 * ((c0 : Int) - 240) + (c1 : Int) - 128) + (c2 : Int) - 128) ∧ 128 ≤ c1 ∧ c1 < 192 ∧ 128 ≤ c2 ∧ c2 < 192) ∨ (i = .int .i64 4 ∧ v = .int .i64 (64 * (64 * (64 * ((c0 : Int) - 240) + (c1 : Int) - 128) + (c2 : Int) - 128) + (c3 : Int) - 128) ∧ 128 ≤ c1 ∧ c1 < 192 ∧ 128 ≤ c2 ∧ c2 < 192 ∧ 128 ≤ c3 ∧ c3 < 192)
set_option maxRecDepth 100000 in
set_option maxHeartbeats 4000000 in
theorem long_4 (s : ByteArray) (p : Nat) (w : World) (hp : p < s.size) (hs : s.size ≤ 140737488355328) (hcl : 240 ≤ bt s p ∧ bt s p < 245) (hn : p + 4 ≤ s.size) :
    Calls Tryz.prog 92 #[.string s, .int .i64 (p : Int)] w fun e w' => e = .returned (.int .i64 (longS s p : Int)) ∧ Below w.heap.size w w' := by
  obtain ⟨r, hr⟩ : ∃ r, longS s p = r := ⟨_, rfl⟩
  rw [hr]
  unfold longS at hr
  have x0 := idx_run s p (p : Int) rfl hp
  have x1 := idx_run s (p + 1) ((p : Int) + 1) (by omega) (by omega)
  have x2 := idx_run s (p + 2) ((p : Int) + 2) (by omega) (by omega)
  have x3 := idx_run s (p + 3) ((p : Int) + 3) (by omega) (by omega)
  obtain ⟨c0, hc0⟩ : ∃ c, bt s p = c := ⟨_, rfl⟩
  obtain ⟨c1, hc1⟩ : ∃ c, bt s (p + 1) = c := ⟨_, rfl⟩
  obtain ⟨c2, hc2⟩ : ∃ c, bt s (p + 2) = c := ⟨_, rfl⟩
  obtain ⟨c3, hc3⟩ : ∃ c, bt s (p + 3) = c := ⟨_, rfl⟩
  have g0 := bt_lt s p; have g1 := bt_lt s (p + 1); have g2 := bt_lt s (p + 2); have g3 := bt_lt s (p + 3)
  rw [hc0] at g0; rw [hc1] at g1; rw [hc2] at g2; rw [hc3] at g3
  rw [hc0, hc1, hc2, hc3] at hr
  rw [hc0] at x0 hcl
  rw [hc1] at x1
  rw [hc2] at x2
  rw [hc3] at x3
  clear hc0 hc1 hc2 hc3
  have hrH := Lib.hid hr
  clear hr
  obtain ⟨h1, h2⟩ := hcl
  go_enter Tryz.func92, Tryz.ntmps92
  go_wp2
  (try generalize decide ((c0 : Int) < 128) = d1)
  (try generalize decide ((c0 : Int) < 224) = d2)
  (try generalize decide ((c0 : Int) < 240) = d3)
  (try generalize decide ((c0 : Int) < 245) = d4)
  go_loopw [7, 8] (fun v i wr => w = wr ∧ RelL4 c0 c1 c2 c3 v i) (fun _ i _ => 4 - (intOf i).toNat)
  case atStart => exact ⟨rfl, .inl ⟨rfl, rfl⟩⟩
  case round =>
    obtain ⟨rfl, hrel⟩ := hrel
    unfold RelL4 at hrel
    rcases hrel with ⟨rfl, rfl⟩ | ⟨rfl, rfl, u1, t1⟩ | ⟨rfl, rfl, u1, t1, u2, t2⟩ | ⟨rfl, rfl, u1, t1, u2, t2, u3, t3⟩
    · rcases (show (c1 < 128 ∨ 192 ≤ c1) ∨ (128 ≤ c1 ∧ c1 < 192) by omega) with hb | ⟨hb1, hb2⟩
      · go_wp2
        all_goals first | (go_ret; refine ⟨ret_i64 ?_, by go_grown⟩; rw [← hrH.out]; unfold longN; (repeat' split) <;> omega) | (exfalso; omega)
      · go_wp2
        all_goals first
          | (go_roundw
             case rel => first | exact ⟨rfl, .inr (.inl ⟨by go_num, by go_num, hb1, hb2⟩)⟩ | exact ⟨trivial, .inr (.inl ⟨by go_num, by go_num, hb1, hb2⟩)⟩ | ((repeat apply Exists.intro); first | exact ⟨⟨rfl, .inr (.inl ⟨by go_num, by go_num, hb1, hb2⟩)⟩, rfl⟩ | exact ⟨⟨trivial, .inr (.inl ⟨by go_num, by go_num, hb1, hb2⟩)⟩, rfl⟩ | exact ⟨.inr (.inl ⟨by go_num, by go_num, hb1, hb2⟩), rfl⟩)
             case measure => simp [intOf])
          | (exfalso; omega)
    · rcases (show (c2 < 128 ∨ 192 ≤ c2) ∨ (128 ≤ c2 ∧ c2 < 192) by omega) with hb | ⟨hb1, hb2⟩
      · go_wp2
        all_goals first | (go_ret; refine ⟨ret_i64 ?_, by go_grown⟩; rw [← hrH.out]; unfold longN; (repeat' split) <;> omega) | (exfalso; omega)
      · go_wp2
        all_goals first
          | (go_roundw
             case rel => first | exact ⟨rfl, .inr (.inr (.inl ⟨by go_num, by go_num, u1, t1, hb1, hb2⟩))⟩ | exact ⟨trivial, .inr (.inr (.inl ⟨by go_num, by go_num, u1, t1, hb1, hb2⟩))⟩ | ((repeat apply Exists.intro); first | exact ⟨⟨rfl, .inr (.inr (.inl ⟨by go_num, by go_num, u1, t1, hb1, hb2⟩))⟩, rfl⟩ | exact ⟨⟨trivial, .inr (.inr (.inl ⟨by go_num, by go_num, u1, t1, hb1, hb2⟩))⟩, rfl⟩ | exact ⟨.inr (.inr (.inl ⟨by go_num, by go_num, u1, t1, hb1, hb2⟩)), rfl⟩)
             case measure => simp [intOf])
          | (exfalso; omega)
    · rcases (show (c3 < 128 ∨ 192 ≤ c3) ∨ (128 ≤ c3 ∧ c3 < 192) by omega) with hb | ⟨hb1, hb2⟩
      · go_wp2
        all_goals first | (go_ret; refine ⟨ret_i64 ?_, by go_grown⟩; rw [← hrH.out]; unfold longN; (repeat' split) <;> omega) | (exfalso; omega)
      · go_wp2
        all_goals first
          | (go_roundw
             case rel => first | exact ⟨rfl, .inr (.inr (.inr (⟨by go_num, by go_num, u1, t1, u2, t2, hb1, hb2⟩)))⟩ | exact ⟨trivial, .inr (.inr (.inr (⟨by go_num, by go_num, u1, t1, u2, t2, hb1, hb2⟩)))⟩ | ((repeat apply Exists.intro); first | exact ⟨⟨rfl, .inr (.inr (.inr (⟨by go_num, by go_num, u1, t1, u2, t2, hb1, hb2⟩)))⟩, rfl⟩ | exact ⟨⟨trivial, .inr (.inr (.inr (⟨by go_num, by go_num, u1, t1, u2, t2, hb1, hb2⟩)))⟩, rfl⟩ | exact ⟨.inr (.inr (.inr (⟨by go_num, by go_num, u1, t1, u2, t2, hb1, hb2⟩))), rfl⟩)
             case measure => simp [intOf])
          | (exfalso; omega)
    · go_wp2
      all_goals (go_ret; refine ⟨ret_i64 ?_, by go_grown⟩; rw [← hrH.out]; unfold longN; (repeat' split) <;> omega)

/-- The document's reader of one rune. -/
theorem refLong_any (s : ByteArray) (p : Nat) (w : World) (hp : p < s.size) (hs : s.size ≤ 140737488355328) :
    Calls Tryz.prog 92 #[.string s, .int .i64 (p : Int)] w fun e w' => e = .returned (.int .i64 (longS s p : Int)) ∧ Below w.heap.size w w' := by
  by_cases h1 : bt s p < 194 ∨ 245 ≤ bt s p
  · exact long_one s p w hp hs h1
  by_cases h2 : bt s p < 224
  · by_cases hn : s.size < p + 2
    · exact long_short2 s p w hp hs ⟨by omega, h2⟩ hn
    · exact long_2 s p w hp hs ⟨by omega, h2⟩ (by omega)
  by_cases h3 : bt s p < 240
  · by_cases hn : s.size < p + 3
    · exact long_short3 s p w hp hs ⟨by omega, h3⟩ hn
    · exact long_3 s p w hp hs ⟨by omega, h3⟩ (by omega)
  · by_cases hn : s.size < p + 4
    · exact long_short4 s p w hp hs ⟨by omega, by omega⟩ hn
    · exact long_4 s p w hp hs ⟨by omega, by omega⟩ (by omega)
end Go.Proofs.YtpmfbmigdpmloaaGreatDoor
