/-
  What datum.escape answers, at this program. Condition: the rune is one that the decoder gives.
-/
import Derived.Test.YtlodohgoondkhaaDoorProg
import Derived.Test.YtlodohgoondkhaaDoorQuote
import Derived.WalkKit
import Derived.WalkLawsBesides
import Derived.WalkSpells
import Derived.Handy
import Derived.Deep.QuietTactic
import Derived.BigQuiet
import Derived.Lib.Hide
set_option linter.unusedVariables false
set_option linter.unusedSimpArgs false
namespace Go.Proofs.YtlodohgoondkhaaDoor
open Go.RowKit Go.Lib

theorem ret_str {a b : ByteArray} (h : a = b) : Ending.returned (.string a) = .returned (.string b) := by rw [h]

theorem encode_eq (z : Int) : Utf8.encode z = ⟨(encodeRune z).toArray⟩ := by
  apply bytes_ext
  have hb : ∀ n : Nat, UInt8.ofNat n = ((n : Int).toNat.toUInt8) := fun n => by simp
  unfold Utf8.encode encodeRune
  by_cases hv : Utf8.valid z = true
  · rw [if_pos hv]
    simp only [Utf8.valid, Bool.or_eq_true, Bool.and_eq_true, decide_eq_true_eq] at hv
    obtain ⟨n, rfl⟩ := Int.eq_ofNat_of_zero_le (show 0 ≤ z by omega)
    simp only [Int.toNat_natCast]
    by_cases c1 : n < 128
    · rw [if_pos c1, encodeRuneZ_one (by omega) (by omega)]
      simp
    · rw [if_neg c1]
      by_cases c2 : n < 2048
      · rw [if_pos c2, encodeRuneZ_two (by omega) (by omega)]
        simp only [List.map_cons, List.map_nil]
        rw [show (192 : Int) + n / 64 = ((192 + n / 64 : Nat) : Int) by omega, show (128 : Int) + n % 64 = ((128 + n % 64 : Nat) : Int) by omega]
        rfl
      · rw [if_neg c2]
        by_cases c3 : n < 65536
        · rw [if_pos c3, encodeRuneZ_three (by omega)]
          simp only [List.map_cons, List.map_nil]
          rw [show (224 : Int) + n / 4096 = ((224 + n / 4096 : Nat) : Int) by omega, show (128 : Int) + n / 64 % 64 = ((128 + n / 64 % 64 : Nat) : Int) by omega, show (128 : Int) + n % 64 = ((128 + n % 64 : Nat) : Int) by omega]
          rfl
        · rw [if_neg c3, encodeRuneZ_four (by omega) (by omega)]
          simp only [List.map_cons, List.map_nil]
          rw [show (240 : Int) + n / 262144 = ((240 + n / 262144 : Nat) : Int) by omega, show (128 : Int) + n / 4096 % 64 = ((128 + n / 4096 % 64 : Nat) : Int) by omega, show (128 : Int) + n / 64 % 64 = ((128 + n / 64 % 64 : Nat) : Int) by omega, show (128 : Int) + n % 64 = ((128 + n % 64 : Nat) : Int) by omega]
          rfl
  · rw [if_neg hv, encodeRuneZ_bad (by
      simp only [Utf8.valid, Bool.or_eq_true, Bool.and_eq_true, decide_eq_true_eq] at hv
      omega)]
    rfl
/-- What escape answers at a rune. -/
def EscAt (z : Int) : Prop := ∀ w : World, Calls Tryd.prog 100 #[.int .i32 z] w fun e w' => e = .returned (.string ⟨(escR z.toNat).toArray⟩) ∧ ∃ n, w' = w.drewN n

theorem escape_0 : EscAt 0 := by
  intro w
  have hr : (⟨(escR (0 : Int).toNat).toArray⟩ : ByteArray) = ⟨#[92, 120, 48, 48]⟩ := by decide
  rw [hr]
  clear hr
  have hb : bits .and .i32 0 15 = 0 := by decide
  go_enter Tryd.func100, Tryd.ntmps100
  go_wp2
  go_quiet (fail)
  go_wp2
  go_ret
  exact ⟨ret_str (by decide), _, rfl⟩
theorem escape_1 : EscAt 1 := by
  intro w
  have hr : (⟨(escR (1 : Int).toNat).toArray⟩ : ByteArray) = ⟨#[92, 120, 48, 49]⟩ := by decide
  rw [hr]
  clear hr
  have hb : bits .and .i32 1 15 = 1 := by decide
  go_enter Tryd.func100, Tryd.ntmps100
  go_wp2
  go_quiet (fail)
  go_wp2
  go_ret
  exact ⟨ret_str (by decide), _, rfl⟩
theorem escape_2 : EscAt 2 := by
  intro w
  have hr : (⟨(escR (2 : Int).toNat).toArray⟩ : ByteArray) = ⟨#[92, 120, 48, 50]⟩ := by decide
  rw [hr]
  clear hr
  have hb : bits .and .i32 2 15 = 2 := by decide
  go_enter Tryd.func100, Tryd.ntmps100
  go_wp2
  go_quiet (fail)
  go_wp2
  go_ret
  exact ⟨ret_str (by decide), _, rfl⟩
theorem escape_3 : EscAt 3 := by
  intro w
  have hr : (⟨(escR (3 : Int).toNat).toArray⟩ : ByteArray) = ⟨#[92, 120, 48, 51]⟩ := by decide
  rw [hr]
  clear hr
  have hb : bits .and .i32 3 15 = 3 := by decide
  go_enter Tryd.func100, Tryd.ntmps100
  go_wp2
  go_quiet (fail)
  go_wp2
  go_ret
  exact ⟨ret_str (by decide), _, rfl⟩
theorem escape_4 : EscAt 4 := by
  intro w
  have hr : (⟨(escR (4 : Int).toNat).toArray⟩ : ByteArray) = ⟨#[92, 120, 48, 52]⟩ := by decide
  rw [hr]
  clear hr
  have hb : bits .and .i32 4 15 = 4 := by decide
  go_enter Tryd.func100, Tryd.ntmps100
  go_wp2
  go_quiet (fail)
  go_wp2
  go_ret
  exact ⟨ret_str (by decide), _, rfl⟩
theorem escape_5 : EscAt 5 := by
  intro w
  have hr : (⟨(escR (5 : Int).toNat).toArray⟩ : ByteArray) = ⟨#[92, 120, 48, 53]⟩ := by decide
  rw [hr]
  clear hr
  have hb : bits .and .i32 5 15 = 5 := by decide
  go_enter Tryd.func100, Tryd.ntmps100
  go_wp2
  go_quiet (fail)
  go_wp2
  go_ret
  exact ⟨ret_str (by decide), _, rfl⟩
theorem escape_6 : EscAt 6 := by
  intro w
  have hr : (⟨(escR (6 : Int).toNat).toArray⟩ : ByteArray) = ⟨#[92, 120, 48, 54]⟩ := by decide
  rw [hr]
  clear hr
  have hb : bits .and .i32 6 15 = 6 := by decide
  go_enter Tryd.func100, Tryd.ntmps100
  go_wp2
  go_quiet (fail)
  go_wp2
  go_ret
  exact ⟨ret_str (by decide), _, rfl⟩
theorem escape_7 : EscAt 7 := by
  intro w
  have hr : (⟨(escR (7 : Int).toNat).toArray⟩ : ByteArray) = ⟨#[92, 120, 48, 55]⟩ := by decide
  rw [hr]
  clear hr
  have hb : bits .and .i32 7 15 = 7 := by decide
  go_enter Tryd.func100, Tryd.ntmps100
  go_wp2
  go_quiet (fail)
  go_wp2
  go_ret
  exact ⟨ret_str (by decide), _, rfl⟩
theorem escape_8 : EscAt 8 := by
  intro w
  have hr : (⟨(escR (8 : Int).toNat).toArray⟩ : ByteArray) = ⟨#[92, 120, 48, 56]⟩ := by decide
  rw [hr]
  clear hr
  have hb : bits .and .i32 8 15 = 8 := by decide
  go_enter Tryd.func100, Tryd.ntmps100
  go_wp2
  go_quiet (fail)
  go_wp2
  go_ret
  exact ⟨ret_str (by decide), _, rfl⟩
theorem escape_11 : EscAt 11 := by
  intro w
  have hr : (⟨(escR (11 : Int).toNat).toArray⟩ : ByteArray) = ⟨#[92, 120, 48, 98]⟩ := by decide
  rw [hr]
  clear hr
  have hb : bits .and .i32 11 15 = 11 := by decide
  go_enter Tryd.func100, Tryd.ntmps100
  go_wp2
  go_quiet (fail)
  go_wp2
  go_ret
  exact ⟨ret_str (by decide), _, rfl⟩
theorem escape_12 : EscAt 12 := by
  intro w
  have hr : (⟨(escR (12 : Int).toNat).toArray⟩ : ByteArray) = ⟨#[92, 120, 48, 99]⟩ := by decide
  rw [hr]
  clear hr
  have hb : bits .and .i32 12 15 = 12 := by decide
  go_enter Tryd.func100, Tryd.ntmps100
  go_wp2
  go_quiet (fail)
  go_wp2
  go_ret
  exact ⟨ret_str (by decide), _, rfl⟩
theorem escape_14 : EscAt 14 := by
  intro w
  have hr : (⟨(escR (14 : Int).toNat).toArray⟩ : ByteArray) = ⟨#[92, 120, 48, 101]⟩ := by decide
  rw [hr]
  clear hr
  have hb : bits .and .i32 14 15 = 14 := by decide
  go_enter Tryd.func100, Tryd.ntmps100
  go_wp2
  go_quiet (fail)
  go_wp2
  go_ret
  exact ⟨ret_str (by decide), _, rfl⟩
theorem escape_15 : EscAt 15 := by
  intro w
  have hr : (⟨(escR (15 : Int).toNat).toArray⟩ : ByteArray) = ⟨#[92, 120, 48, 102]⟩ := by decide
  rw [hr]
  clear hr
  have hb : bits .and .i32 15 15 = 15 := by decide
  go_enter Tryd.func100, Tryd.ntmps100
  go_wp2
  go_quiet (fail)
  go_wp2
  go_ret
  exact ⟨ret_str (by decide), _, rfl⟩
theorem escape_16 : EscAt 16 := by
  intro w
  have hr : (⟨(escR (16 : Int).toNat).toArray⟩ : ByteArray) = ⟨#[92, 120, 49, 48]⟩ := by decide
  rw [hr]
  clear hr
  have hb : bits .and .i32 16 15 = 0 := by decide
  go_enter Tryd.func100, Tryd.ntmps100
  go_wp2
  go_quiet (fail)
  go_wp2
  go_ret
  exact ⟨ret_str (by decide), _, rfl⟩
theorem escape_17 : EscAt 17 := by
  intro w
  have hr : (⟨(escR (17 : Int).toNat).toArray⟩ : ByteArray) = ⟨#[92, 120, 49, 49]⟩ := by decide
  rw [hr]
  clear hr
  have hb : bits .and .i32 17 15 = 1 := by decide
  go_enter Tryd.func100, Tryd.ntmps100
  go_wp2
  go_quiet (fail)
  go_wp2
  go_ret
  exact ⟨ret_str (by decide), _, rfl⟩
theorem escape_18 : EscAt 18 := by
  intro w
  have hr : (⟨(escR (18 : Int).toNat).toArray⟩ : ByteArray) = ⟨#[92, 120, 49, 50]⟩ := by decide
  rw [hr]
  clear hr
  have hb : bits .and .i32 18 15 = 2 := by decide
  go_enter Tryd.func100, Tryd.ntmps100
  go_wp2
  go_quiet (fail)
  go_wp2
  go_ret
  exact ⟨ret_str (by decide), _, rfl⟩
theorem escape_19 : EscAt 19 := by
  intro w
  have hr : (⟨(escR (19 : Int).toNat).toArray⟩ : ByteArray) = ⟨#[92, 120, 49, 51]⟩ := by decide
  rw [hr]
  clear hr
  have hb : bits .and .i32 19 15 = 3 := by decide
  go_enter Tryd.func100, Tryd.ntmps100
  go_wp2
  go_quiet (fail)
  go_wp2
  go_ret
  exact ⟨ret_str (by decide), _, rfl⟩
theorem escape_20 : EscAt 20 := by
  intro w
  have hr : (⟨(escR (20 : Int).toNat).toArray⟩ : ByteArray) = ⟨#[92, 120, 49, 52]⟩ := by decide
  rw [hr]
  clear hr
  have hb : bits .and .i32 20 15 = 4 := by decide
  go_enter Tryd.func100, Tryd.ntmps100
  go_wp2
  go_quiet (fail)
  go_wp2
  go_ret
  exact ⟨ret_str (by decide), _, rfl⟩
theorem escape_21 : EscAt 21 := by
  intro w
  have hr : (⟨(escR (21 : Int).toNat).toArray⟩ : ByteArray) = ⟨#[92, 120, 49, 53]⟩ := by decide
  rw [hr]
  clear hr
  have hb : bits .and .i32 21 15 = 5 := by decide
  go_enter Tryd.func100, Tryd.ntmps100
  go_wp2
  go_quiet (fail)
  go_wp2
  go_ret
  exact ⟨ret_str (by decide), _, rfl⟩
theorem escape_22 : EscAt 22 := by
  intro w
  have hr : (⟨(escR (22 : Int).toNat).toArray⟩ : ByteArray) = ⟨#[92, 120, 49, 54]⟩ := by decide
  rw [hr]
  clear hr
  have hb : bits .and .i32 22 15 = 6 := by decide
  go_enter Tryd.func100, Tryd.ntmps100
  go_wp2
  go_quiet (fail)
  go_wp2
  go_ret
  exact ⟨ret_str (by decide), _, rfl⟩
theorem escape_23 : EscAt 23 := by
  intro w
  have hr : (⟨(escR (23 : Int).toNat).toArray⟩ : ByteArray) = ⟨#[92, 120, 49, 55]⟩ := by decide
  rw [hr]
  clear hr
  have hb : bits .and .i32 23 15 = 7 := by decide
  go_enter Tryd.func100, Tryd.ntmps100
  go_wp2
  go_quiet (fail)
  go_wp2
  go_ret
  exact ⟨ret_str (by decide), _, rfl⟩
theorem escape_24 : EscAt 24 := by
  intro w
  have hr : (⟨(escR (24 : Int).toNat).toArray⟩ : ByteArray) = ⟨#[92, 120, 49, 56]⟩ := by decide
  rw [hr]
  clear hr
  have hb : bits .and .i32 24 15 = 8 := by decide
  go_enter Tryd.func100, Tryd.ntmps100
  go_wp2
  go_quiet (fail)
  go_wp2
  go_ret
  exact ⟨ret_str (by decide), _, rfl⟩
theorem escape_25 : EscAt 25 := by
  intro w
  have hr : (⟨(escR (25 : Int).toNat).toArray⟩ : ByteArray) = ⟨#[92, 120, 49, 57]⟩ := by decide
  rw [hr]
  clear hr
  have hb : bits .and .i32 25 15 = 9 := by decide
  go_enter Tryd.func100, Tryd.ntmps100
  go_wp2
  go_quiet (fail)
  go_wp2
  go_ret
  exact ⟨ret_str (by decide), _, rfl⟩
theorem escape_26 : EscAt 26 := by
  intro w
  have hr : (⟨(escR (26 : Int).toNat).toArray⟩ : ByteArray) = ⟨#[92, 120, 49, 97]⟩ := by decide
  rw [hr]
  clear hr
  have hb : bits .and .i32 26 15 = 10 := by decide
  go_enter Tryd.func100, Tryd.ntmps100
  go_wp2
  go_quiet (fail)
  go_wp2
  go_ret
  exact ⟨ret_str (by decide), _, rfl⟩
theorem escape_27 : EscAt 27 := by
  intro w
  have hr : (⟨(escR (27 : Int).toNat).toArray⟩ : ByteArray) = ⟨#[92, 120, 49, 98]⟩ := by decide
  rw [hr]
  clear hr
  have hb : bits .and .i32 27 15 = 11 := by decide
  go_enter Tryd.func100, Tryd.ntmps100
  go_wp2
  go_quiet (fail)
  go_wp2
  go_ret
  exact ⟨ret_str (by decide), _, rfl⟩
theorem escape_28 : EscAt 28 := by
  intro w
  have hr : (⟨(escR (28 : Int).toNat).toArray⟩ : ByteArray) = ⟨#[92, 120, 49, 99]⟩ := by decide
  rw [hr]
  clear hr
  have hb : bits .and .i32 28 15 = 12 := by decide
  go_enter Tryd.func100, Tryd.ntmps100
  go_wp2
  go_quiet (fail)
  go_wp2
  go_ret
  exact ⟨ret_str (by decide), _, rfl⟩
theorem escape_29 : EscAt 29 := by
  intro w
  have hr : (⟨(escR (29 : Int).toNat).toArray⟩ : ByteArray) = ⟨#[92, 120, 49, 100]⟩ := by decide
  rw [hr]
  clear hr
  have hb : bits .and .i32 29 15 = 13 := by decide
  go_enter Tryd.func100, Tryd.ntmps100
  go_wp2
  go_quiet (fail)
  go_wp2
  go_ret
  exact ⟨ret_str (by decide), _, rfl⟩
theorem escape_30 : EscAt 30 := by
  intro w
  have hr : (⟨(escR (30 : Int).toNat).toArray⟩ : ByteArray) = ⟨#[92, 120, 49, 101]⟩ := by decide
  rw [hr]
  clear hr
  have hb : bits .and .i32 30 15 = 14 := by decide
  go_enter Tryd.func100, Tryd.ntmps100
  go_wp2
  go_quiet (fail)
  go_wp2
  go_ret
  exact ⟨ret_str (by decide), _, rfl⟩
theorem escape_31 : EscAt 31 := by
  intro w
  have hr : (⟨(escR (31 : Int).toNat).toArray⟩ : ByteArray) = ⟨#[92, 120, 49, 102]⟩ := by decide
  rw [hr]
  clear hr
  have hb : bits .and .i32 31 15 = 15 := by decide
  go_enter Tryd.func100, Tryd.ntmps100
  go_wp2
  go_quiet (fail)
  go_wp2
  go_ret
  exact ⟨ret_str (by decide), _, rfl⟩
theorem escape_127 : EscAt 127 := by
  intro w
  have hr : (⟨(escR (127 : Int).toNat).toArray⟩ : ByteArray) = ⟨#[92, 120, 55, 102]⟩ := by decide
  rw [hr]
  clear hr
  have hb : bits .and .i32 127 15 = 15 := by decide
  go_enter Tryd.func100, Tryd.ntmps100
  go_wp2
  go_quiet (fail)
  go_wp2
  go_ret
  exact ⟨ret_str (by decide), _, rfl⟩
theorem escape_39 : EscAt 39 := by
  intro w
  have hr : (⟨(escR (39 : Int).toNat).toArray⟩ : ByteArray) = ⟨#[39, 39]⟩ := by decide
  rw [hr]
  clear hr
  go_enter Tryd.func100, Tryd.ntmps100
  go_wp2
  go_ret
  exact ⟨rfl, 0, rfl⟩
theorem escape_92 : EscAt 92 := by
  intro w
  have hr : (⟨(escR (92 : Int).toNat).toArray⟩ : ByteArray) = ⟨#[92, 92]⟩ := by decide
  rw [hr]
  clear hr
  go_enter Tryd.func100, Tryd.ntmps100
  go_wp2
  go_ret
  exact ⟨rfl, 0, rfl⟩
theorem escape_10 : EscAt 10 := by
  intro w
  have hr : (⟨(escR (10 : Int).toNat).toArray⟩ : ByteArray) = ⟨#[92, 110]⟩ := by decide
  rw [hr]
  clear hr
  go_enter Tryd.func100, Tryd.ntmps100
  go_wp2
  go_ret
  exact ⟨rfl, 0, rfl⟩
theorem escape_13 : EscAt 13 := by
  intro w
  have hr : (⟨(escR (13 : Int).toNat).toArray⟩ : ByteArray) = ⟨#[92, 114]⟩ := by decide
  rw [hr]
  clear hr
  go_enter Tryd.func100, Tryd.ntmps100
  go_wp2
  go_ret
  exact ⟨rfl, 0, rfl⟩
theorem escape_9 : EscAt 9 := by
  intro w
  have hr : (⟨(escR (9 : Int).toNat).toArray⟩ : ByteArray) = ⟨#[92, 116]⟩ := by decide
  rw [hr]
  clear hr
  go_enter Tryd.func100, Tryd.ntmps100
  go_wp2
  go_ret
  exact ⟨rfl, 0, rfl⟩
set_option maxHeartbeats 1000000 in
theorem escape_plain (z : Int) (h : 32 ≤ z) (h0 : z ≠ 127) (h1 : z ≠ 39) (h2 : z ≠ 92) (hr : z ≤ 1114111) : EscAt z := by
  intro w
  have g0 : (z == 127) = false := by simpa using h0
  have g1 : (z == 39) = false := by simpa using h1
  have g2 : (z == 92) = false := by simpa using h2
  have g3 : (z == 10) = false := by simp; omega
  have g4 : (z == 13) = false := by simp; omega
  have g5 : (z == 9) = false := by simp; omega
  have g6 : ¬ z < 32 := by omega
  have hesc := Lib.hid (show escR z.toNat = encodeRune z by
    obtain ⟨n, rfl⟩ := Int.eq_ofNat_of_zero_le (show 0 ≤ z by omega)
    rw [Int.toNat_natCast]
    unfold escR
    rw [if_neg (by omega), if_neg (by omega), if_neg (by omega), if_neg (by omega), if_neg (by omega), if_neg (by omega)])
  clear h0 h1 h2
  go_enter Tryd.func100, Tryd.ntmps100
  go_wp2
  go_ret
  exact ⟨ret_str (by rw [encode_eq, hesc.out]), 0, rfl⟩

/-- What escape answers, at every rune that the decoder gives. -/
theorem escape_any (z : Int) (h0 : 0 ≤ z) (h1 : z ≤ 1114111) : EscAt z := by
  by_cases h : z < 32
  · have hc : z = 0 ∨ z = 1 ∨ z = 2 ∨ z = 3 ∨ z = 4 ∨ z = 5 ∨ z = 6 ∨ z = 7 ∨ z = 8 ∨ z = 9 ∨ z = 10 ∨ z = 11 ∨ z = 12 ∨ z = 13 ∨ z = 14 ∨ z = 15 ∨ z = 16 ∨ z = 17 ∨ z = 18 ∨ z = 19 ∨ z = 20 ∨ z = 21 ∨ z = 22 ∨ z = 23 ∨ z = 24 ∨ z = 25 ∨ z = 26 ∨ z = 27 ∨ z = 28 ∨ z = 29 ∨ z = 30 ∨ z = 31 := by omega
    rcases hc with rfl | rfl | rfl | rfl | rfl | rfl | rfl | rfl | rfl | rfl | rfl | rfl | rfl | rfl | rfl | rfl | rfl | rfl | rfl | rfl | rfl | rfl | rfl | rfl | rfl | rfl | rfl | rfl | rfl | rfl | rfl | rfl
    · exact escape_0
    · exact escape_1
    · exact escape_2
    · exact escape_3
    · exact escape_4
    · exact escape_5
    · exact escape_6
    · exact escape_7
    · exact escape_8
    · exact escape_9
    · exact escape_10
    · exact escape_11
    · exact escape_12
    · exact escape_13
    · exact escape_14
    · exact escape_15
    · exact escape_16
    · exact escape_17
    · exact escape_18
    · exact escape_19
    · exact escape_20
    · exact escape_21
    · exact escape_22
    · exact escape_23
    · exact escape_24
    · exact escape_25
    · exact escape_26
    · exact escape_27
    · exact escape_28
    · exact escape_29
    · exact escape_30
    · exact escape_31
  · by_cases a : z = 127
    · subst a; exact escape_127
    by_cases b : z = 39
    · subst b; exact escape_39
    by_cases c : z = 92
    · subst c; exact escape_92
    exact escape_plain z (by omega) a b c h1
end Go.Proofs.YtlodohgoondkhaaDoor
