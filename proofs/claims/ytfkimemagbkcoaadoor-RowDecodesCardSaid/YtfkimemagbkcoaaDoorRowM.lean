/-
  Plain mathematics of rows: how rows compare, their bytes, their keys; rows compare as their bytes do; keys are the same just if rows compare as the same. No condition but those written.
-/
import Derived.Test.YtfkimemagbkcoaaDoorOrd
set_option linter.unusedVariables false
set_option linter.unusedSimpArgs false
namespace Go.Proofs.YtfkimemagbkcoaaDoor
open Go.Lib

/-- The bytes of a text. -/
def escT (l : List UInt8) : List UInt8 := l.flatMap fun b => if b = 0 then [0, 255] else [b]
/-- The last k bytes of a number, the greatest first. -/
def be : Nat → Nat → List UInt8
  | 0, _ => []
  | k + 1, m => UInt8.ofNat (m / 256 ^ k) :: be k m
/-- The bytes of a datum; of no kind: none. -/
def encD (d : Dat) : List UInt8 :=
  if d.k = 1 then [16] else if d.k = 2 then [if d.b = true then 33 else 32] else if d.k = 3 then 48 :: be 8 (d.n + 9223372036854775808).toNat else if d.k = 4 then 64 :: (escT d.s.data.toList ++ [0, 1]) else []
/-- The key of a datum. -/
def keyD (d : Dat) : List UInt8 := if encD d = [] then [80, UInt8.ofNat d.k.toNat] else encD d
def encR (l : List Dat) : List UInt8 := l.flatMap encD
def keyR (l : List Dat) : List UInt8 := l.flatMap keyD
/-- The order of rows. -/
def cmpR : List Dat → List Dat → Int
  | [], [] => 0
  | [], _ :: _ => -1
  | _ :: _, [] => 1
  | d :: l, e :: m => if cmpS d e = 0 then cmpR l m else cmpS d e
/-- Less at the first place at which they differ. -/
def LtD (x y : List UInt8) : Prop := ∃ p a b x' y', x = p ++ a :: x' ∧ y = p ++ b :: y' ∧ a < b
theorem LtD.app {x y : List UInt8} (h : LtD x y) (u v : List UInt8) : LtD (x ++ u) (y ++ v) := by
  obtain ⟨p, a, b, x', y', rfl, rfl, hab⟩ := h
  exact ⟨p, a, b, x' ++ u, y' ++ v, by simp, by simp, hab⟩
theorem LtD.pre {x y : List UInt8} (h : LtD x y) (q : List UInt8) : LtD (q ++ x) (q ++ y) := by
  obtain ⟨p, a, b, x', y', rfl, rfl, hab⟩ := h
  exact ⟨q ++ p, a, b, x', y', by simp, by simp, hab⟩
theorem LtD.head {a b : UInt8} (h : a < b) (x y : List UInt8) : LtD (a :: x) (b :: y) := ⟨[], a, b, x, y, rfl, rfl, h⟩
theorem LtD.cons {x y : List UInt8} (h : LtD x y) (c : UInt8) : LtD (c :: x) (c :: y) := h.pre [c]
theorem u8_irrefl (a : UInt8) : ¬ a < a := fun h => u8_asymm h h
theorem compare_pre : ∀ p x y : List UInt8, compareBytes (p ++ x) (p ++ y) = compareBytes x y
  | [], x, y => rfl
  | c :: p, x, y => by
    rw [List.cons_append, List.cons_append]
    show (if c < c then (-1 : Int) else if c < c then 1 else compareBytes (p ++ x) (p ++ y)) = _
    rw [if_neg (u8_irrefl c), if_neg (u8_irrefl c)]
    exact compare_pre p x y
theorem LtD.compare {x y : List UInt8} (h : LtD x y) : compareBytes x y = -1 := by
  obtain ⟨p, a, b, x', y', rfl, rfl, hab⟩ := h
  rw [compare_pre]
  show (if a < b then (-1 : Int) else _) = -1
  rw [if_pos hab]
theorem LtD.ne {x y : List UInt8} (h : LtD x y) : x ≠ y := fun e => by
  have := h.compare
  rw [e, (compare_zero y y).2 rfl] at this
  omega
theorem compare_cases : ∀ x y : List UInt8, compareBytes x y = -1 → LtD x y ∨ ∃ c r, y = x ++ c :: r
  | [], [], h => by cases h
  | [], c :: r, _ => .inr ⟨c, r, rfl⟩
  | _ :: _, [], h => by cases h
  | a :: x, b :: y, h => by
    have h' : (if a < b then (-1 : Int) else if b < a then 1 else compareBytes x y) = -1 := h
    by_cases h1 : a < b
    · exact .inl (.head h1 x y)
    · rw [if_neg h1] at h'
      by_cases h2 : b < a
      · rw [if_pos h2] at h'; cases h'
      · rw [if_neg h2] at h'
        rcases u8_trichotomy a b with h3 | rfl | h3
        · exact absurd h3 h1
        · rcases compare_cases x y h' with h4 | ⟨c, r, rfl⟩
          · exact .inl (h4.cons a)
          · exact .inr ⟨c, r, rfl⟩
        · exact absurd h3 h2
theorem be_len : ∀ k m, (be k m).length = k
  | 0, _ => rfl
  | k + 1, m => by rw [be, List.length_cons, be_len k m]
theorem ofNat_lt {a b : Nat} (h : a % 256 < b % 256) : UInt8.ofNat a < UInt8.ofNat b := by
  rw [UInt8.lt_iff_toNat_lt, UInt8.toNat_ofNat', UInt8.toNat_ofNat']
  exact h
theorem ofNat_eq {a b : Nat} (h : a % 256 = b % 256) : UInt8.ofNat a = UInt8.ofNat b := by
  rw [← UInt8.toNat_inj, UInt8.toNat_ofNat', UInt8.toNat_ofNat']
  exact h
theorem be_lt : ∀ k m m', m % 256 ^ k < m' % 256 ^ k → LtD (be k m) (be k m')
  | 0, m, m', h => by rw [Nat.pow_zero, Nat.mod_one, Nat.mod_one] at h; omega
  | k + 1, m, m', h => by
    rw [Nat.pow_succ, Nat.mod_mul, Nat.mod_mul] at h
    have hp : 0 < 256 ^ k := Nat.pow_pos (by omega)
    have r1 := Nat.mod_lt m hp
    have r2 := Nat.mod_lt m' hp
    rcases Nat.lt_trichotomy (m / 256 ^ k % 256) (m' / 256 ^ k % 256) with h1 | h1 | h1
    · exact .head (ofNat_lt h1) _ _
    · rw [h1] at h
      rw [be, be, ofNat_eq h1]
      exact (be_lt k m m' (by omega)).cons _
    · exfalso
      have := Nat.mul_le_mul_left (256 ^ k) (show m' / 256 ^ k % 256 + 1 ≤ m / 256 ^ k % 256 from h1)
      rw [Nat.mul_add, Nat.mul_one] at this
      omega
theorem zero_lt {b : UInt8} (h : b ≠ 0) : (0 : UInt8) < b := by
  rw [UInt8.lt_iff_toNat_lt]
  have : b.toNat ≠ 0 := fun e => h (UInt8.toNat_inj.1 e)
  show 0 < b.toNat
  omega
theorem not_lt_zero (a : UInt8) : ¬ a < 0 := by
  rw [UInt8.lt_iff_toNat_lt]
  exact Nat.not_lt_zero _
theorem escT_lt {x y : List UInt8} (h : LtD x y) : LtD (escT x) (escT y) := by
  obtain ⟨p, a, b, x', y', rfl, rfl, hab⟩ := h
  unfold escT
  rw [List.flatMap_append, List.flatMap_append, List.flatMap_cons, List.flatMap_cons]
  refine LtD.pre ?_ _
  have hb : b ≠ 0 := fun e => not_lt_zero a (by rw [e] at hab; exact hab)
  rw [if_neg hb]
  by_cases ha : a = 0
  · rw [if_pos ha]
    exact .head (zero_lt hb) _ _
  · rw [if_neg ha]
    exact .head hab _ _
theorem text_lt {x y : List UInt8} (h : compareBytes x y = -1) : LtD (escT x ++ [0, 1]) (escT y ++ [0, 1]) := by
  rcases compare_cases x y h with h | ⟨c, r, rfl⟩
  · exact (escT_lt h).app _ _
  · have : escT (x ++ c :: r) ++ [0, 1] = escT x ++ ((if c = 0 then [0, 255] else [c]) ++ escT r ++ [0, 1]) := by
      unfold escT
      simp
    rw [this]
    refine LtD.pre ?_ _
    by_cases hc : c = 0
    · rw [if_pos hc]
      exact LtD.cons (LtD.head (by decide) _ _) 0
    · rw [if_neg hc]
      exact .head (zero_lt hc) _ _
/-- A datum of a kind. -/
def Kinded (d : Dat) : Prop := 1 ≤ d.k ∧ d.k ≤ 4
theorem encD_ne {d : Dat} (h : Kinded d) : encD d ≠ [] := by
  obtain ⟨h1, h2⟩ := h
  unfold encD
  repeat' split
  all_goals first | exact List.cons_ne_nil _ _ | omega
theorem encD_nil {d : Dat} (h : ¬ Kinded d) : encD d = [] := by
  unfold Kinded at h
  unfold encD
  rw [if_neg (by omega), if_neg (by omega), if_neg (by omega), if_neg (by omega)]
theorem encD_same {d e : Dat} (h : cmpS d e = 0) : encD d = encD e := by
  unfold cmpS at h
  by_cases hk : d.k = e.k
  · rw [if_pos hk] at h
    unfold encD
    rw [hk] at h ⊢
    by_cases h2 : e.k = 2
    · rw [if_pos h2] at h
      simp [h2, cmpB_zero.1 h]
    · rw [if_neg h2] at h
      by_cases h3 : e.k = 3
      · rw [if_pos h3] at h
        simp [h3, cmp3_zero.1 h]
      · rw [if_neg h3] at h
        by_cases h4 : e.k = 4
        · rw [if_pos h4] at h
          simp [h4, (compare_zero _ _).1 h]
        · simp [h2, h3, h4]
  · rw [if_neg hk] at h
    exact absurd (cmp3_zero.1 h) hk
theorem kind_head {d : Dat} (h : Kinded d) : ∃ c r, encD d = c :: r ∧ (16 * d.k ≤ c.toNat ∧ (c.toNat : Int) ≤ 16 * d.k + 1) := by
  obtain ⟨h1, h2⟩ := h
  unfold encD
  by_cases e1 : d.k = 1
  · rw [if_pos e1]; exact ⟨_, _, rfl, by rw [e1]; decide⟩
  rw [if_neg e1]
  by_cases e2 : d.k = 2
  · rw [if_pos e2]
    cases d.b
    · exact ⟨_, _, rfl, by rw [e2]; decide⟩
    · exact ⟨_, _, rfl, by rw [e2]; decide⟩
  rw [if_neg e2]
  by_cases e3 : d.k = 3
  · rw [if_pos e3]; exact ⟨_, _, rfl, by rw [e3]; decide⟩
  rw [if_neg e3, if_pos (by omega)]
  exact ⟨_, _, rfl, by rw [show d.k = 4 by omega]; decide⟩
theorem cmp3_neg {x y : Int} (h : cmp3 x y = -1) : x < y := by
  unfold cmp3 at h
  by_cases h1 : x < y
  · exact h1
  · rw [if_neg h1] at h
    by_cases h2 : x = y
    · rw [if_pos h2] at h; omega
    · rw [if_neg h2] at h; omega
theorem encD_lt {d e : Dat} (hd : Kinded d) (he : Kinded e) (nd : -9223372036854775808 ≤ d.n ∧ d.n ≤ 9223372036854775807) (ne : -9223372036854775808 ≤ e.n ∧ e.n ≤ 9223372036854775807) (h : cmpS d e = -1) : LtD (encD d) (encD e) := by
  by_cases hk : d.k = e.k
  · unfold cmpS at h
    rw [if_pos hk] at h
    obtain ⟨h1, h2⟩ := he
    unfold encD
    rw [hk] at h ⊢
    by_cases e2 : e.k = 2
    · rw [if_pos e2] at h
      simp only [if_neg (show ¬ e.k = 1 by omega), if_pos e2]
      cases hb : d.b <;> cases hb' : e.b <;> rw [hb, hb'] at h
      · cases h
      · exact LtD.head (a := 32) (b := 33) (by decide) [] []
      · cases h
      · cases h
    · rw [if_neg e2] at h
      by_cases e3 : e.k = 3
      · rw [if_pos e3] at h
        simp only [if_neg (show ¬ e.k = 1 by omega), if_neg e2, if_pos e3]
        have hlt : d.n < e.n := by
          exact cmp3_neg h
        exact (be_lt 8 _ _ (by rw [show (256 : Nat) ^ 8 = 18446744073709551616 from rfl]; omega)).cons 48
      · rw [if_neg e3] at h
        by_cases e4 : e.k = 4
        · rw [if_pos e4] at h
          simp only [if_neg (show ¬ e.k = 1 by omega), if_neg e2, if_neg e3, if_pos e4]
          exact (text_lt h).cons 64
        · rw [if_neg e4] at h; cases h
  · have hlt : d.k < e.k := by
      unfold cmpS at h
      rw [if_neg hk] at h
      exact cmp3_neg h
    obtain ⟨c, r, h1, h2, h3⟩ := kind_head hd
    obtain ⟨c', r', h4, h5, h6⟩ := kind_head he
    rw [h1, h4]
    exact .head (by rw [UInt8.lt_iff_toNat_lt]; omega) _ _
/-- Two bytes strings that differ at a place of both. -/
def Dif (x y : List UInt8) : Prop := LtD x y ∨ LtD y x
theorem Dif.app {x y : List UInt8} (h : Dif x y) (u v : List UInt8) : Dif (x ++ u) (y ++ v) := h.elim (fun h => .inl (h.app u v)) (fun h => .inr (h.app v u))
theorem Dif.ne {x y : List UInt8} (h : Dif x y) : x ≠ y := h.elim LtD.ne (fun h => h.ne.symm)
theorem cmpS_cases (a b : Dat) : cmpS a b = 0 ∨ cmpS a b = -1 ∨ cmpS b a = -1 := by
  have h1 := cmpS_range a b
  have h2 := cmpS_turn a b
  omega
/-- What a row may hold at all: a kind of a byte, a number of 64 bits. -/
def Wide (d : Dat) : Prop := (0 ≤ d.k ∧ d.k ≤ 255) ∧ (-9223372036854775808 ≤ d.n ∧ d.n ≤ 9223372036854775807)
theorem keyD_same {d e : Dat} (h : cmpS d e = 0) : keyD d = keyD e := by
  unfold keyD
  rw [encD_same h]
  unfold cmpS at h
  by_cases hk : d.k = e.k
  · rw [hk]
  · rw [if_neg hk] at h
    exact absurd (cmp3_zero.1 h) hk
theorem u8_dif {a b : UInt8} (h : a ≠ b) (x y : List UInt8) : Dif (a :: x) (b :: y) := by
  rcases u8_trichotomy a b with h1 | h1 | h1
  · exact .inl (.head h1 _ _)
  · exact absurd h1 h
  · exact .inr (.head h1 _ _)
theorem keyD_ne (d : Dat) : keyD d ≠ [] := by
  unfold keyD
  split
  · exact List.cons_ne_nil _ _
  · assumption
theorem keyD_dif {d e : Dat} (hd : Wide d) (he : Wide e) (h : cmpS d e ≠ 0) : Dif (keyD d) (keyD e) := by
  by_cases kd : Kinded d
  · by_cases ke : Kinded e
    · unfold keyD
      rw [if_neg (encD_ne kd), if_neg (encD_ne ke)]
      rcases cmpS_cases d e with h1 | h1 | h1
      · exact absurd h1 h
      · exact .inl (encD_lt kd ke hd.2 he.2 h1)
      · exact .inr (encD_lt ke kd he.2 hd.2 h1)
    · unfold keyD
      rw [if_neg (encD_ne kd), if_pos (encD_nil ke)]
      obtain ⟨c, r, h1, h2, h3⟩ := kind_head kd
      rw [h1]
      exact u8_dif (fun q => by have := kd.2; rw [q] at h3 h2; have : (80 : UInt8).toNat = 80 := rfl; omega) _ _
  · by_cases ke : Kinded e
    · unfold keyD
      rw [if_neg (encD_ne ke), if_pos (encD_nil kd)]
      obtain ⟨c, r, h1, h2, h3⟩ := kind_head ke
      rw [h1]
      exact u8_dif (fun q => by have := ke.2; rw [← q] at h3 h2; have : (80 : UInt8).toNat = 80 := rfl; omega) _ _
    · unfold keyD
      rw [if_pos (encD_nil kd), if_pos (encD_nil ke)]
      have hk : d.k ≠ e.k := fun hk => by
        unfold Kinded at ke
        apply h
        unfold cmpS
        rw [if_pos hk, if_neg (by omega), if_neg (by omega), if_neg (by omega)]
      have : UInt8.ofNat d.k.toNat ≠ UInt8.ofNat e.k.toNat := fun q => by
        have := congrArg UInt8.toNat q
        rw [UInt8.toNat_ofNat', UInt8.toNat_ofNat'] at this
        obtain ⟨⟨a1, a2⟩, _⟩ := hd
        obtain ⟨⟨b1, b2⟩, _⟩ := he
        omega
      rcases u8_dif this [] [] with h1 | h1
      · exact .inl (h1.cons 80)
      · exact .inr (h1.cons 80)
theorem cmpR_self : ∀ l, cmpR l l = 0
  | [] => rfl
  | d :: l => by rw [cmpR, if_pos (cmpS_self d)]; exact cmpR_self l
theorem cmpR_range : ∀ l m, -1 ≤ cmpR l m ∧ cmpR l m ≤ 1
  | [], [] => by decide
  | [], _ :: _ => by rw [cmpR]; decide
  | _ :: _, [] => by rw [cmpR]; decide
  | d :: l, e :: m => by
    rw [cmpR]
    split
    · exact cmpR_range l m
    · exact cmpS_range d e
theorem cmpR_turn : ∀ l m, cmpR l m = -cmpR m l
  | [], [] => rfl
  | [], _ :: _ => rfl
  | _ :: _, [] => rfl
  | d :: l, e :: m => by
    have h := cmpS_turn d e
    rw [cmpR, cmpR]
    by_cases h0 : cmpS d e = 0
    · rw [if_pos h0, if_pos (by omega)]
      exact cmpR_turn l m
    · rw [if_neg h0, if_neg (by omega)]
      exact h
theorem cmpS_zero_left {a b c : Dat} (h : cmpS a b = 0) : cmpS a c = cmpS b c := by
  have h1 := cmpS_trans (a := a) (b := b) (c := c) (by omega)
  have h2 := cmpS_trans (a := b) (b := a) (c := c) (by have := cmpS_turn a b; omega)
  have h3 := cmpS_trans (a := c) (b := a) (c := b)
  have h4 := cmpS_trans (a := c) (b := b) (c := a)
  have t1 := cmpS_turn a c
  have t2 := cmpS_turn b c
  have t3 := cmpS_turn a b
  have r1 := cmpS_range a c
  have r2 := cmpS_range b c
  omega
theorem cmpR_trans : ∀ {l m n : List Dat}, cmpR l m ≤ 0 → cmpR m n ≤ 0 → cmpR l n ≤ 0
  | [], _, [], _, _ => by rw [cmpR]; decide
  | [], _, _ :: _, _, _ => by rw [cmpR]; decide
  | _ :: _, [], _, h, _ => by rw [cmpR] at h; omega
  | _ :: _, _ :: _, [], _, h => by rw [cmpR] at h; omega
  | d :: l, e :: m, f :: n, h, h2 => by
    rw [cmpR] at h h2 ⊢
    by_cases e1 : cmpS d e = 0
    · rw [if_pos e1] at h
      rw [cmpS_zero_left e1]
      by_cases e2 : cmpS e f = 0
      · rw [if_pos e2] at h2 ⊢
        exact cmpR_trans h h2
      · rw [if_neg e2] at h2 ⊢
        exact h2
    · rw [if_neg e1] at h
      by_cases e2 : cmpS e f = 0
      · have t1 := cmpS_turn e f
        have t2 := cmpS_turn d e
        have t3 := cmpS_turn d f
        have := cmpS_zero_left (a := f) (b := e) (c := d) (by omega)
        have t4 := cmpS_turn f d
        have t5 := cmpS_turn e d
        rw [if_neg (by omega)]
        omega
      · rw [if_neg e2] at h2
        have := cmpS_trans h h2
        split
        · rename_i e3
          exfalso
          have t3 := cmpS_turn d f
          have := cmpS_zero_left (a := f) (b := d) (c := e) (by omega)
          have t1 := cmpS_turn e f
          have t2 := cmpS_turn d e
          omega
        · exact this
/-- Rows compare as their bytes do. -/
theorem encR_cmp : ∀ l m : List Dat, (∀ d ∈ l, Kinded d ∧ Wide d) → (∀ d ∈ m, Kinded d ∧ Wide d) → compareBytes (encR l) (encR m) = cmpR l m
  | [], [], _, _ => rfl
  | [], e :: m, _, hm => by
    have := encD_ne (hm e (by simp)).1
    unfold encR
    rw [List.flatMap_cons]
    cases h : encD e with
    | nil => exact absurd h this
    | cons c r => rfl
  | d :: l, [], hl, _ => by
    have := encD_ne (hl d (by simp)).1
    unfold encR
    rw [List.flatMap_cons]
    cases h : encD d with
    | nil => exact absurd h this
    | cons c r => rfl
  | d :: l, e :: m, hl, hm => by
    obtain ⟨kd, wd⟩ := hl d (by simp)
    obtain ⟨ke, we⟩ := hm e (by simp)
    rw [cmpR]
    unfold encR
    rw [List.flatMap_cons, List.flatMap_cons]
    by_cases h0 : cmpS d e = 0
    · rw [if_pos h0, encD_same h0, compare_pre]
      exact encR_cmp l m (fun x hx => hl x (by simp [hx])) (fun x hx => hm x (by simp [hx]))
    · rw [if_neg h0]
      rcases cmpS_cases d e with h1 | h1 | h1
      · exact absurd h1 h0
      · rw [((encD_lt kd ke wd.2 we.2 h1).app _ _).compare, h1]
      · rw [compare_turn, ((encD_lt ke kd we.2 wd.2 h1).app _ _).compare, cmpS_turn d e, h1]
/-- Keys are the same just if rows compare as the same. -/
theorem keyR_same : ∀ l m : List Dat, (∀ d ∈ l, Wide d) → (∀ d ∈ m, Wide d) → (keyR l = keyR m ↔ cmpR l m = 0)
  | [], [], _, _ => by simp [keyR, cmpR]
  | [], e :: m, _, _ => by
    have := keyD_ne e
    simp [keyR, cmpR, this]
  | d :: l, [], _, _ => by
    have := keyD_ne d
    simp [keyR, cmpR, this]
  | d :: l, e :: m, hl, hm => by
    rw [cmpR]
    unfold keyR
    rw [List.flatMap_cons, List.flatMap_cons]
    by_cases h0 : cmpS d e = 0
    · rw [if_pos h0, keyD_same h0, List.append_cancel_left_eq]
      exact keyR_same l m (fun x hx => hl x (by simp [hx])) (fun x hx => hm x (by simp [hx]))
    · rw [if_neg h0]
      have := ((keyD_dif (hl d (by simp)) (hm e (by simp)) h0).app (l.flatMap keyD) (m.flatMap keyD)).ne
      exact ⟨fun q => absurd q this, fun q => absurd q h0⟩
end Go.Proofs.YtfkimemagbkcoaaDoor
