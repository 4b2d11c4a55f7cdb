/-
  Texts that belong together: Unhex. What each one says stands ahead of it.
-/
import Derived.Test.YtpmfbmigdpmloaaGreatDoorPk01
import Derived.Test.YtpmfbmigdpmloaaGreatDoorPk06
import Derived.Test.YtpmfbmigdpmloaaGreatDoorRefLongPk
import Derived.Lib.ConvBytes
/-
  strconv.ParseUint of two bytes, at base 16 and 8 bits, at this program. No condition.
  strconv.ParseUint of two bytes (outside), datum.unhex and datum.unescape, at this program. Condition: the variable strconv.ErrSyntax holds an error or none.
-/
set_option linter.unusedVariables false
set_option linter.unusedSimpArgs false
namespace Go.Proofs.YtpmfbmigdpmloaaGreatDoor
open Go.RowKit Go.Lib

/-- A byte in small letters, as strconv sees it. -/
def lowZ (c : UInt8) : Int := bits .or .u8 (c.toNat : Int) 32
/-- What a byte is as a digit; 99: it is none. -/
def dvZ (c : UInt8) : Int := if 48 ≤ c.toNat ∧ c.toNat ≤ 57 then (c.toNat : Int) - 48 else if 97 ≤ lowZ c ∧ lowZ c ≤ 122 then lowZ c - 87 else 99
/-- The number of two digits, if they are. -/
def puS (x y : UInt8) : Option Int := if dvZ x < 16 ∧ dvZ y < 16 then some (16 * dvZ x + dvZ y) else none
theorem dvZ_nonneg (c : UInt8) : 0 ≤ dvZ c := by
  unfold dvZ
  repeat' split
  all_goals omega
/-- What the rounds hold. -/
def RelP (x y : UInt8) (vu vn vi : Value) : Prop :=
  vu = .bool false ∧ ((vi = .int .i64 0 ∧ vn = .int .u64 0) ∨ (∃ a : Int, vi = .int .i64 1 ∧ vn = .int .u64 a ∧ a = dvZ x ∧ dvZ x < 16) ∨ (∃ a : Int, vi = .int .i64 2 ∧ vn = .int .u64 a ∧ a = 16 * dvZ x + dvZ y ∧ dvZ x < 16 ∧ dvZ y < 16))
def resP (o : Option Int) : Value := match o with
  | some n => .tuple #[.int .u64 n, .nilIface]
  | none => .tuple #[.int .u64 0, .iface 182 (.int .i64 2)]
theorem below_bytes (w : World) (e : TypeId) (s : ByteArray) : Below w.heap.size w (Lib.bytesWorld w e s) where
  os := by simp [Lib.bytesWorld, World.freeze, World.alloc, World.drew, -World.alloc_eq, -World.drew_eq]
  tape := by simp [Lib.bytesWorld, World.freeze, World.alloc, World.drew, -World.alloc_eq, -World.drew_eq]
  output := by simp [Lib.bytesWorld, World.freeze, World.alloc, World.drew, -World.alloc_eq, -World.drew_eq]
  size := by rw [Lib.bytesWorld_size]; omega
  block := fun b hb => Lib.bytesWorld_at_old w e s b hb
set_option maxRecDepth 100000 in
set_option maxHeartbeats 8000000 in
theorem pu_inner (x y : UInt8) (w : World) :
    Calls Tryz.prog 145 #[.string ⟨#[x, y]⟩, .int .i64 16, .int .i64 8] w fun e w' => e = .returned (resP (puS x y)) ∧ Below w.heap.size w w' := by
  have hcv := Lib.run_convert_string_bytes (P := Tryz.prog) w 9 31 5 ⟨#[x, y]⟩ (u := .string) Tryz.underlying9 Tryz.underlying31 Tryz.underlying5
  have hB : ∀ j, j < 2 → (Lib.bytesWorld w 5 ⟨#[x, y]⟩).cell? ⟨w.heap.size, j, none⟩ = some (.int .u8 ((⟨#[x, y]⟩ : ByteArray).data.toList.getD j 0).toNat) := fun j hj => Lib.bytesWorld_cell w 5 ⟨#[x, y]⟩ j hj
  have hbw := below_bytes w 5 ⟨#[x, y]⟩
  have hg0 : ((⟨#[x, y]⟩ : ByteArray).data.toList.getD 0 0) = x := rfl
  have hg1 : ((⟨#[x, y]⟩ : ByteArray).data.toList.getD 1 0) = y := rfl
  obtain ⟨cap, hcap⟩ : ∃ cap, grownCap w (⟨#[x, y]⟩ : ByteArray).size 0 5 = cap := ⟨_, rfl⟩
  rw [hcap] at hcv
  clear hcap
  obtain ⟨W1, hW1⟩ : ∃ W1, W1 = Lib.bytesWorld w 5 ⟨#[x, y]⟩ := ⟨_, rfl⟩
  rw [← hW1] at hcv hB hbw
  clear hW1
  have hsz : (⟨#[x, y]⟩ : ByteArray).size = 2 := rfl
  rw [hsz] at hcv
  go_enter Tryz.func145, Tryz.ntmps145
  go_wp2
  go_loop [12, 13, 101] (fun vu vn vi => RelP x y vu vn vi) (fun _ _ vi => 2 - (Go.RowKit.intOf vi).toNat)
  case atStart => exact ⟨rfl, .inl ⟨rfl, rfl⟩⟩
  case round =>
    unfold RelP at hrel
    obtain ⟨rfl, hrel⟩ := hrel
    rcases hrel with ⟨rfl, rfl⟩ | ⟨a, rfl, rfl, ha, hx16⟩ | ⟨a, rfl, rfl, ha, hx16, hy16⟩
    · clear hg1
      obtain ⟨c, hc⟩ : ∃ c, x.toNat = c := ⟨_, rfl⟩
      obtain ⟨l, hl⟩ : ∃ l, bits .or .u8 (c : Int) 32 = l := ⟨_, rfl⟩
      have hc256 : c < 256 := by rw [← hc]; exact x.toNat_lt
      have hl0 := bits_lo_u8 .or (c : Int) 32
      have hl1 := bits_hi_u8 .or (c : Int) 32
      rw [hl] at hl0 hl1
      have hlow : lowZ x = l := by unfold lowZ; rw [hc, hl]
      have hcell := hB 0 (by decide)
      rw [hg0, hc] at hcell
      clear hB
      by_cases hdig : 48 ≤ c ∧ c ≤ 57
      · have hd : dvZ x = (c : Int) - 48 := by unfold dvZ; rw [hc, if_pos hdig]
        obtain ⟨g0, g1⟩ := hdig
        have hdH := Lib.hid hd
        clear hd hlow hl hc
        go_wp2_with (go_at_call 155; refine (Tryz.internal_strconv_lower _ _).mono ?_; rintro e w' ⟨rfl, rfl⟩)
        go_round
        case rel => exact ⟨rfl, .inr (.inl ⟨_, rfl, rfl, (by have := hdH.out; omega), (by have := hdH.out; omega)⟩)⟩
        case measure => simp [Go.RowKit.intOf]
      by_cases h95 : c = 95
      · have hres : puS x y = none := by
          have hbad : ¬ dvZ x < 16 := by
            unfold dvZ lowZ
            rw [hc, h95]
            decide
          unfold puS
          rw [if_neg (by exact fun h => hbad h.1)]
        have hresH := Lib.hid hres
        have hb95 : bits .or .u8 95 32 = 127 := by decide
        subst h95
        clear hres hlow hc hdig
        go_wp2_with (go_at_call 155; refine (Tryz.internal_strconv_lower _ _).mono ?_; rintro e w' ⟨rfl, rfl⟩)
        all_goals
          go_ret2
          exact ⟨by rw [hresH.out]; rfl, hbw⟩
      · have hn95 : ((c : Int) == 95) = false := by simp; omega
        have hnd : ¬ (48 ≤ x.toNat ∧ x.toNat ≤ 57) := by rw [hc]; exact hdig
        by_cases hlet : 97 ≤ l ∧ l ≤ 102
        · have hd : dvZ x = l - 87 := by unfold dvZ; rw [if_neg hnd, hlow, if_pos (by omega)]
          obtain ⟨g0, g1⟩ := hlet
          have hdH := Lib.hid hd
          clear hd hlow hc hnd
          rcases (show c < 48 ∨ 57 < c by omega) with k | k
          all_goals
            clear hdig
            go_wp2_with (go_at_call 155; refine (Tryz.internal_strconv_lower _ _).mono ?_; rintro e w' ⟨rfl, rfl⟩)
            go_round
            case rel => exact ⟨rfl, .inr (.inl ⟨_, rfl, rfl, (by have := hdH.out; omega), (by have := hdH.out; omega)⟩)⟩
            case measure => simp [Go.RowKit.intOf]
        · have hbad : ¬ dvZ x < 16 := by unfold dvZ; rw [if_neg hnd, hlow]; split <;> omega
          have hres : puS x y = none := by unfold puS; rw [if_neg (by exact fun h => hbad h.1)]
          have hresH := Lib.hid hres
          clear hbad hres hlow hc hnd
          rcases (show c < 48 ∨ 57 < c by omega) with k | k
          all_goals
            clear hdig
            rcases (show l < 97 ∨ 122 < l ∨ (102 < l ∧ l ≤ 122) by omega) with j | j | ⟨j, j2⟩
          all_goals
            clear hlet
            go_wp2_with (go_at_call 155; refine (Tryz.internal_strconv_lower _ _).mono ?_; rintro e w' ⟨rfl, rfl⟩)
          all_goals
            go_ret2
            exact ⟨by rw [hresH.out]; rfl, hbw⟩
    · have a0 : 0 ≤ a := by rw [ha]; exact dvZ_nonneg x
      have a1 : a < 16 := by omega
      have haH := Lib.hid (And.intro ha hx16)
      clear ha hx16 hg0
      obtain ⟨c, hc⟩ : ∃ c, y.toNat = c := ⟨_, rfl⟩
      obtain ⟨l, hl⟩ : ∃ l, bits .or .u8 (c : Int) 32 = l := ⟨_, rfl⟩
      have hc256 : c < 256 := by rw [← hc]; exact y.toNat_lt
      have hl0 := bits_lo_u8 .or (c : Int) 32
      have hl1 := bits_hi_u8 .or (c : Int) 32
      rw [hl] at hl0 hl1
      have hlow : lowZ y = l := by unfold lowZ; rw [hc, hl]
      have hcell := hB 1 (by decide)
      rw [hg1, hc] at hcell
      clear hB
      by_cases hdig : 48 ≤ c ∧ c ≤ 57
      · have hd : dvZ y = (c : Int) - 48 := by unfold dvZ; rw [hc, if_pos hdig]
        obtain ⟨g0, g1⟩ := hdig
        have hdH := Lib.hid hd
        clear hd hlow hl hc
        go_wp2_with (go_at_call 155; refine (Tryz.internal_strconv_lower _ _).mono ?_; rintro e w' ⟨rfl, rfl⟩)
        go_round
        case rel => exact ⟨rfl, .inr (.inr ⟨_, rfl, rfl, (by have := hdH.out; have := haH.out; omega), haH.out.2, (by have := hdH.out; omega)⟩)⟩
        case measure => simp [Go.RowKit.intOf]
      by_cases h95 : c = 95
      · have hres : puS x y = none := by
          have hbad : ¬ dvZ y < 16 := by
            unfold dvZ lowZ
            rw [hc, h95]
            decide
          unfold puS
          rw [if_neg (by exact fun h => hbad h.2)]
        have hresH := Lib.hid hres
        have hb95 : bits .or .u8 95 32 = 127 := by decide
        subst h95
        clear hres hlow hc hdig
        go_wp2_with (go_at_call 155; refine (Tryz.internal_strconv_lower _ _).mono ?_; rintro e w' ⟨rfl, rfl⟩)
        all_goals
          go_ret2
          exact ⟨by rw [hresH.out]; rfl, hbw⟩
      · have hn95 : ((c : Int) == 95) = false := by simp; omega
        have hnd : ¬ (48 ≤ y.toNat ∧ y.toNat ≤ 57) := by rw [hc]; exact hdig
        by_cases hlet : 97 ≤ l ∧ l ≤ 102
        · have hd : dvZ y = l - 87 := by unfold dvZ; rw [if_neg hnd, hlow, if_pos (by omega)]
          obtain ⟨g0, g1⟩ := hlet
          have hdH := Lib.hid hd
          clear hd hlow hc hnd
          rcases (show c < 48 ∨ 57 < c by omega) with k | k
          all_goals
            clear hdig
            go_wp2_with (go_at_call 155; refine (Tryz.internal_strconv_lower _ _).mono ?_; rintro e w' ⟨rfl, rfl⟩)
            go_round
            case rel => exact ⟨rfl, .inr (.inr ⟨_, rfl, rfl, (by have := hdH.out; have := haH.out; omega), haH.out.2, (by have := hdH.out; omega)⟩)⟩
            case measure => simp [Go.RowKit.intOf]
        · have hbad : ¬ dvZ y < 16 := by unfold dvZ; rw [if_neg hnd, hlow]; split <;> omega
          have hres : puS x y = none := by unfold puS; rw [if_neg (by exact fun h => hbad h.2)]
          have hresH := Lib.hid hres
          clear hbad hres hlow hc hnd
          rcases (show c < 48 ∨ 57 < c by omega) with k | k
          all_goals
            clear hdig
            rcases (show l < 97 ∨ 122 < l ∨ (102 < l ∧ l ≤ 122) by omega) with j | j | ⟨j, j2⟩
          all_goals
            clear hlet
            go_wp2_with (go_at_call 155; refine (Tryz.internal_strconv_lower _ _).mono ?_; rintro e w' ⟨rfl, rfl⟩)
          all_goals
            go_ret2
            exact ⟨by rw [hresH.out]; rfl, hbw⟩
    · have hres : puS x y = some a := by unfold puS; rw [if_pos ⟨hx16, hy16⟩, ha]
      have hresH := Lib.hid hres
      clear hres ha hx16 hy16 hB hg0 hg1
      go_wp2
      go_ret2
      exact ⟨by rw [hresH.out]; rfl, hbw⟩
open Go.RowKit Go.Lib

/-- The variable strconv.ErrSyntax reads as an interface. -/
def ErrV (w : World) : Prop := ∃ ev, w.cell? ⟨4, 0, none⟩ = some ev ∧ (ev = .nilIface ∨ ∃ te pe, ev = .iface te pe)
theorem ErrV.below {w w' : World} (h : ErrV w) (hb : Below w.heap.size w w') : ErrV w' := by
  obtain ⟨ev, h1, h2⟩ := h
  exact ⟨ev, (hb.cell (p := ⟨4, 0, none⟩) (World.block_lt_of_cell? w _ h1)).trans h1, h2⟩
def OutP (o : Option Int) (e : Ending) : Prop := match o with
  | some n => e = .returned (.tuple #[.int .u64 n, .nilIface])
  | none => ∃ T p, e = .returned (.tuple #[.int .u64 0, .iface T p])
set_option maxHeartbeats 4000000 in
set_option maxRecDepth 100000 in
theorem pu_any (x y : UInt8) (w : World) (hE : ErrV w) :
    Calls Tryz.prog 153 #[.string ⟨#[x, y]⟩, .int .i64 16, .int .i64 8] w fun e w' => OutP (puS x y) e ∧ Below w.heap.size w w' := by
  obtain ⟨o, ho⟩ : ∃ o, puS x y = o := ⟨_, rfl⟩
  rw [ho]
  have hoH := Lib.hid ho
  clear ho
  have hEH := Lib.hid hE
  clear hE
  cases o with
  | some n =>
    go_enter Tryz.func153, Tryz.ntmps153
    go_wp2_with (go_at_call 145; refine (pu_inner x y _).mono ?_; rw [hoH.out]; rintro e w1 ⟨rfl, hb1⟩; simp only [resP])
    go_ret2
    exact ⟨rfl, hb1⟩
  | none =>
    go_enter Tryz.func153, Tryz.ntmps153
    go_wp2_with (first | (go_at_call 145; refine (pu_inner x y _).mono ?_; rw [hoH.out]; rintro e w1 ⟨rfl, hb1⟩; simp only [resP]; obtain ⟨ev, hev, hev2⟩ := hEH.out.below hb1) | (go_at_call 132; refine (Tryz.strconv_toError_syntax _ ⟨#[x, y]⟩ 16 8 ev _ (by show 2 ≤ 281474976710656; decide) hev hev2).mono ?_; rintro e w2 ⟨N, rfl, _, _, hb2⟩; have hb := hb1.trans (hb2.mono hb1.size)))
    go_ret2
    exact ⟨⟨_, _, rfl⟩, hb⟩
theorem get0 (a b : UInt8) (t : List UInt8) : (⟨⟨a :: b :: t⟩⟩ : ByteArray).get! 0 = a := by simp [ByteArray.get!]
theorem get1 (a b : UInt8) (t : List UInt8) : (⟨⟨a :: b :: t⟩⟩ : ByteArray).get! 1 = b := by simp [ByteArray.get!]
theorem extract_two (s : ByteArray) (h : 2 ≤ s.size) : s.extract 0 2 = ⟨#[s.get! 0, s.get! 1]⟩ := by
  rcases s with ⟨⟨l⟩⟩
  match l, h with
  | a :: b :: t, _ =>
    rw [get0, get1]
    refine bytes_ext ?_
    simp [ByteArray.data_extract]
  | [a], h => exact absurd h (by show ¬ 2 ≤ 1; omega)
  | [], h => exact absurd h (by show ¬ 2 ≤ 0; omega)
def optP (o : Option Int) : Int × Int := match o with
  | some n => (n, 4)
  | none => (0, 0)
/-- The number of two digits at the beginning, with the escape's size. -/
def unhexS (s : ByteArray) : Int × Int := if s.size < 2 then (0, 0) else optP (puS (s.get! 0) (s.get! 1))
theorem puS_range {x y : UInt8} {n : Int} (h : puS x y = some n) : 0 ≤ n ∧ n ≤ 255 := by
  unfold puS at h
  have h1 := dvZ_nonneg x
  have h2 := dvZ_nonneg y
  split at h
  · rename_i g
    have := Option.some.inj h
    omega
  · cases h
set_option maxHeartbeats 4000000 in
set_option maxRecDepth 100000 in
theorem unhex_any (s : ByteArray) (w : World) (hE : ErrV w) (hs : s.size ≤ 9223372036854775807) :
    Calls Tryz.prog 143 #[.string s] w fun e w' => e = .returned (.tuple #[.int .i32 (unhexS s).1, .int .i64 (unhexS s).2]) ∧ Below w.heap.size w w' := by
  have hEH := Lib.hid hE
  clear hE
  by_cases h2 : s.size < 2
  · rw [show unhexS s = (0, 0) by unfold unhexS; rw [if_pos h2]]
    have hg : (s.size : Int) < 2 := by omega
    go_enter Tryz.func143, Tryz.ntmps143
    go_wp2
    go_ret2
    exact ⟨rfl, by go_grown⟩
  · have hx := extract_two s (by omega)
    obtain ⟨o, ho⟩ : ∃ o, puS (s.get! 0) (s.get! 1) = o := ⟨_, rfl⟩
    have hS : unhexS s = optP o := by unfold unhexS; rw [if_neg h2, ho]
    rw [hS]
    obtain ⟨x, hx0⟩ : ∃ x, s.get! 0 = x := ⟨_, rfl⟩
    obtain ⟨y, hy0⟩ : ∃ y, s.get! 1 = y := ⟨_, rfl⟩
    rw [hx0, hy0] at ho hx
    have hg : ¬ (s.size : Int) < 2 := by omega
    have hg2 : (2 : Int) ≤ s.size := by omega
    have hoH := Lib.hid ho
    cases o with
    | some n =>
      obtain ⟨n0, n1⟩ := puS_range ho
      clear ho hS hx0 hy0
      simp only [optP]
      go_enter Tryz.func143, Tryz.ntmps143
      go_wp2_with (go_at_call 153; refine (pu_any x y _ (by exact hEH.out)).mono ?_; rw [hoH.out]; rintro e w1 ⟨rfl, hb1⟩)
      go_ret2
      exact ⟨rfl, hb1⟩
    | none =>
      clear ho hS hx0 hy0
      simp only [optP]
      go_enter Tryz.func143, Tryz.ntmps143
      go_wp2_with (go_at_call 153; refine (pu_any x y _ (by exact hEH.out)).mono ?_; rw [hoH.out]; rintro e w1 ⟨⟨T, p, rfl⟩, hb1⟩)
      go_ret2
      exact ⟨rfl, hb1⟩
/-- What the escape at the beginning stands for, and its size; 0: there is none. -/
def escP (x y : UInt8) (r : Int × Int) : Int × Int :=
  if x = 39 ∧ y = 39 then (39, 2) else if x = 92 ∧ y = 92 then (92, 2) else if x = 92 ∧ y = 110 then (10, 2) else if x = 92 ∧ y = 114 then (13, 2) else if x = 92 ∧ y = 116 then (9, 2)
  else if x = 92 ∧ y = 120 then r else (0, 0)
def unescS (s : ByteArray) : Int × Int := if s.size < 2 then (0, 0) else escP (s.get! 0) (s.get! 1) (unhexS (s.extract 2 s.size))
theorem ret_esc {a b : Int} {q : Int × Int} (h : q = (a, b)) : Ending.returned (.tuple #[.int .i32 a, .int .i64 b]) = .returned (.tuple #[.int .i32 q.1, .int .i64 q.2]) := by subst h; rfl
set_option maxHeartbeats 4000000 in
set_option maxRecDepth 100000 in
theorem unescape_any (s : ByteArray) (w : World) (hE : ErrV w) (hs : s.size ≤ 9223372036854775807) :
    Calls Tryz.prog 129 #[.string s] w fun e w' => e = .returned (.tuple #[.int .i32 (unescS s).1, .int .i64 (unescS s).2]) ∧ Below w.heap.size w w' := by
  have hEH := Lib.hid hE
  clear hE
  by_cases h2 : s.size < 2
  · rw [show unescS s = (0, 0) by unfold unescS; rw [if_pos h2]]
    have hg : (s.size : Int) < 2 := by omega
    go_enter Tryz.func129, Tryz.ntmps129
    go_wp2
    go_ret2
    exact ⟨rfl, by go_grown⟩
  · have hx := extract_two s (by omega)
    obtain ⟨r, hr⟩ : ∃ r, unhexS (s.extract 2 s.size) = r := ⟨_, rfl⟩
    obtain ⟨x, hx0⟩ : ∃ x, s.get! 0 = x := ⟨_, rfl⟩
    obtain ⟨y, hy0⟩ : ∃ y, s.get! 1 = y := ⟨_, rfl⟩
    have hS : unescS s = escP x y r := by unfold unescS; rw [if_neg h2, hx0, hy0, hr]
    rw [hS]
    rw [hx0, hy0] at hx
    obtain ⟨q, hq⟩ : ∃ q, escP x y r = q := ⟨_, rfl⟩
    rw [hq]
    have hqH := Lib.hid hq
    have hg : ¬ (s.size : Int) < 2 := by omega
    have hg2 : (2 : Int) ≤ s.size := by omega
    have hrH := Lib.hid hr
    have hez : (s.extract 2 s.size).size ≤ 9223372036854775807 := by rw [ByteArray.size_extract]; omega
    have hezH := Lib.hid hez
    clear hr hS hx0 hy0 hq hez
    go_enter Tryz.func129, Tryz.ntmps129
    go_wp2_with (go_at_call 143; refine (unhex_any _ _ (by exact hEH.out) hezH.out).mono ?_; rw [hrH.out]; rintro e w1 ⟨rfl, hb1⟩)
    all_goals
      go_ret2
      refine ⟨ret_esc ?_, by first | exact hb1 | go_grown⟩
      rw [← hqH.out]
      unfold escP
      first
        | (simp_all; done)
        | (rw [if_neg (by rintro ⟨rfl, rfl⟩; simp_all), if_neg (by rintro ⟨rfl, rfl⟩; simp_all), if_neg (by rintro ⟨rfl, rfl⟩; simp_all), if_neg (by rintro ⟨rfl, rfl⟩; simp_all), if_neg (by rintro ⟨rfl, rfl⟩; simp_all), if_neg (by rintro ⟨rfl, rfl⟩; simp_all)])
end Go.Proofs.YtpmfbmigdpmloaaGreatDoor
