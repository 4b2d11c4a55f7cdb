/-
  Texts that belong together: Mk, Cat, ShelfP. What each one says stands ahead of it.
-/
import Derived.Test.YtpmfbmigdpmloaaGreatDoorPk01
import Derived.Test.YtpmfbmigdpmloaaGreatDoorRuneSPk
import Derived.Test.YtpmfbmigdpmloaaGreatDoorPk02
import Derived.Ground.NamesProg
import Derived.Shelf.Unicode.ValidAny
import Derived.Lib.ValidU
import Derived.Shelf.Strings.Builder1
import Derived.Shelf.Strings.Builder2
import Derived.Shelf.Small.Strs
import Derived.Shelf.Small.Wraps
import Derived.Shelf.Strings.BuilderK
import Derived.Shelf.Strings.BuilderRune
import Derived.Shelf.LaysM
import Derived.Shelf.Strconv.Itoa4
import Derived.Shelf.LaysC
import Derived.Shelf.Strconv.ParseIntPublic10
import Derived.Shelf.Strconv.ErrVarParseInt
import Derived.Shelf.Strings.Prefix
import Derived.Test.YtpmfbmigdpmloaaGreatDoorProg
section
/-
  What the makers of data answer, at this program: boolean, null, text, integer; a result's variable. No condition.
-/
set_option linter.unusedVariables false
set_option linter.unusedSimpArgs false
namespace Go.Proofs.YtpmfbmigdpmloaaGreatDoor
open Go.RowKit Go.Lib

set_option maxHeartbeats 1000000 in
theorem boolean_any (b : Bool) (w : World) :
    Calls Tryz.prog 99 #[.bool b] w fun e w' => e = .returned (.agg #[.int .u8 2, .bool b, .int .i64 0, .string ⟨#[]⟩]) ∧ Below w.heap.size w w' := by
  go_enter Tryz.func99, Tryz.ntmps99
  go_wp2
  go_returns
  exact ⟨rfl, by go_grown⟩
set_option maxHeartbeats 1000000 in
theorem null_any (w : World) :
    Calls Tryz.prog 98 #[] w fun e w' => e = .returned (.agg #[.int .u8 1, .bool false, .int .i64 0, .string ⟨#[]⟩]) ∧ Below w.heap.size w w' := by
  go_enter Tryz.func98, Tryz.ntmps98
  go_wp2
  go_returns
  exact ⟨rfl, by go_grown⟩
set_option maxHeartbeats 1000000 in
theorem text_any (s : ByteArray) (w : World) :
    Calls Tryz.prog 101 #[.string s] w fun e w' => e = .returned (.agg #[.int .u8 4, .bool false, .int .i64 0, .string s]) ∧ Below w.heap.size w w' := by
  go_enter Tryz.func101, Tryz.ntmps101
  go_wp2
  go_returns
  exact ⟨rfl, by go_grown⟩
set_option maxHeartbeats 2000000 in
theorem integer_any (n : Int) (w : World) :
    Calls Tryz.prog 103 #[.int .i64 n] w fun e w' => e = .returned (.agg #[.int .u8 3, .bool false, .int .i64 n, .string ⟨#[]⟩]) ∧ Below w.heap.size w w' := by
  go_enter Tryz.func103, Tryz.ntmps103
  go_wp2
  go_returns
  exact ⟨rfl, by go_grown⟩
theorem box0 (w : World) :
    ∃ W0, w.alloc (.cells #[.int .u8 0, .bool false, .int .i64 0, .string ⟨#[]⟩] 60) = W0 ∧ Below w.heap.size w W0 ∧ Has W0 w.heap.size (.int .u8 0) (.bool false) (.int .i64 0) (.string ⟨#[]⟩) ∧ w.heap.size < W0.heap.size :=
  ⟨_, rfl, by go_grown, Has.new _ _ _ _ _, by simp⟩
/-- A result that is a datum and an error's number. -/
abbrev resV (r : Dat × Int) : Value := .tuple #[.agg #[.int .u8 r.1.k, .bool r.1.b, .int .i64 r.1.n, .string r.1.s], .int .u16 r.2]
end Go.Proofs.YtpmfbmigdpmloaaGreatDoor
end
section
/-
  Plain mathematics: two texts side by side: valid if both are; as many runes as both; not before the first. No condition but those written.
-/
set_option linter.unusedVariables false
set_option linter.unusedSimpArgs false
namespace Go.Proofs.YtpmfbmigdpmloaaGreatDoor
open Go.Lib

/-- How many bytes the first rune has; 0: there is none. -/
def lonL (l : List UInt8) : Nat := longN l.length (l.getD 0 0).toNat (l.getD 1 0).toNat (l.getD 2 0).toNat (l.getD 3 0).toNat
theorem lonL_eq (l : List UInt8) (h : l ≠ []) : lonL l = if decodeL l = (65533, 1) then 0 else (decodeL l).2 := by
  unfold lonL
  rw [decodeL_N, longN_eq _ _ _ _ _ (List.length_pos_iff.2 h) (l.getD 0 0).toNat_lt (l.getD 1 0).toNat_lt (l.getD 2 0).toNat_lt (l.getD 3 0).toNat_lt]
theorem validD_lonL (l : List UInt8) (h : l ≠ []) (hv : validD l = true) : lonL l ≠ 0 ∧ (decodeL l).2 = lonL l ∧ validD (l.drop (lonL l)) = true := by
  rw [validD_step l h] at hv
  by_cases hd : (decodeL l).1 = 65533 ∧ (decodeL l).2 = 1
  · rw [if_pos hd] at hv; cases hv
  · rw [if_neg hd] at hv
    have hne : ¬ decodeL l = (65533, 1) := fun e => hd ⟨by rw [e], by rw [e]⟩
    have hk : lonL l = (decodeL l).2 := by rw [lonL_eq l h, if_neg hne]
    rw [hk]
    refine ⟨?_, rfl, hv⟩
    have := decode_width_pos ⟨l.toArray⟩ 0 (by have := List.length_pos_iff.2 h; show 0 < l.toArray.size; simpa using this)
    unfold decodeL
    omega
theorem validD_of_lonL (l : List UInt8) (h : l ≠ []) (hk : lonL l ≠ 0) (hv : validD (l.drop (lonL l)) = true) : validD l = true := by
  rw [validD_step l h]
  rw [lonL_eq l h] at hk hv
  by_cases hd : decodeL l = (65533, 1)
  · rw [if_pos hd] at hk; exact absurd rfl hk
  · rw [if_neg hd] at hv
    rw [if_neg (fun e => hd (Prod.ext e.1 e.2))]
    exact hv
theorem longN_le (n b0 b1 b2 b3 : Nat) (hn : 1 ≤ n) : longN n b0 b1 b2 b3 ≤ n := by
  unfold longN; repeat' split
  all_goals omega
/-- More bytes behind a whole rune change nothing. -/
theorem longN_more (n m b0 b1 b2 b3 c0 c1 c2 c3 : Nat) (hn : 1 ≤ n) (hm : n ≤ m) (h0 : b0 = c0) (h1 : 2 ≤ n → b1 = c1) (h2 : 3 ≤ n → b2 = c2) (h3 : 4 ≤ n → b3 = c3) (hk : longN n b0 b1 b2 b3 ≠ 0) :
    longN m c0 c1 c2 c3 = longN n b0 b1 b2 b3 := by
  subst h0
  unfold longN at *
  by_cases a : b0 < 128
  · simp [a]
  by_cases b : 194 ≤ b0 ∧ b0 < 224
  · simp only [a, b, if_true, if_false] at *
    by_cases e : n < 2
    · simp [e] at hk
    · have := h1 (by omega)
      subst this
      simp [e, show ¬ m < 2 by omega]
  by_cases c : 224 ≤ b0 ∧ b0 < 240
  · simp only [a, b, c, if_true, if_false] at *
    by_cases e : n < 3
    · simp [e] at hk
    · have := h1 (by omega)
      have := h2 (by omega)
      subst_vars
      simp [e, show ¬ m < 3 by omega]
  by_cases d : 240 ≤ b0 ∧ b0 < 245
  · simp only [a, b, c, d, if_true, if_false] at *
    by_cases e : n < 4
    · simp [e] at hk
    · have := h1 (by omega)
      have := h2 (by omega)
      have := h3 (by omega)
      subst_vars
      simp [e, show ¬ m < 4 by omega]
  · simp [a, b, c, d] at hk
theorem getD_app (l m : List UInt8) (i : Nat) (h : i < l.length) : (l ++ m).getD i 0 = l.getD i 0 := by
  simp [List.getD, List.getElem?_append_left h]
theorem lonL_app (l m : List UInt8) (h : l ≠ []) (hk : lonL l ≠ 0) : lonL (l ++ m) = lonL l := by
  have hl := List.length_pos_iff.2 h
  unfold lonL at *
  refine longN_more _ _ _ _ _ _ _ _ _ _ hl (by simp) (by rw [getD_app _ _ _ hl]) ?_ ?_ ?_ hk
  all_goals
    intro hh
    rw [getD_app _ _ _ (by omega)]
theorem lonL_le (l : List UInt8) (h : l ≠ []) : lonL l ≤ l.length := longN_le _ _ _ _ _ (List.length_pos_iff.2 h)
theorem validD_app : ∀ (f : Nat) (l m : List UInt8), l.length ≤ f → validD l = true → validD m = true → validD (l ++ m) = true
  | f, [], m, _, _, hm => by simpa using hm
  | 0, x :: l, m, hf, _, _ => by simp at hf
  | f + 1, x :: l, m, hf, hv, hm => by
    have hne : (x :: l : List UInt8) ≠ [] := by simp
    obtain ⟨hk, _, hd⟩ := validD_lonL _ hne hv
    have hle := lonL_le _ hne
    have ha := lonL_app (x :: l) m hne hk
    refine validD_of_lonL _ (by simp) (by rw [ha]; exact hk) ?_
    rw [ha, List.drop_append_of_le_length hle]
    refine validD_app f _ m ?_ hd hm
    simp only [List.length_drop, List.length_cons] at *
    omega
/-- How many runes a list of bytes has. -/
def cntL : Nat → List UInt8 → Nat
  | 0, _ => 0
  | f + 1, l => if l = [] then 0 else 1 + cntL f (l.drop (decodeL l).2)
theorem cntL_succ (f : Nat) (l : List UInt8) : cntL (f + 1) l = if l = [] then 0 else 1 + cntL f (l.drop (decodeL l).2) := rfl
theorem cntL_nil : ∀ f, cntL f [] = 0
  | 0 => rfl
  | f + 1 => by simp [cntL]
theorem cntS_list (s : ByteArray) : ∀ f pos, runeCountFrom s f pos = cntL f (s.data.toList.drop pos)
  | 0, _ => rfl
  | f + 1, pos => by
    unfold runeCountFrom cntL
    by_cases h : pos < s.size
    · rw [if_pos h, if_neg (drop_ne s pos h), cntS_list s f, decodeL_drop, List.drop_drop]
    · rw [if_neg h, if_pos (List.drop_eq_nil_of_le (by rw [size_list]; omega))]
theorem cntL_app : ∀ (f g k : Nat) (l m : List UInt8), l.length ≤ f → m.length ≤ g → (l ++ m).length ≤ k → validD l = true → cntL k (l ++ m) = cntL f l + cntL g m
  | f, 0, k, [], m, _, hg, hk, _ => by
    have : m = [] := List.length_eq_zero_iff.1 (by omega)
    subst this
    simp [cntL_nil]
  | f, g + 1, k, [], m, hf, hg, hk, _ => by
    rw [cntL_nil]
    simp only [List.nil_append, Nat.zero_add] at *
    exact cntL_fuel k (g + 1) m hk hg
  | 0, _, _, x :: l, m, hf, _, _, _ => by simp at hf
  | f + 1, g, 0, x :: l, m, hf, _, hk, _ => by simp at hk
  | f + 1, g, k + 1, x :: l, m, hf, hg, hk, hv => by
    have hne : (x :: l : List UInt8) ≠ [] := by simp
    obtain ⟨h0, h2, hd⟩ := validD_lonL _ hne hv
    have hle := lonL_le _ hne
    have ha := lonL_app (x :: l) m hne h0
    have hne2 : (x :: l) ++ m ≠ [] := by simp
    have hd2 : (decodeL ((x :: l) ++ m)).2 = lonL (x :: l) := by
      have := lonL_eq _ hne2
      rw [ha] at this
      by_cases e : decodeL ((x :: l) ++ m) = (65533, 1)
      · rw [if_pos e] at this; exact absurd this h0
      · rw [if_neg e] at this; exact this.symm
    rw [cntL_succ k, cntL_succ f, if_neg hne2, if_neg hne, hd2, h2, List.drop_append_of_le_length hle, cntL_app f g k _ m (by simp only [List.length_drop, List.length_cons] at *; omega) hg (by simp only [List.length_append, List.length_drop, List.length_cons] at *; omega) hd]
    omega
where
  cntL_fuel : ∀ (f g : Nat) (l : List UInt8), l.length ≤ f → l.length ≤ g → cntL f l = cntL g l
  | f, g, [], _, _ => by rw [cntL_nil, cntL_nil]
  | 0, _, x :: l, hf, _ => by simp at hf
  | _, 0, x :: l, _, hg => by simp at hg
  | f + 1, g + 1, x :: l, hf, hg => by
    have hp := decode_width_pos ⟨(x :: l).toArray⟩ 0 (by show 0 < (x :: l).toArray.size; simp)
    have hp2 : 1 ≤ (decodeL (x :: l)).2 := hp
    rw [cntL_succ f, cntL_succ g, if_neg (by simp), if_neg (by simp), cntL_fuel f g _ (by rw [List.length_drop]; simp only [List.length_cons] at hf ⊢; omega) (by rw [List.length_drop]; simp only [List.length_cons] at hg ⊢; omega)]
theorem compare_app : ∀ a b : List UInt8, compareBytes a (a ++ b) = if b = [] then 0 else -1
  | [], [] => by simp [compareBytes]
  | [], y :: b => by simp [compareBytes]
  | x :: a, b => by
    have := compare_app a b
    simp only [List.cons_append, compareBytes]
    rw [if_neg (by exact UInt8.lt_irrefl x), if_neg (by exact UInt8.lt_irrefl x)]
    exact this
end Go.Proofs.YtpmfbmigdpmloaaGreatDoor
end
section
/-
  DERIVED: THE SHELF's CONTRACTS AT THIS DUMP, IN PLAIN WORDS (tools/lay-plain.mjs out of 'YtpmfbmigdpmloaaGreatDoorShelfP.lean', which tools/lay-shelf.mjs wrote): THE SAME DECLARATIONS UNDER THE SAME NAMES: 'import', 'namespace', 'open', 'def', 'theorem' AND NOTHING ELSE: no command of the shelf's: FOR A HAND-IN. Each laying: the table of numbers ('.._ren') and one theorem, a field a fact of the dump's own or the kernel's comparison; each contract: ONE APPLICATION.
-/
namespace Go.Proofs
open Go.Shelf
def Tryz.lays242_ren : Go.Shelf.Ren := ⟨fun | 242 => 144 | 278 => 154 | n => n, fun | 37 => 31 | 21 => 21 | 51 => 166 | 4 => 4 | 5 => 5 | 46 => 103 | n => n, fun | n => n⟩
theorem Tryz.lays242 : Go.Proofs.Lays.n242 Tryz.prog Tryz.lays242_ren := {
  mixed := by kernel_rfl
  f242 := Tryz.func144.trans (congrArg some (by kernel_rfl))
  f278 := Tryz.func154.trans (congrArg some (by kernel_rfl))
  t4 := Tryz.underlying4
  a4 := Tryz.isAgg4
  z4 := Tryz.sizeOf4
  v4 := Tryz.zeroValue4
  t5 := Tryz.underlying5
  a5 := Tryz.isAgg5
  z5 := Tryz.sizeOf5
  v5 := Tryz.zeroValue5
  t21 := Tryz.underlying21
  a21 := Tryz.isAgg21
  z21 := Tryz.sizeOf21
  v21 := Tryz.zeroValue21
  t37 := Tryz.underlying31
  a37 := Tryz.isAgg31
  z37 := Tryz.sizeOf31
  v37 := Tryz.zeroValue31
  t46 := Tryz.underlying103
  a46 := Tryz.isAgg103
  z46 := Tryz.sizeOf103
  v46 := Tryz.zeroValue103
  t51 := Tryz.underlying166
  a51 := Tryz.isAgg166
  z51 := Tryz.sizeOf166
  v51 := Tryz.zeroValue166 }
def Tryz.laysC245_ren : Go.Shelf.Ren := ⟨fun | 245 => 132 | 279 => 146 | 280 => 147 | 281 => 148 | 282 => 149 | 316 => 84 | 171 => 158 | 205 => 157 | 243 => 159 | 246 => 86 | 283 => 111 | 284 => 112 | 285 => 113 | 286 => 114 | 129 => 127 | 317 => 134 | 318 => 135 | 319 => 136 | 320 => 137 | 337 => 150 | 338 => 151 | n => n, fun | 9 => 9 | 3 => 3 | 75 => 99 | 167 => 182 | 4 => 4 | 168 => 185 | 210 => 193 | 37 => 31 | 0 => 0 | 127 => 133 | 145 => 199 | 143 => 197 | 2 => 2 | 171 => 145 | 53 => 36 | 5 => 5 | 173 => 148 | 212 => 173 | 51 => 166 | 20 => 20 | 213 => 174 | 46 => 103 | 232 => 195 | 233 => 196 | 80 => 102 | n => n, fun | 15 => 4 | 16 => 5 | 17 => 3 | 18 => 6 | 19 => 7 | n => n⟩
theorem Tryz.laysC245 : Go.Proofs.LaysC.n245 Tryz.prog Tryz.laysC245_ren := {
  mixed := by kernel_rfl
  f129 := Tryz.func127.trans (congrArg some (by kernel_rfl))
  f171 := Tryz.func158.trans (congrArg some (by kernel_rfl))
  f205 := Tryz.func157.trans (congrArg some (by kernel_rfl))
  f243 := Tryz.func159.trans (congrArg some (by kernel_rfl))
  f245 := Tryz.func132.trans (congrArg some (by kernel_rfl))
  f246 := Tryz.func86.trans (congrArg some (by kernel_rfl))
  f279 := Tryz.func146.trans (congrArg some (by kernel_rfl))
  f280 := Tryz.func147.trans (congrArg some (by kernel_rfl))
  f281 := Tryz.func148.trans (congrArg some (by kernel_rfl))
  f282 := Tryz.func149.trans (congrArg some (by kernel_rfl))
  f283 := Tryz.func111.trans (congrArg some (by kernel_rfl))
  f284 := Tryz.func112.trans (congrArg some (by kernel_rfl))
  f285 := Tryz.func113.trans (congrArg some (by kernel_rfl))
  f286 := Tryz.func114.trans (congrArg some (by kernel_rfl))
  f316 := Tryz.func84.trans (congrArg some (by kernel_rfl))
  f317 := Tryz.func134.trans (congrArg some (by kernel_rfl))
  f318 := Tryz.func135.trans (congrArg some (by kernel_rfl))
  f319 := Tryz.func136.trans (congrArg some (by kernel_rfl))
  f320 := Tryz.func137.trans (congrArg some (by kernel_rfl))
  f337 := Tryz.func150.trans (congrArg some (by kernel_rfl))
  f338 := Tryz.func151.trans (congrArg some (by kernel_rfl))
  t0 := Tryz.underlying0
  a0 := Tryz.isAgg0
  z0 := Tryz.sizeOf0
  v0 := Tryz.zeroValue0
  t2 := Tryz.underlying2
  a2 := Tryz.isAgg2
  z2 := Tryz.sizeOf2
  v2 := Tryz.zeroValue2
  t3 := Tryz.underlying3
  a3 := Tryz.isAgg3
  z3 := Tryz.sizeOf3
  v3 := Tryz.zeroValue3
  t4 := Tryz.underlying4
  a4 := Tryz.isAgg4
  z4 := Tryz.sizeOf4
  v4 := Tryz.zeroValue4
  t5 := Tryz.underlying5
  a5 := Tryz.isAgg5
  z5 := Tryz.sizeOf5
  v5 := Tryz.zeroValue5
  t9 := Tryz.underlying9
  a9 := Tryz.isAgg9
  z9 := Tryz.sizeOf9
  v9 := Tryz.zeroValue9
  t20 := Tryz.underlying20
  a20 := Tryz.isAgg20
  z20 := Tryz.sizeOf20
  v20 := Tryz.zeroValue20
  t37 := Tryz.underlying31
  a37 := Tryz.isAgg31
  z37 := Tryz.sizeOf31
  v37 := Tryz.zeroValue31
  t46 := Tryz.underlying103
  a46 := Tryz.isAgg103
  z46 := Tryz.sizeOf103
  v46 := Tryz.zeroValue103
  t51 := Tryz.underlying166
  a51 := Tryz.isAgg166
  z51 := Tryz.sizeOf166
  v51 := Tryz.zeroValue166
  t53 := Tryz.underlying36
  a53 := Tryz.isAgg36
  z53 := Tryz.sizeOf36
  v53 := Tryz.zeroValue36
  t75 := Tryz.underlying99
  a75 := Tryz.isAgg99
  z75 := Tryz.sizeOf99
  v75 := Tryz.zeroValue99
  t127 := Tryz.underlying133
  a127 := Tryz.isAgg133
  z127 := Tryz.sizeOf133
  v127 := Tryz.zeroValue133
  t143 := Tryz.underlying197
  a143 := Tryz.isAgg197
  z143 := Tryz.sizeOf197
  v143 := Tryz.zeroValue197
  t145 := Tryz.underlying199
  a145 := Tryz.isAgg199
  z145 := Tryz.sizeOf199
  v145 := Tryz.zeroValue199
  t167 := Tryz.underlying182
  a167 := Tryz.isAgg182
  z167 := Tryz.sizeOf182
  v167 := Tryz.zeroValue182
  t168 := Tryz.underlying185
  a168 := Tryz.isAgg185
  z168 := Tryz.sizeOf185
  v168 := Tryz.zeroValue185
  t171 := Tryz.underlying145
  a171 := Tryz.isAgg145
  z171 := Tryz.sizeOf145
  v171 := Tryz.zeroValue145
  t173 := Tryz.underlying148
  a173 := Tryz.isAgg148
  z173 := Tryz.sizeOf148
  v173 := Tryz.zeroValue148
  t210 := Tryz.underlying193
  a210 := Tryz.isAgg193
  z210 := Tryz.sizeOf193
  v210 := Tryz.zeroValue193
  t212 := Tryz.underlying173
  a212 := Tryz.isAgg173
  z212 := Tryz.sizeOf173
  v212 := Tryz.zeroValue173
  t213 := Tryz.underlying174
  a213 := Tryz.isAgg174
  z213 := Tryz.sizeOf174
  t232 := Tryz.underlying195
  a232 := Tryz.isAgg195
  z232 := Tryz.sizeOf195
  v232 := Tryz.zeroValue195
  t233 := Tryz.underlying196
  a233 := Tryz.isAgg196
  z233 := Tryz.sizeOf196
  v233 := Tryz.zeroValue196
  g15 := by kernel_rfl
  g16 := by kernel_rfl
  g17 := by kernel_rfl
  g18 := by kernel_rfl
  g19 := by kernel_rfl
  t80 := Tryz.underlying102
  a80 := Tryz.isAgg102
  z80 := Tryz.sizeOf102
  v80 := Tryz.zeroValue102
  i0 := by kernel_rfl
  i2 := by kernel_rfl
  i3 := by kernel_rfl
  i4 := by kernel_rfl
  i5 := by kernel_rfl
  i9 := by kernel_rfl
  i20 := by kernel_rfl
  i37 := by kernel_rfl
  i46 := by kernel_rfl
  i51 := by kernel_rfl
  i53 := by kernel_rfl
  i75 := by kernel_rfl
  i80 := by kernel_rfl
  i127 := by kernel_rfl
  i143 := by kernel_rfl
  i145 := by kernel_rfl
  i167 := by kernel_rfl
  i168 := by kernel_rfl
  i171 := by kernel_rfl
  i173 := by kernel_rfl
  i210 := by kernel_rfl
  i212 := by kernel_rfl
  i232 := by kernel_rfl
  i233 := by kernel_rfl
  m15 := by kernel_rfl
  m16 := by kernel_rfl
  m17 := by kernel_rfl
  m18 := by kernel_rfl
  m19 := by kernel_rfl
  c0 := by kernel_rfl
  c2 := by kernel_rfl
  c3 := by kernel_rfl
  c4 := by kernel_rfl
  c5 := by kernel_rfl
  c9 := by kernel_rfl
  c20 := by kernel_rfl
  c37 := by kernel_rfl
  c46 := by kernel_rfl
  c51 := by kernel_rfl
  c53 := by kernel_rfl
  c75 := by kernel_rfl
  c80 := by kernel_rfl
  c127 := by kernel_rfl
  c143 := by kernel_rfl
  c145 := by kernel_rfl
  c167 := by kernel_rfl
  c168 := by kernel_rfl
  c171 := by kernel_rfl
  c173 := by kernel_rfl
  c210 := by kernel_rfl
  c212 := by kernel_rfl
  c213 := by kernel_rfl
  c232 := by kernel_rfl
  c233 := by kernel_rfl }
open Go.RowKit in
/-- strconv.toError, at the inner package's ErrSyntax: 'syntaxError(fn, s)' as an error: A *NumError IN A NEW BLOCK. (LAID: no walk: one application.) -/
theorem Tryz.strconv_toError_syntax (fn s : ByteArray) (base bits : Int) (ev : Value) (w : World) (hlim : s.size ≤ 281474976710656) (hv : w.cell? ⟨4, 0, none⟩ = some ev) (hev : ev = .nilIface ∨ ∃ te pe, ev = .iface te pe) :
    Calls Tryz.prog 132 #[.string fn, .string s, .int .i64 base, .int .i64 bits, .iface 182 (.int .i64 2)] w fun e w' => ∃ N, e = .returned (.iface 185 (.pointer (some ⟨N, 0, none⟩))) ∧ w.heap.size ≤ N ∧ w'.heap[N]? = some (.cells #[.string fn, .string s, ev] 193 (0, 0)) ∧ Below w.heap.size w w' := Any.strconv_toError_syntax Tryz.laysC245 fn s base bits ev w hlim hv hev
def Tryz.lays321_ren : Go.Shelf.Ren := ⟨fun | 321 => 155 | n => n, fun | 5 => 5 | n => n, fun | n => n⟩
theorem Tryz.lays321 : Go.Proofs.Lays.n321 Tryz.prog Tryz.lays321_ren := {
  mixed := by kernel_rfl
  f321 := Tryz.func155.trans (congrArg some (by kernel_rfl))
  t5 := Tryz.underlying5
  a5 := Tryz.isAgg5
  z5 := Tryz.sizeOf5
  v5 := Tryz.zeroValue5 }
open Go.RowKit in
/-- internal/strconv.lower: 'c | ('x' - 'X')': the bit 32 set. The world is as it was. (LAID: no walk: one application.) -/
theorem Tryz.internal_strconv_lower (c : Int) (w : World) :
    Calls Tryz.prog 155 #[.int .u8 c] w fun e w' => e = .returned (.int .u8 (bits .or .u8 c 32)) ∧ w' = w := Any.internal_strconv_lower Tryz.lays321 c w
end Go.Proofs
end
