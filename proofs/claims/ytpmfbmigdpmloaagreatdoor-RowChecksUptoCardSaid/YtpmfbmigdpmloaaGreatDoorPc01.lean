/-
  Texts that belong together: Plain, Lite, Shelf, Cmp, Ord, RowM, RowV, OwnK. What each one says stands ahead of it.
-/
import Derived.Lib.MapLaws
import Derived.Lib.ValidLaws
import Derived.Lib.RuneCount
import Derived.Lib.Bytealg
import Derived.Lib.ItoaLen
import Derived.Lib.ItoaMem
import Derived.Test.YtpmfbmigdpmloaaGreatDoorProg
import Derived.Lib.FrozenHead
import Derived.Lib.OthersKept
import Derived.WalkKit
import Derived.WalkLawsBesides
import Derived.WalkSpells
import Derived.Handy
import Derived.Ground.NamesProg
import Derived.Shelf.Unicode.ValidAny
import Derived.Lib.ValidU
import Derived.Shelf.Strings.Builder1
import Derived.Shelf.Strings.Builder2
import Derived.Shelf.Strings.OnBuilder
import Derived.Shelf.Small.Strs
import Derived.Shelf.Small.Wraps
import Derived.Shelf.Strings.BuilderK
import Derived.Shelf.Strings.BuilderRune
import Derived.Shelf.LaysM
import Derived.Shelf.Strconv.Itoa4
import Derived.Shelf.Strconv.Clone
import Derived.Shelf.LaysC
import Derived.Shelf.Strconv.ParseIntPublic10
import Derived.Shelf.Strconv.ErrVarParseInt
import Derived.Shelf.Strings.Prefix
import Derived.Ground.SlgfProg
import Derived.Ground.SlsfProg
import Derived.Shelf.SlLaysF0
import Derived.Shelf.SlicesQ.IndexFunc
import Derived.Lib.BufSteps
section
/-
  Plain mathematics of layer 1 (datum), on lists and integers alone: what Check, Cmp, the numbers, the texts, the logic and the text form come to. No program is in sight. No condition.
-/
set_option linter.unusedVariables false
set_option linter.unusedSimpArgs false
namespace Go.Proofs.YtpmfbmigdpmloaaGreatDoor
open Go.Lib

/-! ### data -/
structure Dat where
  k : Int
  b : Bool
  n : Int
  s : ByteArray

theorem Dat.eq_of {x y : Dat} (hk : x.k = y.k) (hb : x.b = y.b) (hn : x.n = y.n) (hs : x.s = y.s) : x = y := by
  cases x; cases y; simp_all

def zeroD : Dat := ⟨0, false, 0, ⟨#[]⟩⟩
def nullD : Dat := ⟨1, false, 0, ⟨#[]⟩⟩
def boolD (b : Bool) : Dat := ⟨2, b, 0, ⟨#[]⟩⟩
def intD (n : Int) : Dat := ⟨3, false, n, ⟨#[]⟩⟩
def textD (s : ByteArray) : Dat := ⟨4, false, 0, s⟩

theorem bytes_empty {s : ByteArray} (h : s.size = 0) : s = ⟨#[]⟩ := by
  rcases s with ⟨a⟩
  have : a = #[] := Array.eq_empty_of_size_eq_zero h
  rw [this]
theorem bytes_ext {s t : ByteArray} (h : s.data.toList = t.data.toList) : s = t := by
  rcases s with ⟨⟨a⟩⟩; rcases t with ⟨⟨b⟩⟩
  simp at h; rw [h]

/-- May the fields stand together? -/
def form (d : Dat) : Bool :=
  if d.k = 1 then !d.b && decide (d.n = 0) && decide (d.s.size = 0)
  else if d.k = 2 then decide (d.n = 0) && decide (d.s.size = 0)
  else if d.k = 3 then !d.b && decide (d.s.size = 0)
  else if d.k = 4 then !d.b && decide (d.n = 0) && validD d.s.data.toList
  else false
/-- Check's answer. -/
def chk (d : Dat) : Int := if form d = true then (if 1000 < d.s.size then 12 else 0) else 13
def okD (d : Dat) : Bool := decide (chk d = 0)

theorem chk_of_form {d : Dat} (h : form d = true) : chk d = if 1000 < d.s.size then 12 else 0 := by unfold chk; rw [if_pos h]
theorem chk_bad {d : Dat} (h : form d = false) : chk d = 13 := by unfold chk; rw [if_neg (by rw [h]; decide)]
theorem okD_iff (d : Dat) : okD d = true ↔ form d = true ∧ d.s.size ≤ 1000 := by
  unfold okD chk
  by_cases h : form d = true
  · rw [if_pos h]
    by_cases h2 : 1000 < d.s.size
    · rw [if_pos h2]; simp [h]; omega
    · rw [if_neg h2]; simp [h]; omega
  · rw [if_neg h]; simp [h]

/-- What a datum that may be is. -/
theorem ok_cases {d : Dat} (h : okD d = true) : d = nullD ∨ (∃ b, d = boolD b) ∨ (∃ n, d = intD n) ∨ (∃ s, d = textD s ∧ validD s.data.toList = true ∧ s.size ≤ 1000) := by
  obtain ⟨hf, hl⟩ := (okD_iff d).1 h
  rcases d with ⟨k, b, n, s⟩
  unfold form at hf
  simp only at hf hl
  by_cases h1 : k = 1
  · subst h1
    simp at hf
    obtain ⟨⟨rfl, rfl⟩, rfl⟩ := hf
    exact .inl rfl
  · by_cases h2 : k = 2
    · subst h2
      simp at hf
      obtain ⟨rfl, rfl⟩ := hf
      exact .inr (.inl ⟨b, rfl⟩)
    · by_cases h3 : k = 3
      · subst h3
        simp at hf
        obtain ⟨rfl, rfl⟩ := hf
        exact .inr (.inr (.inl ⟨n, rfl⟩))
      · by_cases h4 : k = 4
        · subst h4
          simp at hf
          obtain ⟨⟨rfl, rfl⟩, hs⟩ := hf
          exact .inr (.inr (.inr ⟨s, rfl, hs, hl⟩))
        · simp [h1, h2, h3, h4] at hf
theorem ok_null : okD nullD = true := by decide
theorem ok_bool (b : Bool) : okD (boolD b) = true := by cases b <;> decide
theorem ok_int (n : Int) : okD (intD n) = true := by
  rw [okD_iff]; exact ⟨by simp [form, intD]; rfl, Nat.zero_le _⟩
theorem ok_text (s : ByteArray) : okD (textD s) = true ↔ validD s.data.toList = true ∧ s.size ≤ 1000 := by
  rw [okD_iff]; simp [form, textD]

end Go.Proofs.YtpmfbmigdpmloaaGreatDoor
end
section
/-
  General words of the proofs: worlds one behind the other, a datum's block. Nothing is walked here. No condition but those written.
-/
set_option linter.unusedVariables false
set_option linter.unusedSimpArgs false
namespace Go.Proofs.YtpmfbmigdpmloaaGreatDoor
open Go.RowKit Go.Lib

/-- Behind new blocks and a call that keeps what was there. -/
theorem chainB {B : Nat} {a b c : World} (h : Below B a b) (k : Below b.heap.size b c) (hB : B ≤ b.heap.size) : Below B a c := h.trans (k.mono hB)

theorem toList_size (s : ByteArray) : s.toList.isEmpty = decide (s.size = 0) := by
  rw [ByteArray.toList_eq]
  rcases s with ⟨⟨l⟩⟩
  cases l <;> simp [ByteArray.size]

theorem ret_bool {a b : Bool} (h : a = b) : Ending.returned (.bool a) = .returned (.bool b) := by rw [h]
theorem ret_int {k : IntKind} {a b : Int} (h : a = b) : Ending.returned (.int k a) = .returned (.int k b) := by rw [h]

theorem cell_new (w : World) (cs : Array Value) (t : TypeId) (i : Nat) : (w.alloc (.cells cs t)).cell? ⟨w.heap.size, i, none⟩ = cs[i]? := by
  have h := heap_alloc_new w (.cells cs t)
  simp only [World.cell?, h]
  simp

abbrev dv (k : Int) (b : Bool) (n : Int) (s : ByteArray) : Value := .agg #[.int .u8 k, .bool b, .int .i64 n, .string s]

/-! ### a datum's block -/
/-- Block b is a datum's variable, and holds these four. -/
def Has (w : World) (b : Nat) (c0 c1 c2 c3 : Value) : Prop := w.heap[b]? = some (.cells #[c0, c1, c2, c3] 60 (0, 0))
theorem Has.new (w : World) (c0 c1 c2 c3 : Value) : Has (w.alloc (.cells #[c0, c1, c2, c3] 60)) w.heap.size c0 c1 c2 c3 := heap_alloc_new w _
theorem Has.lt {w : World} {b : Nat} {c0 c1 c2 c3 : Value} (h : Has w b c0 c1 c2 c3) : b < w.heap.size := (Array.getElem?_eq_some_iff.1 h).1
theorem Has.alloc {w : World} {b : Nat} {c0 c1 c2 c3 : Value} (h : Has w b c0 c1 c2 c3) (o : Obj) : Has (w.alloc o) b c0 c1 c2 c3 := (Lib.alloc_old w o b h.lt).trans h
theorem Has.below {w w' : World} {b : Nat} {c0 c1 c2 c3 : Value} (h : Has w b c0 c1 c2 c3) (hb : Below w.heap.size w w') : Has w' b c0 c1 c2 c3 := (hb.block b h.lt).trans h
theorem Has.drew {w : World} {b : Nat} {c0 c1 c2 c3 : Value} (h : Has w b c0 c1 c2 c3) : Has w.drew b c0 c1 c2 c3 := h
theorem Has.cells {w : World} {b : Nat} {c0 c1 c2 c3 : Value} (h : Has w b c0 c1 c2 c3) :
    w.cell? ⟨b, 0, none⟩ = some c0 ∧ w.cell? ⟨b, 1, none⟩ = some c1 ∧ w.cell? ⟨b, 2, none⟩ = some c2 ∧ w.cell? ⟨b, 3, none⟩ = some c3 := by
  unfold Has at h
  refine ⟨?_, ?_, ?_, ?_⟩ <;> (simp only [World.cell?, h]; simp)
theorem Has.free {w : World} {b : Nat} {c0 c1 c2 c3 : Value} (h : Has w b c0 c1 c2 c3) :
    w.frozen? ⟨b, 0, none⟩ = false ∧ w.frozen? ⟨b, 1, none⟩ = false ∧ w.frozen? ⟨b, 2, none⟩ = false ∧ w.frozen? ⟨b, 3, none⟩ = false := by
  unfold Has at h
  exact ⟨Lib.frozen_of_heap h 0, Lib.frozen_of_heap h 1, Lib.frozen_of_heap h 2, Lib.frozen_of_heap h 3⟩
end Go.Proofs.YtpmfbmigdpmloaaGreatDoor
end
section
/-
  DERIVED: THE SHELF's CONTRACTS AT THIS DUMP, IN PLAIN WORDS (tools/lay-plain.mjs out of 'YtpmfbmigdpmloaaGreatDoorShelf.lean', which tools/lay-shelf.mjs wrote): THE SAME DECLARATIONS UNDER THE SAME NAMES: 'import', 'namespace', 'open', 'def', 'theorem' AND NOTHING ELSE: no command of the shelf's: FOR A HAND-IN. Each laying: the table of numbers ('.._ren') and one theorem, a field a fact of the dump's own or the kernel's comparison; each contract: ONE APPLICATION.
-/
namespace Go.Proofs
open Go.Shelf
def Tryz.lays165_ren : Go.Shelf.Ren := ⟨fun | 165 => 55 | 240 => 89 | 241 => 90 | 276 => 115 | 277 => 116 | n => n, fun | 70 => 94 | 3 => 3 | 0 => 0 | 4 => 4 | 9 => 9 | 20 => 20 | 72 => 96 | 37 => 31 | 164 => 150 | 5 => 5 | n => n, fun | n => n⟩
theorem Tryz.lays165 : Go.Proofs.Lays.n165 Tryz.prog Tryz.lays165_ren := {
  mixed := by kernel_rfl
  f165 := Tryz.func55.trans (congrArg some (by kernel_rfl))
  f240 := Tryz.func89.trans (congrArg some (by kernel_rfl))
  f241 := Tryz.func90.trans (congrArg some (by kernel_rfl))
  f276 := Tryz.func115.trans (congrArg some (by kernel_rfl))
  f277 := Tryz.func116.trans (congrArg some (by kernel_rfl))
  t0 := Tryz.underlying0
  a0 := Tryz.isAgg0
  z0 := Tryz.sizeOf0
  v0 := Tryz.zeroValue0
  t3 := Tryz.underlying3
  a3 := Tryz.isAgg3
  z3 := Tryz.sizeOf3
  v3 := Tryz.zeroValue3
  t4 := Tryz.underlying4
  a4 := Tryz.isAgg4
  z4 := Tryz.sizeOf4
  v4 := Tryz.zeroValue4
  t9 := Tryz.underlying9
  a9 := Tryz.isAgg9
  z9 := Tryz.sizeOf9
  v9 := Tryz.zeroValue9
  t20 := Tryz.underlying20
  a20 := Tryz.isAgg20
  z20 := Tryz.sizeOf20
  v20 := Tryz.zeroValue20
  t37 := Tryz.underlying31
  a37 := Tryz.isAgg31
  z37 := Tryz.sizeOf31
  v37 := Tryz.zeroValue31
  t70 := Tryz.underlying94
  a70 := Tryz.isAgg94
  z70 := Tryz.sizeOf94
  v70 := Tryz.zeroValue94
  t72 := Tryz.underlying96
  a72 := Tryz.isAgg96
  z72 := Tryz.sizeOf96
  v72 := Tryz.zeroValue96
  t164 := Tryz.underlying150
  a164 := Tryz.isAgg150
  z164 := Tryz.sizeOf150
  v164 := Tryz.zeroValue150 }
theorem Tryz.Builder_Extra_165 : Builder.Extra Tryz.prog Tryz.lays165_ren := {
  sizeBuilder := by kernel_rfl
  liesBuilder := by kernel_rfl
  t5 := Tryz.underlying5
  a5 := Tryz.isAgg5
  z5 := Tryz.sizeOf5
  v5 := Tryz.zeroValue5
  infoByte := by kernel_rfl
  cellsByte := by kernel_rfl
  sizeByte := by kernel_rfl
  neB5 := by decide }
open Go.RowKit in
/-- (*strings.Builder).Grow AT A BUILDER THAT HAS NOT BEEN WRITTEN ('var b strings.Builder; b.Grow(n)'): "Grow grows b's capacity, if necessary, to guarantee space for another n bytes.": it holds no byte behind it as before it. (LAID: no walk: one application.) -/
theorem Tryz.Builder_Grow_fresh (B b n : Nat) (w : World) (hB : B ≤ b) (hbk : w.heap[b]? = some (.cells #[.pointer none, .slice none 0 0] 96 (0, 0))) (hBw : B ≤ w.heap.size) (hn : n ≤ 281474976710656) :
    Calls Tryz.prog 55 #[.pointer (some ⟨b, 0, none⟩), .int .i64 n] w fun e w' => e = .returned (.tuple #[]) ∧ (Lib.BuilderAt 96 5 B b (.pointer (some ⟨b, 0, none⟩)) [] w' ∧ Below B w w') := Any.Builder_Grow_fresh Tryz.lays165 Tryz.Builder_Extra_165 B b n w hB hbk hBw hn
def Tryz.lays156_ren : Go.Shelf.Ren := ⟨fun | 156 => 32 | 165 => 55 | 166 => 56 | 169 => 57 | 240 => 89 | 241 => 90 | 276 => 115 | 277 => 116 | n => n, fun | 31 => 64 | 9 => 9 | 3 => 3 | 4 => 4 | 0 => 0 | 20 => 20 | 72 => 96 | 76 => 100 | 70 => 94 | 37 => 31 | 75 => 99 | 127 => 133 | 164 => 150 | 5 => 5 | 80 => 102 | n => n, fun | n => n⟩
theorem Tryz.lays156 : Go.Proofs.Lays.n156 Tryz.prog Tryz.lays156_ren := {
  mixed := by kernel_rfl
  f156 := Tryz.func32.trans (congrArg some (by kernel_rfl))
  f165 := Tryz.func55.trans (congrArg some (by kernel_rfl))
  f166 := Tryz.func56.trans (congrArg some (by kernel_rfl))
  f169 := Tryz.func57.trans (congrArg some (by kernel_rfl))
  f240 := Tryz.func89.trans (congrArg some (by kernel_rfl))
  f241 := Tryz.func90.trans (congrArg some (by kernel_rfl))
  f276 := Tryz.func115.trans (congrArg some (by kernel_rfl))
  f277 := Tryz.func116.trans (congrArg some (by kernel_rfl))
  t0 := Tryz.underlying0
  a0 := Tryz.isAgg0
  z0 := Tryz.sizeOf0
  v0 := Tryz.zeroValue0
  t3 := Tryz.underlying3
  a3 := Tryz.isAgg3
  z3 := Tryz.sizeOf3
  v3 := Tryz.zeroValue3
  t4 := Tryz.underlying4
  a4 := Tryz.isAgg4
  z4 := Tryz.sizeOf4
  v4 := Tryz.zeroValue4
  t9 := Tryz.underlying9
  a9 := Tryz.isAgg9
  z9 := Tryz.sizeOf9
  v9 := Tryz.zeroValue9
  t20 := Tryz.underlying20
  a20 := Tryz.isAgg20
  z20 := Tryz.sizeOf20
  v20 := Tryz.zeroValue20
  t31 := Tryz.underlying64
  a31 := Tryz.isAgg64
  z31 := Tryz.sizeOf64
  v31 := Tryz.zeroValue64
  t37 := Tryz.underlying31
  a37 := Tryz.isAgg31
  z37 := Tryz.sizeOf31
  v37 := Tryz.zeroValue31
  t70 := Tryz.underlying94
  a70 := Tryz.isAgg94
  z70 := Tryz.sizeOf94
  v70 := Tryz.zeroValue94
  t72 := Tryz.underlying96
  a72 := Tryz.isAgg96
  z72 := Tryz.sizeOf96
  v72 := Tryz.zeroValue96
  t75 := Tryz.underlying99
  a75 := Tryz.isAgg99
  z75 := Tryz.sizeOf99
  v75 := Tryz.zeroValue99
  t76 := Tryz.underlying100
  a76 := Tryz.isAgg100
  z76 := Tryz.sizeOf100
  v76 := Tryz.zeroValue100
  t127 := Tryz.underlying133
  a127 := Tryz.isAgg133
  z127 := Tryz.sizeOf133
  v127 := Tryz.zeroValue133
  t164 := Tryz.underlying150
  a164 := Tryz.isAgg150
  z164 := Tryz.sizeOf150
  v164 := Tryz.zeroValue150 }
theorem Tryz.Builder_Extra_156 : Builder.Extra Tryz.prog Tryz.lays156_ren := {
  sizeBuilder := by kernel_rfl
  liesBuilder := by kernel_rfl
  t5 := Tryz.underlying5
  a5 := Tryz.isAgg5
  z5 := Tryz.sizeOf5
  v5 := Tryz.zeroValue5
  infoByte := by kernel_rfl
  cellsByte := by kernel_rfl
  sizeByte := by kernel_rfl
  neB5 := by decide }
open Go.RowKit in
/-- No element: the empty string; the world is as it was. (Whatever the slice's address and capacity: a nil slice too.) (LAID: no walk: one application.) -/
theorem Tryz.strings_Join_none (a : Option Addr) (c : Nat) (sep : ByteArray) (w : World) :
    Calls Tryz.prog 32 #[.slice a 0 c, .string sep] w fun e w' => e = .returned (.string ⟨#[]⟩) ∧ w' = w := Any.strings_Join_none Tryz.lays156 Tryz.Builder_Extra_156 a c sep w
open Go.RowKit in
/-- strings.Join: "Join concatenates the elements of its first argument to create a single string. The separator string sep is placed between elements in the resulting string.": HOWEVER MANY ELEMENTS. Below the heap's end the world is as it was. (LAID: no walk: one application.) -/
theorem Tryz.strings_Join (bk o c : Nat) (xs : List ByteArray) (sep : ByteArray) (w : World) (hcells : ∀ (j : Nat) x, xs[j]? = some x → w.cell? ⟨bk, o + j, none⟩ = some (.string x)) (hbk : bk < w.heap.size) (hN : xs.length ≤ 140737488355328) (hcap : xs.length ≤ c) (hlen : (Lib.join (xs.map (·.data.toList)) sep.data.toList).length ≤ 140737488355328) :
    Calls Tryz.prog 32 #[.slice (some ⟨bk, o, none⟩) xs.length c, .string sep] w fun e w' => e = .returned (.string ⟨(Lib.join (xs.map (·.data.toList)) sep.data.toList).toArray⟩) ∧ Below w.heap.size w w' := Any.strings_Join Tryz.lays156 Tryz.Builder_Extra_156 bk o c xs sep w hcells hbk hN hcap hlen
def Tryz.lays106_ren : Go.Shelf.Ren := ⟨fun | 106 => 82 | 213 => 110 | 265 => 133 | n => n, fun | 9 => 9 | 3 => 3 | n => n, fun | n => n⟩
theorem Tryz.lays106 : Go.Proofs.Lays.n106 Tryz.prog Tryz.lays106_ren := {
  mixed := by kernel_rfl
  f106 := Tryz.func82.trans (congrArg some (by kernel_rfl))
  f213 := Tryz.func110.trans (congrArg some (by kernel_rfl))
  f265 := Tryz.func133.trans (congrArg some (by kernel_rfl))
  t3 := Tryz.underlying3
  a3 := Tryz.isAgg3
  z3 := Tryz.sizeOf3
  v3 := Tryz.zeroValue3
  t9 := Tryz.underlying9
  a9 := Tryz.isAgg9
  z9 := Tryz.sizeOf9
  v9 := Tryz.zeroValue9 }
open Go.RowKit in
/-- strings.Compare: "Compare returns an integer comparing two strings lexicographically. The result will be 0 if a == b, -1 if a < b, and +1 if a > b.": IT RETURNS 'Lib.compareBytes a b'; the world is as it was. (LAID: no walk: one application.) -/
theorem Tryz.strings_Compare (a b : ByteArray) (w : World) :
    Calls Tryz.prog 82 #[.string a, .string b] w fun e w' => e = .returned (.int .i64 (Lib.compareBytes a.data.toList b.data.toList)) ∧ w' = w := Any.strings_Compare Tryz.lays106 a b w
def Tryz.lays103_ren : Go.Shelf.Ren := ⟨fun | 103 => 40 | 210 => 68 | 206 => 96 | n => n, fun | 9 => 9 | 4 => 4 | 24 => 75 | 3 => 3 | n => n, fun | n => n⟩
theorem Tryz.lays103 : Go.Proofs.Lays.n103 Tryz.prog Tryz.lays103_ren := {
  mixed := by kernel_rfl
  f103 := Tryz.func40.trans (congrArg some (by kernel_rfl))
  f206 := Tryz.func96.trans (congrArg some (by kernel_rfl))
  f210 := Tryz.func68.trans (congrArg some (by kernel_rfl))
  t3 := Tryz.underlying3
  a3 := Tryz.isAgg3
  z3 := Tryz.sizeOf3
  v3 := Tryz.zeroValue3
  t4 := Tryz.underlying4
  a4 := Tryz.isAgg4
  z4 := Tryz.sizeOf4
  v4 := Tryz.zeroValue4
  t9 := Tryz.underlying9
  a9 := Tryz.isAgg9
  z9 := Tryz.sizeOf9
  v9 := Tryz.zeroValue9
  t24 := Tryz.underlying75
  a24 := Tryz.isAgg75
  z24 := Tryz.sizeOf75
  v24 := Tryz.zeroValue75 }
open Go.RowKit in
/-- strings.CutPrefix: "CutPrefix returns s without the provided leading prefix string and reports whether it found the prefix. If s doesn't start with prefix, CutPrefix returns s, false. If prefix is the empty string, CutPrefix returns s, true.": IT RETURNS '(Lib.trimPrefix s p, Lib.hasPrefix s p)'; the world is as it was. (LAID: no walk: one application.) -/
theorem Tryz.strings_CutPrefix (s p : ByteArray) (w : World) :
    Calls Tryz.prog 40 #[.string s, .string p] w fun e w' => e = .returned (.tuple #[.string ⟨(Lib.trimPrefix s.data.toList p.data.toList).toArray⟩, .bool (Lib.hasPrefix s.data.toList p.data.toList)]) ∧ w' = w := Any.strings_CutPrefix Tryz.lays103 s p w
def Tryz.lays104_ren : Go.Shelf.Ren := ⟨fun | 104 => 41 | 211 => 69 | 207 => 97 | n => n, fun | 9 => 9 | 4 => 4 | 24 => 75 | 3 => 3 | n => n, fun | n => n⟩
theorem Tryz.lays104 : Go.Proofs.Lays.n104 Tryz.prog Tryz.lays104_ren := {
  mixed := by kernel_rfl
  f104 := Tryz.func41.trans (congrArg some (by kernel_rfl))
  f207 := Tryz.func97.trans (congrArg some (by kernel_rfl))
  f211 := Tryz.func69.trans (congrArg some (by kernel_rfl))
  t3 := Tryz.underlying3
  a3 := Tryz.isAgg3
  z3 := Tryz.sizeOf3
  v3 := Tryz.zeroValue3
  t4 := Tryz.underlying4
  a4 := Tryz.isAgg4
  z4 := Tryz.sizeOf4
  v4 := Tryz.zeroValue4
  t9 := Tryz.underlying9
  a9 := Tryz.isAgg9
  z9 := Tryz.sizeOf9
  v9 := Tryz.zeroValue9
  t24 := Tryz.underlying75
  a24 := Tryz.isAgg75
  z24 := Tryz.sizeOf75
  v24 := Tryz.zeroValue75 }
open Go.RowKit in
/-- strings.CutSuffix: "CutSuffix returns s without the provided ending suffix string and reports whether it found the suffix. If s doesn't end with suffix, CutSuffix returns s, false. If suffix is the empty string, CutSuffix returns s, true.": IT RETURNS '(Lib.trimSuffix s p, Lib.hasSuffix s p)'; the world is as it was. (LAID: no walk: one application.) -/
theorem Tryz.strings_CutSuffix (s p : ByteArray) (w : World) (hs : s.size ≤ 9223372036854775807) :
    Calls Tryz.prog 41 #[.string s, .string p] w fun e w' => e = .returned (.tuple #[.string ⟨(Lib.trimSuffix s.data.toList p.data.toList).toArray⟩, .bool (Lib.hasSuffix s.data.toList p.data.toList)]) ∧ w' = w := Any.strings_CutSuffix Tryz.lays104 s p w hs
def Tryz.lays121_ren : Go.Shelf.Ren := ⟨fun | 121 => 52 | 214 => 85 | n => n, fun | 4 => 4 | 9 => 9 | n => n, fun | n => n⟩
theorem Tryz.lays121 : Go.Proofs.Lays.n121 Tryz.prog Tryz.lays121_ren := {
  mixed := by kernel_rfl
  f121 := Tryz.func52.trans (congrArg some (by kernel_rfl))
  f214 := Tryz.func85.trans (congrArg some (by kernel_rfl))
  t4 := Tryz.underlying4
  a4 := Tryz.isAgg4
  z4 := Tryz.sizeOf4
  v4 := Tryz.zeroValue4
  t9 := Tryz.underlying9
  a9 := Tryz.isAgg9
  z9 := Tryz.sizeOf9
  v9 := Tryz.zeroValue9 }
open Go.RowKit in
/-- strconv.FormatBool: "FormatBool returns "true" or "false" according to the value of b.": IT RETURNS 'Lib.formatBool b'; the world is as it was. (LAID: no walk: one application.) -/
theorem Tryz.strconv_FormatBool (b : Bool) (w : World) :
    Calls Tryz.prog 52 #[.bool b] w fun e w' => e = .returned (.string ⟨(Lib.formatBool b).toArray⟩) ∧ w' = w := Any.strconv_FormatBool Tryz.lays121 b w
def Tryz.lays169_ren : Go.Shelf.Ren := ⟨fun | 169 => 57 | n => n, fun | 70 => 94 | 9 => 9 | 0 => 0 | 72 => 96 | 37 => 31 | 127 => 133 | 3 => 3 | 5 => 5 | n => n, fun | n => n⟩
theorem Tryz.lays169 : Go.Proofs.Lays.n169 Tryz.prog Tryz.lays169_ren := {
  mixed := by kernel_rfl
  f169 := Tryz.func57.trans (congrArg some (by kernel_rfl))
  t0 := Tryz.underlying0
  a0 := Tryz.isAgg0
  z0 := Tryz.sizeOf0
  v0 := Tryz.zeroValue0
  t3 := Tryz.underlying3
  a3 := Tryz.isAgg3
  z3 := Tryz.sizeOf3
  v3 := Tryz.zeroValue3
  t9 := Tryz.underlying9
  a9 := Tryz.isAgg9
  z9 := Tryz.sizeOf9
  v9 := Tryz.zeroValue9
  t37 := Tryz.underlying31
  a37 := Tryz.isAgg31
  z37 := Tryz.sizeOf31
  v37 := Tryz.zeroValue31
  t70 := Tryz.underlying94
  a70 := Tryz.isAgg94
  z70 := Tryz.sizeOf94
  v70 := Tryz.zeroValue94
  t72 := Tryz.underlying96
  a72 := Tryz.isAgg96
  z72 := Tryz.sizeOf96
  v72 := Tryz.zeroValue96
  t127 := Tryz.underlying133
  a127 := Tryz.isAgg133
  z127 := Tryz.sizeOf133
  v127 := Tryz.zeroValue133 }
theorem Tryz.Builder_Extra_169 : Builder.Extra Tryz.prog Tryz.lays169_ren := {
  sizeBuilder := by kernel_rfl
  liesBuilder := by kernel_rfl
  t5 := Tryz.underlying5
  a5 := Tryz.isAgg5
  z5 := Tryz.sizeOf5
  v5 := Tryz.zeroValue5
  infoByte := by kernel_rfl
  cellsByte := by kernel_rfl
  sizeByte := by kernel_rfl
  neB5 := by decide }
open Go.RowKit in
/-- (*strings.Builder).String: "String returns the accumulated string.": WHATEVER THE BUILDER HOLDS; THE FORM '_k': OVER 'Lib.IsBuilderF' (a builder that 'String()' may have read), AND WITH THE FRAME THAT REACHES ABOVE THE BUILDER: 'Lib.OthersKept': every block that is not b and is no row of uint8's stands as it stood: the iterator of a range among them. (LAID: no walk: one application.) -/
theorem Tryz.Builder_String_any_k (B b : Nat) (l : List UInt8) (w : World) (h : Lib.IsBuilderF 96 5 B b (Lib.byteCells l) w) (hBw : B ≤ w.heap.size) :
    Calls Tryz.prog 57 #[.pointer (some ⟨b, 0, none⟩)] w fun e w' => e = .returned (.string ⟨l.toArray⟩) ∧ (Lib.IsBuilderF 96 5 B b (Lib.byteCells l) w' ∧ Below B w w' ∧ Lib.OthersKept 5 (some b) w w') := Any.Builder_String_any_k Tryz.lays169 Tryz.Builder_Extra_169 B b l w h hBw
def Tryz.laysM173_ren : Go.Shelf.Ren := ⟨fun | 173 => 53 | 246 => 86 | 283 => 111 | 284 => 112 | 285 => 113 | 286 => 114 | 129 => 127 | 317 => 134 | 318 => 135 | 319 => 136 | 320 => 137 | 337 => 150 | 338 => 151 | n => n, fun | 2 => 2 | 3 => 3 | 9 => 9 | 4 => 4 | 171 => 145 | 0 => 0 | 53 => 36 | 37 => 31 | 5 => 5 | 173 => 148 | 212 => 173 | 51 => 166 | 20 => 20 | 213 => 174 | 46 => 103 | 232 => 195 | 233 => 196 | n => n, fun | 17 => 3 | 18 => 6 | 19 => 7 | n => n⟩
theorem Tryz.laysM173 : Go.Proofs.LaysM.n173 Tryz.prog Tryz.laysM173_ren := {
  mixed := by kernel_rfl
  f129 := Tryz.func127.trans (congrArg some (by kernel_rfl))
  f173 := Tryz.func53.trans (congrArg some (by kernel_rfl))
  f246 := Tryz.func86.trans (congrArg some (by kernel_rfl))
  f283 := Tryz.func111.trans (congrArg some (by kernel_rfl))
  f284 := Tryz.func112.trans (congrArg some (by kernel_rfl))
  f285 := Tryz.func113.trans (congrArg some (by kernel_rfl))
  f286 := Tryz.func114.trans (congrArg some (by kernel_rfl))
  f317 := Tryz.func134.trans (congrArg some (by kernel_rfl))
  f318 := Tryz.func135.trans (congrArg some (by kernel_rfl))
  f319 := Tryz.func136.trans (congrArg some (by kernel_rfl))
  f320 := Tryz.func137.trans (congrArg some (by kernel_rfl))
  f337 := Tryz.func150.trans (congrArg some (by kernel_rfl))
  f338 := Tryz.func151.trans (congrArg some (by kernel_rfl))
  t0 := Tryz.underlying0
  a0 := Tryz.isAgg0
  z0 := Tryz.sizeOf0
  v0 := Tryz.zeroValue0
  t2 := Tryz.underlying2
  a2 := Tryz.isAgg2
  z2 := Tryz.sizeOf2
  v2 := Tryz.zeroValue2
  t3 := Tryz.underlying3
  a3 := Tryz.isAgg3
  z3 := Tryz.sizeOf3
  v3 := Tryz.zeroValue3
  t4 := Tryz.underlying4
  a4 := Tryz.isAgg4
  z4 := Tryz.sizeOf4
  v4 := Tryz.zeroValue4
  t5 := Tryz.underlying5
  a5 := Tryz.isAgg5
  z5 := Tryz.sizeOf5
  v5 := Tryz.zeroValue5
  t9 := Tryz.underlying9
  a9 := Tryz.isAgg9
  z9 := Tryz.sizeOf9
  v9 := Tryz.zeroValue9
  t20 := Tryz.underlying20
  a20 := Tryz.isAgg20
  z20 := Tryz.sizeOf20
  v20 := Tryz.zeroValue20
  t37 := Tryz.underlying31
  a37 := Tryz.isAgg31
  z37 := Tryz.sizeOf31
  v37 := Tryz.zeroValue31
  t46 := Tryz.underlying103
  a46 := Tryz.isAgg103
  z46 := Tryz.sizeOf103
  v46 := Tryz.zeroValue103
  t51 := Tryz.underlying166
  a51 := Tryz.isAgg166
  z51 := Tryz.sizeOf166
  v51 := Tryz.zeroValue166
  t53 := Tryz.underlying36
  a53 := Tryz.isAgg36
  z53 := Tryz.sizeOf36
  v53 := Tryz.zeroValue36
  t171 := Tryz.underlying145
  a171 := Tryz.isAgg145
  z171 := Tryz.sizeOf145
  v171 := Tryz.zeroValue145
  t173 := Tryz.underlying148
  a173 := Tryz.isAgg148
  z173 := Tryz.sizeOf148
  v173 := Tryz.zeroValue148
  t212 := Tryz.underlying173
  a212 := Tryz.isAgg173
  z212 := Tryz.sizeOf173
  v212 := Tryz.zeroValue173
  t213 := Tryz.underlying174
  a213 := Tryz.isAgg174
  z213 := Tryz.sizeOf174
  t232 := Tryz.underlying195
  a232 := Tryz.isAgg195
  z232 := Tryz.sizeOf195
  v232 := Tryz.zeroValue195
  t233 := Tryz.underlying196
  a233 := Tryz.isAgg196
  z233 := Tryz.sizeOf196
  v233 := Tryz.zeroValue196
  g17 := by kernel_rfl
  g18 := by kernel_rfl
  g19 := by kernel_rfl
  i0 := by kernel_rfl
  i2 := by kernel_rfl
  i3 := by kernel_rfl
  i4 := by kernel_rfl
  i5 := by kernel_rfl
  i9 := by kernel_rfl
  i20 := by kernel_rfl
  i37 := by kernel_rfl
  i46 := by kernel_rfl
  i51 := by kernel_rfl
  i53 := by kernel_rfl
  i171 := by kernel_rfl
  i173 := by kernel_rfl
  i212 := by kernel_rfl
  i232 := by kernel_rfl
  i233 := by kernel_rfl
  m17 := by kernel_rfl
  m18 := by kernel_rfl
  m19 := by kernel_rfl }
open Go.RowKit Go.Sort Go.Lib in
/-- strconv.FormatInt: "FormatInt returns the string representation of i in the given base": AT BASE 10: i's decimal numeral, for every int64. (LAID: no walk: one application.) -/
theorem Tryz.strconv_FormatInt_10 (n : Int) (h0 : -9223372036854775808 ≤ n) (h1 : n ≤ 9223372036854775807) (w : World) (htab : Lib.TabIs Tryz.prog w "internal/strconv.uint64pow10" .u64 Lib.pow10Tab) :
    Calls Tryz.prog 53 #[.int .i64 n, .int .i64 10] w fun e w' => e = .returned (.string ⟨(Lib.itoa n).toArray⟩) ∧ ∃ k os, w' = grow (w.drewN k) os := Any.strconv_FormatInt_10 Tryz.laysM173 n h0 h1 w htab
def Tryz.laysM316_ren : Go.Shelf.Ren := ⟨fun | 316 => 84 | n => n, fun | 9 => 9 | 3 => 3 | 4 => 4 | 37 => 31 | 0 => 0 | 127 => 133 | 5 => 5 | n => n, fun | n => n⟩
theorem Tryz.laysM316 : Go.Proofs.LaysM.n316 Tryz.prog Tryz.laysM316_ren := {
  mixed := by kernel_rfl
  f316 := Tryz.func84.trans (congrArg some (by kernel_rfl))
  t0 := Tryz.underlying0
  a0 := Tryz.isAgg0
  z0 := Tryz.sizeOf0
  v0 := Tryz.zeroValue0
  t3 := Tryz.underlying3
  a3 := Tryz.isAgg3
  z3 := Tryz.sizeOf3
  v3 := Tryz.zeroValue3
  t4 := Tryz.underlying4
  a4 := Tryz.isAgg4
  z4 := Tryz.sizeOf4
  v4 := Tryz.zeroValue4
  t9 := Tryz.underlying9
  a9 := Tryz.isAgg9
  z9 := Tryz.sizeOf9
  v9 := Tryz.zeroValue9
  t37 := Tryz.underlying31
  a37 := Tryz.isAgg31
  z37 := Tryz.sizeOf31
  v37 := Tryz.zeroValue31
  t127 := Tryz.underlying133
  a127 := Tryz.isAgg133
  z127 := Tryz.sizeOf133
  v127 := Tryz.zeroValue133
  t5 := Tryz.underlying5
  a5 := Tryz.isAgg5
  z5 := Tryz.sizeOf5
  v5 := Tryz.zeroValue5
  i0 := by kernel_rfl
  i3 := by kernel_rfl
  i4 := by kernel_rfl
  i5 := by kernel_rfl
  i9 := by kernel_rfl
  i37 := by kernel_rfl
  i127 := by kernel_rfl }
open Go.RowKit in
/-- internal/stringslite.Clone (what strings.Clone calls): "Clone returns a fresh copy of s.": THE SAME BYTES. Of what was there nothing has turned (a new row is laid, and frozen, where s is not empty). (LAID: no walk: one application.) -/
theorem Tryz.stringslite_Clone (s : ByteArray) (w : World) (hlim : s.size ≤ 281474976710656) :
    Calls Tryz.prog 84 #[.string s] w fun e w' => e = .returned (.string s) ∧ Below w.heap.size w w' := Any.stringslite_Clone Tryz.laysM316 s w hlim
def Tryz.laysC174_ren : Go.Shelf.Ren := ⟨fun | 174 => 102 | 247 => 131 | 245 => 132 | 287 => 145 | 279 => 146 | 280 => 147 | 281 => 148 | 282 => 149 | 321 => 155 | 322 => 156 | 316 => 84 | 171 => 158 | 205 => 157 | 243 => 159 | 246 => 86 | 283 => 111 | 284 => 112 | 285 => 113 | 286 => 114 | 129 => 127 | 317 => 134 | 318 => 135 | 319 => 136 | 320 => 137 | 337 => 150 | 338 => 151 | n => n, fun | 9 => 9 | 3 => 3 | 2 => 2 | 75 => 99 | 85 => 137 | 4 => 4 | 167 => 182 | 5 => 5 | 53 => 36 | 175 => 183 | 46 => 103 | 168 => 185 | 37 => 31 | 0 => 0 | 210 => 193 | 21 => 21 | 127 => 133 | 145 => 199 | 143 => 197 | 171 => 145 | 173 => 148 | 212 => 173 | 51 => 166 | 20 => 20 | 213 => 174 | 232 => 195 | 233 => 196 | 80 => 102 | n => n, fun | 15 => 4 | 16 => 5 | 17 => 3 | 18 => 6 | 19 => 7 | n => n⟩
theorem Tryz.laysC174 : Go.Proofs.LaysC.n174 Tryz.prog Tryz.laysC174_ren := {
  mixed := by kernel_rfl
  f129 := Tryz.func127.trans (congrArg some (by kernel_rfl))
  f171 := Tryz.func158.trans (congrArg some (by kernel_rfl))
  f174 := Tryz.func102.trans (congrArg some (by kernel_rfl))
  f205 := Tryz.func157.trans (congrArg some (by kernel_rfl))
  f243 := Tryz.func159.trans (congrArg some (by kernel_rfl))
  f245 := Tryz.func132.trans (congrArg some (by kernel_rfl))
  f246 := Tryz.func86.trans (congrArg some (by kernel_rfl))
  f247 := Tryz.func131.trans (congrArg some (by kernel_rfl))
  f279 := Tryz.func146.trans (congrArg some (by kernel_rfl))
  f280 := Tryz.func147.trans (congrArg some (by kernel_rfl))
  f281 := Tryz.func148.trans (congrArg some (by kernel_rfl))
  f282 := Tryz.func149.trans (congrArg some (by kernel_rfl))
  f283 := Tryz.func111.trans (congrArg some (by kernel_rfl))
  f284 := Tryz.func112.trans (congrArg some (by kernel_rfl))
  f285 := Tryz.func113.trans (congrArg some (by kernel_rfl))
  f286 := Tryz.func114.trans (congrArg some (by kernel_rfl))
  f287 := Tryz.func145.trans (congrArg some (by kernel_rfl))
  f316 := Tryz.func84.trans (congrArg some (by kernel_rfl))
  f317 := Tryz.func134.trans (congrArg some (by kernel_rfl))
  f318 := Tryz.func135.trans (congrArg some (by kernel_rfl))
  f319 := Tryz.func136.trans (congrArg some (by kernel_rfl))
  f320 := Tryz.func137.trans (congrArg some (by kernel_rfl))
  f321 := Tryz.func155.trans (congrArg some (by kernel_rfl))
  f322 := Tryz.func156.trans (congrArg some (by kernel_rfl))
  f337 := Tryz.func150.trans (congrArg some (by kernel_rfl))
  f338 := Tryz.func151.trans (congrArg some (by kernel_rfl))
  t0 := Tryz.underlying0
  a0 := Tryz.isAgg0
  z0 := Tryz.sizeOf0
  v0 := Tryz.zeroValue0
  t2 := Tryz.underlying2
  a2 := Tryz.isAgg2
  z2 := Tryz.sizeOf2
  v2 := Tryz.zeroValue2
  t3 := Tryz.underlying3
  a3 := Tryz.isAgg3
  z3 := Tryz.sizeOf3
  v3 := Tryz.zeroValue3
  t4 := Tryz.underlying4
  a4 := Tryz.isAgg4
  z4 := Tryz.sizeOf4
  v4 := Tryz.zeroValue4
  t5 := Tryz.underlying5
  a5 := Tryz.isAgg5
  z5 := Tryz.sizeOf5
  v5 := Tryz.zeroValue5
  t9 := Tryz.underlying9
  a9 := Tryz.isAgg9
  z9 := Tryz.sizeOf9
  v9 := Tryz.zeroValue9
  t20 := Tryz.underlying20
  a20 := Tryz.isAgg20
  z20 := Tryz.sizeOf20
  v20 := Tryz.zeroValue20
  t21 := Tryz.underlying21
  a21 := Tryz.isAgg21
  z21 := Tryz.sizeOf21
  v21 := Tryz.zeroValue21
  t37 := Tryz.underlying31
  a37 := Tryz.isAgg31
  z37 := Tryz.sizeOf31
  v37 := Tryz.zeroValue31
  t46 := Tryz.underlying103
  a46 := Tryz.isAgg103
  z46 := Tryz.sizeOf103
  v46 := Tryz.zeroValue103
  t51 := Tryz.underlying166
  a51 := Tryz.isAgg166
  z51 := Tryz.sizeOf166
  v51 := Tryz.zeroValue166
  t53 := Tryz.underlying36
  a53 := Tryz.isAgg36
  z53 := Tryz.sizeOf36
  v53 := Tryz.zeroValue36
  t75 := Tryz.underlying99
  a75 := Tryz.isAgg99
  z75 := Tryz.sizeOf99
  v75 := Tryz.zeroValue99
  t85 := Tryz.underlying137
  a85 := Tryz.isAgg137
  z85 := Tryz.sizeOf137
  v85 := Tryz.zeroValue137
  t127 := Tryz.underlying133
  a127 := Tryz.isAgg133
  z127 := Tryz.sizeOf133
  v127 := Tryz.zeroValue133
  t143 := Tryz.underlying197
  a143 := Tryz.isAgg197
  z143 := Tryz.sizeOf197
  v143 := Tryz.zeroValue197
  t145 := Tryz.underlying199
  a145 := Tryz.isAgg199
  z145 := Tryz.sizeOf199
  v145 := Tryz.zeroValue199
  t167 := Tryz.underlying182
  a167 := Tryz.isAgg182
  z167 := Tryz.sizeOf182
  v167 := Tryz.zeroValue182
  t168 := Tryz.underlying185
  a168 := Tryz.isAgg185
  z168 := Tryz.sizeOf185
  v168 := Tryz.zeroValue185
  t171 := Tryz.underlying145
  a171 := Tryz.isAgg145
  z171 := Tryz.sizeOf145
  v171 := Tryz.zeroValue145
  t173 := Tryz.underlying148
  a173 := Tryz.isAgg148
  z173 := Tryz.sizeOf148
  v173 := Tryz.zeroValue148
  t175 := Tryz.underlying183
  a175 := Tryz.isAgg183
  z175 := Tryz.sizeOf183
  v175 := Tryz.zeroValue183
  t210 := Tryz.underlying193
  a210 := Tryz.isAgg193
  z210 := Tryz.sizeOf193
  v210 := Tryz.zeroValue193
  t212 := Tryz.underlying173
  a212 := Tryz.isAgg173
  z212 := Tryz.sizeOf173
  v212 := Tryz.zeroValue173
  t213 := Tryz.underlying174
  a213 := Tryz.isAgg174
  z213 := Tryz.sizeOf174
  t232 := Tryz.underlying195
  a232 := Tryz.isAgg195
  z232 := Tryz.sizeOf195
  v232 := Tryz.zeroValue195
  t233 := Tryz.underlying196
  a233 := Tryz.isAgg196
  z233 := Tryz.sizeOf196
  v233 := Tryz.zeroValue196
  g15 := by kernel_rfl
  g16 := by kernel_rfl
  g17 := by kernel_rfl
  g18 := by kernel_rfl
  g19 := by kernel_rfl
  t80 := Tryz.underlying102
  a80 := Tryz.isAgg102
  z80 := Tryz.sizeOf102
  v80 := Tryz.zeroValue102
  i0 := by kernel_rfl
  i2 := by kernel_rfl
  i3 := by kernel_rfl
  i4 := by kernel_rfl
  i5 := by kernel_rfl
  i9 := by kernel_rfl
  i20 := by kernel_rfl
  i21 := by kernel_rfl
  i37 := by kernel_rfl
  i46 := by kernel_rfl
  i51 := by kernel_rfl
  i53 := by kernel_rfl
  i75 := by kernel_rfl
  i80 := by kernel_rfl
  i85 := by kernel_rfl
  i127 := by kernel_rfl
  i143 := by kernel_rfl
  i145 := by kernel_rfl
  i167 := by kernel_rfl
  i168 := by kernel_rfl
  i171 := by kernel_rfl
  i173 := by kernel_rfl
  i175 := by kernel_rfl
  i210 := by kernel_rfl
  i212 := by kernel_rfl
  i232 := by kernel_rfl
  i233 := by kernel_rfl
  m15 := by kernel_rfl
  m16 := by kernel_rfl
  m17 := by kernel_rfl
  m18 := by kernel_rfl
  m19 := by kernel_rfl
  c0 := by kernel_rfl
  c2 := by kernel_rfl
  c3 := by kernel_rfl
  c4 := by kernel_rfl
  c5 := by kernel_rfl
  c9 := by kernel_rfl
  c20 := by kernel_rfl
  c21 := by kernel_rfl
  c37 := by kernel_rfl
  c46 := by kernel_rfl
  c51 := by kernel_rfl
  c53 := by kernel_rfl
  c75 := by kernel_rfl
  c80 := by kernel_rfl
  c85 := by kernel_rfl
  c127 := by kernel_rfl
  c143 := by kernel_rfl
  c145 := by kernel_rfl
  c167 := by kernel_rfl
  c168 := by kernel_rfl
  c171 := by kernel_rfl
  c173 := by kernel_rfl
  c175 := by kernel_rfl
  c210 := by kernel_rfl
  c212 := by kernel_rfl
  c213 := by kernel_rfl
  c232 := by kernel_rfl
  c233 := by kernel_rfl }
open Go.RowKit in
/-- strconv.ParseInt(s, 10, 64), AT EVERY STRING THAT SPELLS AN int64 ('Lib.parseIntB 64 s.data.toList = .ok v'): v, AND NO ERROR. (LAID: no walk: one application.) -/
theorem Tryz.strconv_ParseInt_10_at64_ok (s : ByteArray) (hmax : s.size ≤ 9223372036854775806) (v : Int) (h : Lib.parseIntB 64 s.data.toList = .ok v) (w : World) :
    Calls Tryz.prog 102 #[.string s, .int .i64 10, .int .i64 64] w fun e w' => e = .returned (.tuple #[.int .i64 v, .nilIface]) ∧ (w' = w ∨ ∃ t, w' = Lib.bytesWorld w 5 t) := Any.strconv_ParseInt_10_at64_ok Tryz.laysC174 s hmax v h w
open Go.RowKit in
theorem Tryz.strconv_ParseInt_10_at64_range_var (s : ByteArray) (hlim : s.size ≤ 281474976710656) (h : Lib.parseIntB 64 s.data.toList = .range) (tp : TypeId) (p : Value) (w : World) (hvar : w.var? Tryz.prog "strconv.ErrRange" = some #[.iface tp p]) :
    Calls Tryz.prog 102 #[.string s, .int .i64 10, .int .i64 64] w fun e w' => ∃ N, e = .returned (.tuple #[.int .i64 (Lib.intSat 64 s.data.toList), .iface 185 (.pointer (some ⟨N, 0, none⟩))]) ∧ w.heap.size ≤ N ∧ w'.heap[N]? = some (.cells #[.string ⟨#[80, 97, 114, 115, 101, 73, 110, 116]⟩, .string s, .iface tp p] 193 (0, 0)) ∧ Below w.heap.size w w' := Any.strconv_ParseInt_10_at64_range_var Tryz.laysC174 s hlim h tp p w hvar
def Tryz.lays99_ren : Go.Shelf.Ren := ⟨fun | 99 => 70 | 206 => 96 | n => n, fun | 9 => 9 | 4 => 4 | 3 => 3 | n => n, fun | n => n⟩
theorem Tryz.lays99 : Go.Proofs.Lays.n99 Tryz.prog Tryz.lays99_ren := {
  mixed := by kernel_rfl
  f99 := Tryz.func70.trans (congrArg some (by kernel_rfl))
  f206 := Tryz.func96.trans (congrArg some (by kernel_rfl))
  t3 := Tryz.underlying3
  a3 := Tryz.isAgg3
  z3 := Tryz.sizeOf3
  v3 := Tryz.zeroValue3
  t4 := Tryz.underlying4
  a4 := Tryz.isAgg4
  z4 := Tryz.sizeOf4
  v4 := Tryz.zeroValue4
  t9 := Tryz.underlying9
  a9 := Tryz.isAgg9
  z9 := Tryz.sizeOf9
  v9 := Tryz.zeroValue9 }
open Go.RowKit Go.Lib in
/-- strings.HasPrefix: "HasPrefix reports whether the string s begins with prefix.": IT RETURNS 'Lib.hasPrefix s prefix'; the world is as it was. (LAID: no walk: one application.) -/
theorem Tryz.strings_HasPrefix (s p : ByteArray) (w : World) :
    Calls Tryz.prog 70 #[.string s, .string p] w fun e w' => e = .returned (.bool (Lib.hasPrefix s.data.toList p.data.toList)) ∧ w' = w := Any.strings_HasPrefix Tryz.lays99 s p w
def Tryz.lays100_ren : Go.Shelf.Ren := ⟨fun | 100 => 128 | 207 => 97 | n => n, fun | 9 => 9 | 4 => 4 | 3 => 3 | n => n, fun | n => n⟩
theorem Tryz.lays100 : Go.Proofs.Lays.n100 Tryz.prog Tryz.lays100_ren := {
  mixed := by kernel_rfl
  f100 := Tryz.func128.trans (congrArg some (by kernel_rfl))
  f207 := Tryz.func97.trans (congrArg some (by kernel_rfl))
  t3 := Tryz.underlying3
  a3 := Tryz.isAgg3
  z3 := Tryz.sizeOf3
  v3 := Tryz.zeroValue3
  t4 := Tryz.underlying4
  a4 := Tryz.isAgg4
  z4 := Tryz.sizeOf4
  v4 := Tryz.zeroValue4
  t9 := Tryz.underlying9
  a9 := Tryz.isAgg9
  z9 := Tryz.sizeOf9
  v9 := Tryz.zeroValue9 }
open Go.RowKit Go.Lib in
/-- strings.HasSuffix: "HasSuffix reports whether the string s ends with suffix.": IT RETURNS 'Lib.hasSuffix s suffix'; the world is as it was. ('hs': no Go string is longer: a caller has it of every string that it was handed.) (LAID: no walk: one application.) -/
theorem Tryz.strings_HasSuffix (s p : ByteArray) (w : World) (hs : s.size ≤ 9223372036854775807) :
    Calls Tryz.prog 128 #[.string s, .string p] w fun e w' => e = .returned (.bool (Lib.hasSuffix s.data.toList p.data.toList)) ∧ w' = w := Any.strings_HasSuffix Tryz.lays100 s p w hs
def Tryz.lays196_ren : Go.Shelf.Ren := ⟨fun | 196 => 91 | 259 => 117 | n => n, fun | 9 => 9 | 4 => 4 | 3 => 3 | 5 => 5 | 12 => 12 | 119 => 154 | 0 => 0 | 46 => 103 | 139 => 157 | 138 => 156 | 53 => 36 | n => n, fun | 3 => 0 | 4 => 1 | n => n⟩
theorem Tryz.lays196 : Go.Proofs.Lays.n196 Tryz.prog Tryz.lays196_ren := {
  mixed := by kernel_rfl
  f196 := Tryz.func91.trans (congrArg some (by kernel_rfl))
  f259 := Tryz.func117.trans (congrArg some (by kernel_rfl))
  t0 := Tryz.underlying0
  a0 := Tryz.isAgg0
  z0 := Tryz.sizeOf0
  v0 := Tryz.zeroValue0
  t3 := Tryz.underlying3
  a3 := Tryz.isAgg3
  z3 := Tryz.sizeOf3
  v3 := Tryz.zeroValue3
  t4 := Tryz.underlying4
  a4 := Tryz.isAgg4
  z4 := Tryz.sizeOf4
  v4 := Tryz.zeroValue4
  t5 := Tryz.underlying5
  a5 := Tryz.isAgg5
  z5 := Tryz.sizeOf5
  v5 := Tryz.zeroValue5
  t9 := Tryz.underlying9
  a9 := Tryz.isAgg9
  z9 := Tryz.sizeOf9
  v9 := Tryz.zeroValue9
  t12 := Tryz.underlying12
  a12 := Tryz.isAgg12
  z12 := Tryz.sizeOf12
  v12 := Tryz.zeroValue12
  t46 := Tryz.underlying103
  a46 := Tryz.isAgg103
  z46 := Tryz.sizeOf103
  v46 := Tryz.zeroValue103
  t53 := Tryz.underlying36
  a53 := Tryz.isAgg36
  z53 := Tryz.sizeOf36
  v53 := Tryz.zeroValue36
  t119 := Tryz.underlying154
  a119 := Tryz.isAgg154
  z119 := Tryz.sizeOf154
  t138 := Tryz.underlying156
  a138 := Tryz.isAgg156
  z138 := Tryz.sizeOf156
  v138 := Tryz.zeroValue156
  t139 := Tryz.underlying157
  a139 := Tryz.isAgg157
  z139 := Tryz.sizeOf157
  v139 := Tryz.zeroValue157
  g3 := by kernel_rfl
  g4 := by kernel_rfl }
def Tryz.idxC_ren : Go.Shelf.Ren := ⟨fun | 6 => 93 | n => n, fun | 22 => 71 | 23 => 74 | 25 => 111 | 3 => 3 | 0 => 0 | 4 => 4 | n => n, fun | n => n⟩
theorem Tryz.idxC : Go.Proofs.SlLaysH0.n6 Tryz.prog Tryz.idxC_ren := {
  mixed := by kernel_rfl
  f6 := ⟨Tryz.f93.name, by decide, Tryz.func93.trans (congrArg some (by kernel_rfl))⟩
  t0 := Tryz.underlying0
  a0 := Tryz.isAgg0
  z0 := Tryz.sizeOf0
  v0 := Tryz.zeroValue0
  t3 := Tryz.underlying3
  a3 := Tryz.isAgg3
  z3 := Tryz.sizeOf3
  v3 := Tryz.zeroValue3
  t4 := Tryz.underlying4
  a4 := Tryz.isAgg4
  z4 := Tryz.sizeOf4
  v4 := Tryz.zeroValue4
  t22 := Tryz.underlying71
  a22 := Tryz.isAgg71
  z22 := Tryz.sizeOf71
  v22 := Tryz.zeroValue71
  t25 := Tryz.underlying111
  a25 := Tryz.isAgg111
  z25 := Tryz.sizeOf111
  v25 := Tryz.zeroValue111 }
def Tryz.sortC_ren : Go.Shelf.Ren := ⟨fun | 6 => 65 | 15 => 95 | 14 => 94 | 28 => 126 | 29 => 127 | 20 => 118 | 21 => 119 | 22 => 120 | 23 => 121 | 24 => 122 | 25 => 123 | 26 => 124 | 27 => 125 | 46 => 138 | 47 => 139 | 48 => 140 | 49 => 141 | 50 => 142 | 57 => 152 | n => n, fun | 22 => 71 | 24 => 74 | 25 => 113 | 3 => 3 | 39 => 103 | 0 => 0 | 53 => 166 | 55 => 36 | 4 => 4 | 46 => 160 | 45 => 159 | 50 => 109 | 5 => 5 | 9 => 9 | 66 => 175 | 70 => 179 | 76 => 188 | 77 => 189 | n => n, fun | n => n⟩
theorem Tryz.sortC : Go.Proofs.SlLaysF0.n6 Tryz.prog Tryz.sortC_ren := {
  mixed := by kernel_rfl
  f6 := ⟨Tryz.f65.name, by decide, Tryz.func65.trans (congrArg some (by kernel_rfl))⟩
  f14 := ⟨Tryz.f94.name, by decide, Tryz.func94.trans (congrArg some (by kernel_rfl))⟩
  f15 := Tryz.func95.trans (congrArg some (by kernel_rfl))
  f20 := ⟨Tryz.f118.name, by decide, Tryz.func118.trans (congrArg some (by kernel_rfl))⟩
  f21 := ⟨Tryz.f119.name, by decide, Tryz.func119.trans (congrArg some (by kernel_rfl))⟩
  f22 := ⟨Tryz.f120.name, by decide, Tryz.func120.trans (congrArg some (by kernel_rfl))⟩
  f23 := ⟨Tryz.f121.name, by decide, Tryz.func121.trans (congrArg some (by kernel_rfl))⟩
  f24 := ⟨Tryz.f122.name, by decide, Tryz.func122.trans (congrArg some (by kernel_rfl))⟩
  f25 := ⟨Tryz.f123.name, by decide, Tryz.func123.trans (congrArg some (by kernel_rfl))⟩
  f26 := ⟨Tryz.f124.name, by decide, Tryz.func124.trans (congrArg some (by kernel_rfl))⟩
  f27 := ⟨Tryz.f125.name, by decide, Tryz.func125.trans (congrArg some (by kernel_rfl))⟩
  f28 := Tryz.func126.trans (congrArg some (by kernel_rfl))
  f29 := Tryz.func127.trans (congrArg some (by kernel_rfl))
  f46 := ⟨Tryz.f138.name, by decide, Tryz.func138.trans (congrArg some (by kernel_rfl))⟩
  f47 := Tryz.func139.trans (congrArg some (by kernel_rfl))
  f48 := Tryz.func140.trans (congrArg some (by kernel_rfl))
  f49 := ⟨Tryz.f141.name, by decide, Tryz.func141.trans (congrArg some (by kernel_rfl))⟩
  f50 := ⟨Tryz.f142.name, by decide, Tryz.func142.trans (congrArg some (by kernel_rfl))⟩
  f57 := ⟨Tryz.f152.name, by decide, Tryz.func152.trans (congrArg some (by kernel_rfl))⟩
  t0 := Tryz.underlying0
  a0 := Tryz.isAgg0
  z0 := Tryz.sizeOf0
  v0 := Tryz.zeroValue0
  t3 := Tryz.underlying3
  a3 := Tryz.isAgg3
  z3 := Tryz.sizeOf3
  v3 := Tryz.zeroValue3
  t4 := Tryz.underlying4
  a4 := Tryz.isAgg4
  z4 := Tryz.sizeOf4
  v4 := Tryz.zeroValue4
  t5 := Tryz.underlying5
  a5 := Tryz.isAgg5
  z5 := Tryz.sizeOf5
  v5 := Tryz.zeroValue5
  t9 := Tryz.underlying9
  a9 := Tryz.isAgg9
  z9 := Tryz.sizeOf9
  v9 := Tryz.zeroValue9
  t22 := Tryz.underlying71
  a22 := Tryz.isAgg71
  z22 := Tryz.sizeOf71
  v22 := Tryz.zeroValue71
  t25 := Tryz.underlying113
  a25 := Tryz.isAgg113
  z25 := Tryz.sizeOf113
  v25 := Tryz.zeroValue113
  t39 := Tryz.underlying103
  a39 := Tryz.isAgg103
  z39 := Tryz.sizeOf103
  v39 := Tryz.zeroValue103
  t45 := Tryz.underlying159
  a45 := Tryz.isAgg159
  z45 := Tryz.sizeOf159
  v45 := Tryz.zeroValue159
  t46 := Tryz.underlying160
  a46 := Tryz.isAgg160
  z46 := Tryz.sizeOf160
  v46 := Tryz.zeroValue160
  t50 := Tryz.underlying109
  a50 := Tryz.isAgg109
  z50 := Tryz.sizeOf109
  v50 := Tryz.zeroValue109
  t53 := Tryz.underlying166
  a53 := Tryz.isAgg166
  z53 := Tryz.sizeOf166
  v53 := Tryz.zeroValue166
  t55 := Tryz.underlying36
  a55 := Tryz.isAgg36
  z55 := Tryz.sizeOf36
  v55 := Tryz.zeroValue36
  t66 := Tryz.underlying175
  a66 := Tryz.isAgg175
  z66 := Tryz.sizeOf175
  v66 := Tryz.zeroValue175
  t70 := Tryz.underlying179
  a70 := Tryz.isAgg179
  z70 := Tryz.sizeOf179
  v70 := Tryz.zeroValue179
  t76 := Tryz.underlying188
  a76 := Tryz.isAgg188
  z76 := Tryz.sizeOf188
  v76 := Tryz.zeroValue188
  t77 := Tryz.underlying189
  a77 := Tryz.isAgg189
  z77 := Tryz.sizeOf189
  v77 := Tryz.zeroValue189 }
/-- unicode/utf8.ValidString, at this program's numbers. -/
theorem Tryz.utf8_ValidString (s : ByteArray) (w : World) (hs : s.size ≤ 9223372036854775807) (hT : Lib.Utf8Tabs 0 1 w) :
    Calls Tryz.prog 91 #[.string s] w fun e w' => e = .returned (.bool (Lib.validD s.data.toList)) ∧ RowKit.Below w.heap.size w w' := Any.utf8_ValidString Tryz.lays196 s w hs hT
end Go.Proofs
end
section
/-
  What datum.Cmp answers, at this program: of any two data. No condition.
-/
set_option linter.unusedVariables false
set_option linter.unusedSimpArgs false
namespace Go.Proofs.YtpmfbmigdpmloaaGreatDoor
open Go.RowKit Go.Lib

def cmp3 (x y : Int) : Int := if x < y then -1 else if x = y then 0 else 1
def cmpB (x y : Bool) : Int := if x = y then 0 else if y = true then -1 else 1
/-- The order of data. -/
def cmpS (a b : Dat) : Int :=
  if a.k = b.k then (if a.k = 2 then cmpB a.b b.b else if a.k = 3 then cmp3 a.n b.n else if a.k = 4 then compareBytes a.s.data.toList b.s.data.toList else 0) else cmp3 a.k b.k

set_option maxHeartbeats 2000000 in
theorem cmpKind_any (x y : Int) (w : World) :
    Calls Tryz.prog 79 #[.int .u8 x, .int .u8 y] w fun e w' => e = .returned (.int .i64 (cmp3 x y)) ∧ w = w' := by
  by_cases h : x < y
  · have hr := Lib.hid (show cmp3 x y = -1 from if_pos h)
    have h2 : ¬ y < x := by omega
    have h3 : (x == y) = false := by simp; omega
    go_enter Tryz.func79, Tryz.ntmps79
    go_wp2
    go_ret
    exact ⟨ret_int hr.out.symm, rfl⟩
  · by_cases h2 : x = y
    · subst h2
      have hr := Lib.hid (show cmp3 x x = 0 by simp [cmp3])
      go_enter Tryz.func79, Tryz.ntmps79
      go_wp2
      go_ret
      exact ⟨ret_int hr.out.symm, rfl⟩
    · have hr := Lib.hid (show cmp3 x y = 1 by simp [cmp3, h, h2])
      have h3 : y < x := by omega
      have h4 : (x == y) = false := by simpa using h2
      clear h2
      go_enter Tryz.func79, Tryz.ntmps79
      go_wp2
      go_ret
      exact ⟨ret_int hr.out.symm, rfl⟩

set_option maxHeartbeats 2000000 in
theorem cmpInt_any (x y : Int) (w : World) :
    Calls Tryz.prog 81 #[.int .i64 x, .int .i64 y] w fun e w' => e = .returned (.int .i64 (cmp3 x y)) ∧ w = w' := by
  by_cases h : x < y
  · have hr := Lib.hid (show cmp3 x y = -1 from if_pos h)
    have h2 : ¬ y < x := by omega
    have h3 : (x == y) = false := by simp; omega
    go_enter Tryz.func81, Tryz.ntmps81
    go_wp2
    go_ret
    exact ⟨ret_int hr.out.symm, rfl⟩
  · by_cases h2 : x = y
    · subst h2
      have hr := Lib.hid (show cmp3 x x = 0 by simp [cmp3])
      go_enter Tryz.func81, Tryz.ntmps81
      go_wp2
      go_ret
      exact ⟨ret_int hr.out.symm, rfl⟩
    · have hr := Lib.hid (show cmp3 x y = 1 by simp [cmp3, h, h2])
      have h3 : y < x := by omega
      have h4 : (x == y) = false := by simpa using h2
      clear h2
      go_enter Tryz.func81, Tryz.ntmps81
      go_wp2
      go_ret
      exact ⟨ret_int hr.out.symm, rfl⟩

set_option maxHeartbeats 2000000 in
theorem cmpBool_any (x y : Bool) (w : World) :
    Calls Tryz.prog 80 #[.bool x, .bool y] w fun e w' => e = .returned (.int .i64 (cmpB x y)) ∧ w = w' := by
  cases x <;> cases y <;>
  · go_enter Tryz.func80, Tryz.ntmps80
    go_wp2
    go_ret
    exact ⟨rfl, rfl⟩

set_option maxHeartbeats 2000000 in
theorem cmp_any (ka : Int) (ba : Bool) (na : Int) (sa : ByteArray) (kb : Int) (bb : Bool) (nb : Int) (sb : ByteArray) (w : World) :
    Calls Tryz.prog 47 #[.agg #[.int .u8 ka, .bool ba, .int .i64 na, .string sa], .agg #[.int .u8 kb, .bool bb, .int .i64 nb, .string sb]] w
      fun e w' => e = .returned (.int .i64 (cmpS ⟨ka, ba, na, sa⟩ ⟨kb, bb, nb, sb⟩)) ∧ Below w.heap.size w w' := by
  by_cases h : ka = kb
  · subst h
    by_cases h2 : ka = 2
    · subst h2
      have hr := Lib.hid (show cmpS ⟨2, ba, na, sa⟩ ⟨2, bb, nb, sb⟩ = cmpB ba bb from rfl)
      go_enter Tryz.func47, Tryz.ntmps47
      go_wp2_with fail
      refine (cmpBool_any ba bb _).mono ?_
      rintro e w1 ⟨rfl, rfl⟩
      go_wp2
      go_ret
      exact ⟨ret_int hr.out.symm, by go_grown⟩
    · by_cases h3 : ka = 3
      · subst h3
        have hr := Lib.hid (show cmpS ⟨3, ba, na, sa⟩ ⟨3, bb, nb, sb⟩ = cmp3 na nb from rfl)
        go_enter Tryz.func47, Tryz.ntmps47
        go_wp2_with fail
        refine (cmpInt_any na nb _).mono ?_
        rintro e w1 ⟨rfl, rfl⟩
        go_wp2
        go_ret
        exact ⟨ret_int hr.out.symm, by go_grown⟩
      · by_cases h4 : ka = 4
        · subst h4
          have hr := Lib.hid (show cmpS ⟨4, ba, na, sa⟩ ⟨4, bb, nb, sb⟩ = compareBytes sa.data.toList sb.data.toList from rfl)
          go_enter Tryz.func47, Tryz.ntmps47
          go_wp2_with fail
          refine (Tryz.strings_Compare sa sb _).mono ?_
          rintro e w1 ⟨rfl, rfl⟩
          go_wp2
          go_ret
          exact ⟨ret_int hr.out.symm, by go_grown⟩
        · have hr := Lib.hid (show cmpS ⟨ka, ba, na, sa⟩ ⟨ka, bb, nb, sb⟩ = 0 by simp [cmpS, h2, h3, h4])
          have g2 : (ka == 2) = false := by simpa using h2
          have g3 : (ka == 3) = false := by simpa using h3
          have g4 : (ka == 4) = false := by simpa using h4
          clear h2 h3 h4
          go_enter Tryz.func47, Tryz.ntmps47
          go_wp2
          go_ret
          exact ⟨ret_int hr.out.symm, by go_grown⟩
  · have hr := Lib.hid (show cmpS ⟨ka, ba, na, sa⟩ ⟨kb, bb, nb, sb⟩ = cmp3 ka kb by simp [cmpS, h])
    have g : (ka != kb) = true := by simpa using h
    clear h
    go_enter Tryz.func47, Tryz.ntmps47
    go_wp2_with fail
    refine (cmpKind_any ka kb _).mono ?_
    rintro e w1 ⟨rfl, rfl⟩
    go_wp2
    go_ret
    exact ⟨ret_int hr.out.symm, by go_grown⟩
end Go.Proofs.YtpmfbmigdpmloaaGreatDoor
end
section
/-
  Plain mathematics: the order of data. No condition; the last: both data may be.
-/
set_option linter.unusedVariables false
set_option linter.unusedSimpArgs false
namespace Go.Proofs.YtpmfbmigdpmloaaGreatDoor
open Go.Lib

theorem cmp3_turn (x y : Int) : cmp3 x y = -cmp3 y x := by unfold cmp3; repeat' split
                                                           all_goals omega
theorem cmpB_turn (x y : Bool) : cmpB x y = -cmpB y x := by cases x <;> cases y <;> rfl
theorem u8_trichotomy (a b : UInt8) : a < b ∨ a = b ∨ b < a := by
  rcases Nat.lt_trichotomy a.toNat b.toNat with h | h | h
  · exact .inl (UInt8.lt_iff_toNat_lt.2 h)
  · exact .inr (.inl (UInt8.toNat_inj.1 h))
  · exact .inr (.inr (UInt8.lt_iff_toNat_lt.2 h))
theorem u8_asymm {a b : UInt8} (h : a < b) : ¬ b < a := fun h2 => by
  have := UInt8.lt_iff_toNat_lt.1 h
  have := UInt8.lt_iff_toNat_lt.1 h2
  omega
theorem compare_range : ∀ a b : List UInt8, -1 ≤ compareBytes a b ∧ compareBytes a b ≤ 1
  | [], [] => by simp [compareBytes]
  | [], _ :: _ => by simp [compareBytes]
  | _ :: _, [] => by simp [compareBytes]
  | a :: l, b :: m => by
    have := compare_range l m
    unfold compareBytes
    repeat' split
    all_goals omega
theorem compare_turn : ∀ a b : List UInt8, compareBytes a b = -compareBytes b a
  | [], [] => rfl
  | [], _ :: _ => rfl
  | _ :: _, [] => rfl
  | a :: l, b :: m => by
    have ih := compare_turn l m
    unfold compareBytes
    rcases u8_trichotomy a b with h | h | h
    · rw [if_pos h, if_neg (u8_asymm h), if_pos h]
    · subst h
      rw [if_neg (UInt8.lt_irrefl a), if_neg (UInt8.lt_irrefl a), if_neg (UInt8.lt_irrefl a), if_neg (UInt8.lt_irrefl a), ih]
    · rw [if_neg (u8_asymm h), if_pos h, if_pos h]
      rfl
theorem compare_zero : ∀ a b : List UInt8, compareBytes a b = 0 ↔ a = b
  | [], [] => by simp [compareBytes]
  | [], _ :: _ => by simp [compareBytes]
  | _ :: _, [] => by simp [compareBytes]
  | a :: l, b :: m => by
    have ih := compare_zero l m
    unfold compareBytes
    rcases u8_trichotomy a b with h | h | h
    · rw [if_pos h]
      refine ⟨fun e => by omega, fun e => ?_⟩
      simp at e
      rw [e.1] at h
      exact absurd h (UInt8.lt_irrefl b)
    · subst h
      rw [if_neg (UInt8.lt_irrefl a), if_neg (UInt8.lt_irrefl a), ih]
      simp
    · rw [if_neg (u8_asymm h), if_pos h]
      refine ⟨fun e => by omega, fun e => ?_⟩
      simp at e
      rw [e.1] at h
      exact absurd h (UInt8.lt_irrefl b)
theorem compare_trans : ∀ a b c : List UInt8, compareBytes a b ≤ 0 → compareBytes b c ≤ 0 → compareBytes a c ≤ 0
  | [], _, [] => by simp [compareBytes]
  | [], _, _ :: _ => by simp [compareBytes]
  | _ :: _, [], _ => by simp [compareBytes]
  | _ :: _, _ :: _, [] => by simp [compareBytes]
  | a :: l, b :: m, c :: r => by
    have ih := compare_trans l m r
    have tr : ∀ {x y z : UInt8}, x < y → y < z → x < z := fun h h2 => by
      have := UInt8.lt_iff_toNat_lt.1 h
      have := UInt8.lt_iff_toNat_lt.1 h2
      exact UInt8.lt_iff_toNat_lt.2 (by omega)
    unfold compareBytes
    rcases u8_trichotomy a b with h | h | h
    · rcases u8_trichotomy b c with g | g | g
      · rw [if_pos h, if_pos g, if_pos (tr h g)]; intro _ _; omega
      · subst g; rw [if_pos h, if_pos h]; intro _ _; omega
      · rw [if_pos h, if_neg (u8_asymm g), if_pos g]; intro _ _; omega
    · subst h
      rcases u8_trichotomy a c with g | g | g
      · rw [if_pos g, if_pos g]; intro _ _; omega
      · subst g
        rw [if_neg (UInt8.lt_irrefl a), if_neg (UInt8.lt_irrefl a), if_neg (UInt8.lt_irrefl a), if_neg (UInt8.lt_irrefl a), if_neg (UInt8.lt_irrefl a), if_neg (UInt8.lt_irrefl a)]
        exact ih
      · rw [if_neg (u8_asymm g), if_pos g]; intro _ _; omega
    · rw [if_neg (u8_asymm h), if_pos h]; intro _ _; omega

theorem cmpS_turn (a b : Dat) : cmpS a b = -cmpS b a := by
  unfold cmpS
  by_cases h : a.k = b.k
  · rw [if_pos h, if_pos h.symm, h]
    repeat' split
    · exact cmpB_turn _ _
    · exact cmp3_turn _ _
    · exact compare_turn _ _
    · rfl
  · rw [if_neg h, if_neg (fun e => h e.symm)]
    exact cmp3_turn _ _
theorem cmp3_range (x y : Int) : -1 ≤ cmp3 x y ∧ cmp3 x y ≤ 1 := by
  unfold cmp3
  repeat' split
  all_goals omega
theorem cmpS_range (a b : Dat) : -1 ≤ cmpS a b ∧ cmpS a b ≤ 1 := by
  unfold cmpS
  repeat' split
  · cases a.b <;> cases b.b <;> decide
  · exact cmp3_range _ _
  · exact compare_range _ _
  · omega
  · exact cmp3_range _ _
theorem cmpS_self (a : Dat) : cmpS a a = 0 := by
  have := cmpS_turn a a
  omega
theorem cmp3_trans {x y z : Int} (h : cmp3 x y ≤ 0) (h2 : cmp3 y z ≤ 0) : cmp3 x z ≤ 0 := by
  unfold cmp3 at *
  repeat' split at *
  all_goals omega
theorem cmpB_trans {x y z : Bool} (h : cmpB x y ≤ 0) (h2 : cmpB y z ≤ 0) : cmpB x z ≤ 0 := by
  revert h h2
  cases x <;> cases y <;> cases z <;> decide
theorem cmp3_le {x y : Int} : cmp3 x y ≤ 0 ↔ x ≤ y := by
  unfold cmp3
  repeat' split
  all_goals omega
theorem cmpS_trans {a b c : Dat} (h : cmpS a b ≤ 0) (h2 : cmpS b c ≤ 0) : cmpS a c ≤ 0 := by
  unfold cmpS at *
  by_cases e1 : a.k = b.k
  · by_cases e2 : b.k = c.k
    · rw [if_pos e1] at h
      rw [if_pos e2] at h2
      rw [if_pos (e1.trans e2)]
      rw [e1] at h ⊢
      by_cases k2 : b.k = 2
      · simp only [k2, if_true] at *
        exact cmpB_trans h h2
      · by_cases k3 : b.k = 3
        · rw [if_neg k2, if_pos k3] at *
          exact cmp3_trans h h2
        · by_cases k4 : b.k = 4
          · rw [if_neg k2, if_neg k3, if_pos k4] at *
            exact compare_trans _ _ _ h h2
          · rw [if_neg k2, if_neg k3, if_neg k4]
            omega
    · rw [if_neg e2] at h2
      rw [if_neg (by rw [e1]; exact e2), e1]
      exact h2
  · rw [if_neg e1] at h
    by_cases e2 : b.k = c.k
    · rw [if_neg (by rw [← e2]; exact e1), ← e2]
      exact h
    · rw [if_neg e2] at h2
      have h3 := cmp3_le.1 h
      have h4 := cmp3_le.1 h2
      have hne : a.k ≠ c.k := by omega
      rw [if_neg hne]
      exact cmp3_le.2 (by omega)
theorem cmp3_zero {x y : Int} : cmp3 x y = 0 ↔ x = y := by
  unfold cmp3
  repeat' split
  all_goals omega
theorem cmpB_zero {x y : Bool} : cmpB x y = 0 ↔ x = y := by cases x <;> cases y <;> decide
theorem cmpS_zero {a b : Dat} (ha : okD a = true) (hb : okD b = true) : cmpS a b = 0 ↔ a = b := by
  refine ⟨fun h => ?_, fun h => by rw [h]; exact cmpS_self b⟩
  have hk : a.k = b.k := by
    by_cases e : a.k = b.k
    · exact e
    · unfold cmpS at h
      rw [if_neg e] at h
      exact cmp3_zero.1 h
  rcases ok_cases ha with rfl | ⟨x, rfl⟩ | ⟨x, rfl⟩ | ⟨x, rfl, hx1, hx2⟩ <;> rcases ok_cases hb with rfl | ⟨y, rfl⟩ | ⟨y, rfl⟩ | ⟨y, rfl, hy1, hy2⟩
  all_goals first
    | rfl
    | (exfalso; revert hk; simp [nullD, boolD, intD, textD]; done)
    | (rw [cmpB_zero.1 (show cmpB x y = 0 from h)])
    | (rw [cmp3_zero.1 (show cmp3 x y = 0 from h)])
    | (rw [bytes_ext ((compare_zero x.data.toList y.data.toList).1 h)])
end Go.Proofs.YtpmfbmigdpmloaaGreatDoor
end
section
/-
  Plain mathematics of rows: how rows compare, their bytes, their keys; rows compare as their bytes do; keys are the same just if rows compare as the same. No condition but those written.
-/
set_option linter.unusedVariables false
set_option linter.unusedSimpArgs false
namespace Go.Proofs.YtpmfbmigdpmloaaGreatDoor
open Go.Lib

/-- The bytes of a text. -/
def escT (l : List UInt8) : List UInt8 := l.flatMap fun b => if b = 0 then [0, 255] else [b]
/-- The last k bytes of a number, the greatest first. -/
def be : Nat → Nat → List UInt8
  | 0, _ => []
  | k + 1, m => UInt8.ofNat (m / 256 ^ k) :: be k m
/-- The bytes of a datum; of no kind: none. -/
def encD (d : Dat) : List UInt8 :=
  if d.k = 1 then [16] else if d.k = 2 then [if d.b = true then 33 else 32] else if d.k = 3 then 48 :: be 8 (d.n + 9223372036854775808).toNat else if d.k = 4 then 64 :: (escT d.s.data.toList ++ [0, 1]) else []
/-- The key of a datum. -/
def keyD (d : Dat) : List UInt8 := if encD d = [] then [80, UInt8.ofNat d.k.toNat] else encD d
def encR (l : List Dat) : List UInt8 := l.flatMap encD
def keyR (l : List Dat) : List UInt8 := l.flatMap keyD
/-- The order of rows. -/
def cmpR : List Dat → List Dat → Int
  | [], [] => 0
  | [], _ :: _ => -1
  | _ :: _, [] => 1
  | d :: l, e :: m => if cmpS d e = 0 then cmpR l m else cmpS d e
/-- Less at the first place at which they differ. -/
def LtD (x y : List UInt8) : Prop := ∃ p a b x' y', x = p ++ a :: x' ∧ y = p ++ b :: y' ∧ a < b
theorem LtD.app {x y : List UInt8} (h : LtD x y) (u v : List UInt8) : LtD (x ++ u) (y ++ v) := by
  obtain ⟨p, a, b, x', y', rfl, rfl, hab⟩ := h
  exact ⟨p, a, b, x' ++ u, y' ++ v, by simp, by simp, hab⟩
theorem LtD.pre {x y : List UInt8} (h : LtD x y) (q : List UInt8) : LtD (q ++ x) (q ++ y) := by
  obtain ⟨p, a, b, x', y', rfl, rfl, hab⟩ := h
  exact ⟨q ++ p, a, b, x', y', by simp, by simp, hab⟩
theorem LtD.head {a b : UInt8} (h : a < b) (x y : List UInt8) : LtD (a :: x) (b :: y) := ⟨[], a, b, x, y, rfl, rfl, h⟩
theorem LtD.cons {x y : List UInt8} (h : LtD x y) (c : UInt8) : LtD (c :: x) (c :: y) := h.pre [c]
theorem u8_irrefl (a : UInt8) : ¬ a < a := fun h => u8_asymm h h
theorem compare_pre : ∀ p x y : List UInt8, compareBytes (p ++ x) (p ++ y) = compareBytes x y
  | [], x, y => rfl
  | c :: p, x, y => by
    rw [List.cons_append, List.cons_append]
    show (if c < c then (-1 : Int) else if c < c then 1 else compareBytes (p ++ x) (p ++ y)) = _
    rw [if_neg (u8_irrefl c), if_neg (u8_irrefl c)]
    exact compare_pre p x y
theorem LtD.compare {x y : List UInt8} (h : LtD x y) : compareBytes x y = -1 := by
  obtain ⟨p, a, b, x', y', rfl, rfl, hab⟩ := h
  rw [compare_pre]
  show (if a < b then (-1 : Int) else _) = -1
  rw [if_pos hab]
theorem LtD.ne {x y : List UInt8} (h : LtD x y) : x ≠ y := fun e => by
  have := h.compare
  rw [e, (compare_zero y y).2 rfl] at this
  omega
theorem compare_cases : ∀ x y : List UInt8, compareBytes x y = -1 → LtD x y ∨ ∃ c r, y = x ++ c :: r
  | [], [], h => by cases h
  | [], c :: r, _ => .inr ⟨c, r, rfl⟩
  | _ :: _, [], h => by cases h
  | a :: x, b :: y, h => by
    have h' : (if a < b then (-1 : Int) else if b < a then 1 else compareBytes x y) = -1 := h
    by_cases h1 : a < b
    · exact .inl (.head h1 x y)
    · rw [if_neg h1] at h'
      by_cases h2 : b < a
      · rw [if_pos h2] at h'; cases h'
      · rw [if_neg h2] at h'
        rcases u8_trichotomy a b with h3 | rfl | h3
        · exact absurd h3 h1
        · rcases compare_cases x y h' with h4 | ⟨c, r, rfl⟩
          · exact .inl (h4.cons a)
          · exact .inr ⟨c, r, rfl⟩
        · exact absurd h3 h2
theorem be_len : ∀ k m, (be k m).length = k
  | 0, _ => rfl
  | k + 1, m => by rw [be, List.length_cons, be_len k m]
theorem ofNat_lt {a b : Nat} (h : a % 256 < b % 256) : UInt8.ofNat a < UInt8.ofNat b := by
  rw [UInt8.lt_iff_toNat_lt, UInt8.toNat_ofNat', UInt8.toNat_ofNat']
  exact h
theorem ofNat_eq {a b : Nat} (h : a % 256 = b % 256) : UInt8.ofNat a = UInt8.ofNat b := by
  rw [← UInt8.toNat_inj, UInt8.toNat_ofNat', UInt8.toNat_ofNat']
  exact h
theorem be_lt : ∀ k m m', m % 256 ^ k < m' % 256 ^ k → LtD (be k m) (be k m')
  | 0, m, m', h => by rw [Nat.pow_zero, Nat.mod_one, Nat.mod_one] at h; omega
  | k + 1, m, m', h => by
    rw [Nat.pow_succ, Nat.mod_mul, Nat.mod_mul] at h
    have hp : 0 < 256 ^ k := Nat.pow_pos (by omega)
    have r1 := Nat.mod_lt m hp
    have r2 := Nat.mod_lt m' hp
    rcases Nat.lt_trichotomy (m / 256 ^ k % 256) (m' / 256 ^ k % 256) with h1 | h1 | h1
    · exact .head (ofNat_lt h1) _ _
    · rw [h1] at h
      rw [be, be, ofNat_eq h1]
      exact (be_lt k m m' (by omega)).cons _
    · exfalso
      have := Nat.mul_le_mul_left (256 ^ k) (show m' / 256 ^ k % 256 + 1 ≤ m / 256 ^ k % 256 from h1)
      rw [Nat.mul_add, Nat.mul_one] at this
      omega
theorem zero_lt {b : UInt8} (h : b ≠ 0) : (0 : UInt8) < b := by
  rw [UInt8.lt_iff_toNat_lt]
  have : b.toNat ≠ 0 := fun e => h (UInt8.toNat_inj.1 e)
  show 0 < b.toNat
  omega
theorem not_lt_zero (a : UInt8) : ¬ a < 0 := by
  rw [UInt8.lt_iff_toNat_lt]
  exact Nat.not_lt_zero _
theorem escT_lt {x y : List UInt8} (h : LtD x y) : LtD (escT x) (escT y) := by
  obtain ⟨p, a, b, x', y', rfl, rfl, hab⟩ := h
  unfold escT
  rw [List.flatMap_append, List.flatMap_append, List.flatMap_cons, List.flatMap_cons]
  refine LtD.pre ?_ _
  have hb : b ≠ 0 := fun e => not_lt_zero a (by rw [e] at hab; exact hab)
  rw [if_neg hb]
  by_cases ha : a = 0
  · rw [if_pos ha]
    exact .head (zero_lt hb) _ _
  · rw [if_neg ha]
    exact .head hab _ _
theorem text_lt {x y : List UInt8} (h : compareBytes x y = -1) : LtD (escT x ++ [0, 1]) (escT y ++ [0, 1]) := by
  rcases compare_cases x y h with h | ⟨c, r, rfl⟩
  · exact (escT_lt h).app _ _
  · have : escT (x ++ c :: r) ++ [0, 1] = escT x ++ ((if c = 0 then [0, 255] else [c]) ++ escT r ++ [0, 1]) := by
      unfold escT
      simp
    rw [this]
    refine LtD.pre ?_ _
    by_cases hc : c = 0
    · rw [if_pos hc]
      exact LtD.cons (LtD.head (by decide) _ _) 0
    · rw [if_neg hc]
      exact .head (zero_lt hc) _ _
/-- A datum of a kind. -/
def Kinded (d : Dat) : Prop := 1 ≤ d.k ∧ d.k ≤ 4
theorem encD_ne {d : Dat} (h : Kinded d) : encD d ≠ [] := by
  obtain ⟨h1, h2⟩ := h
  unfold encD
  repeat' split
  all_goals first | exact List.cons_ne_nil _ _ | omega
theorem encD_nil {d : Dat} (h : ¬ Kinded d) : encD d = [] := by
  unfold Kinded at h
  unfold encD
  rw [if_neg (by omega), if_neg (by omega), if_neg (by omega), if_neg (by omega)]
theorem encD_same {d e : Dat} (h : cmpS d e = 0) : encD d = encD e := by
  unfold cmpS at h
  by_cases hk : d.k = e.k
  · rw [if_pos hk] at h
    unfold encD
    rw [hk] at h ⊢
    by_cases h2 : e.k = 2
    · rw [if_pos h2] at h
      simp [h2, cmpB_zero.1 h]
    · rw [if_neg h2] at h
      by_cases h3 : e.k = 3
      · rw [if_pos h3] at h
        simp [h3, cmp3_zero.1 h]
      · rw [if_neg h3] at h
        by_cases h4 : e.k = 4
        · rw [if_pos h4] at h
          simp [h4, (compare_zero _ _).1 h]
        · simp [h2, h3, h4]
  · rw [if_neg hk] at h
    exact absurd (cmp3_zero.1 h) hk
theorem kind_head {d : Dat} (h : Kinded d) : ∃ c r, encD d = c :: r ∧ (16 * d.k ≤ c.toNat ∧ (c.toNat : Int) ≤ 16 * d.k + 1) := by
  obtain ⟨h1, h2⟩ := h
  unfold encD
  by_cases e1 : d.k = 1
  · rw [if_pos e1]; exact ⟨_, _, rfl, by rw [e1]; decide⟩
  rw [if_neg e1]
  by_cases e2 : d.k = 2
  · rw [if_pos e2]
    cases d.b
    · exact ⟨_, _, rfl, by rw [e2]; decide⟩
    · exact ⟨_, _, rfl, by rw [e2]; decide⟩
  rw [if_neg e2]
  by_cases e3 : d.k = 3
  · rw [if_pos e3]; exact ⟨_, _, rfl, by rw [e3]; decide⟩
  rw [if_neg e3, if_pos (by omega)]
  exact ⟨_, _, rfl, by rw [show d.k = 4 by omega]; decide⟩
theorem cmp3_neg {x y : Int} (h : cmp3 x y = -1) : x < y := by
  unfold cmp3 at h
  by_cases h1 : x < y
  · exact h1
  · rw [if_neg h1] at h
    by_cases h2 : x = y
    · rw [if_pos h2] at h; omega
    · rw [if_neg h2] at h; omega
theorem encD_lt {d e : Dat} (hd : Kinded d) (he : Kinded e) (nd : -9223372036854775808 ≤ d.n ∧ d.n ≤ 9223372036854775807) (ne : -9223372036854775808 ≤ e.n ∧ e.n ≤ 9223372036854775807) (h : cmpS d e = -1) : LtD (encD d) (encD e) := by
  by_cases hk : d.k = e.k
  · unfold cmpS at h
    rw [if_pos hk] at h
    obtain ⟨h1, h2⟩ := he
    unfold encD
    rw [hk] at h ⊢
    by_cases e2 : e.k = 2
    · rw [if_pos e2] at h
      simp only [if_neg (show ¬ e.k = 1 by omega), if_pos e2]
      cases hb : d.b <;> cases hb' : e.b <;> rw [hb, hb'] at h
      · cases h
      · exact LtD.head (a := 32) (b := 33) (by decide) [] []
      · cases h
      · cases h
    · rw [if_neg e2] at h
      by_cases e3 : e.k = 3
      · rw [if_pos e3] at h
        simp only [if_neg (show ¬ e.k = 1 by omega), if_neg e2, if_pos e3]
        have hlt : d.n < e.n := by
          exact cmp3_neg h
        exact (be_lt 8 _ _ (by rw [show (256 : Nat) ^ 8 = 18446744073709551616 from rfl]; omega)).cons 48
      · rw [if_neg e3] at h
        by_cases e4 : e.k = 4
        · rw [if_pos e4] at h
          simp only [if_neg (show ¬ e.k = 1 by omega), if_neg e2, if_neg e3, if_pos e4]
          exact (text_lt h).cons 64
        · rw [if_neg e4] at h; cases h
  · have hlt : d.k < e.k := by
      unfold cmpS at h
      rw [if_neg hk] at h
      exact cmp3_neg h
    obtain ⟨c, r, h1, h2, h3⟩ := kind_head hd
    obtain ⟨c', r', h4, h5, h6⟩ := kind_head he
    rw [h1, h4]
    exact .head (by rw [UInt8.lt_iff_toNat_lt]; omega) _ _
/-- Two bytes strings that differ at a place of both. -/
def Dif (x y : List UInt8) : Prop := LtD x y ∨ LtD y x
theorem Dif.app {x y : List UInt8} (h : Dif x y) (u v : List UInt8) : Dif (x ++ u) (y ++ v) := h.elim (fun h => .inl (h.app u v)) (fun h => .inr (h.app v u))
theorem Dif.ne {x y : List UInt8} (h : Dif x y) : x ≠ y := h.elim LtD.ne (fun h => h.ne.symm)
theorem cmpS_cases (a b : Dat) : cmpS a b = 0 ∨ cmpS a b = -1 ∨ cmpS b a = -1 := by
  have h1 := cmpS_range a b
  have h2 := cmpS_turn a b
  omega
/-- What a row may hold at all: a kind of a byte, a number of 64 bits. -/
def Wide (d : Dat) : Prop := (0 ≤ d.k ∧ d.k ≤ 255) ∧ (-9223372036854775808 ≤ d.n ∧ d.n ≤ 9223372036854775807)
theorem keyD_same {d e : Dat} (h : cmpS d e = 0) : keyD d = keyD e := by
  unfold keyD
  rw [encD_same h]
  unfold cmpS at h
  by_cases hk : d.k = e.k
  · rw [hk]
  · rw [if_neg hk] at h
    exact absurd (cmp3_zero.1 h) hk
theorem u8_dif {a b : UInt8} (h : a ≠ b) (x y : List UInt8) : Dif (a :: x) (b :: y) := by
  rcases u8_trichotomy a b with h1 | h1 | h1
  · exact .inl (.head h1 _ _)
  · exact absurd h1 h
  · exact .inr (.head h1 _ _)
theorem keyD_ne (d : Dat) : keyD d ≠ [] := by
  unfold keyD
  split
  · exact List.cons_ne_nil _ _
  · assumption
theorem keyD_dif {d e : Dat} (hd : Wide d) (he : Wide e) (h : cmpS d e ≠ 0) : Dif (keyD d) (keyD e) := by
  by_cases kd : Kinded d
  · by_cases ke : Kinded e
    · unfold keyD
      rw [if_neg (encD_ne kd), if_neg (encD_ne ke)]
      rcases cmpS_cases d e with h1 | h1 | h1
      · exact absurd h1 h
      · exact .inl (encD_lt kd ke hd.2 he.2 h1)
      · exact .inr (encD_lt ke kd he.2 hd.2 h1)
    · unfold keyD
      rw [if_neg (encD_ne kd), if_pos (encD_nil ke)]
      obtain ⟨c, r, h1, h2, h3⟩ := kind_head kd
      rw [h1]
      exact u8_dif (fun q => by have := kd.2; rw [q] at h3 h2; have : (80 : UInt8).toNat = 80 := rfl; omega) _ _
  · by_cases ke : Kinded e
    · unfold keyD
      rw [if_neg (encD_ne ke), if_pos (encD_nil kd)]
      obtain ⟨c, r, h1, h2, h3⟩ := kind_head ke
      rw [h1]
      exact u8_dif (fun q => by have := ke.2; rw [← q] at h3 h2; have : (80 : UInt8).toNat = 80 := rfl; omega) _ _
    · unfold keyD
      rw [if_pos (encD_nil kd), if_pos (encD_nil ke)]
      have hk : d.k ≠ e.k := fun hk => by
        unfold Kinded at ke
        apply h
        unfold cmpS
        rw [if_pos hk, if_neg (by omega), if_neg (by omega), if_neg (by omega)]
      have : UInt8.ofNat d.k.toNat ≠ UInt8.ofNat e.k.toNat := fun q => by
        have := congrArg UInt8.toNat q
        rw [UInt8.toNat_ofNat', UInt8.toNat_ofNat'] at this
        obtain ⟨⟨a1, a2⟩, _⟩ := hd
        obtain ⟨⟨b1, b2⟩, _⟩ := he
        omega
      rcases u8_dif this [] [] with h1 | h1
      · exact .inl (h1.cons 80)
      · exact .inr (h1.cons 80)
theorem cmpR_self : ∀ l, cmpR l l = 0
  | [] => rfl
  | d :: l => by rw [cmpR, if_pos (cmpS_self d)]; exact cmpR_self l
theorem cmpR_range : ∀ l m, -1 ≤ cmpR l m ∧ cmpR l m ≤ 1
  | [], [] => by decide
  | [], _ :: _ => by rw [cmpR]; decide
  | _ :: _, [] => by rw [cmpR]; decide
  | d :: l, e :: m => by
    rw [cmpR]
    split
    · exact cmpR_range l m
    · exact cmpS_range d e
theorem cmpR_turn : ∀ l m, cmpR l m = -cmpR m l
  | [], [] => rfl
  | [], _ :: _ => rfl
  | _ :: _, [] => rfl
  | d :: l, e :: m => by
    have h := cmpS_turn d e
    rw [cmpR, cmpR]
    by_cases h0 : cmpS d e = 0
    · rw [if_pos h0, if_pos (by omega)]
      exact cmpR_turn l m
    · rw [if_neg h0, if_neg (by omega)]
      exact h
theorem cmpS_zero_left {a b c : Dat} (h : cmpS a b = 0) : cmpS a c = cmpS b c := by
  have h1 := cmpS_trans (a := a) (b := b) (c := c) (by omega)
  have h2 := cmpS_trans (a := b) (b := a) (c := c) (by have := cmpS_turn a b; omega)
  have h3 := cmpS_trans (a := c) (b := a) (c := b)
  have h4 := cmpS_trans (a := c) (b := b) (c := a)
  have t1 := cmpS_turn a c
  have t2 := cmpS_turn b c
  have t3 := cmpS_turn a b
  have r1 := cmpS_range a c
  have r2 := cmpS_range b c
  omega
theorem cmpR_trans : ∀ {l m n : List Dat}, cmpR l m ≤ 0 → cmpR m n ≤ 0 → cmpR l n ≤ 0
  | [], _, [], _, _ => by rw [cmpR]; decide
  | [], _, _ :: _, _, _ => by rw [cmpR]; decide
  | _ :: _, [], _, h, _ => by rw [cmpR] at h; omega
  | _ :: _, _ :: _, [], _, h => by rw [cmpR] at h; omega
  | d :: l, e :: m, f :: n, h, h2 => by
    rw [cmpR] at h h2 ⊢
    by_cases e1 : cmpS d e = 0
    · rw [if_pos e1] at h
      rw [cmpS_zero_left e1]
      by_cases e2 : cmpS e f = 0
      · rw [if_pos e2] at h2 ⊢
        exact cmpR_trans h h2
      · rw [if_neg e2] at h2 ⊢
        exact h2
    · rw [if_neg e1] at h
      by_cases e2 : cmpS e f = 0
      · have t1 := cmpS_turn e f
        have t2 := cmpS_turn d e
        have t3 := cmpS_turn d f
        have := cmpS_zero_left (a := f) (b := e) (c := d) (by omega)
        have t4 := cmpS_turn f d
        have t5 := cmpS_turn e d
        rw [if_neg (by omega)]
        omega
      · rw [if_neg e2] at h2
        have := cmpS_trans h h2
        split
        · rename_i e3
          exfalso
          have t3 := cmpS_turn d f
          have := cmpS_zero_left (a := f) (b := d) (c := e) (by omega)
          have t1 := cmpS_turn e f
          have t2 := cmpS_turn d e
          omega
        · exact this
/-- Rows compare as their bytes do. -/
theorem encR_cmp : ∀ l m : List Dat, (∀ d ∈ l, Kinded d ∧ Wide d) → (∀ d ∈ m, Kinded d ∧ Wide d) → compareBytes (encR l) (encR m) = cmpR l m
  | [], [], _, _ => rfl
  | [], e :: m, _, hm => by
    have := encD_ne (hm e (by simp)).1
    unfold encR
    rw [List.flatMap_cons]
    cases h : encD e with
    | nil => exact absurd h this
    | cons c r => rfl
  | d :: l, [], hl, _ => by
    have := encD_ne (hl d (by simp)).1
    unfold encR
    rw [List.flatMap_cons]
    cases h : encD d with
    | nil => exact absurd h this
    | cons c r => rfl
  | d :: l, e :: m, hl, hm => by
    obtain ⟨kd, wd⟩ := hl d (by simp)
    obtain ⟨ke, we⟩ := hm e (by simp)
    rw [cmpR]
    unfold encR
    rw [List.flatMap_cons, List.flatMap_cons]
    by_cases h0 : cmpS d e = 0
    · rw [if_pos h0, encD_same h0, compare_pre]
      exact encR_cmp l m (fun x hx => hl x (by simp [hx])) (fun x hx => hm x (by simp [hx]))
    · rw [if_neg h0]
      rcases cmpS_cases d e with h1 | h1 | h1
      · exact absurd h1 h0
      · rw [((encD_lt kd ke wd.2 we.2 h1).app _ _).compare, h1]
      · rw [compare_turn, ((encD_lt ke kd we.2 wd.2 h1).app _ _).compare, cmpS_turn d e, h1]
/-- Keys are the same just if rows compare as the same. -/
theorem keyR_same : ∀ l m : List Dat, (∀ d ∈ l, Wide d) → (∀ d ∈ m, Wide d) → (keyR l = keyR m ↔ cmpR l m = 0)
  | [], [], _, _ => by simp [keyR, cmpR]
  | [], e :: m, _, _ => by
    have := keyD_ne e
    simp [keyR, cmpR, this]
  | d :: l, [], _, _ => by
    have := keyD_ne d
    simp [keyR, cmpR, this]
  | d :: l, e :: m, hl, hm => by
    rw [cmpR]
    unfold keyR
    rw [List.flatMap_cons, List.flatMap_cons]
    by_cases h0 : cmpS d e = 0
    · rw [if_pos h0, keyD_same h0, List.append_cancel_left_eq]
      exact keyR_same l m (fun x hx => hl x (by simp [hx])) (fun x hx => hm x (by simp [hx]))
    · rw [if_neg h0]
      have := ((keyD_dif (hl d (by simp)) (hm e (by simp)) h0).app (l.flatMap keyD) (m.flatMap keyD)).ne
      exact ⟨fun q => absurd q this, fun q => absurd q h0⟩
end Go.Proofs.YtpmfbmigdpmloaaGreatDoor
end
section
/-
  A slice value of the program's memory read as a list: elements of k cells each; a row of data. Nothing is walked here. No condition but those written.
-/
set_option linter.unusedVariables false
set_option linter.unusedSimpArgs false
namespace Go.Proofs.YtpmfbmigdpmloaaGreatDoor
open Go.RowKit Go.Lib

/-- The slice value v has n elements of k cells each, and these cells hold xs. -/
def SlV (w : World) (k : Nat) (v : Value) (n : Nat) (xs : List Value) : Prop :=
  xs.length = n * k ∧ ∃ A c, v = .slice A n c ∧ n ≤ c ∧ c ≤ 9223372036854775807 ∧ (A = none → c = 0) ∧ (0 < n → ∃ ad : Addr, A = some ad ∧ ad.block < w.heap.size ∧ ∀ j u, xs[j]? = some u → w.cell? (ad.add j) = some u)
theorem add_block (a : Addr) (i : Nat) : (a.add i).block = a.block := by unfold Addr.add; split <;> rfl
theorem add_twice (a : Addr) (i j : Nat) : (a.add i).add j = a.add (i + j) := by
  rcases Nat.eq_zero_or_pos i with rfl | hi
  · rw [Nat.zero_add]; rfl
  · rcases Nat.eq_zero_or_pos j with rfl | hj
    · rfl
    · unfold Addr.add
      simp [Nat.add_assoc, show i ≠ 0 by omega, show j ≠ 0 by omega, show i + j ≠ 0 by omega]
theorem SlV.below {w w' : World} {k n : Nat} {v : Value} {xs : List Value} (h : SlV w k v n xs) (hb : Below w.heap.size w w') : SlV w' k v n xs := by
  obtain ⟨h1, A, c, rfl, h2, h3, h0, h4⟩ := h
  refine ⟨h1, A, c, rfl, h2, h3, h0, fun hn => ?_⟩
  obtain ⟨ad, rfl, h5, h6⟩ := h4 hn
  exact ⟨ad, rfl, Nat.lt_of_lt_of_le h5 hb.size, fun j u hj => (hb.cell (p := ad.add j) (by rw [add_block]; exact h5)).trans (h6 j u hj)⟩
theorem SlV.alloc {w : World} {k n : Nat} {v : Value} {xs : List Value} (h : SlV w k v n xs) (o : Obj) : SlV (w.alloc o) k v n xs := h.below ((Below.refl _ _).alloc (Nat.le_refl _) _)
theorem SlV.drew {w : World} {k n : Nat} {v : Value} {xs : List Value} (h : SlV w k v n xs) : SlV w.drew k v n xs := h.below (Below.refl _ _).drew
/-- A datum's four cells. -/
def cellsD (d : Dat) : List Value := [.int .u8 d.k, .bool d.b, .int .i64 d.n, .string d.s]
theorem cells_get : ∀ (l : List Dat) (i : Nat) (h : i < l.length) (j : Nat), j < 4 → (l.flatMap cellsD)[i * 4 + j]? = (cellsD l[i])[j]?
  | [], i, h, _, _ => absurd h (by simp)
  | d :: l, 0, _, j, hj => by
    rw [List.flatMap_cons, List.getElem?_append_left (by show _ < 4; omega)]
    simp
  | d :: l, i + 1, h, j, hj => by
    rw [List.flatMap_cons, List.getElem?_append_right (by show 4 ≤ _; omega)]
    rw [show (i + 1) * 4 + j - (cellsD d).length = i * 4 + j by show _ - 4 = _; omega]
    rw [cells_get l i (by simpa using h) j hj]
    simp
theorem cells_len : ∀ l : List Dat, (l.flatMap cellsD).length = l.length * 4
  | [] => rfl
  | d :: l => by
    rw [List.flatMap_cons, List.length_append, cells_len l, List.length_cons, show (cellsD d).length = 4 from rfl]
    omega
/-- The slice value v is a row: it holds the data l. -/
def RowV (w : World) (v : Value) (l : List Dat) : Prop := SlV w 4 v l.length (l.flatMap cellsD)
theorem RowV.below {w w' : World} {v : Value} {l : List Dat} (h : RowV w v l) (hb : Below w.heap.size w w') : RowV w' v l := SlV.below h hb
theorem RowV.form {w : World} {v : Value} {l : List Dat} (h : RowV w v l) : ∃ A c, v = .slice A l.length c ∧ l.length ≤ 9223372036854775807 := by
  obtain ⟨_, A, c, rfl, h2, h3, _⟩ := h
  exact ⟨A, c, rfl, by omega⟩
theorem add_more (a : Addr) (i j : Nat) (hj : 0 < j) : a.add (i + j) = ⟨(a.add i).block, (a.add i).off + j, none⟩ := by
  rw [← add_twice]
  obtain ⟨j, rfl⟩ : ∃ k, j = k + 1 := ⟨j - 1, by omega⟩
  rfl
/-- The four cells of an element, as a load reads them. -/
theorem RowV.at {w : World} {A : Option Addr} {c : Nat} {l : List Dat} (h : RowV w (.slice A l.length c) l) {i : Nat} (hi : i < l.length) :
    ∃ ad : Addr, A = some ad ∧ (ad.add (i * 4)).block < w.heap.size ∧ w.cell? (ad.add (i * 4)) = some (.int .u8 l[i].k) ∧ w.cell? ⟨(ad.add (i * 4)).block, (ad.add (i * 4)).off + 1, none⟩ = some (.bool l[i].b) ∧
      w.cell? ⟨(ad.add (i * 4)).block, (ad.add (i * 4)).off + 2, none⟩ = some (.int .i64 l[i].n) ∧ w.cell? ⟨(ad.add (i * 4)).block, (ad.add (i * 4)).off + 3, none⟩ = some (.string l[i].s) := by
  obtain ⟨_, A', c', e, _, _, _, h4⟩ := h
  obtain ⟨rfl, _, rfl⟩ := Value.slice.inj e
  obtain ⟨ad, rfl, h5, h6⟩ := h4 (by omega)
  refine ⟨ad, rfl, by rw [add_block]; exact h5, ?_, ?_, ?_, ?_⟩
  · exact h6 (i * 4) _ ((cells_get l i hi 0 (by omega)).trans rfl)
  · rw [← add_more ad (i * 4) 1 (by omega)]; exact h6 (i * 4 + 1) _ ((cells_get l i hi 1 (by omega)).trans rfl)
  · rw [← add_more ad (i * 4) 2 (by omega)]; exact h6 (i * 4 + 2) _ ((cells_get l i hi 2 (by omega)).trans rfl)
  · rw [← add_more ad (i * 4) 3 (by omega)]; exact h6 (i * 4 + 3) _ ((cells_get l i hi 3 (by omega)).trans rfl)
theorem RowV.at_ {w : World} {A : Option Addr} {c : Nat} {l : List Dat} (h : RowV w (.slice A l.length c) l) {i : Nat} {x : Dat} (hx : l[i]? = some x) :
    ∃ ad : Addr, A = some ad ∧ (ad.add (i * 4)).block < w.heap.size ∧ w.cell? (ad.add (i * 4)) = some (.int .u8 x.k) ∧ w.cell? ⟨(ad.add (i * 4)).block, (ad.add (i * 4)).off + 1, none⟩ = some (.bool x.b) ∧
      w.cell? ⟨(ad.add (i * 4)).block, (ad.add (i * 4)).off + 2, none⟩ = some (.int .i64 x.n) ∧ w.cell? ⟨(ad.add (i * 4)).block, (ad.add (i * 4)).off + 3, none⟩ = some (.string x.s) := by
  obtain ⟨hi, rfl⟩ := List.getElem?_eq_some_iff.1 hx
  exact h.at hi
/-- Each datum has a kind of a byte, a number of 64 bits, a text of at most 2^47 bytes. -/
def WideR (l : List Dat) : Prop := ∀ d ∈ l, Wide d ∧ d.s.size ≤ 140737488355328
/-- May a row be? 0: yes. -/
def chkL : List Dat → Int
  | [] => 0
  | d :: l => if chk d = 0 then chkL l else chk d
def chkR (l : List Dat) : Int := if l.length > 32 then 20 else chkL l
end Go.Proofs.YtpmfbmigdpmloaaGreatDoor
end
section
/-
  A slice that a call owns, carried from append to append, with what else is kept: every block that holds no row of its element type. Nothing is walked here. No condition but those written.
-/
set_option linter.unusedVariables false
set_option linter.unusedSimpArgs false
namespace Go.Proofs.YtpmfbmigdpmloaaGreatDoor
open Go.RowKit Go.Lib

/-- In w the slice v owns a row of n elements of k cells, xs, in a block from B on; below B nothing has turned since W0, and of what lay in W0 no block but rows of e. -/
def OwnK (e : TypeId) (k B : Nat) (v : Value) (n : Nat) (xs : List Value) (W0 w : World) : Prop :=
  w.ownsRow B e k v n xs ∧ Below B W0 w ∧ B ≤ w.heap.size ∧ Lib.OthersKept e none W0 w
theorem kind_of {e : TypeId} {k B : Nat} {v : Value} {n : Nat} {xs : List Value} {w : World} (h : w.ownsRow B e k v n xs) : ∀ g, v.ownBlock = some g → ∃ c fz, w.heap[g]? = some (.cells c e fz) := by
  intro g hg
  rcases h.2 with ⟨rfl, _⟩ | ⟨g', cap, cur, rfl, _, hgg, _⟩
  · simp [Value.ownBlock] at hg
  · simp [Value.ownBlock] at hg
    subst hg
    exact ⟨cur, _, hgg⟩
theorem own_lt {e : TypeId} {k B : Nat} {v : Value} {n : Nat} {xs : List Value} {w : World} (h : w.ownsRow B e k v n xs) : ∀ g, v.ownBlock = some g → B ≤ g ∧ g < w.heap.size := by
  intro g hg
  rcases h.2 with ⟨rfl, _⟩ | ⟨g', cap, cur, rfl, hb, hgg, _⟩
  · simp [Value.ownBlock] at hg
  · simp [Value.ownBlock] at hg
    subst hg
    exact ⟨hb, (Array.getElem?_eq_some_iff.1 hgg).1⟩
theorem OwnK.start {e : TypeId} {k B : Nat} {v : Value} {n : Nat} {xs : List Value} {w : World} (h : w.ownsRow B e k v n xs) (hB : B ≤ w.heap.size) : OwnK e k B v n xs w w := ⟨h, Below.refl _ _, hB, Lib.OthersKept.refl _ _ _⟩
theorem OwnK.trans {e : TypeId} {k B : Nat} {v v' : Value} {n n' : Nat} {xs xs' : List Value} {W0 w1 w2 : World} (h : OwnK e k B v n xs W0 w1) (h' : OwnK e k B v' n' xs' w1 w2) : OwnK e k B v' n' xs' W0 w2 :=
  ⟨h'.1, h.2.1.trans h'.2.1, h'.2.2.1, h.2.2.2.trans h'.2.2.2⟩
theorem OwnK.alloc {e : TypeId} {k B : Nat} {v : Value} {n : Nat} {xs : List Value} {W0 w : World} (h : OwnK e k B v n xs W0 w) (o : Obj) : OwnK e k B v n xs W0 (w.alloc o) :=
  ⟨h.1.alloc o, h.2.1.alloc h.2.2.1 o, Nat.le_trans h.2.2.1 ((Below.refl 0 w).alloc (Nat.zero_le _) o).size, h.2.2.2.alloc o⟩
theorem OwnK.drew {e : TypeId} {k B : Nat} {v : Value} {n : Nat} {xs : List Value} {W0 w : World} (h : OwnK e k B v n xs W0 w) : OwnK e k B v n xs W0 w.drew := ⟨h.1, h.2.1.drew, h.2.2.1, h.2.2.2.drew⟩
theorem OwnK.grown {e : TypeId} {k B : Nat} {v v' : Value} {n n' : Nat} {xs xs' : List Value} {W0 w w' : World} (h : OwnK e k B v n xs W0 w) (ho : w'.ownsRow B e k v' n' xs') (hg : w.grownBy w' v.ownBlock) : OwnK e k B v' n' xs' W0 w' :=
  ⟨ho, h.2.1.grown hg h.2.2.1 (fun j hj => (own_lt h.1 j hj).1), Nat.le_trans h.2.2.1 hg.size, h.2.2.2.grown hg (kind_of h.1)⟩
/-- Behind a call that keeps all that was there. -/
theorem OwnK.below {e : TypeId} {k B : Nat} {v : Value} {n : Nat} {xs : List Value} {W0 w w' : World} (h : OwnK e k B v n xs W0 w) (hb : Below w.heap.size w w') : OwnK e k B v n xs W0 w' := by
  refine ⟨?_, h.2.1.trans (hb.mono h.2.2.1), Nat.le_trans h.2.2.1 hb.size, ?_⟩
  · refine ⟨h.1.1, ?_⟩
    rcases h.1.2 with h1 | ⟨g, cap, cur, rfl, h1, h2, h3⟩
    · exact .inl h1
    · exact .inr ⟨g, cap, cur, rfl, h1, (hb.block g (Array.getElem?_eq_some_iff.1 h2).1).trans h2, h3⟩
  · intro j o hj hn ho
    have h1 := h.2.2.2 j o hj hn ho
    exact (hb.block j (Array.getElem?_eq_some_iff.1 h1).1).trans h1
/-- v[:0] -/
theorem OwnK.cut0 {e : TypeId} {k B : Nat} {A : Option Addr} {n c : Nat} {xs : List Value} {w : World} (h : w.ownsRow B e k (.slice A n c) n xs) : w.ownsRow B e k (.slice A 0 c) 0 [] := by
  refine ⟨by simp, ?_⟩
  rcases h.2 with ⟨h1, h2⟩ | ⟨g, cap, cur, h1, h2, h3, h4, h5, h6, h7⟩
  · obtain ⟨rfl, rfl, rfl⟩ := Value.slice.inj h1
    exact .inl ⟨rfl, rfl⟩
  · obtain ⟨rfl, _, rfl⟩ := Value.slice.inj h1
    exact .inr ⟨g, c, cur, rfl, h2, h3, Nat.zero_le _, h5, h6, by simp⟩
section
variable {P : Program}
/-- 'v = append(v, ..)', where what is appended lies in the block that the statement has just laid. -/
theorem wpList_appendK {ops : Array Oper} {rest : List Oper} {o : Oper} {a : Act} {Q : Exit → Act → World → Prop} (hgd : o.guard = none) (s x : Operand) (t : TypeId)
    (ho : o.op = .call { callee := .builtin .append, args := #[s, x], argTypes := #[t, t] })
    (B : Nat) (e : TypeId) (i : TypeInfo) (z : Value) (k bytes : Nat) (ht : P.underlying t = some (.slice e)) (hi : P.info? e = some i) (hz : i.zero = some z) (hsize : i.size = k) (hby : i.bytes = bytes) (hzs : z.cells.size = k) (hk : 0 < k)
    (v : Value) (n : Nat) (xs : List Value) (hs : a.eval s = v) (W0 w0 : World) (m : Nat) (news : List Value) (hb : OwnK e k B v n xs W0 w0)
    (hx : a.eval x = .slice (some ⟨w0.heap.size, 0, none⟩) m m) (hl : news.length = m * k) (h1 : ∀ u ∈ news, u.oneCell' = true) (hlen : n + m ≤ 9223372036854775807) (hbytes : (n + m) * bytes ≤ 140737488355328)
    (h : ∀ v' w', OwnK e k B v' (n + m) (xs ++ news) W0 w' → wpList P ops Q rest (a.put o.dst v') w') : wpList P ops Q (o :: rest) a (w0.alloc (.cells news.toArray e)) := by
  have hb' := hb.alloc (.cells news.toArray e)
  refine wpList_append_own _ hgd s x t ho B e i z k bytes ht hi hz hsize hby hzs hk v n xs hs hb'.1 ⟨w0.heap.size, 0, none⟩ m m news hx hl ?_ h1 (by unfold maxLen; omega) hbytes hb'.2.2.1 ?_
  · intro j u hj
    have := cell_new w0 news.toArray e j
    rw [show (⟨w0.heap.size, 0, none⟩ : Addr).add j = ⟨w0.heap.size, j, none⟩ by unfold Addr.add; split <;> simp_all]
    rw [this]
    simpa using hj
  · intro v' w' ho' hg _
    exact h v' w' (hb'.grown ho' hg)
end
end Go.Proofs.YtpmfbmigdpmloaaGreatDoor
end
