/-
  Texts that belong together: RefUnq. What each one says stands ahead of it.
-/
import Derived.Test.YtpmfbmigdpmloaaGreatDoorPk05
import Derived.Test.YtpmfbmigdpmloaaGreatDoorPk02
import Derived.Deep.RegionHeld3
/-
  What the document's own hex and unquoted answer, at this program: of every text of at most 2^40 bytes some text; of what is written of a text, that text.
-/
set_option linter.unusedVariables false
set_option linter.unusedSimpArgs false
namespace Go.Proofs.YtpmfbmigdpmloaaGreatDoor
open Go.RowKit Go.Lib

/-- A small hexadecimal digit's number. -/
def hexZ (c : Nat) : Int := if 48 ≤ c ∧ c ≤ 57 then (c : Int) - 48 else if 97 ≤ c ∧ c ≤ 102 then (c : Int) - 87 else -1
theorem hexZ_fin : ∀ i : Fin 16, hexZ (hexD i.val).toNat = (i.val : Int) := by decide
theorem hexZ_hex {n : Nat} (h : n < 16) : hexZ (hexD n).toNat = (n : Int) := hexZ_fin ⟨n, h⟩
theorem hexZ_range (c : Nat) : hexZ c = -1 ∨ (0 ≤ hexZ c ∧ hexZ c ≤ 15) := by
  unfold hexZ
  repeat' split
  all_goals omega
set_option maxHeartbeats 1000000 in
theorem refHex_any (c : Nat) (h : c < 256) (w : World) : Calls Tryz.prog 104 #[.int .u8 (c : Int)] w fun e w' => e = .returned (.int .i64 (hexZ c)) ∧ w = w' := by
  by_cases h1 : 48 ≤ c
  · by_cases h2 : c ≤ 57
    · rw [show hexZ c = (c : Int) - 48 by unfold hexZ; rw [if_pos ⟨h1, h2⟩]]
      go_enter Tryz.func104, Tryz.ntmps104
      go_wp2
      go_ret
      exact ⟨rfl, rfl⟩
    · by_cases h3 : 97 ≤ c
      · by_cases h4 : c ≤ 102
        · rw [show hexZ c = (c : Int) - 97 + 10 by unfold hexZ; rw [if_neg (by omega), if_pos ⟨h3, h4⟩]; omega]
          go_enter Tryz.func104, Tryz.ntmps104
          go_wp2
          go_ret
          exact ⟨rfl, rfl⟩
        · rw [show hexZ c = -1 by unfold hexZ; rw [if_neg (by omega), if_neg (by omega)]]
          go_enter Tryz.func104, Tryz.ntmps104
          go_wp2
          go_ret
          exact ⟨rfl, rfl⟩
      · rw [show hexZ c = -1 by unfold hexZ; rw [if_neg (by omega), if_neg (by omega)]]
        go_enter Tryz.func104, Tryz.ntmps104
        go_wp2
        go_ret
        exact ⟨rfl, rfl⟩
  · rw [show hexZ c = -1 by unfold hexZ; rw [if_neg (by omega), if_neg (by omega)]]
    go_enter Tryz.func104, Tryz.ntmps104
    go_wp2
    go_ret
    exact ⟨rfl, rfl⟩
theorem flat_cons {l X : List UInt8} {c : UInt8} (h : l.flatMap escB = c :: X) : ∃ e l', l = e :: l' ∧ escB e ++ l'.flatMap escB = c :: X := by
  cases l with
  | nil => cases h
  | cons e l => exact ⟨e, l, rfl, by rw [← h, List.flatMap_cons]⟩
theorem esc_forms (e : UInt8) : (e = 39 ∧ escB e = [39, 39]) ∨ (e = 92 ∧ escB e = [92, 92]) ∨ (e = 10 ∧ escB e = [92, 110]) ∨ (e = 13 ∧ escB e = [92, 114]) ∨ (e = 9 ∧ escB e = [92, 116]) ∨ escB e = [92, 120, hexD (e.toNat / 16), hexD (e.toNat % 16)] ∨ (e ≠ 39 ∧ e ≠ 92 ∧ escB e = [e]) := by
  unfold escB
  by_cases h1 : e = 39
  · exact .inl ⟨h1, by rw [if_pos h1]⟩
  by_cases h2 : e = 92
  · exact .inr (.inl ⟨h2, by rw [if_neg h1, if_pos h2]⟩)
  by_cases h3 : e = 10
  · exact .inr (.inr (.inl ⟨h3, by rw [if_neg h1, if_neg h2, if_pos h3]⟩))
  by_cases h4 : e = 13
  · exact .inr (.inr (.inr (.inl ⟨h4, by rw [if_neg h1, if_neg h2, if_neg h3, if_pos h4]⟩)))
  by_cases h5 : e = 9
  · exact .inr (.inr (.inr (.inr (.inl ⟨h5, by rw [if_neg h1, if_neg h2, if_neg h3, if_neg h4, if_pos h5]⟩))))
  by_cases h6 : e < 32 ∨ e = 127
  · exact .inr (.inr (.inr (.inr (.inr (.inl (by rw [if_neg h1, if_neg h2, if_neg h3, if_neg h4, if_neg h5, if_pos h6]))))))
  · exact .inr (.inr (.inr (.inr (.inr (.inr ⟨h1, h2, by rw [if_neg h1, if_neg h2, if_neg h3, if_neg h4, if_neg h5, if_neg h6]⟩)))))
theorem flat_plain {l X : List UInt8} {c : UInt8} (h : l.flatMap escB = c :: X) (h1 : c ≠ 39) (h2 : c ≠ 92) : ∃ l', l = c :: l' ∧ X = l'.flatMap escB := by
  obtain ⟨e, l', rfl, g⟩ := flat_cons h
  rcases esc_forms e with ⟨_, f⟩ | ⟨_, f⟩ | ⟨_, f⟩ | ⟨_, f⟩ | ⟨_, f⟩ | f | ⟨_, _, f⟩ <;> rw [f] at g
  · exact absurd (List.cons.inj g).1.symm h1
  · exact absurd (List.cons.inj g).1.symm h2
  · exact absurd (List.cons.inj g).1.symm h2
  · exact absurd (List.cons.inj g).1.symm h2
  · exact absurd (List.cons.inj g).1.symm h2
  · exact absurd (List.cons.inj g).1.symm h2
  · exact ⟨l', by rw [(List.cons.inj g).1], (List.cons.inj g).2.symm⟩
theorem flat_39 {l X : List UInt8} (h : l.flatMap escB = 39 :: X) : ∃ l', l = 39 :: l' ∧ X = 39 :: l'.flatMap escB := by
  obtain ⟨e, l', rfl, g⟩ := flat_cons h
  rcases esc_forms e with ⟨q, f⟩ | ⟨_, f⟩ | ⟨_, f⟩ | ⟨_, f⟩ | ⟨_, f⟩ | f | ⟨q, _, f⟩ <;> rw [f] at g
  · exact ⟨l', by rw [q], (List.cons.inj g).2.symm⟩
  · exact absurd (List.cons.inj g).1 (by decide)
  · exact absurd (List.cons.inj g).1 (by decide)
  · exact absurd (List.cons.inj g).1 (by decide)
  · exact absurd (List.cons.inj g).1 (by decide)
  · exact absurd (List.cons.inj g).1 (by decide)
  · exact absurd (List.cons.inj g).1 q
theorem flat_92 {l X : List UInt8} (h : l.flatMap escB = 92 :: X) : ∃ e l', l = e :: l' ∧ ((e = 92 ∧ X = 92 :: l'.flatMap escB) ∨ (e = 10 ∧ X = 110 :: l'.flatMap escB) ∨ (e = 13 ∧ X = 114 :: l'.flatMap escB) ∨ (e = 9 ∧ X = 116 :: l'.flatMap escB) ∨ X = 120 :: hexD (e.toNat / 16) :: hexD (e.toNat % 16) :: l'.flatMap escB) := by
  obtain ⟨e, l', rfl, g⟩ := flat_cons h
  refine ⟨e, l', rfl, ?_⟩
  rcases esc_forms e with ⟨q, f⟩ | ⟨q, f⟩ | ⟨q, f⟩ | ⟨q, f⟩ | ⟨q, f⟩ | f | ⟨_, q, f⟩ <;> rw [f] at g
  · exact absurd (List.cons.inj g).1 (by decide)
  · exact .inl ⟨q, (List.cons.inj g).2.symm⟩
  · exact .inr (.inl ⟨q, (List.cons.inj g).2.symm⟩)
  · exact .inr (.inr (.inl ⟨q, (List.cons.inj g).2.symm⟩))
  · exact .inr (.inr (.inr (.inl ⟨q, (List.cons.inj g).2.symm⟩)))
  · exact .inr (.inr (.inr (.inr (List.cons.inj g).2.symm)))
  · exact absurd (List.cons.inj g).1 q
/-- What unquoted answers. -/
def OutQ (s : ByteArray) (e : Ending) : Prop :=
  ∃ t ok, e = .returned (.tuple #[.string t, .bool ok]) ∧ t.size ≤ s.size ∧ ∀ l : List UInt8, s.data.toList = l.flatMap escB → ok = true ∧ t = ⟨l.toArray⟩
/-- What is known of a place, where the text is what is written of l. -/
def InvQ (s : ByteArray) (p : Nat) (acc : List UInt8) : Prop :=
  ∀ l : List UInt8, s.data.toList = l.flatMap escB → ∃ l2 : List UInt8, acc ++ l2 = l ∧ s.data.toList.drop p = l2.flatMap escB
/-- What the rounds hold. -/
def RelV (s : ByteArray) (w0 : World) (v i : Value) (wr : World) : Prop :=
  ∃ (p : Nat) (acc : List UInt8), i = .int .i64 (p : Int) ∧ p ≤ s.size ∧ Lib.OwnBuf w0.heap.size 5 v acc.length (Lib.byteCells acc) w0 wr ∧ acc.length ≤ p ∧ InvQ s p acc
/-- At a place where nothing is written. -/
theorem outQ_bad {s : ByteArray} {p : Nat} {acc : List UInt8} (hi : InvQ s p acc) (h : ∀ l2 : List UInt8, s.data.toList.drop p = l2.flatMap escB → False) : OutQ s (.returned (.tuple #[.string ⟨#[]⟩, .bool false])) :=
  ⟨⟨#[]⟩, false, rfl, Nat.zero_le _, fun l e => by obtain ⟨l2, _, h2⟩ := hi l e; exact (h l2 h2).elim⟩
theorem relV_step {s : ByteArray} {w0 w' : World} {v' : Value} {p k : Nat} {acc : List UInt8} {e : UInt8} {n : Nat} {xs : List Value} (hp : p + k ≤ s.size) (hk : 1 ≤ k) (hi : InvQ s p acc) (hal : acc.length ≤ p)
    (hst : ∀ l2 : List UInt8, s.data.toList.drop p = l2.flatMap escB → ∃ l', l2 = e :: l' ∧ s.data.toList.drop (p + k) = l'.flatMap escB)
    (hn : n = acc.length + 1) (hx : xs = Lib.byteCells acc ++ [.int .u8 (e.toNat : Int)]) (hb : Lib.OwnBuf w0.heap.size 5 v' n xs w0 w') (i : Value) (hi2 : i = .int .i64 ((p + k : Nat) : Int)) : RelV s w0 v' i w' := by
  refine ⟨p + k, acc ++ [e], hi2, hp, ?_, ?_, ?_⟩
  · rw [List.length_append, Lib.byteCells_append]
    rw [hn, hx] at hb
    exact hb
  · rw [List.length_append, List.length_singleton]; omega
  · intro l hl
    obtain ⟨l2, h1, h2⟩ := hi l hl
    obtain ⟨l', rfl, h3⟩ := hst l2 h2
    exact ⟨l', by rw [← h1]; simp, h3⟩
theorem drop2 (s : ByteArray) (p : Nat) (h : p + 1 < s.size) : s.data.toList.drop p = s.get! p :: s.get! (p + 1) :: s.data.toList.drop (p + 2) := by
  rw [toList_drop s p (by omega), toList_drop s (p + 1) h]
theorem ext2 (s : ByteArray) (p : Nat) (h : p + 1 < s.size) : s.extract p (p + 2) = ⟨#[s.get! p, s.get! (p + 1)]⟩ := by
  refine bytes_ext ?_
  have h2 := drop2 s p h
  have : (s.extract p (p + 2)).data.toList = (s.data.toList.drop p).take 2 := by
    simp [ByteArray.data_extract]
  rw [this, h2]
  rfl
theorem two_eq (a b c d : UInt8) : ((⟨#[a, b]⟩ : ByteArray).toList == [c, d]) = (decide (a = c) && decide (b = d)) := by
  rw [ByteArray.toList_eq]
  show ([a, b] == [c, d]) = _
  by_cases h1 : a = c <;> by_cases h2 : b = d <;> simp [h1, h2]
theorem tw_ne {s tw : ByteArray} {p : Nat} {a b : UInt8} (h : s.extract p (p + 2) = tw) (h2 : p + 1 < s.size) (hn : (s.get! p).toNat ≠ a.toNat ∨ (s.get! (p + 1)).toNat ≠ b.toNat) : (tw.toList == [a, b]) = false := by
  rw [← h, ext2 s p h2, two_eq]
  rcases hn with hn | hn
  · rw [decide_eq_false (p := s.get! p = a) (fun e => hn (by rw [e])), Bool.false_and]
  · rw [decide_eq_false (p := s.get! (p + 1) = b) (fun e => hn (by rw [e])), Bool.and_false]
theorem tw_eq {s tw : ByteArray} {p : Nat} {a b : UInt8} (h : s.extract p (p + 2) = tw) (h2 : p + 1 < s.size) (ha : (s.get! p).toNat = a.toNat) (hb : (s.get! (p + 1)).toNat = b.toNat) : (tw.toList == [a, b]) = true := by
  rw [← h, ext2 s p h2, two_eq, decide_eq_true (UInt8.toNat_inj.1 ha), decide_eq_true (UInt8.toNat_inj.1 hb)]
  rfl
theorem get_eq {s : ByteArray} {p : Nat} {a : UInt8} (h : (s.get! p).toNat = a.toNat) : s.get! p = a := UInt8.toNat_inj.1 h
theorem stepA {s : ByteArray} {p : Nat} (h : p < s.size) (h1 : (s.get! p).toNat ≠ 39) (h2 : (s.get! p).toNat ≠ 92) : ∀ l2 : List UInt8, s.data.toList.drop p = l2.flatMap escB → ∃ l', l2 = s.get! p :: l' ∧ s.data.toList.drop (p + 1) = l'.flatMap escB := by
  intro l2 e
  rw [toList_drop s p h] at e
  exact flat_plain e.symm (fun q => h1 (by rw [q]; rfl)) (fun q => h2 (by rw [q]; rfl))
theorem stepB {s : ByteArray} {p : Nat} (h : p + 1 < s.size) (h1 : (s.get! p).toNat = 39) : ∀ l2 : List UInt8, s.data.toList.drop p = l2.flatMap escB → (s.get! (p + 1)).toNat = 39 ∧ ∃ l', l2 = 39 :: l' ∧ s.data.toList.drop (p + 2) = l'.flatMap escB := by
  intro l2 e
  rw [drop2 s p h, get_eq (a := 39) h1] at e
  obtain ⟨l', r1, r2⟩ := flat_39 e.symm
  exact ⟨by rw [(List.cons.inj r2).1]; rfl, l', r1, (List.cons.inj r2).2⟩
theorem stepB0 {s : ByteArray} {p : Nat} (h : p < s.size) (hl : ¬ p + 1 < s.size) (h1 : (s.get! p).toNat = 39) : ∀ l2 : List UInt8, s.data.toList.drop p = l2.flatMap escB → False := by
  intro l2 e
  rw [toList_drop s p h, get_eq (a := 39) h1, List.drop_eq_nil_of_le (by rw [size_list]; omega)] at e
  obtain ⟨l', r1, r2⟩ := flat_39 e.symm
  cases r2
/-- What is written at a backslash. -/
def Back (s : ByteArray) (p : Nat) (l2 : List UInt8) : Prop :=
  ∃ e l', l2 = e :: l' ∧ ((e = 92 ∧ (s.get! (p + 1)).toNat = 92 ∧ s.data.toList.drop (p + 2) = l'.flatMap escB) ∨ (e = 10 ∧ (s.get! (p + 1)).toNat = 110 ∧ s.data.toList.drop (p + 2) = l'.flatMap escB) ∨ (e = 13 ∧ (s.get! (p + 1)).toNat = 114 ∧ s.data.toList.drop (p + 2) = l'.flatMap escB) ∨ (e = 9 ∧ (s.get! (p + 1)).toNat = 116 ∧ s.data.toList.drop (p + 2) = l'.flatMap escB) ∨
    ((s.get! (p + 1)).toNat = 120 ∧ p + 3 < s.size ∧ hexZ (s.get! (p + 2)).toNat = ((e.toNat / 16 : Nat) : Int) ∧ hexZ (s.get! (p + 3)).toNat = ((e.toNat % 16 : Nat) : Int) ∧ s.data.toList.drop (p + 4) = l'.flatMap escB))
theorem stepC {s : ByteArray} {p : Nat} (h : p + 1 < s.size) (h1 : (s.get! p).toNat = 92) : ∀ l2 : List UInt8, s.data.toList.drop p = l2.flatMap escB → Back s p l2 := by
  intro l2 e
  rw [drop2 s p h, get_eq (a := 92) h1] at e
  obtain ⟨e, l', r1, r2⟩ := flat_92 e.symm
  refine ⟨e, l', r1, ?_⟩
  rcases r2 with ⟨q, r2⟩ | ⟨q, r2⟩ | ⟨q, r2⟩ | ⟨q, r2⟩ | r2
  · exact .inl ⟨q, by rw [(List.cons.inj r2).1]; rfl, (List.cons.inj r2).2⟩
  · exact .inr (.inl ⟨q, by rw [(List.cons.inj r2).1]; rfl, (List.cons.inj r2).2⟩)
  · exact .inr (.inr (.inl ⟨q, by rw [(List.cons.inj r2).1]; rfl, (List.cons.inj r2).2⟩))
  · exact .inr (.inr (.inr (.inl ⟨q, by rw [(List.cons.inj r2).1]; rfl, (List.cons.inj r2).2⟩)))
  · have h3 := (List.cons.inj r2).2
    have hlen := congrArg List.length h3
    rw [List.length_drop, size_list] at hlen
    simp only [List.length_cons] at hlen
    have h4 : p + 3 < s.size := by omega
    rw [drop2 s (p + 2) h4] at h3
    have he := e.toNat_lt
    refine .inr (.inr (.inr (.inr ⟨by rw [(List.cons.inj r2).1]; rfl, h4, ?_, ?_, ?_⟩)))
    · rw [(List.cons.inj h3).1]; exact hexZ_hex (by omega)
    · rw [show p + 3 = p + 2 + 1 from rfl, (List.cons.inj (List.cons.inj h3).2).1]; exact hexZ_hex (by omega)
    · exact (List.cons.inj (List.cons.inj h3).2).2
theorem stepC0 {s : ByteArray} {p : Nat} (h : p < s.size) (hl : ¬ p + 1 < s.size) (h1 : (s.get! p).toNat = 92) : ∀ l2 : List UInt8, s.data.toList.drop p = l2.flatMap escB → False := by
  intro l2 e
  rw [toList_drop s p h, get_eq (a := 92) h1, List.drop_eq_nil_of_le (by rw [size_list]; omega)] at e
  obtain ⟨e, l', r1, r2⟩ := flat_92 e.symm
  rcases r2 with ⟨q, r2⟩ | ⟨q, r2⟩ | ⟨q, r2⟩ | ⟨q, r2⟩ | r2 <;> cases r2
theorem back_92 {s : ByteArray} {p : Nat} {l2 : List UInt8} (h : Back s p l2) (hd : (s.get! (p + 1)).toNat = 92) : ∃ l', l2 = 92 :: l' ∧ s.data.toList.drop (p + 2) = l'.flatMap escB := by
  obtain ⟨e, l', rfl, ⟨rfl, _, h⟩ | ⟨_, q, _⟩ | ⟨_, q, _⟩ | ⟨_, q, _⟩ | ⟨q, _⟩⟩ := h
  · exact ⟨l', rfl, h⟩
  all_goals omega
theorem back_110 {s : ByteArray} {p : Nat} {l2 : List UInt8} (h : Back s p l2) (hd : (s.get! (p + 1)).toNat = 110) : ∃ l', l2 = 10 :: l' ∧ s.data.toList.drop (p + 2) = l'.flatMap escB := by
  obtain ⟨e, l', rfl, ⟨_, q, _⟩ | ⟨rfl, _, h⟩ | ⟨_, q, _⟩ | ⟨_, q, _⟩ | ⟨q, _⟩⟩ := h
  · omega
  · exact ⟨l', rfl, h⟩
  all_goals omega
theorem back_114 {s : ByteArray} {p : Nat} {l2 : List UInt8} (h : Back s p l2) (hd : (s.get! (p + 1)).toNat = 114) : ∃ l', l2 = 13 :: l' ∧ s.data.toList.drop (p + 2) = l'.flatMap escB := by
  obtain ⟨e, l', rfl, ⟨_, q, _⟩ | ⟨_, q, _⟩ | ⟨rfl, _, h⟩ | ⟨_, q, _⟩ | ⟨q, _⟩⟩ := h
  · omega
  · omega
  · exact ⟨l', rfl, h⟩
  all_goals omega
theorem back_116 {s : ByteArray} {p : Nat} {l2 : List UInt8} (h : Back s p l2) (hd : (s.get! (p + 1)).toNat = 116) : ∃ l', l2 = 9 :: l' ∧ s.data.toList.drop (p + 2) = l'.flatMap escB := by
  obtain ⟨e, l', rfl, ⟨_, q, _⟩ | ⟨_, q, _⟩ | ⟨_, q, _⟩ | ⟨rfl, _, h⟩ | ⟨q, _⟩⟩ := h
  · omega
  · omega
  · omega
  · exact ⟨l', rfl, h⟩
  · omega
theorem back_120 {s : ByteArray} {p : Nat} {l2 : List UInt8} (h : Back s p l2) (hd : (s.get! (p + 1)).toNat = 120) : ∃ e l', l2 = e :: l' ∧ p + 3 < s.size ∧ hexZ (s.get! (p + 2)).toNat = ((e.toNat / 16 : Nat) : Int) ∧ hexZ (s.get! (p + 3)).toNat = ((e.toNat % 16 : Nat) : Int) ∧ s.data.toList.drop (p + 4) = l'.flatMap escB := by
  obtain ⟨e, l', rfl, ⟨_, q, _⟩ | ⟨_, q, _⟩ | ⟨_, q, _⟩ | ⟨_, q, _⟩ | ⟨_, h⟩⟩ := h
  · omega
  · omega
  · omega
  · omega
  · exact ⟨e, l', rfl, h⟩
theorem back_no {s : ByteArray} {p : Nat} {l2 : List UInt8} (h : Back s p l2) (d1 : (s.get! (p + 1)).toNat ≠ 92) (d2 : (s.get! (p + 1)).toNat ≠ 110) (d3 : (s.get! (p + 1)).toNat ≠ 114) (d4 : (s.get! (p + 1)).toNat ≠ 116) (d5 : (s.get! (p + 1)).toNat ≠ 120) : False := by
  obtain ⟨e, l', rfl, ⟨_, q, _⟩ | ⟨_, q, _⟩ | ⟨_, q, _⟩ | ⟨_, q, _⟩ | ⟨q, _⟩⟩ := h
  all_goals omega
theorem conv_any {B n : Nat} {v : Value} {l : List UInt8} {w : World} (h : w.ownsRowF B 5 1 v n (Lib.byteCells l)) (hn : n = l.length) :
    ∃ g cap, v = .slice g n cap ∧ (convert 31 9 (.slice g n cap)).run Tryz.prog w = .ok (.string ⟨l.toArray⟩) w := by
  by_cases h1 : 1 ≤ n
  · obtain ⟨g, cap, h2, h3⟩ := conv_own h hn h1
    exact ⟨_, cap, h2, h3⟩
  · have hl : l = [] := List.eq_nil_of_length_eq_zero (by omega)
    obtain rfl : n = 0 := by omega
    subst hl
    obtain ⟨_, hc⟩ := h
    rcases hc with ⟨rfl, _⟩ | ⟨g, cap, cur, fz, rfl, _⟩
    · refine ⟨none, 0, rfl, ?_⟩
      rw [run_convert_bytes_string w 31 9 5 none 0 0 Tryz.underlying31 Tryz.underlying5 Tryz.underlying9]
      simp [Conv.bytesToString]
      rfl
    · refine ⟨some ⟨g, 0, none⟩, cap, rfl, ?_⟩
      rw [run_convert_bytes_string w 31 9 5 _ 0 cap Tryz.underlying31 Tryz.underlying5 Tryz.underlying9]
      simp [Conv.bytesToString, loadCells]
      rfl
set_option maxHeartbeats 8000000 in
set_option maxRecDepth 1000000 in
theorem refUnq_any (s : ByteArray) (w : World) (hs : s.size ≤ 1099511627776) :
    Calls Tryz.prog 74 #[.string s] w fun e w' => OutQ s e ∧ Below w.heap.size w w' := by
  obtain ⟨i0, hi, hz0, hz1, hz2⟩ := info_parts own_byte
  go_enter Tryz.func74, Tryz.ntmps74
  go_wp2_with fail
  go_loopw [4, 5] (fun v i wr => RelV s w v i wr) (fun _ i _ => s.size - (Go.RowKit.intOf i).toNat)
  case atStart => exact ⟨0, [], rfl, Nat.zero_le _, ⟨⟨by simp [Lib.byteCells], .inl ⟨rfl, rfl⟩⟩, Below.refl _ _, Nat.le_refl _⟩, by simp, fun l h => ⟨l, rfl, h⟩⟩
  case round =>
    unfold RelV at hrel
    obtain ⟨p, acc, rfl, hp, hbuf, hal, hiv⟩ := hrel
    have hbH := Lib.hid hbuf; have halH := Lib.hid hal; have hivH := Lib.hid hiv
    clear hbuf hal hiv
    by_cases hlt : p < s.size
    · have hltH := Lib.hid hlt
      have hx0 := fun w' => idx_run s p (p : Int) rfl hlt w'
      obtain ⟨c, hc⟩ : ∃ c, bt s p = c := ⟨_, rfl⟩
      have hc256 : c < 256 := by rw [← hc]; exact bt_lt s p
      rw [hc] at hx0
      have hcH := Lib.hid (show (s.get! p).toNat = c from hc)
      clear hc
      by_cases h2 : p + 1 < s.size
      · have h2H := Lib.hid h2
        obtain ⟨tw, htw⟩ : ∃ tw, s.extract p (p + 2) = tw := ⟨_, rfl⟩
        have htwH := Lib.hid htw
        obtain ⟨d, hd⟩ : ∃ d, (s.get! (p + 1)).toNat = d := ⟨_, rfl⟩
        have hdH := Lib.hid hd
        clear hd
        by_cases c0 : c = 39
        · subst c0
          by_cases e0 : d = 39
          · subst e0
            have q0 : (tw.toList == [39, 39]) = true := tw_eq htwH.out h2H.out hcH.out hdH.out
            have q1 : (tw.toList == [92, 92]) = false := tw_ne htwH.out h2H.out (by first | (left; rw [hcH.out]; first | assumption | decide) | (right; rw [hdH.out]; first | assumption | decide))
            have q2 : (tw.toList == [92, 110]) = false := tw_ne htwH.out h2H.out (by first | (left; rw [hcH.out]; first | assumption | decide) | (right; rw [hdH.out]; first | assumption | decide))
            have q3 : (tw.toList == [92, 114]) = false := tw_ne htwH.out h2H.out (by first | (left; rw [hcH.out]; first | assumption | decide) | (right; rw [hdH.out]; first | assumption | decide))
            have q4 : (tw.toList == [92, 116]) = false := tw_ne htwH.out h2H.out (by first | (left; rw [hcH.out]; first | assumption | decide) | (right; rw [hdH.out]; first | assumption | decide))
            have q5 : (tw.toList == [92, 120]) = false := tw_ne htwH.out h2H.out (by first | (left; rw [hcH.out]; first | assumption | decide) | (right; rw [hdH.out]; first | assumption | decide))
            go_wp2_with (at_builtin; refine Lib.wpList_append_byte rfl _ _ 31 rfl w.heap.size 5 i0 Tryz.underlying31 hi hz0 hz1 hz2 _ _ _ (by rfl) w _ _ hbH.out (by rfl) (by have := halH.out; omega) ?_; intro v' w' hb')
            have hbN := Lib.hid hb'
            clear hb'
            go_roundw
            case rel => exact relV_step (p := p) (k := 2) (e := 39) (by have := hltH.out; omega) (by omega) hivH.out halH.out (fun l2 h => (stepB h2H.out hcH.out l2 h).2) rfl (rfl) hbN.out _ (by go_num)
            case measure => simp [Go.RowKit.intOf]; omega
          have q0 : (tw.toList == [39, 39]) = false := tw_ne htwH.out h2H.out (by first | (left; rw [hcH.out]; first | assumption | decide) | (right; rw [hdH.out]; first | assumption | decide))
          have q1 : (tw.toList == [92, 92]) = false := tw_ne htwH.out h2H.out (by first | (left; rw [hcH.out]; first | assumption | decide) | (right; rw [hdH.out]; first | assumption | decide))
          have q2 : (tw.toList == [92, 110]) = false := tw_ne htwH.out h2H.out (by first | (left; rw [hcH.out]; first | assumption | decide) | (right; rw [hdH.out]; first | assumption | decide))
          have q3 : (tw.toList == [92, 114]) = false := tw_ne htwH.out h2H.out (by first | (left; rw [hcH.out]; first | assumption | decide) | (right; rw [hdH.out]; first | assumption | decide))
          have q4 : (tw.toList == [92, 116]) = false := tw_ne htwH.out h2H.out (by first | (left; rw [hcH.out]; first | assumption | decide) | (right; rw [hdH.out]; first | assumption | decide))
          have q5 : (tw.toList == [92, 120]) = false := tw_ne htwH.out h2H.out (by first | (left; rw [hcH.out]; first | assumption | decide) | (right; rw [hdH.out]; first | assumption | decide))
          have hoH := Lib.hid (outQ_bad hivH.out (fun l2 h => e0 (hdH.out.symm.trans (stepB h2H.out hcH.out l2 h).1)))
          go_wp2_with fail
          go_ret2
          exact ⟨hoH.out, hbH.out.2.1⟩
        by_cases c1 : c = 92
        · subst c1
          by_cases e92 : d = 92
          · subst e92
            have q0 : (tw.toList == [39, 39]) = false := tw_ne htwH.out h2H.out (by first | (left; rw [hcH.out]; first | assumption | decide) | (right; rw [hdH.out]; first | assumption | decide))
            have q1 : (tw.toList == [92, 92]) = true := tw_eq htwH.out h2H.out hcH.out hdH.out
            have q2 : (tw.toList == [92, 110]) = false := tw_ne htwH.out h2H.out (by first | (left; rw [hcH.out]; first | assumption | decide) | (right; rw [hdH.out]; first | assumption | decide))
            have q3 : (tw.toList == [92, 114]) = false := tw_ne htwH.out h2H.out (by first | (left; rw [hcH.out]; first | assumption | decide) | (right; rw [hdH.out]; first | assumption | decide))
            have q4 : (tw.toList == [92, 116]) = false := tw_ne htwH.out h2H.out (by first | (left; rw [hcH.out]; first | assumption | decide) | (right; rw [hdH.out]; first | assumption | decide))
            have q5 : (tw.toList == [92, 120]) = false := tw_ne htwH.out h2H.out (by first | (left; rw [hcH.out]; first | assumption | decide) | (right; rw [hdH.out]; first | assumption | decide))
            go_wp2_with (at_builtin; refine Lib.wpList_append_byte rfl _ _ 31 rfl w.heap.size 5 i0 Tryz.underlying31 hi hz0 hz1 hz2 _ _ _ (by rfl) w _ _ hbH.out (by rfl) (by have := halH.out; omega) ?_; intro v' w' hb')
            have hbN := Lib.hid hb'
            clear hb'
            go_roundw
            case rel => exact relV_step (p := p) (k := 2) (e := 92) (by have := hltH.out; omega) (by omega) hivH.out halH.out (fun l2 h => back_92 (stepC h2H.out hcH.out l2 h) hdH.out) rfl (rfl) hbN.out _ (by go_num)
            case measure => simp [Go.RowKit.intOf]; omega
          by_cases e110 : d = 110
          · subst e110
            have q0 : (tw.toList == [39, 39]) = false := tw_ne htwH.out h2H.out (by first | (left; rw [hcH.out]; first | assumption | decide) | (right; rw [hdH.out]; first | assumption | decide))
            have q1 : (tw.toList == [92, 92]) = false := tw_ne htwH.out h2H.out (by first | (left; rw [hcH.out]; first | assumption | decide) | (right; rw [hdH.out]; first | assumption | decide))
            have q2 : (tw.toList == [92, 110]) = true := tw_eq htwH.out h2H.out hcH.out hdH.out
            have q3 : (tw.toList == [92, 114]) = false := tw_ne htwH.out h2H.out (by first | (left; rw [hcH.out]; first | assumption | decide) | (right; rw [hdH.out]; first | assumption | decide))
            have q4 : (tw.toList == [92, 116]) = false := tw_ne htwH.out h2H.out (by first | (left; rw [hcH.out]; first | assumption | decide) | (right; rw [hdH.out]; first | assumption | decide))
            have q5 : (tw.toList == [92, 120]) = false := tw_ne htwH.out h2H.out (by first | (left; rw [hcH.out]; first | assumption | decide) | (right; rw [hdH.out]; first | assumption | decide))
            go_wp2_with (at_builtin; refine Lib.wpList_append_byte rfl _ _ 31 rfl w.heap.size 5 i0 Tryz.underlying31 hi hz0 hz1 hz2 _ _ _ (by rfl) w _ _ hbH.out (by rfl) (by have := halH.out; omega) ?_; intro v' w' hb')
            have hbN := Lib.hid hb'
            clear hb'
            go_roundw
            case rel => exact relV_step (p := p) (k := 2) (e := 10) (by have := hltH.out; omega) (by omega) hivH.out halH.out (fun l2 h => back_110 (stepC h2H.out hcH.out l2 h) hdH.out) rfl (rfl) hbN.out _ (by go_num)
            case measure => simp [Go.RowKit.intOf]; omega
          by_cases e114 : d = 114
          · subst e114
            have q0 : (tw.toList == [39, 39]) = false := tw_ne htwH.out h2H.out (by first | (left; rw [hcH.out]; first | assumption | decide) | (right; rw [hdH.out]; first | assumption | decide))
            have q1 : (tw.toList == [92, 92]) = false := tw_ne htwH.out h2H.out (by first | (left; rw [hcH.out]; first | assumption | decide) | (right; rw [hdH.out]; first | assumption | decide))
            have q2 : (tw.toList == [92, 110]) = false := tw_ne htwH.out h2H.out (by first | (left; rw [hcH.out]; first | assumption | decide) | (right; rw [hdH.out]; first | assumption | decide))
            have q3 : (tw.toList == [92, 114]) = true := tw_eq htwH.out h2H.out hcH.out hdH.out
            have q4 : (tw.toList == [92, 116]) = false := tw_ne htwH.out h2H.out (by first | (left; rw [hcH.out]; first | assumption | decide) | (right; rw [hdH.out]; first | assumption | decide))
            have q5 : (tw.toList == [92, 120]) = false := tw_ne htwH.out h2H.out (by first | (left; rw [hcH.out]; first | assumption | decide) | (right; rw [hdH.out]; first | assumption | decide))
            go_wp2_with (at_builtin; refine Lib.wpList_append_byte rfl _ _ 31 rfl w.heap.size 5 i0 Tryz.underlying31 hi hz0 hz1 hz2 _ _ _ (by rfl) w _ _ hbH.out (by rfl) (by have := halH.out; omega) ?_; intro v' w' hb')
            have hbN := Lib.hid hb'
            clear hb'
            go_roundw
            case rel => exact relV_step (p := p) (k := 2) (e := 13) (by have := hltH.out; omega) (by omega) hivH.out halH.out (fun l2 h => back_114 (stepC h2H.out hcH.out l2 h) hdH.out) rfl (rfl) hbN.out _ (by go_num)
            case measure => simp [Go.RowKit.intOf]; omega
          by_cases e116 : d = 116
          · subst e116
            have q0 : (tw.toList == [39, 39]) = false := tw_ne htwH.out h2H.out (by first | (left; rw [hcH.out]; first | assumption | decide) | (right; rw [hdH.out]; first | assumption | decide))
            have q1 : (tw.toList == [92, 92]) = false := tw_ne htwH.out h2H.out (by first | (left; rw [hcH.out]; first | assumption | decide) | (right; rw [hdH.out]; first | assumption | decide))
            have q2 : (tw.toList == [92, 110]) = false := tw_ne htwH.out h2H.out (by first | (left; rw [hcH.out]; first | assumption | decide) | (right; rw [hdH.out]; first | assumption | decide))
            have q3 : (tw.toList == [92, 114]) = false := tw_ne htwH.out h2H.out (by first | (left; rw [hcH.out]; first | assumption | decide) | (right; rw [hdH.out]; first | assumption | decide))
            have q4 : (tw.toList == [92, 116]) = true := tw_eq htwH.out h2H.out hcH.out hdH.out
            have q5 : (tw.toList == [92, 120]) = false := tw_ne htwH.out h2H.out (by first | (left; rw [hcH.out]; first | assumption | decide) | (right; rw [hdH.out]; first | assumption | decide))
            go_wp2_with (at_builtin; refine Lib.wpList_append_byte rfl _ _ 31 rfl w.heap.size 5 i0 Tryz.underlying31 hi hz0 hz1 hz2 _ _ _ (by rfl) w _ _ hbH.out (by rfl) (by have := halH.out; omega) ?_; intro v' w' hb')
            have hbN := Lib.hid hb'
            clear hb'
            go_roundw
            case rel => exact relV_step (p := p) (k := 2) (e := 9) (by have := hltH.out; omega) (by omega) hivH.out halH.out (fun l2 h => back_116 (stepC h2H.out hcH.out l2 h) hdH.out) rfl (rfl) hbN.out _ (by go_num)
            case measure => simp [Go.RowKit.intOf]; omega
          by_cases e120 : d = 120
          · subst e120
            have q0 : (tw.toList == [39, 39]) = false := tw_ne htwH.out h2H.out (by first | (left; rw [hcH.out]; first | assumption | decide) | (right; rw [hdH.out]; first | assumption | decide))
            have q1 : (tw.toList == [92, 92]) = false := tw_ne htwH.out h2H.out (by first | (left; rw [hcH.out]; first | assumption | decide) | (right; rw [hdH.out]; first | assumption | decide))
            have q2 : (tw.toList == [92, 110]) = false := tw_ne htwH.out h2H.out (by first | (left; rw [hcH.out]; first | assumption | decide) | (right; rw [hdH.out]; first | assumption | decide))
            have q3 : (tw.toList == [92, 114]) = false := tw_ne htwH.out h2H.out (by first | (left; rw [hcH.out]; first | assumption | decide) | (right; rw [hdH.out]; first | assumption | decide))
            have q4 : (tw.toList == [92, 116]) = false := tw_ne htwH.out h2H.out (by first | (left; rw [hcH.out]; first | assumption | decide) | (right; rw [hdH.out]; first | assumption | decide))
            have q5 : (tw.toList == [92, 120]) = true := tw_eq htwH.out h2H.out hcH.out hdH.out
            by_cases h3 : p + 3 < s.size
            · have h3H := Lib.hid h3
              have i2 := fun w' => idx_run s (p + 2) ((p : Int) + 2) (by omega) (by omega) w'
              have i3 := fun w' => idx_run s (p + 3) ((p : Int) + 3) (by omega) (by omega) w'
              obtain ⟨g2, hg⟩ : ∃ g2, bt s (p + 2) = g2 := ⟨_, rfl⟩
              have hg2 := Lib.hid (show g2 < 256 by rw [← hg]; exact bt_lt s (p + 2))
              obtain ⟨x, hx⟩ : ∃ x, hexZ g2 = x := ⟨_, rfl⟩
              have hxS := Lib.hid (show hexZ (s.get! (p + 2)).toNat = x by rw [← hx, ← hg]; rfl)
              have hxH := Lib.hid hx
              have hxR := hexZ_range g2
              rw [hg] at i2
              rw [hx] at hxR
              clear hg hx
              obtain ⟨g3, hg⟩ : ∃ g3, bt s (p + 3) = g3 := ⟨_, rfl⟩
              have hg3 := Lib.hid (show g3 < 256 by rw [← hg]; exact bt_lt s (p + 3))
              obtain ⟨y, hx⟩ : ∃ y, hexZ g3 = y := ⟨_, rfl⟩
              have hyS := Lib.hid (show hexZ (s.get! (p + 3)).toNat = y by rw [← hx, ← hg]; rfl)
              have hyH := Lib.hid hx
              have hyR := hexZ_range g3
              rw [hg] at i3
              rw [hx] at hyR
              clear hg hx
              by_cases x1 : x = -1
              · subst x1
                have hoH := Lib.hid (outQ_bad hivH.out (fun l2 h => by obtain ⟨e, l', _, _, q, _⟩ := back_120 (stepC h2H.out hcH.out l2 h) hdH.out; rw [hxS.out] at q; omega))
                go_wp2_with (go_at_call 104; go_must (refine (refHex_any _ (by first | exact hg2.out | exact hg3.out) _).mono ?_; (first | rw [hxH.out] | rw [hyH.out]); rintro e w' ⟨rfl, rfl⟩))
                go_ret2
                exact ⟨hoH.out, hbH.out.2.1⟩
              have hx0' : 0 ≤ x := by omega
              by_cases y1 : y = -1
              · subst y1
                have hoH := Lib.hid (outQ_bad hivH.out (fun l2 h => by obtain ⟨e, l', _, _, _, q, _⟩ := back_120 (stepC h2H.out hcH.out l2 h) hdH.out; rw [hyS.out] at q; omega))
                go_wp2_with (go_at_call 104; go_must (refine (refHex_any _ (by first | exact hg2.out | exact hg3.out) _).mono ?_; (first | rw [hxH.out] | rw [hyH.out]); rintro e w' ⟨rfl, rfl⟩))
                go_ret2
                exact ⟨hoH.out, hbH.out.2.1⟩
              have hy0' : 0 ≤ y := by omega
              have hxyR := Lib.hid (show 0 ≤ 16 * x + y ∧ 16 * x + y ≤ 255 by omega)
              have hx15 : x ≤ 15 := by omega
              have wr1 : IntKind.i64.wrap ((p : Int) + 2) = (p : Int) + 2 := by rw [IntKind.wrap_i64]; omega
              have wr2 : IntKind.i64.wrap ((p : Int) + 3) = (p : Int) + 3 := by rw [IntKind.wrap_i64]; omega
              have wr3 : IntKind.i64.wrap (16 * x) = 16 * x := by rw [IntKind.wrap_i64]; omega
              have wr4 : IntKind.i64.wrap (16 * x + y) = 16 * x + y := by rw [IntKind.wrap_i64]; omega
              have wr5 : IntKind.u8.wrap (16 * x + y) = 16 * x + y := by rw [IntKind.wrap_u8]; omega
              have hy15 : y ≤ 15 := by omega
              go_wp2_with (go_at_call 104; go_must (refine (refHex_any _ (by first | exact hg2.out | exact hg3.out) _).mono ?_; (first | rw [hxH.out] | rw [hyH.out]); rintro e w' ⟨rfl, rfl⟩))
              refine wp_region_noPanic ?_
              refine wp_region_held_drew (S := (fun _ => True)) (by kernel_rfl) trivial (fun hHeld => ?_)
              refine' wpAnyH_take (i := 0) (v := u4) ?hi0x1 ?hs0x1 ?hf0x1 ?hr0x1 ?hQ0x1 ?hy0x1 ?hS0x1 ?rest0x1
              case hi0x1 => (simp only [List.getElem?_toArray, List.getElem?_cons_succ, List.getElem?_cons_zero]; try rfl)
              case hs0x1 => kernel_rfl
              case hf0x1 => kernel_rfl
              case hr0x1 => kernel_rfl
              case hQ0x1 => exact fun _ _ _ h => h
              case hy0x1 => exact Or.inl ⟨by rfl, by (intro w hSw; (try dsimp only at hSw); go_simp)⟩
              case hS0x1 => assumption
              (try simp only [Act.put, List.setIfInBounds_toArray, List.set_cons_zero, List.set_cons_succ])
              refine' wpAnyH_take (i := 1) (v := .string s) ?hi1x2 ?hs1x2 ?hf1x2 ?hr1x2 ?hQ1x2 ?hy1x2 ?hS1x2 ?rest1x2
              case hi1x2 => (simp only [List.getElem?_toArray, List.getElem?_cons_succ, List.getElem?_cons_zero]; try rfl)
              case hs1x2 => kernel_rfl
              case hf1x2 => kernel_rfl
              case hr1x2 => kernel_rfl
              case hQ1x2 => exact fun _ _ _ h => h
              case hy1x2 => exact Or.inl ⟨by rfl, by (intro w hSw; (try dsimp only at hSw); go_simp)⟩
              case hS1x2 => assumption
              (try simp only [Act.put, List.setIfInBounds_toArray, List.set_cons_zero, List.set_cons_succ])
              refine' wpAnyH_take (i := 2) (v := .int .i64 (p : Int)) ?hi2x3 ?hs2x3 ?hf2x3 ?hr2x3 ?hQ2x3 ?hy2x3 ?hS2x3 ?rest2x3
              case hi2x3 => (simp only [List.getElem?_toArray, List.getElem?_cons_succ, List.getElem?_cons_zero]; try rfl)
              case hs2x3 => kernel_rfl
              case hf2x3 => kernel_rfl
              case hr2x3 => kernel_rfl
              case hQ2x3 => exact fun _ _ _ h => h
              case hy2x3 => exact Or.inl ⟨by rfl, by (intro w hSw; (try dsimp only at hSw); go_simp)⟩
              case hS2x3 => assumption
              (try simp only [Act.put, List.setIfInBounds_toArray, List.set_cons_zero, List.set_cons_succ])
              refine' wpAnyH_take (i := 3) (v := .int .i64 ((p : Int) + 2)) ?hi3x4 ?hs3x4 ?hf3x4 ?hr3x4 ?hQ3x4 ?hy3x4 ?hS3x4 ?rest3x4
              case hi3x4 => (simp only [List.getElem?_toArray, List.getElem?_cons_succ, List.getElem?_cons_zero]; try rfl)
              case hs3x4 => kernel_rfl
              case hf3x4 => kernel_rfl
              case hr3x4 => kernel_rfl
              case hQ3x4 => exact fun _ _ _ h => h
              case hy3x4 => exact Or.inl ⟨by rfl, by (intro w hSw; (try dsimp only at hSw); go_simp)⟩
              case hS3x4 => assumption
              (try simp only [Act.put, List.setIfInBounds_toArray, List.set_cons_zero, List.set_cons_succ])
              refine' wpAnyH_take (i := 4) (v := .int .u8 (g2 : Int)) ?hi4x5 ?hs4x5 ?hf4x5 ?hr4x5 ?hQ4x5 ?hy4x5 ?hS4x5 ?rest4x5
              case hi4x5 => (simp only [List.getElem?_toArray, List.getElem?_cons_succ, List.getElem?_cons_zero]; try rfl)
              case hs4x5 => kernel_rfl
              case hf4x5 => kernel_rfl
              case hr4x5 => kernel_rfl
              case hQ4x5 => exact fun _ _ _ h => h
              case hy4x5 => exact Or.inl ⟨by rfl, by (intro w hSw; (try dsimp only at hSw); go_simp)⟩
              case hS4x5 => assumption
              (try simp only [Act.put, List.setIfInBounds_toArray, List.set_cons_zero, List.set_cons_succ])
              refine' wpAnyH_take (i := 7) (v := .string s) ?hi7x6 ?hs7x6 ?hf7x6 ?hr7x6 ?hQ7x6 ?hy7x6 ?hS7x6 ?rest7x6
              case hi7x6 => (simp only [List.getElem?_toArray, List.getElem?_cons_succ, List.getElem?_cons_zero]; try rfl)
              case hs7x6 => kernel_rfl
              case hf7x6 => kernel_rfl
              case hr7x6 => kernel_rfl
              case hQ7x6 => exact fun _ _ _ h => h
              case hy7x6 => exact Or.inl ⟨by rfl, by (intro w hSw; (try dsimp only at hSw); go_simp)⟩
              case hS7x6 => assumption
              (try simp only [Act.put, List.setIfInBounds_toArray, List.set_cons_zero, List.set_cons_succ])
              refine' wpAnyH_take (i := 8) (v := .int .i64 (p : Int)) ?hi8x7 ?hs8x7 ?hf8x7 ?hr8x7 ?hQ8x7 ?hy8x7 ?hS8x7 ?rest8x7
              case hi8x7 => (simp only [List.getElem?_toArray, List.getElem?_cons_succ, List.getElem?_cons_zero]; try rfl)
              case hs8x7 => kernel_rfl
              case hf8x7 => kernel_rfl
              case hr8x7 => kernel_rfl
              case hQ8x7 => exact fun _ _ _ h => h
              case hy8x7 => exact Or.inl ⟨by rfl, by (intro w hSw; (try dsimp only at hSw); go_simp)⟩
              case hS8x7 => assumption
              (try simp only [Act.put, List.setIfInBounds_toArray, List.set_cons_zero, List.set_cons_succ])
              refine' wpAnyH_take (i := 9) (v := .int .i64 ((p : Int) + 3)) ?hi9x8 ?hs9x8 ?hf9x8 ?hr9x8 ?hQ9x8 ?hy9x8 ?hS9x8 ?rest9x8
              case hi9x8 => (simp only [List.getElem?_toArray, List.getElem?_cons_succ, List.getElem?_cons_zero]; try rfl)
              case hs9x8 => kernel_rfl
              case hf9x8 => kernel_rfl
              case hr9x8 => kernel_rfl
              case hQ9x8 => exact fun _ _ _ h => h
              case hy9x8 => exact Or.inl ⟨by rfl, by (intro w hSw; (try dsimp only at hSw); go_simp)⟩
              case hS9x8 => assumption
              (try simp only [Act.put, List.setIfInBounds_toArray, List.set_cons_zero, List.set_cons_succ])
              refine' wpAnyH_take (i := 10) (v := .int .u8 (g3 : Int)) ?hi10x9 ?hs10x9 ?hf10x9 ?hr10x9 ?hQ10x9 ?hy10x9 ?hS10x9 ?rest10x9
              case hi10x9 => (simp only [List.getElem?_toArray, List.getElem?_cons_succ, List.getElem?_cons_zero]; try rfl)
              case hs10x9 => kernel_rfl
              case hf10x9 => kernel_rfl
              case hr10x9 => kernel_rfl
              case hQ10x9 => exact fun _ _ _ h => h
              case hy10x9 => exact Or.inl ⟨by rfl, by (intro w hSw; (try dsimp only at hSw); go_simp)⟩
              case hS10x9 => assumption
              (try simp only [Act.put, List.setIfInBounds_toArray, List.set_cons_zero, List.set_cons_succ])
              refine wpAnyH_ready (rs := [5]) (by kernel_rfl) (by simp) ?_
              refine' AllReadyH.cons (i := 5) ?ho5x10 (fun K hK => ?st5x10) AllReadyH.nil
              case ho5x10 => (simp only [List.getElem?_toArray, List.getElem?_cons_succ, List.getElem?_cons_zero]; try rfl)
              go_simp
              refine (refHex_any _ (by first | exact hg2.out | exact hg3.out) _).mono ?_
              (first | rw [hxH.out] | rw [hyH.out])
              rintro e w' ⟨rfl, rfl⟩
              refine hK.out _ _ ?_ (fun hHeld => ?_)
              · trivial
              clear hK K
              (try simp only [Act.put, List.setIfInBounds_toArray, List.set_cons_zero, List.set_cons_succ])
              refine' wpAnyH_take (i := 6) (v := .int .i64 (16 * x)) ?hi6x11 ?hs6x11 ?hf6x11 ?hr6x11 ?hQ6x11 ?hy6x11 ?hS6x11 ?rest6x11
              case hi6x11 => (simp only [List.getElem?_toArray, List.getElem?_cons_succ, List.getElem?_cons_zero]; try rfl)
              case hs6x11 => kernel_rfl
              case hf6x11 => kernel_rfl
              case hr6x11 => kernel_rfl
              case hQ6x11 => exact fun _ _ _ h => h
              case hy6x11 => exact Or.inl ⟨by rfl, by (intro w hSw; (try dsimp only at hSw); go_simp)⟩
              case hS6x11 => assumption
              (try simp only [Act.put, List.setIfInBounds_toArray, List.set_cons_zero, List.set_cons_succ])
              refine wpAnyH_ready (rs := [11]) (by kernel_rfl) (by simp) ?_
              refine' AllReadyH.cons (i := 11) ?ho11x12 (fun K hK => ?st11x12) AllReadyH.nil
              case ho11x12 => (simp only [List.getElem?_toArray, List.getElem?_cons_succ, List.getElem?_cons_zero]; try rfl)
              go_simp
              refine (refHex_any _ (by first | exact hg2.out | exact hg3.out) _).mono ?_
              (first | rw [hxH.out] | rw [hyH.out])
              rintro e w' ⟨rfl, rfl⟩
              refine hK.out _ _ ?_ (fun hHeld => ?_)
              · trivial
              clear hK K
              (try simp only [Act.put, List.setIfInBounds_toArray, List.set_cons_zero, List.set_cons_succ])
              refine' wpAnyH_take (i := 12) (v := .int .i64 (16 * x + y)) ?hi12x13 ?hs12x13 ?hf12x13 ?hr12x13 ?hQ12x13 ?hy12x13 ?hS12x13 ?rest12x13
              case hi12x13 => (simp only [List.getElem?_toArray, List.getElem?_cons_succ, List.getElem?_cons_zero]; try rfl)
              case hs12x13 => kernel_rfl
              case hf12x13 => kernel_rfl
              case hr12x13 => kernel_rfl
              case hQ12x13 => exact fun _ _ _ h => h
              case hy12x13 => exact Or.inl ⟨by rfl, by (intro w hSw; (try dsimp only at hSw); go_simp)⟩
              case hS12x13 => assumption
              (try simp only [Act.put, List.setIfInBounds_toArray, List.set_cons_zero, List.set_cons_succ])
              refine' wpAnyH_take (i := 13) (v := .int .u8 (16 * x + y)) ?hi13x14 ?hs13x14 ?hf13x14 ?hr13x14 ?hQ13x14 ?hy13x14 ?hS13x14 ?rest13x14
              case hi13x14 => (simp only [List.getElem?_toArray, List.getElem?_cons_succ, List.getElem?_cons_zero]; try rfl)
              case hs13x14 => kernel_rfl
              case hf13x14 => kernel_rfl
              case hr13x14 => kernel_rfl
              case hQ13x14 => exact fun _ _ _ h => h
              case hy13x14 => exact Or.inl ⟨by rfl, by (intro w hSw; (try dsimp only at hSw); go_simp)⟩
              case hS13x14 => assumption
              (try simp only [Act.put, List.setIfInBounds_toArray, List.set_cons_zero, List.set_cons_succ])
              refine wpAnyH_ready (rs := [14]) (by kernel_rfl) (by simp) ?_
              refine' AllReadyH.cons (i := 14) ?ho14x15 (fun K hK => ?st14x15) AllReadyH.nil
              case ho14x15 => (simp only [List.getElem?_toArray, List.getElem?_cons_succ, List.getElem?_cons_zero]; try rfl)
              go_simp
              refine hK.out _ _ ?_ (fun hHeld => ?_)
              · trivial
              clear hK K
              (try simp only [Act.put, List.setIfInBounds_toArray, List.set_cons_zero, List.set_cons_succ])
              obtain ⟨v', w', hr, ho', hg, _⟩ := run_append_ownF (P := Tryz.prog) ((wr.alloc (.cells #[.int .u8 (16 * x + y)] 5)).drew) w.heap.size 31 31 5 i0 (.int .u8 0) 1 1 Tryz.underlying31 hi hz0 hz1 hz2 rfl (by decide) u4 acc.length (Lib.byteCells acc) (hbH.out.alloc _).1 ⟨wr.heap.size, 0, none⟩ 1 1 [.int .u8 (16 * x + y)] rfl (by
                  intro j u hj
                  match j, hj with
                  | 0, hj => simp at hj; subst hj; simp [Addr.add]
                  | (j + 1), hj => simp at hj) (by intro u hu; simp at hu; rcases hu with rfl; rfl) (by have := halH.out; unfold maxLen; omega) (by have := halH.out; omega) (hbH.out.alloc _).2.2
              have hbN := Lib.hid (((hbH.out.alloc _).drewN 1).grown ho' hg)
              clear ho' hg
              refine wpAnyH_ready (rs := [15]) (by kernel_rfl) (by simp) ?_
              refine' AllReadyH.cons (i := 15) ?ho15 (fun K hK => ?st15) AllReadyH.nil
              case ho15 => (simp only [List.getElem?_toArray, List.getElem?_cons_succ, List.getElem?_cons_zero]; try rfl)
              rw [if_pos (by rfl)]
              refine upon_append (.tmp 94) (.tmp 108) 31 rfl rfl rfl hr ?_
              refine hK.out _ _ trivial (fun hHeld => ?_)
              clear hK K
              (try simp only [Act.put, List.setIfInBounds_toArray, List.set_cons_zero, List.set_cons_succ])
              refine' wpAnyH_take (i := 16) (v := v') ?hi16x16 ?hs16x16 ?hf16x16 ?hr16x16 ?hQ16x16 ?hy16x16 ?hS16x16 ?rest16x16
              case hi16x16 => (simp only [List.getElem?_toArray, List.getElem?_cons_succ, List.getElem?_cons_zero]; try rfl)
              case hs16x16 => kernel_rfl
              case hf16x16 => kernel_rfl
              case hr16x16 => kernel_rfl
              case hQ16x16 => exact fun _ _ _ h => h
              case hy16x16 => exact Or.inl ⟨by rfl, by (intro w hSw; (try dsimp only at hSw); go_simp)⟩
              case hS16x16 => assumption
              (try simp only [Act.put, List.setIfInBounds_toArray, List.set_cons_zero, List.set_cons_succ])
              refine wpAnyH_done (by kernel_rfl) ?_ _
              refine NoPanic.normal ?_
              clear i2 i3 wr1 wr2 wr3 wr4 wr5
              go_wp2
              go_roundw
              case rel =>
                refine relV_step (p := p) (k := 4) (e := UInt8.ofNat (16 * x + y).toNat) (by have := h3H.out; omega) (by omega) hivH.out halH.out (fun l2 h => ?_) rfl ?_ hbN.out _ (by go_num)
                · obtain ⟨e, l', r1, _, r2, r3, r4⟩ := back_120 (stepC h2H.out hcH.out l2 h) hdH.out
                  rw [hxS.out] at r2
                  rw [hyS.out] at r3
                  refine ⟨l', ?_, r4⟩
                  rw [r1, r2, r3, show (16 * ((e.toNat / 16 : Nat) : Int) + ((e.toNat % 16 : Nat) : Int)).toNat = e.toNat by omega]
                  simp
                · have hv := hxyR.out
                  rw [UInt8.toNat_ofNat', show (((16 * x + y).toNat % 2 ^ 8 : Nat) : Int) = 16 * x + y by omega]
              case measure => simp [Go.RowKit.intOf]; omega
            · have h3H := Lib.hid h3
              have hoH := Lib.hid (outQ_bad hivH.out (fun l2 h => by obtain ⟨e, l', _, q, _⟩ := back_120 (stepC h2H.out hcH.out l2 h) hdH.out; exact h3 q))
              go_wp2_with (go_at_call 104; go_must (refine (refHex_any _ (by first | exact hg2.out | exact hg3.out) _).mono ?_; (first | rw [hxH.out] | rw [hyH.out]); rintro e w' ⟨rfl, rfl⟩))
              go_ret2
              exact ⟨hoH.out, hbH.out.2.1⟩
          have q0 : (tw.toList == [39, 39]) = false := tw_ne htwH.out h2H.out (by first | (left; rw [hcH.out]; first | assumption | decide) | (right; rw [hdH.out]; first | assumption | decide))
          have q1 : (tw.toList == [92, 92]) = false := tw_ne htwH.out h2H.out (by first | (left; rw [hcH.out]; first | assumption | decide) | (right; rw [hdH.out]; first | assumption | decide))
          have q2 : (tw.toList == [92, 110]) = false := tw_ne htwH.out h2H.out (by first | (left; rw [hcH.out]; first | assumption | decide) | (right; rw [hdH.out]; first | assumption | decide))
          have q3 : (tw.toList == [92, 114]) = false := tw_ne htwH.out h2H.out (by first | (left; rw [hcH.out]; first | assumption | decide) | (right; rw [hdH.out]; first | assumption | decide))
          have q4 : (tw.toList == [92, 116]) = false := tw_ne htwH.out h2H.out (by first | (left; rw [hcH.out]; first | assumption | decide) | (right; rw [hdH.out]; first | assumption | decide))
          have q5 : (tw.toList == [92, 120]) = false := tw_ne htwH.out h2H.out (by first | (left; rw [hcH.out]; first | assumption | decide) | (right; rw [hdH.out]; first | assumption | decide))
          have hoH := Lib.hid (outQ_bad hivH.out (fun l2 h => back_no (stepC h2H.out hcH.out l2 h) (by rw [hdH.out]; exact e92) (by rw [hdH.out]; exact e110) (by rw [hdH.out]; exact e114) (by rw [hdH.out]; exact e116) (by rw [hdH.out]; exact e120)))
          go_wp2_with fail
          go_ret2
          exact ⟨hoH.out, hbH.out.2.1⟩
        have d0 : ((c : Int) == 39) = false := by simp; omega
        have d1 : ((c : Int) == 92) = false := by simp; omega
        have q0 : (tw.toList == [39, 39]) = false := tw_ne htwH.out h2H.out (by first | (left; rw [hcH.out]; first | assumption | decide) | (right; rw [hdH.out]; first | assumption | decide))
        have q1 : (tw.toList == [92, 92]) = false := tw_ne htwH.out h2H.out (by first | (left; rw [hcH.out]; first | assumption | decide) | (right; rw [hdH.out]; first | assumption | decide))
        have q2 : (tw.toList == [92, 110]) = false := tw_ne htwH.out h2H.out (by first | (left; rw [hcH.out]; first | assumption | decide) | (right; rw [hdH.out]; first | assumption | decide))
        have q3 : (tw.toList == [92, 114]) = false := tw_ne htwH.out h2H.out (by first | (left; rw [hcH.out]; first | assumption | decide) | (right; rw [hdH.out]; first | assumption | decide))
        have q4 : (tw.toList == [92, 116]) = false := tw_ne htwH.out h2H.out (by first | (left; rw [hcH.out]; first | assumption | decide) | (right; rw [hdH.out]; first | assumption | decide))
        have q5 : (tw.toList == [92, 120]) = false := tw_ne htwH.out h2H.out (by first | (left; rw [hcH.out]; first | assumption | decide) | (right; rw [hdH.out]; first | assumption | decide))
        go_wp2_with (at_builtin; refine Lib.wpList_append_byte rfl _ _ 31 rfl w.heap.size 5 i0 Tryz.underlying31 hi hz0 hz1 hz2 _ _ _ (by rfl) w _ _ hbH.out (by rfl) (by have := halH.out; omega) ?_; intro v' w' hb')
        have hbN := Lib.hid hb'
        clear hb'
        go_roundw
        case rel => exact relV_step (p := p) (k := 1) (e := s.get! p) (by have := hltH.out; omega) (by omega) hivH.out halH.out (stepA hltH.out (by rw [hcH.out]; exact c0) (by rw [hcH.out]; exact c1)) rfl (by rw [hcH.out]) hbN.out _ (by go_num)
        case measure => simp [Go.RowKit.intOf]; omega
      · have h2H := Lib.hid h2
        by_cases c0 : c = 39
        · subst c0
          have hoH := Lib.hid (outQ_bad hivH.out (stepB0 hltH.out h2H.out hcH.out))
          go_wp2_with fail
          go_ret2
          exact ⟨hoH.out, hbH.out.2.1⟩
        by_cases c1 : c = 92
        · subst c1
          have hoH := Lib.hid (outQ_bad hivH.out (stepC0 hltH.out h2H.out hcH.out))
          go_wp2_with fail
          go_ret2
          exact ⟨hoH.out, hbH.out.2.1⟩
        have d0 : ((c : Int) == 39) = false := by simp; omega
        have d1 : ((c : Int) == 92) = false := by simp; omega
        go_wp2_with (at_builtin; refine Lib.wpList_append_byte rfl _ _ 31 rfl w.heap.size 5 i0 Tryz.underlying31 hi hz0 hz1 hz2 _ _ _ (by rfl) w _ _ hbH.out (by rfl) (by have := halH.out; omega) ?_; intro v' w' hb')
        have hbN := Lib.hid hb'
        clear hb'
        go_roundw
        case rel => exact relV_step (p := p) (k := 1) (e := s.get! p) (by have := hltH.out; omega) (by omega) hivH.out halH.out (stepA hltH.out (by rw [hcH.out]; exact c0) (by rw [hcH.out]; exact c1)) rfl (by rw [hcH.out]) hbN.out _ (by go_num)
        case measure => simp [Go.RowKit.intOf]; omega
    · have hend : OutQ s (.returned (.tuple #[.string ⟨acc.toArray⟩, .bool true])) := by
        refine ⟨_, _, rfl, by show acc.toArray.size ≤ _; rw [List.size_toArray]; have := halH.out; omega, fun l h => ⟨rfl, ?_⟩⟩
        obtain ⟨l2, r1, r2⟩ := hivH.out l h
        rw [List.drop_eq_nil_of_le (by rw [size_list]; omega)] at r2
        have e2 : l2 = [] := (flat_inj [] l2 r2).symm
        rw [← r1, e2, List.append_nil]
      have hendH := Lib.hid hend
      clear hend
      obtain ⟨g, cap, rfl, hconv⟩ := conv_any (l := acc) hbH.out.1 rfl
      go_wp2_with fail
      go_ret2
      exact ⟨hendH.out, hbH.out.2.1⟩
end Go.Proofs.YtpmfbmigdpmloaaGreatDoor
