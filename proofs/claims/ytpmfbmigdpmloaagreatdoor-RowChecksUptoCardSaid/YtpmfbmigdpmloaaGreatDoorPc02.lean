/-
  Texts that belong together: RwE, RwF, RwG, Dw, OwnL, RwW, MpI, RowS, RwT. What each one says stands ahead of it.
-/
import Derived.Test.YtpmfbmigdpmloaaGreatDoorPc01
import Derived.Deep.RegionHeld3
import Derived.Laws.IdiomStrings
import Derived.Below
import Derived.Sort.Grow
import Derived.Deep.Draws
import Derived.Lib.Hide
import Derived.Lib.OthersKept
import Derived.Laws.AppendOwn
import Derived.Maps.Own
import Derived.Laws.IdiomCopy
import Derived.Lib.SliceRun
import Derived.Laws.CopyRow
import Derived.Test.YtpmfbmigdpmloaaGreatDoorProg
import Derived.Maps.OwnSet
import Derived.Maps.Views
import Derived.StringKeys
import Derived.IntWalk
section
/-
  The encodings of data behind bytes that the caller owns, at this program. Conditions: those written.
-/
set_option linter.unusedVariables false
set_option linter.unusedSimpArgs false
namespace Go.Proofs.YtpmfbmigdpmloaaGreatDoor
open Go.RowKit Go.Lib

/-- The bytes l lie behind the slice v, a row of the call's own, since the world W0. -/
abbrev OwnB (B : Nat) (v : Value) (l : List UInt8) (W0 w : World) : Prop := OwnK 5 1 B v l.length (Lib.byteCells l) W0 w
theorem bytes_one (l : List UInt8) : ∀ u ∈ Lib.byteCells l, u.oneCell' = true := by
  intro u hu
  simp [Lib.byteCells] at hu
  obtain ⟨b, _, rfl⟩ := hu
  rfl
theorem info_u8 : ∃ i, Tryz.prog.info? 5 = some i ∧ i.zero = some (.int .u8 0) ∧ i.size = 1 ∧ i.bytes = 1 := by
  have h : (Tryz.prog.info? 5).map (fun i => (i.zero, i.size, i.bytes)) = some (some (.int .u8 0), 1, 1) := by kernel_rfl
  cases hi : Tryz.prog.info? 5 with
  | none => rw [hi] at h; cases h
  | some i => rw [hi] at h; simp at h; exact ⟨i, rfl, h.1, h.2.1, h.2.2⟩
section
/-- 'v = append(v, ..)' of some bytes that stand in the block that the statement has just laid. -/
theorem wpList_bytes {ops : Array Oper} {rest : List Oper} {o : Oper} {a : Act} {Q : Exit → Act → World → Prop} (hgd : o.guard = none) (s x : Operand)
    (ho : o.op = .call { callee := .builtin .append, args := #[s, x], argTypes := #[31, 31] })
    (B : Nat) (v : Value) (l : List UInt8) (W0 w0 : World) (m : Nat) (new : List UInt8) (cs : Array Value) (hcs : cs = (Lib.byteCells new).toArray) (hb : OwnB B v l W0 w0) (hs : a.eval s = v)
    (hx : a.eval x = .slice (some ⟨w0.heap.size, 0, none⟩) m m) (hl : new.length = m) (hlen : l.length + m ≤ 140737488355328)
    (h : ∀ v' w', OwnB B v' (l ++ new) W0 w' → wpList Tryz.prog ops Q rest (a.put o.dst v') w') : wpList Tryz.prog ops Q (o :: rest) a (w0.alloc (.cells cs 5)) := by
  subst hcs
  obtain ⟨i, hi, hz, hsz, hby⟩ := info_u8
  refine wpList_appendK hgd s x 31 ho B 5 i (.int .u8 0) 1 1 Tryz.underlying31 hi hz hsz hby rfl (by decide) v l.length (Lib.byteCells l) hs W0 w0 m (Lib.byteCells new) hb hx (by rw [Lib.byteCells_length, hl, Nat.mul_one]) (bytes_one new) (by omega) (by omega) ?_
  intro v' w' h'
  refine h v' w' ?_
  unfold OwnB
  rw [List.length_append, hl, Lib.byteCells_append]
  exact h'
end
/-- What the rounds hold: what is written, what is left. -/
def RelI (l : List UInt8) (m : Nat) (B : Nat) (w0 : World) (s0 s6 : Value) (wr : World) : Prop :=
  ∃ p : Nat, p ≤ 8 ∧ s6 = .int .i64 (56 - 8 * (p : Int)) ∧ OwnB B s0 (l ++ (be 8 m).take p) w0 wr
theorem be_at (m p q : Nat) (hp : p < 8) (hq : 256 ^ (7 - p) = q) : (be 8 m).take (p + 1) = (be 8 m).take p ++ [UInt8.ofNat (m / q)] := by
  subst hq
  have : p = 0 ∨ p = 1 ∨ p = 2 ∨ p = 3 ∨ p = 4 ∨ p = 5 ∨ p = 6 ∨ p = 7 := by omega
  rcases this with rfl | rfl | rfl | rfl | rfl | rfl | rfl | rfl <;> rfl
theorem byte_of (z : Int) (k : Nat) (h : z = ((k % 256 : Nat) : Int)) : (#[Value.int .u8 z] : Array Value) = (Lib.byteCells [UInt8.ofNat k]).toArray := by
  subst h
  simp [Lib.byteCells]
set_option maxHeartbeats 4000000 in
set_option maxRecDepth 1000000 in
theorem appendInt_any (B : Nat) (v : Value) (l : List UInt8) (n : Int) (w : World) (h : OwnB B v l w w) (hn : -9223372036854775808 ≤ n ∧ n ≤ 9223372036854775807) (hl : l.length ≤ 70368744177664) :
    Calls Tryz.prog 50 #[v, .int .i64 n] w fun e w' => ∃ v', e = .returned v' ∧ OwnB B v' (l ++ be 8 (n + 9223372036854775808).toNat) w w' := by
  have hH := Lib.hid h
  clear h
  obtain ⟨m, hm⟩ : ∃ m : Nat, n + 9223372036854775808 = (m : Int) := ⟨(n + 9223372036854775808).toNat, by omega⟩
  rw [hm, Int.toNat_natCast]
  have hmH := Lib.hid hm
  have hm64 : m < 18446744073709551616 := by omega
  clear hm
  go_enter Tryz.func50, Tryz.ntmps50
  go_wp2_with fail
  have e5 : IntKind.u64.wrap (IntKind.u64.wrap n + 9223372036854775808) = (m : Int) := by
    have := hmH.out
    simp only [IntKind.wrap, IntKind.bits, IntKind.signed]
    simp
    omega
  rw [e5]
  clear e5 hn
  go_loopw [0, 6] (fun s0 s6 wr => RelI l m B w s0 s6 wr) (fun _ s6 _ => (Go.RowKit.intOf s6 + 8).toNat)
  case atStart => exact ⟨0, by omega, rfl, by rw [List.take_zero, List.append_nil]; exact hH.out⟩
  case round =>
    unfold RelI at hrel
    obtain ⟨p, hp, hs, hown⟩ := hrel
    have hownH := Lib.hid hown
    have hlen := Lib.hid (show (l ++ (be 8 m).take p).length + 1 ≤ 140737488355328 by rw [List.length_append, List.length_take]; omega)
    clear hown
    by_cases hlt : p < 8
    · have hc : p = 0 ∨ p = 1 ∨ p = 2 ∨ p = 3 ∨ p = 4 ∨ p = 5 ∨ p = 6 ∨ p = 7 := by omega
      rcases hc with rfl | rfl | rfl | rfl | rfl | rfl | rfl | rfl
      · obtain rfl := hs.trans (show Value.int .i64 (56 - 8 * ((0 : Nat) : Int)) = .int .i64 56 from rfl)
        have hcs := byte_of ((m : Int) / 72057594037927936) (m / 72057594037927936) (by omega)
        have hcsH := Lib.hid hcs
        clear hcs
        go_wp2_with (at_builtin; refine wpList_bytes rfl _ _ rfl B _ _ w _ 1 [UInt8.ofNat (m / 72057594037927936)] _ hcsH.out hownH.out rfl rfl rfl hlen.out ?_; intro v' w' hown')
        have hownN := Lib.hid hown'
        clear hown'
        go_wp2_with fail
        go_roundw
        case rel => exact ⟨1, by omega, rfl, by rw [be_at m 0 72057594037927936 (by omega) rfl, ← List.append_assoc]; exact hownN.out⟩
        case measure => simp [Go.RowKit.intOf]
      · obtain rfl := hs.trans (show Value.int .i64 (56 - 8 * ((1 : Nat) : Int)) = .int .i64 48 from rfl)
        have hcs := byte_of ((m : Int) / 281474976710656 % 256) (m / 281474976710656) (by omega)
        have hcsH := Lib.hid hcs
        clear hcs
        go_wp2_with (at_builtin; refine wpList_bytes rfl _ _ rfl B _ _ w _ 1 [UInt8.ofNat (m / 281474976710656)] _ hcsH.out hownH.out rfl rfl rfl hlen.out ?_; intro v' w' hown')
        have hownN := Lib.hid hown'
        clear hown'
        go_wp2_with fail
        go_roundw
        case rel => exact ⟨2, by omega, rfl, by rw [be_at m 1 281474976710656 (by omega) rfl, ← List.append_assoc]; exact hownN.out⟩
        case measure => simp [Go.RowKit.intOf]
      · obtain rfl := hs.trans (show Value.int .i64 (56 - 8 * ((2 : Nat) : Int)) = .int .i64 40 from rfl)
        have hcs := byte_of ((m : Int) / 1099511627776 % 256) (m / 1099511627776) (by omega)
        have hcsH := Lib.hid hcs
        clear hcs
        go_wp2_with (at_builtin; refine wpList_bytes rfl _ _ rfl B _ _ w _ 1 [UInt8.ofNat (m / 1099511627776)] _ hcsH.out hownH.out rfl rfl rfl hlen.out ?_; intro v' w' hown')
        have hownN := Lib.hid hown'
        clear hown'
        go_wp2_with fail
        go_roundw
        case rel => exact ⟨3, by omega, rfl, by rw [be_at m 2 1099511627776 (by omega) rfl, ← List.append_assoc]; exact hownN.out⟩
        case measure => simp [Go.RowKit.intOf]
      · obtain rfl := hs.trans (show Value.int .i64 (56 - 8 * ((3 : Nat) : Int)) = .int .i64 32 from rfl)
        have hcs := byte_of ((m : Int) / 4294967296 % 256) (m / 4294967296) (by omega)
        have hcsH := Lib.hid hcs
        clear hcs
        go_wp2_with (at_builtin; refine wpList_bytes rfl _ _ rfl B _ _ w _ 1 [UInt8.ofNat (m / 4294967296)] _ hcsH.out hownH.out rfl rfl rfl hlen.out ?_; intro v' w' hown')
        have hownN := Lib.hid hown'
        clear hown'
        go_wp2_with fail
        go_roundw
        case rel => exact ⟨4, by omega, rfl, by rw [be_at m 3 4294967296 (by omega) rfl, ← List.append_assoc]; exact hownN.out⟩
        case measure => simp [Go.RowKit.intOf]
      · obtain rfl := hs.trans (show Value.int .i64 (56 - 8 * ((4 : Nat) : Int)) = .int .i64 24 from rfl)
        have hcs := byte_of ((m : Int) / 16777216 % 256) (m / 16777216) (by omega)
        have hcsH := Lib.hid hcs
        clear hcs
        go_wp2_with (at_builtin; refine wpList_bytes rfl _ _ rfl B _ _ w _ 1 [UInt8.ofNat (m / 16777216)] _ hcsH.out hownH.out rfl rfl rfl hlen.out ?_; intro v' w' hown')
        have hownN := Lib.hid hown'
        clear hown'
        go_wp2_with fail
        go_roundw
        case rel => exact ⟨5, by omega, rfl, by rw [be_at m 4 16777216 (by omega) rfl, ← List.append_assoc]; exact hownN.out⟩
        case measure => simp [Go.RowKit.intOf]
      · obtain rfl := hs.trans (show Value.int .i64 (56 - 8 * ((5 : Nat) : Int)) = .int .i64 16 from rfl)
        have hcs := byte_of ((m : Int) / 65536 % 256) (m / 65536) (by omega)
        have hcsH := Lib.hid hcs
        clear hcs
        go_wp2_with (at_builtin; refine wpList_bytes rfl _ _ rfl B _ _ w _ 1 [UInt8.ofNat (m / 65536)] _ hcsH.out hownH.out rfl rfl rfl hlen.out ?_; intro v' w' hown')
        have hownN := Lib.hid hown'
        clear hown'
        go_wp2_with fail
        go_roundw
        case rel => exact ⟨6, by omega, rfl, by rw [be_at m 5 65536 (by omega) rfl, ← List.append_assoc]; exact hownN.out⟩
        case measure => simp [Go.RowKit.intOf]
      · obtain rfl := hs.trans (show Value.int .i64 (56 - 8 * ((6 : Nat) : Int)) = .int .i64 8 from rfl)
        have hcs := byte_of ((m : Int) / 256 % 256) (m / 256) (by omega)
        have hcsH := Lib.hid hcs
        clear hcs
        go_wp2_with (at_builtin; refine wpList_bytes rfl _ _ rfl B _ _ w _ 1 [UInt8.ofNat (m / 256)] _ hcsH.out hownH.out rfl rfl rfl hlen.out ?_; intro v' w' hown')
        have hownN := Lib.hid hown'
        clear hown'
        go_wp2_with fail
        go_roundw
        case rel => exact ⟨7, by omega, rfl, by rw [be_at m 6 256 (by omega) rfl, ← List.append_assoc]; exact hownN.out⟩
        case measure => simp [Go.RowKit.intOf]
      · obtain rfl := hs.trans (show Value.int .i64 (56 - 8 * ((7 : Nat) : Int)) = .int .i64 0 from rfl)
        have hcs := byte_of ((m : Int) % 256) (m / 1) (by omega)
        have hcsH := Lib.hid hcs
        clear hcs
        go_wp2_with (at_builtin; refine wpList_bytes rfl _ _ rfl B _ _ w _ 1 [UInt8.ofNat (m / 1)] _ hcsH.out hownH.out rfl rfl rfl hlen.out ?_; intro v' w' hown')
        have hownN := Lib.hid hown'
        clear hown'
        go_wp2_with fail
        go_roundw
        case rel => exact ⟨8, by omega, rfl, by rw [be_at m 7 1 (by omega) rfl, ← List.append_assoc]; exact hownN.out⟩
        case measure => simp [Go.RowKit.intOf]
    · obtain rfl : p = 8 := by omega
      obtain rfl := hs.trans (show Value.int .i64 (56 - 8 * ((8 : Nat) : Int)) = .int .i64 (-8) from rfl)
      go_wp2_with fail
      go_ret
      exact ⟨_, rfl, hownH.out⟩
end Go.Proofs.YtpmfbmigdpmloaaGreatDoor
end
section
/-
  The encodings of texts, of data, and the keys of rows, behind bytes that the caller owns, at this program. Conditions: those written.
-/
set_option linter.unusedVariables false
set_option linter.unusedSimpArgs false
namespace Go.Proofs.YtpmfbmigdpmloaaGreatDoor
open Go.RowKit Go.Lib

theorem get_at {s : ByteArray} {p : Nat} (h : p < s.size) : s.data.toList[p]? = some (s.get! p) := by
  rcases s with ⟨a⟩
  simp only [ByteArray.get!]
  have h' : p < a.size := h
  rw [Array.getElem?_toList, Array.getElem?_eq_getElem h', getElem!_pos a p h']
theorem idx_at (s : ByteArray) (p : Nat) (u : UInt8) (hu : s.get! p = u) (h : p < s.size) (w : World) : (Instr.index 9 (.string s) (.int .i64 (p : Int))).run Tryz.prog w = .ok (.int .u8 (u.toNat : Int)) w := by
  subst hu
  rw [run_index_string w 9 s .i64 (p : Int) Tryz.underlying9, dif_pos ⟨by omega, by omega⟩]
  have : s.get! p = s[p]'h := by
    rcases s with ⟨a⟩
    simp only [ByteArray.get!, ByteArray.getElem_eq_getElem_data]
    exact getElem!_pos a p h
  simp only [this, Int.toNat_natCast]
theorem escT_at {s : ByteArray} {p : Nat} {u : UInt8} (h : p < s.size) (hu : s.get! p = u) : escT (s.data.toList.take (p + 1)) = escT (s.data.toList.take p) ++ (if u = 0 then [0, 255] else [u]) := by
  have h1 := get_at h
  rw [hu] at h1
  have : s.data.toList.take (p + 1) = s.data.toList.take p ++ [u] := by rw [List.take_add_one, h1]; rfl
  rw [this]
  unfold escT
  rw [List.flatMap_append]
  simp
theorem escT_le (l : List UInt8) : (escT l).length ≤ 2 * l.length := by
  unfold escT
  induction l with
  | nil => simp
  | cons b l ih =>
    rw [List.flatMap_cons, List.length_append, List.length_cons]
    split <;> simp only [List.length_cons, List.length_nil] <;> omega
theorem size_toList (s : ByteArray) : s.data.toList.length = s.size := by rcases s with ⟨a⟩; rfl
/-- What the rounds hold: what is written of the bytes up to a place. -/
def RelT (l : List UInt8) (s : ByteArray) (B : Nat) (w0 : World) (s0 s8 : Value) (wr : World) : Prop :=
  ∃ p : Nat, p ≤ s.size ∧ s8 = .int .i64 (p : Int) ∧ OwnB B s0 (l ++ escT (s.data.toList.take p)) w0 wr
set_option maxHeartbeats 4000000 in
set_option maxRecDepth 1000000 in
theorem appendText_any (B : Nat) (v : Value) (l : List UInt8) (s : ByteArray) (w : World) (h : OwnB B v l w w) (hl : l.length + 2 * s.size + 2 ≤ 140737488355328) :
    Calls Tryz.prog 51 #[v, .string s] w fun e w' => ∃ v', e = .returned v' ∧ OwnB B v' (l ++ (escT s.data.toList ++ [0, 1])) w w' := by
  have hH := Lib.hid h
  clear h
  go_enter Tryz.func51, Tryz.ntmps51
  go_wp2_with fail
  go_loopw [0, 5, 8] (fun s0 s5 s8 wr => RelT l s B w s0 s8 wr) (fun _ _ s8 _ => s.size - (Go.RowKit.intOf s8).toNat)
  case atStart => exact ⟨0, by omega, rfl, by rw [List.take_zero, show escT [] = [] from rfl, List.append_nil]; exact hH.out⟩
  case round =>
    unfold RelT at hrel
    obtain ⟨p, hp, rfl, hown⟩ := hrel
    have hownH := Lib.hid hown
    have hle : (l ++ escT (s.data.toList.take p)).length + 2 ≤ 140737488355328 := by
      have := escT_le (s.data.toList.take p)
      rw [List.length_take, size_toList] at this
      rw [List.length_append]; omega
    have hleH := Lib.hid hle
    clear hown hle
    by_cases hlt : p < s.size
    · obtain ⟨u, hu⟩ : ∃ u, s.get! p = u := ⟨_, rfl⟩
      have hx0 := fun w' => idx_at s p u hu hlt w'
      have hat := Lib.hid (escT_at hlt hu)
      have hcs : Hid ((#[Value.int .u8 (u.toNat : Int)] : Array Value) = (Lib.byteCells [u]).toArray) := by exact (show _ = _ by simp [Lib.byteCells])
      have hltH := Lib.hid hlt
      clear hu
      by_cases hz : u = 0
      · subst hz
        go_wp2_with (first
          | (at_builtin; refine wpList_bytes rfl _ _ rfl B _ _ w _ 1 [255] _ (by rfl) hown1.out rfl rfl rfl (by have := hleH.out; rw [List.length_append, List.length_singleton]; omega) ?_; intro v2 w2 hq; have hown2 := Lib.hid hq; clear hq)
          | (at_builtin; refine wpList_bytes rfl _ _ rfl B _ _ w _ 1 [0] _ (by rfl) hownH.out rfl rfl rfl (by have := hleH.out; omega) ?_; intro v1 w1 hq; have hown1 := Lib.hid hq; clear hq))
        go_roundw
        case rel => exact ⟨p + 1, hltH.out, by go_num, by rw [hat.out, if_pos rfl, ← List.append_assoc]; have := hown2.out; rw [List.append_assoc] at this; exact this⟩
        case measure => simp [Go.RowKit.intOf]; omega
      · have hz' : ((u.toNat : Int) == 0) = false := by
          rw [beq_eq_false_iff_ne]
          intro q
          exact hz (UInt8.toNat_inj.1 (show u.toNat = (0 : UInt8).toNat by rw [show (0 : UInt8).toNat = 0 from rfl]; omega))
        have hzH := Lib.hid hz
        clear hz
        go_wp2_with (at_builtin; refine wpList_bytes rfl _ _ rfl B _ _ w _ 1 [u] _ hcs.out hownH.out rfl rfl rfl (by have := hleH.out; omega) ?_; intro v' w' hown')
        have hown1 := Lib.hid hown'
        clear hown'
        go_wp2_with fail
        go_roundw
        case rel => exact ⟨p + 1, hltH.out, by go_num, by rw [hat.out, if_neg hzH.out, ← List.append_assoc]; exact hown1.out⟩
        case measure => simp [Go.RowKit.intOf]; omega
    · obtain rfl : p = s.size := by omega
      have hfin := Lib.hid (show s.data.toList.take s.size = s.data.toList from List.take_of_length_le (by rw [size_toList]; omega))
      go_wp2_with (at_builtin; refine wpList_bytes rfl _ _ rfl B _ _ w _ 2 [0, 1] _ (by rfl) hownH.out rfl rfl rfl hleH.out ?_; intro v' w' hown')
      have hown1 := Lib.hid hown'
      clear hown'
      go_wp2_with fail
      go_ret
      refine ⟨_, rfl, ?_⟩
      have := hown1.out
      rw [hfin.out, List.append_assoc] at this
      exact this
/-- .. as one operation of a region that draws its order. -/
theorem wp_bytes {o : Oper} {a : Act} {K : Act → World → Prop} {Q : Exit → Act → World → Prop} (s x : Operand)
    (ho : o.op = .call { callee := .builtin .append, args := #[s, x], argTypes := #[31, 31] })
    (B : Nat) (v : Value) (l : List UInt8) (W0 w0 : World) (m : Nat) (new : List UInt8) (cs : Array Value) (hcs : cs = (Lib.byteCells new).toArray) (hb : OwnB B v l W0 w0) (hs : a.eval s = v)
    (hx : a.eval x = .slice (some ⟨w0.heap.size, 0, none⟩) m m) (hl : new.length = m) (hlen : l.length + m ≤ 140737488355328)
    (h : ∀ v' w', OwnB B v' (l ++ new) W0 w' → K (a.put o.dst v') w') : o.wp Tryz.prog a (w0.alloc (.cells cs 5)) K Q := by
  subst hcs
  obtain ⟨i, hi, hz, hsz, hby⟩ := info_u8
  have hb' := hb.alloc (.cells (Lib.byteCells new).toArray 5)
  refine wp_append_own _ s x 31 ho B 5 i (.int .u8 0) 1 1 Tryz.underlying31 hi hz hsz hby rfl (by decide) v l.length (Lib.byteCells l) hs hb'.1 ⟨w0.heap.size, 0, none⟩ m m (Lib.byteCells new) hx (by rw [Lib.byteCells_length, hl, Nat.mul_one]) ?_ (bytes_one new) (by unfold maxLen; omega) (by omega) hb'.2.2.1 ?_
  · intro j u hj
    have := cell_new w0 (Lib.byteCells new).toArray 5 j
    rw [show (⟨w0.heap.size, 0, none⟩ : Addr).add j = ⟨w0.heap.size, j, none⟩ by unfold Addr.add; split <;> simp_all]
    rw [this]
    simpa using hj
  · intro v' w' ho' hg _
    refine h v' w' ?_
    have h1 := hb'.grown ho' hg
    unfold OwnB
    rw [List.length_append, hl, Lib.byteCells_append]
    exact h1
theorem Has.others {w w' : World} {b : Nat} {c0 c1 c2 c3 : Value} (h : Has w b c0 c1 c2 c3) (ho : OthersKept 5 none w w') : Has w' b c0 c1 c2 c3 :=
  ho b _ h (by simp) (fun c fz q => by cases q)
theorem OwnB.again {B : Nat} {v : Value} {l : List UInt8} {W0 w : World} (h : OwnB B v l W0 w) : OwnB B v l w w := OwnK.start h.1 h.2.2.1
/-- What a datum's encoding comes to at most. -/
def szD (s : ByteArray) : Nat := 2 * s.size + 16
set_option maxHeartbeats 4000000 in
set_option maxRecDepth 1000000 in
theorem appendDatum_any (B : Nat) (v : Value) (l : List UInt8) (k : Int) (b : Bool) (n : Int) (s : ByteArray) (w : World) (h : OwnB B v l w w) (hn : -9223372036854775808 ≤ n ∧ n ≤ 9223372036854775807) (hl : l.length + szD s ≤ 70368744177664) :
    Calls Tryz.prog 30 #[v, .agg #[.int .u8 k, .bool b, .int .i64 n, .string s]] w fun e w' => ∃ v', e = .returned v' ∧ OwnB B v' (l ++ encD ⟨k, b, n, s⟩) w w' := by
  unfold szD at hl
  obtain ⟨W1, hW1⟩ : ∃ W1, w.alloc (.cells #[.int .u8 k, .bool b, .int .i64 n, .string s] 60) = W1 := ⟨_, rfl⟩
  have hB1 := Lib.hid (show Has W1 w.heap.size (.int .u8 k) (.bool b) (.int .i64 n) (.string s) from hW1 ▸ Has.new w _ _ _ _)
  have h01 := Lib.hid (show OwnB B v l w W1 from hW1 ▸ h.alloc _)
  have h1 := Lib.hid h01.out.again
  obtain ⟨c0_, c1_, c2_, c3_⟩ := hB1.out.cells
  clear h
  by_cases k1 : k = 1
  · subst k1
    go_enter Tryz.func30, Tryz.ntmps30
    go_wp2_with (at_builtin; refine wpList_bytes rfl _ _ rfl B _ _ W1 _ 1 [16] _ (by rfl) h1.out rfl rfl rfl (by omega) ?_; intro v' w' hq; have h2 := Lib.hid hq; clear hq)
    go_ret
    exact ⟨_, rfl, OwnK.trans h01.out h2.out⟩
  by_cases k2 : k = 2
  · subst k2
    cases b with
    | true =>
      go_enter Tryz.func30, Tryz.ntmps30
      go_wp2_with (at_builtin; refine wpList_bytes rfl _ _ rfl B _ _ W1 _ 1 [33] _ (by rfl) h1.out rfl rfl rfl (by omega) ?_; intro v' w' hq; have h2 := Lib.hid hq; clear hq)
      go_ret
      exact ⟨_, rfl, OwnK.trans h01.out h2.out⟩
    | false =>
      go_enter Tryz.func30, Tryz.ntmps30
      go_wp2_with (at_builtin; refine wpList_bytes rfl _ _ rfl B _ _ W1 _ 1 [32] _ (by rfl) h1.out rfl rfl rfl (by omega) ?_; intro v' w' hq; have h2 := Lib.hid hq; clear hq)
      go_ret
      exact ⟨_, rfl, OwnK.trans h01.out h2.out⟩
  by_cases k3 : k = 3
  · subst k3
    go_enter Tryz.func30, Tryz.ntmps30
    go_wp2_with fail
    refine wp_region_noPanic ?_
    refine wp_region_held_drew (S := (fun w' => w'.cell? ⟨w.heap.size, 2, none⟩ = some (.int .i64 n))) (by kernel_rfl) (c2_) (fun hHeld => ?_)
    refine' wpAnyH_take (i := 0) (v := ?v0x1) ?hi0x1 ?hs0x1 ?hf0x1 ?hr0x1 ?hQ0x1 ?hy0x1 ?hS0x1 ?rest0x1
    case hi0x1 => (simp only [List.getElem?_toArray, List.getElem?_cons_succ, List.getElem?_cons_zero]; try rfl)
    case hs0x1 => kernel_rfl
    case hf0x1 => kernel_rfl
    case hr0x1 => kernel_rfl
    case hQ0x1 => exact fun _ _ _ h => h
    case hy0x1 => first | exact Or.inl ⟨by rfl, by (intro w hSw; (try dsimp only at hSw); go_simp; try rfl)⟩ | exact Or.inr ⟨by rfl, rfl⟩
    case hS0x1 => assumption
    (try simp only [Act.put, List.setIfInBounds_toArray, List.set_cons_zero, List.set_cons_succ])
    refine' wpAnyH_take (i := 3) (v := ?v3x2) ?hi3x2 ?hs3x2 ?hf3x2 ?hr3x2 ?hQ3x2 ?hy3x2 ?hS3x2 ?rest3x2
    case hi3x2 => (simp only [List.getElem?_toArray, List.getElem?_cons_succ, List.getElem?_cons_zero]; try rfl)
    case hs3x2 => kernel_rfl
    case hf3x2 => kernel_rfl
    case hr3x2 => kernel_rfl
    case hQ3x2 => exact fun _ _ _ h => h
    case hy3x2 => first | exact Or.inl ⟨by rfl, by (intro w hSw; (try dsimp only at hSw); go_simp; try rfl)⟩ | exact Or.inr ⟨by rfl, rfl⟩
    case hS3x2 => assumption
    (try simp only [Act.put, List.setIfInBounds_toArray, List.set_cons_zero, List.set_cons_succ])
    refine' wpAnyH_take (i := 4) (v := ?v4x3) ?hi4x3 ?hs4x3 ?hf4x3 ?hr4x3 ?hQ4x3 ?hy4x3 ?hS4x3 ?rest4x3
    case hi4x3 => (simp only [List.getElem?_toArray, List.getElem?_cons_succ, List.getElem?_cons_zero]; try rfl)
    case hs4x3 => kernel_rfl
    case hf4x3 => kernel_rfl
    case hr4x3 => kernel_rfl
    case hQ4x3 => exact fun _ _ _ h => h
    case hy4x3 => first | exact Or.inl ⟨by rfl, by (intro w hSw; (try dsimp only at hSw); go_simp; try rfl)⟩ | exact Or.inr ⟨by rfl, rfl⟩
    case hS4x3 => assumption
    (try simp only [Act.put, List.setIfInBounds_toArray, List.set_cons_zero, List.set_cons_succ])
    refine wpAnyH_ready (rs := [1]) (by kernel_rfl) (by simp) ?_
    refine' (AllReadyH.cons (i := 1) ?ho1x4 (fun K hK => ?st1x4) AllReadyH.nil)
    case ho1x4 => (simp only [List.getElem?_toArray, List.getElem?_cons_succ, List.getElem?_cons_zero]; try rfl)
    case st1x4 =>
      go_simp
      refine hK.out _ _ ?_ (fun hHeld => ?_)
      · exact ((hB1.out.drew).alloc _).cells.2.2.1
      clear hK K
      (try simp only [Act.put, List.setIfInBounds_toArray, List.set_cons_zero, List.set_cons_succ])
      refine wpAnyH_ready (rs := [2]) (by kernel_rfl) (by simp) ?_
      refine' (AllReadyH.cons (i := 2) ?ho2x5 (fun K hK => ?st2x5) AllReadyH.nil)
      case ho2x5 => (simp only [List.getElem?_toArray, List.getElem?_cons_succ, List.getElem?_cons_zero]; try rfl)
      case st2x5 =>
        refine wp_bytes _ _ (by rfl) B _ _ W1 _ 1 [48] _ (by rfl) (OwnK.drew h1.out) (by rfl) (by rfl) rfl (by omega) ?_
        intro v2 w2 hq
        have h2 := Lib.hid hq
        have hB2 := Lib.hid (hB1.out.others hq.2.2.2)
        clear hq
        refine hK.out _ _ ?_ (fun hHeld => ?_)
        · exact hB2.out.cells.2.2.1
        clear hK K
        (try simp only [Act.put, List.setIfInBounds_toArray, List.set_cons_zero, List.set_cons_succ])
        refine wpAnyH_ready (rs := [5]) (by kernel_rfl) (by simp) ?_
        refine' (AllReadyH.cons (i := 5) ?ho5x6 (fun K hK => ?st5x6) AllReadyH.nil)
        case ho5x6 => (simp only [List.getElem?_toArray, List.getElem?_cons_succ, List.getElem?_cons_zero]; try rfl)
        case st5x6 =>
          go_simp
          refine (appendInt_any B _ _ n _ h2.out.again hn (by rw [List.length_append, List.length_singleton]; omega)).mono ?_
          rintro e_ w3 ⟨v3, rfl, hq⟩
          have h3 := Lib.hid hq
          have hB3 := Lib.hid (hB2.out.others hq.2.2.2)
          clear hq
          refine hK.out _ _ ?_ (fun hHeld => ?_)
          · exact hB3.out.cells.2.2.1
          clear hK K
          (try simp only [Act.put, List.setIfInBounds_toArray, List.set_cons_zero, List.set_cons_succ])
          refine' wpAnyH_take (i := 6) (v := ?v6x7) ?hi6x7 ?hs6x7 ?hf6x7 ?hr6x7 ?hQ6x7 ?hy6x7 ?hS6x7 ?rest6x7
          case hi6x7 => (simp only [List.getElem?_toArray, List.getElem?_cons_succ, List.getElem?_cons_zero]; try rfl)
          case hs6x7 => kernel_rfl
          case hf6x7 => kernel_rfl
          case hr6x7 => kernel_rfl
          case hQ6x7 => exact fun _ _ _ h => h
          case hy6x7 => first | exact Or.inl ⟨by rfl, by (intro w hSw; (try dsimp only at hSw); go_simp; try rfl)⟩ | exact Or.inr ⟨by rfl, rfl⟩
          case hS6x7 => assumption
          (try simp only [Act.put, List.setIfInBounds_toArray, List.set_cons_zero, List.set_cons_succ])
          refine wpAnyH_done (by kernel_rfl) ?_ _
          refine NoPanic.normal ?_
          go_wp2_with fail
          go_ret
          refine ⟨_, rfl, ?_⟩
          have := OwnK.trans h01.out (OwnK.trans h2.out h3.out)
          rw [List.append_assoc] at this
          exact this
  by_cases k4 : k = 4
  · subst k4
    go_enter Tryz.func30, Tryz.ntmps30
    go_wp2_with fail
    refine wp_region_noPanic ?_
    refine wp_region_held_drew (S := (fun w' => w'.cell? ⟨w.heap.size, 3, none⟩ = some (.string s))) (by kernel_rfl) (c3_) (fun hHeld => ?_)
    refine' wpAnyH_take (i := 0) (v := ?v0x8) ?hi0x8 ?hs0x8 ?hf0x8 ?hr0x8 ?hQ0x8 ?hy0x8 ?hS0x8 ?rest0x8
    case hi0x8 => (simp only [List.getElem?_toArray, List.getElem?_cons_succ, List.getElem?_cons_zero]; try rfl)
    case hs0x8 => kernel_rfl
    case hf0x8 => kernel_rfl
    case hr0x8 => kernel_rfl
    case hQ0x8 => exact fun _ _ _ h => h
    case hy0x8 => first | exact Or.inl ⟨by rfl, by (intro w hSw; (try dsimp only at hSw); go_simp; try rfl)⟩ | exact Or.inr ⟨by rfl, rfl⟩
    case hS0x8 => assumption
    (try simp only [Act.put, List.setIfInBounds_toArray, List.set_cons_zero, List.set_cons_succ])
    refine' wpAnyH_take (i := 3) (v := ?v3x9) ?hi3x9 ?hs3x9 ?hf3x9 ?hr3x9 ?hQ3x9 ?hy3x9 ?hS3x9 ?rest3x9
    case hi3x9 => (simp only [List.getElem?_toArray, List.getElem?_cons_succ, List.getElem?_cons_zero]; try rfl)
    case hs3x9 => kernel_rfl
    case hf3x9 => kernel_rfl
    case hr3x9 => kernel_rfl
    case hQ3x9 => exact fun _ _ _ h => h
    case hy3x9 => first | exact Or.inl ⟨by rfl, by (intro w hSw; (try dsimp only at hSw); go_simp; try rfl)⟩ | exact Or.inr ⟨by rfl, rfl⟩
    case hS3x9 => assumption
    (try simp only [Act.put, List.setIfInBounds_toArray, List.set_cons_zero, List.set_cons_succ])
    refine' wpAnyH_take (i := 4) (v := ?v4x10) ?hi4x10 ?hs4x10 ?hf4x10 ?hr4x10 ?hQ4x10 ?hy4x10 ?hS4x10 ?rest4x10
    case hi4x10 => (simp only [List.getElem?_toArray, List.getElem?_cons_succ, List.getElem?_cons_zero]; try rfl)
    case hs4x10 => kernel_rfl
    case hf4x10 => kernel_rfl
    case hr4x10 => kernel_rfl
    case hQ4x10 => exact fun _ _ _ h => h
    case hy4x10 => first | exact Or.inl ⟨by rfl, by (intro w hSw; (try dsimp only at hSw); go_simp; try rfl)⟩ | exact Or.inr ⟨by rfl, rfl⟩
    case hS4x10 => assumption
    (try simp only [Act.put, List.setIfInBounds_toArray, List.set_cons_zero, List.set_cons_succ])
    refine wpAnyH_ready (rs := [1]) (by kernel_rfl) (by simp) ?_
    refine' (AllReadyH.cons (i := 1) ?ho1x11 (fun K hK => ?st1x11) AllReadyH.nil)
    case ho1x11 => (simp only [List.getElem?_toArray, List.getElem?_cons_succ, List.getElem?_cons_zero]; try rfl)
    case st1x11 =>
      go_simp
      refine hK.out _ _ ?_ (fun hHeld => ?_)
      · exact ((hB1.out.drew).alloc _).cells.2.2.2
      clear hK K
      (try simp only [Act.put, List.setIfInBounds_toArray, List.set_cons_zero, List.set_cons_succ])
      refine wpAnyH_ready (rs := [2]) (by kernel_rfl) (by simp) ?_
      refine' (AllReadyH.cons (i := 2) ?ho2x12 (fun K hK => ?st2x12) AllReadyH.nil)
      case ho2x12 => (simp only [List.getElem?_toArray, List.getElem?_cons_succ, List.getElem?_cons_zero]; try rfl)
      case st2x12 =>
        refine wp_bytes _ _ (by rfl) B _ _ W1 _ 1 [64] _ (by rfl) (OwnK.drew h1.out) (by rfl) (by rfl) rfl (by omega) ?_
        intro v2 w2 hq
        have h2 := Lib.hid hq
        have hB2 := Lib.hid (hB1.out.others hq.2.2.2)
        clear hq
        refine hK.out _ _ ?_ (fun hHeld => ?_)
        · exact hB2.out.cells.2.2.2
        clear hK K
        (try simp only [Act.put, List.setIfInBounds_toArray, List.set_cons_zero, List.set_cons_succ])
        refine wpAnyH_ready (rs := [5]) (by kernel_rfl) (by simp) ?_
        refine' (AllReadyH.cons (i := 5) ?ho5x13 (fun K hK => ?st5x13) AllReadyH.nil)
        case ho5x13 => (simp only [List.getElem?_toArray, List.getElem?_cons_succ, List.getElem?_cons_zero]; try rfl)
        case st5x13 =>
          go_simp
          refine (appendText_any B _ _ s _ h2.out.again (by rw [List.length_append, List.length_singleton]; omega)).mono ?_
          rintro e_ w3 ⟨v3, rfl, hq⟩
          have h3 := Lib.hid hq
          have hB3 := Lib.hid (hB2.out.others hq.2.2.2)
          clear hq
          refine hK.out _ _ ?_ (fun hHeld => ?_)
          · exact hB3.out.cells.2.2.2
          clear hK K
          (try simp only [Act.put, List.setIfInBounds_toArray, List.set_cons_zero, List.set_cons_succ])
          refine' wpAnyH_take (i := 6) (v := ?v6x14) ?hi6x14 ?hs6x14 ?hf6x14 ?hr6x14 ?hQ6x14 ?hy6x14 ?hS6x14 ?rest6x14
          case hi6x14 => (simp only [List.getElem?_toArray, List.getElem?_cons_succ, List.getElem?_cons_zero]; try rfl)
          case hs6x14 => kernel_rfl
          case hf6x14 => kernel_rfl
          case hr6x14 => kernel_rfl
          case hQ6x14 => exact fun _ _ _ h => h
          case hy6x14 => first | exact Or.inl ⟨by rfl, by (intro w hSw; (try dsimp only at hSw); go_simp; try rfl)⟩ | exact Or.inr ⟨by rfl, rfl⟩
          case hS6x14 => assumption
          (try simp only [Act.put, List.setIfInBounds_toArray, List.set_cons_zero, List.set_cons_succ])
          refine wpAnyH_done (by kernel_rfl) ?_ _
          refine NoPanic.normal ?_
          go_wp2_with fail
          go_ret
          refine ⟨_, rfl, ?_⟩
          have := OwnK.trans h01.out (OwnK.trans h2.out h3.out)
          rw [List.append_assoc] at this
          exact this
  have g1 : (k == 1) = false := by simpa using k1
  have g2 : (k == 2) = false := by simpa using k2
  have g3 : (k == 3) = false := by simpa using k3
  have g4 : (k == 4) = false := by simpa using k4
  have hE := Lib.hid (show encD ⟨k, b, n, s⟩ = [] by unfold encD; rw [if_neg k1, if_neg k2, if_neg k3, if_neg k4])
  clear k1 k2 k3 k4
  go_enter Tryz.func30, Tryz.ntmps30
  go_wp2_with fail
  go_ret
  exact ⟨_, rfl, by rw [hE.out, List.append_nil]; exact h01.out⟩
end Go.Proofs.YtpmfbmigdpmloaaGreatDoor
end
section
/-
  The key of a row behind bytes that the caller owns, at this program. Conditions: those written.
-/
set_option linter.unusedVariables false
set_option linter.unusedSimpArgs false
namespace Go.Proofs.YtpmfbmigdpmloaaGreatDoor
open Go.RowKit Go.Lib

theorem be_le (k m : Nat) : (be k m).length = k := be_len k m
theorem encD_le (d : Dat) : (encD d).length ≤ szD d.s := by
  unfold encD szD
  have := escT_le d.s.data.toList
  rw [size_toList] at this
  repeat' split
  all_goals simp [be_len]
  all_goals omega
theorem keyD_le (d : Dat) : (keyD d).length ≤ szD d.s := by
  unfold keyD
  split
  · unfold szD; simp
  · exact encD_le d
/-- What a row's encoding, or its key, comes to at most. -/
def szR : List Dat → Nat
  | [] => 0
  | d :: l => szD d.s + szR l
theorem keyR_le : ∀ l : List Dat, (keyR l).length ≤ szR l
  | [] => Nat.le_refl _
  | d :: l => by
    have h1 := keyD_le d
    have h2 := keyR_le l
    unfold keyR at h2 ⊢
    rw [List.flatMap_cons, List.length_append, szR]
    omega
theorem encR_le : ∀ l : List Dat, (encR l).length ≤ szR l
  | [] => Nat.le_refl _
  | d :: l => by
    have h1 := encD_le d
    have h2 := encR_le l
    unfold encR at h2 ⊢
    rw [List.flatMap_cons, List.length_append, szR]
    omega
theorem szR_take : ∀ (l : List Dat) (p : Nat) (h : p < l.length), szR (l.take p) + szD l[p].s ≤ szR l
  | [], p, h => absurd h (by simp)
  | d :: l, 0, _ => by simp [szR]
  | d :: l, p + 1, h => by
    have := szR_take l p (by simpa using h)
    simp only [List.take_succ_cons, szR, List.getElem_cons_succ]
    omega
theorem szR_len : ∀ l : List Dat, l.length ≤ szR l
  | [] => Nat.le_refl _
  | d :: l => by
    have := szR_len l
    simp only [List.length_cons, szR, szD]
    omega
theorem flat_take {f : Dat → List UInt8} {l : List Dat} {p : Nat} (h : p < l.length) : (l.take (p + 1)).flatMap f = (l.take p).flatMap f ++ f l[p] := by
  rw [List.take_succ_eq_append_getElem h, List.flatMap_append]
  simp
theorem OwnB.form {B : Nat} {v : Value} {l : List UInt8} {W0 w : World} (h : OwnB B v l W0 w) : ∃ A c, v = .slice A l.length c := by
  rcases h.1.2 with ⟨rfl, h0⟩ | ⟨g, cap, cur, rfl, _⟩
  · exact ⟨none, 0, by rw [h0]⟩
  · exact ⟨_, _, rfl⟩
/-- What the rounds hold: the keys of the data up to a place. -/
def RelK (f : Dat → List UInt8) (l : List UInt8) (r : List Dat) (B : Nat) (w0 : World) (s0 s10 : Value) (wr : World) : Prop :=
  ∃ p : Nat, p ≤ r.length ∧ s10 = .int .i64 (p : Int) ∧ OwnB B s0 (l ++ (r.take p).flatMap f) w0 wr
theorem two_bytes {k : Int} (h : 0 ≤ k ∧ k ≤ 255) : (#[Value.int .u8 80, .int .u8 k] : Array Value) = (Lib.byteCells [80, UInt8.ofNat k.toNat]).toArray := by
  have : ((k.toNat % 256 : Nat) : Int) = k := by omega
  simp [Lib.byteCells]
  omega
set_option maxHeartbeats 4000000 in
set_option maxRecDepth 1000000 in
theorem appendKey_any (B : Nat) (v vr : Value) (l : List UInt8) (r : List Dat) (w0 w : World) (h : OwnB B v l w w) (hr : RowV w0 vr r) (h0 : Below w0.heap.size w0 w) (hB : w0.heap.size ≤ B) (hw : ∀ d ∈ r, Wide d) (hl : l.length + szR r ≤ 70368744177664) :
    Calls Tryz.prog 62 #[v, vr] w fun e w' => ∃ v', e = .returned v' ∧ OwnB B v' (l ++ keyR r) w w' := by
  obtain ⟨A, ca, rfl, hla⟩ := hr.form
  have hH := Lib.hid h; have hrH := Lib.hid hr; have h0H := Lib.hid h0; have hwH := Lib.hid hw
  clear h hr h0 hw
  go_enter Tryz.func62, Tryz.ntmps62
  go_wp2_with fail
  go_loopw [0, 6, 7, 10] (fun s0 s6 s7 s10 wr => RelK keyD l r B w s0 s10 wr) (fun _ _ _ s10 _ => r.length - (Go.RowKit.intOf s10).toNat)
  case atStart => exact ⟨0, by omega, rfl, by rw [List.take_zero, List.flatMap_nil, List.append_nil]; exact hH.out⟩
  case round =>
    unfold RelK at hrel
    obtain ⟨p, hp, rfl, hown⟩ := hrel
    obtain ⟨A0, c0, rfl⟩ := hown.form
    have hownH := Lib.hid hown
    clear hown
    by_cases hlt : p < r.length
    · obtain ⟨ad, rfl, hba, a0_, a1_, a2_, a3_⟩ := (hrH.out.below (h0H.out.trans (hownH.out.2.1.mono hB))).at hlt
      obtain ⟨d, hd⟩ : ∃ d, r[p] = d := ⟨_, rfl⟩
      rw [hd] at a0_ a1_ a2_ a3_
      have hwd := Lib.hid (hwH.out d (hd ▸ List.getElem_mem hlt))
      have hft := Lib.hid (show (r.take (p + 1)).flatMap keyD = (r.take p).flatMap keyD ++ keyD d by rw [flat_take hlt, hd])
      have hsz := Lib.hid (show (l ++ (r.take p).flatMap keyD).length + szD d.s ≤ 70368744177664 by
        have h1 := szR_take r p hlt
        have h2 := keyR_le (r.take p)
        unfold keyR at h2
        rw [hd] at h1
        rw [List.length_append]
        omega)
      clear hd
      obtain ⟨k, b, n, s⟩ := d
      obtain ⟨L, hL⟩ : ∃ L, l ++ (r.take p).flatMap keyD = L := ⟨_, rfl⟩
      have hLH := Lib.hid hL
      rw [hL] at hownH hsz
      rw [hL]
      clear hL
      simp only at a0_ a1_ a2_ a3_
      have hltH := Lib.hid hlt
      obtain ⟨wd, hwdE⟩ : ∃ wd, wr.alloc (.cells #[.int .u8 k, .bool b, .int .i64 n, .string s] 60) = wd := ⟨_, rfl⟩
      have hD := Lib.hid (show Has wd wr.heap.size (.int .u8 k) (.bool b) (.int .i64 n) (.string s) from hwdE ▸ Has.new wr _ _ _ _)
      have hownD := Lib.hid (show OwnB B (.slice A0 L.length c0) L w wd from hwdE ▸ hownH.out.alloc _)
      obtain ⟨e0_, e1_, e2_, e3_⟩ := hD.out.cells
      have hszd := Lib.hid (show wr.heap.size < wd.heap.size by rw [← hwdE]; simp)
      go_wp2_with fail
      refine (appendDatum_any B _ L k b n s _ hownD.out.again hwd.out.2 (by have := hsz.out; omega)).mono ?_
      rintro e w2 ⟨v2, rfl, h2⟩
      obtain ⟨A2, c2, rfl⟩ := h2.form
      have h2H := Lib.hid h2
      have hD2 := Lib.hid (hD.out.others h2.2.2.2)
      clear h2 e0_ e1_ e2_ e3_ a0_ a1_ a2_ a3_ hwdE
      obtain ⟨e0_, e1_, e2_, e3_⟩ := hD2.out.cells
      by_cases he : encD ⟨k, b, n, s⟩ = []
      · have hk := Lib.hid (show keyD ⟨k, b, n, s⟩ = [80, UInt8.ofNat k.toNat] by unfold keyD; rw [if_pos he])
        have h2' := Lib.hid (show OwnB B (.slice A2 L.length c2) L wd w2 by have := h2H.out; rw [he, List.append_nil] at this; exact this)
        rw [he, List.append_nil]
        have hcs := Lib.hid (two_bytes hwd.out.1)
        clear he h2H
        go_wp2_with (at_builtin; refine wpList_bytes rfl _ _ rfl B _ _ wd _ 2 [80, UInt8.ofNat k.toNat] _ hcs.out h2'.out rfl rfl rfl (by have := hsz.out; omega) ?_; intro v' w' hq; have h3 := Lib.hid hq; clear hq)
        go_roundw
        case rel => exact ⟨p + 1, hltH.out, by go_num, by rw [hft.out, ← List.append_assoc, hLH.out, hk.out]; exact OwnK.trans hownD.out h3.out⟩
        case measure => simp [Go.RowKit.intOf]; omega
      · have hk := Lib.hid (show keyD ⟨k, b, n, s⟩ = encD ⟨k, b, n, s⟩ by unfold keyD; rw [if_neg he])
        have hne : (((L ++ encD ⟨k, b, n, s⟩).length : Int) == (L.length : Int)) = false := by
          rw [beq_eq_false_iff_ne, List.length_append]
          have := List.length_pos_iff.2 he
          omega
        obtain ⟨N, hN⟩ : ∃ N, (L ++ encD ⟨k, b, n, s⟩).length = N := ⟨_, rfl⟩
        have hNH := Lib.hid hN
        rw [hN] at hne
        rw [hN]
        clear hN he
        go_wp2_with fail
        go_roundw
        case rel => exact ⟨p + 1, hltH.out, by go_num, by rw [hft.out, ← List.append_assoc, hLH.out, hk.out, ← hNH.out]; exact OwnK.trans hownD.out h2H.out⟩
        case measure => simp [Go.RowKit.intOf]; omega
    · obtain rfl : p = r.length := by omega
      have hfin := Lib.hid (show r.take r.length = r from List.take_length)
      obtain ⟨N, hN⟩ : ∃ N, (l ++ (r.take r.length).flatMap keyD).length = N := ⟨_, rfl⟩
      have hNH := Lib.hid hN
      rw [hN]
      clear hN
      go_wp2_with fail
      go_ret
      refine ⟨_, rfl, ?_⟩
      have := hownH.out
      rw [hNH.out, hfin.out] at this
      exact this
end Go.Proofs.YtpmfbmigdpmloaaGreatDoor
end
section
/-
  Worlds one behind the other in which no draw is taken back; what lies in blocks of other kinds than the one written. Nothing is walked here. No condition but those written.
-/
set_option linter.unusedVariables false
set_option linter.unusedSimpArgs false
namespace Go.Proofs.YtpmfbmigdpmloaaGreatDoor
open Go.RowKit Go.Lib Go.Sort

/-- Below, and no draw is taken back. -/
structure Rose (B : Nat) (w w' : World) : Prop extends Below B w w' where
  drawn : w.drawn ≤ w'.drawn
theorem Rose.refl (B : Nat) (w : World) : Rose B w w := ⟨Below.refl B w, Nat.le_refl _⟩
theorem Rose.trans {B : Nat} {a b c : World} (h : Rose B a b) (k : Rose B b c) : Rose B a c := ⟨h.toBelow.trans k.toBelow, Nat.le_trans h.drawn k.drawn⟩
theorem Rose.mono {B B' : Nat} {w w' : World} (h : Rose B w w') (hB : B' ≤ B) : Rose B' w w' := ⟨h.toBelow.mono hB, h.drawn⟩
theorem Rose.drew {B : Nat} {a w : World} (h : Rose B a w) : Rose B a w.drew := ⟨h.toBelow.drew, Nat.le_trans h.drawn (Nat.le_succ _)⟩
theorem Rose.alloc {B : Nat} {a w : World} (h : Rose B a w) (hB : B ≤ w.heap.size) (o : Obj) : Rose B a (w.alloc o) := ⟨h.toBelow.alloc hB o, h.drawn⟩
/-- Such a world is the first one with draws and new blocks. -/
theorem Rose.grow {w w' : World} (h : Rose w.heap.size w w') : ∃ q os, w' = Go.Sort.grow (w.drewN q) os := by
  refine ⟨w'.drawn - w.drawn, w'.heap.extract w.heap.size w'.heap.size, ?_⟩
  have e1 : w'.heap = w.heap ++ w'.heap.extract w.heap.size w'.heap.size := by
    apply Array.ext_getElem?
    intro i
    have hs := h.size
    by_cases hi : i < w.heap.size
    · rw [Array.getElem?_append_left hi]
      exact h.block i hi
    · rw [Array.getElem?_append_right (by omega), Array.getElem?_extract]
      by_cases hi' : i < w'.heap.size
      · rw [if_pos (by omega)]
        congr 1
        omega
      · rw [if_neg (by omega), Array.getElem?_eq_none (by omega)]
  have h1 := h.os
  have h2 := h.tape
  have h3 := h.output
  have h4 := h.drawn
  rcases w with ⟨a, b, c, d, e⟩
  rcases w' with ⟨a', b', c', d', e'⟩
  simp only at h1 h2 h3 h4 e1
  subst h1 h2 h3
  unfold Go.Sort.grow World.drewN
  simp only [World.mk.injEq, and_true, true_and]
  refine ⟨e1, ?_⟩
  omega
/-- A row that the call owns, while rows of another kind alone are written. -/
theorem ownsRow_others {e e' : TypeId} {k B n : Nat} {v : Value} {xs : List Value} {w w' : World} (h : w.ownsRow B e k v n xs) (ho : OthersKept e' none w w') (hne : e ≠ e') : w'.ownsRow B e k v n xs := by
  refine ⟨h.1, ?_⟩
  rcases h.2 with h1 | ⟨g, cap, cur, rfl, h1, h2, h3⟩
  · exact .inl h1
  · exact .inr ⟨g, cap, cur, rfl, h1, ho g _ h2 (by simp) (fun c fz q => by cases q; exact hne rfl), h3⟩
/-- .. and while the row of another kind grows. -/
theorem ownsRow_grown {e e' : TypeId} {k k' B B' n n' : Nat} {v v' : Value} {xs xs' : List Value} {w w' : World} (h : w.ownsRow B e k v n xs) (h' : w.ownsRow B' e' k' v' n' xs') (hg : w.grownBy w' v'.ownBlock) (hne : e ≠ e') : w'.ownsRow B e k v n xs := by
  refine h.kept hg ?_
  rcases h.2 with ⟨rfl, _⟩ | ⟨g, cap, cur, rfl, h1, h2, h3⟩
  · exact .inl rfl
  · refine .inr fun q => ?_
    rcases h'.2 with ⟨rfl, _⟩ | ⟨g', cap', cur', rfl, h1', h2', h3'⟩
    · cases q
    · have : g = g' := by simpa [Value.ownBlock] using q
      subst this
      rw [h2] at h2'
      simp only [Option.some.injEq, Obj.cells.injEq] at h2'
      exact hne h2'.2.1
theorem ownsRow_below' {e : TypeId} {k B n : Nat} {v : Value} {xs : List Value} {w w' : World} (h : w.ownsRow B e k v n xs) (hb : Below w.heap.size w w') : w'.ownsRow B e k v n xs := by
  refine ⟨h.1, ?_⟩
  rcases h.2 with h1 | ⟨g, cap, cur, rfl, h1, h2, h3⟩
  · exact .inl h1
  · exact .inr ⟨g, cap, cur, rfl, h1, (hb.block g (Array.getElem?_eq_some_iff.1 h2).1).trans h2, h3⟩
theorem grown_refl (w : World) (row : Option Nat) : w.grownBy w row := ⟨rfl, rfl, rfl, Nat.le_refl _, fun _ _ _ => rfl⟩
theorem grown_trans {a b c : World} {row : Option Nat} (h : a.grownBy b row) (k : b.grownBy c row) : a.grownBy c row :=
  ⟨k.os.trans h.os, k.tape.trans h.tape, k.output.trans h.output, Nat.le_trans h.size k.size, fun i hi hne => (k.block i (Nat.lt_of_lt_of_le hi h.size) hne).trans (h.block i hi hne)⟩
theorem grown_below {a b : World} (h : Below a.heap.size a b) (row : Option Nat) : a.grownBy b row := ⟨h.os, h.tape, h.output, h.size, fun i hi _ => h.block i hi⟩
theorem grown_setCell {a b : World} {g : Nat} (h : a.grownBy b (some g)) (o : Nat) (v : Value) : a.grownBy (b.setCell ⟨g, o, none⟩ v) (some g) :=
  grown_trans h ⟨rfl, rfl, rfl, by simp [World.setCell], fun i hi hne => Below.heap_setCell _ _ _ _ (fun e => hne (by rw [e]))⟩
theorem grown_alloc {a b : World} {row : Option Nat} (h : a.grownBy b row) (o : Obj) : a.grownBy (b.alloc o) row := grown_trans h (World.grownBy_alloc _ _ _)
/-- .. on a row that is the call's own: Below. -/
theorem below_of_grown {a b : World} {B g : Nat} (h : a.grownBy b (some g)) (hg : B ≤ g) (hB : B ≤ a.heap.size) : Below B a b :=
  ⟨h.os, h.tape, h.output, h.size, fun i hi => h.block i (by omega) (fun e => by cases e; omega)⟩
end Go.Proofs.YtpmfbmigdpmloaaGreatDoor
end
section
/-
  A block of rows of k cells each that a call owns: what its elements are; written in place, cut, cleared, sorted. Nothing is walked here. No condition but those written.
-/
set_option linter.unusedVariables false
set_option linter.unusedSimpArgs false
namespace Go.Proofs.YtpmfbmigdpmloaaGreatDoor
open Go.RowKit Go.Lib Go.Sort

theorem flat_get {k : Nat} : ∀ (xs : List (List Value)), (∀ x ∈ xs, x.length = k) → ∀ i j, j < k → xs.flatten[i * k + j]? = (xs[i]?).bind (·[j]?)
  | [], _, i, j, _ => by simp
  | x :: xs, h, 0, j, hj => by
    have hx := h x (by simp)
    rw [List.flatten_cons, Nat.zero_mul, Nat.zero_add, List.getElem?_append_left (by omega)]
    simp
  | x :: xs, h, i + 1, j, hj => by
    have hx := h x (by simp)
    rw [List.flatten_cons, Nat.add_mul, Nat.one_mul, List.getElem?_append_right (by omega), show i * k + k + j - x.length = i * k + j by omega, flat_get xs (fun y hy => h y (by simp [hy])) i j hj]
    simp
theorem flats_len {k : Nat} : ∀ (xs : List (List Value)), (∀ x ∈ xs, x.length = k) → xs.flatten.length = xs.length * k
  | [], _ => by simp
  | x :: xs, h => by
    rw [List.flatten_cons, List.length_append, flats_len xs (fun y hy => h y (by simp [hy])), h x (by simp), List.length_cons, Nat.add_mul]
    omega
theorem flat_set {k : Nat} : ∀ (xs : List (List Value)), (∀ x ∈ xs, x.length = k) → ∀ i j v, i < xs.length → j < k → (xs.modify i (·.set j v)).flatten = xs.flatten.set (i * k + j) v
  | [], _, i, j, v, h, _ => by simp at h
  | x :: xs, h, 0, j, v, _, hj => by
    have hx := h x (by simp)
    rw [List.modify_zero_cons, List.flatten_cons, List.flatten_cons, Nat.zero_mul, Nat.zero_add, List.set_append_left _ _ (by omega)]
  | x :: xs, h, i + 1, j, v, hi, hj => by
    have hx := h x (by simp)
    rw [List.modify_succ_cons, List.flatten_cons, List.flatten_cons, flat_set xs (fun y hy => h y (by simp [hy])) i j v (by simpa using hi) hj, Nat.add_mul, Nat.one_mul, List.set_append_right _ _ (by omega)]
    congr 2
    omega
/-- Block g has room for cap elements of k cells each; the first ones are xs. -/
def OwnL (T : TypeId) (k g cap : Nat) (xs : List (List Value)) (w : World) : Prop :=
  (∀ x ∈ xs, x.length = k) ∧ xs.length ≤ cap ∧ cap ≤ maxLen ∧ ∃ cur, w.heap[g]? = some (.cells cur T (0, 0)) ∧ cur.size = cap * k ∧ cur.toList.take (xs.length * k) = xs.flatten
section
variable {T : TypeId} {k g cap : Nat} {xs : List (List Value)} {w w' : World}
theorem OwnL.lt (h : OwnL T k g cap xs w) : g < w.heap.size := by
  obtain ⟨_, _, _, cur, hg, _⟩ := h
  exact (Array.getElem?_eq_some_iff.1 hg).1
theorem OwnL.len (h : OwnL T k g cap xs w) : xs.length ≤ cap := h.2.1
theorem OwnL.capLe (h : OwnL T k g cap xs w) : cap ≤ maxLen := h.2.2.1
theorem OwnL.of_block (h : OwnL T k g cap xs w) (hb : w'.heap[g]? = w.heap[g]?) : OwnL T k g cap xs w' := by
  obtain ⟨h1, h2, h3, cur, hg, h4⟩ := h
  exact ⟨h1, h2, h3, cur, hb.trans hg, h4⟩
theorem OwnL.below (h : OwnL T k g cap xs w) (hb : Below w.heap.size w w') : OwnL T k g cap xs w' := h.of_block (hb.block g h.lt)
theorem OwnL.drew (h : OwnL T k g cap xs w) : OwnL T k g cap xs w.drew := h
theorem OwnL.alloc (h : OwnL T k g cap xs w) (o : Obj) : OwnL T k g cap xs (w.alloc o) := h.of_block (Lib.alloc_old w o g h.lt)
theorem OwnL.kept (h : OwnL T k g cap xs w) {row : Option Nat} (hg : w.grownBy w' row) (hne : some g ≠ row) : OwnL T k g cap xs w' := h.of_block (hg.block g h.lt hne)
theorem OwnL.others (h : OwnL T k g cap xs w) {e : TypeId} (ho : OthersKept e none w w') (hne : T ≠ e) : OwnL T k g cap xs w' := by
  obtain ⟨h1, h2, h3, cur, hg, h4⟩ := h
  exact ⟨h1, h2, h3, cur, ho g _ hg (by simp) (fun c fz q => by cases q; exact hne rfl), h4⟩
theorem OwnL.cell (h : OwnL T k g cap xs w) {i j : Nat} {x : List Value} {v : Value} (hx : xs[i]? = some x) (hv : x[j]? = some v) : w.cell? ⟨g, i * k + j, none⟩ = some v := by
  obtain ⟨h1, h2, h3, cur, hg, h4, h5⟩ := h
  have hlx := h1 x (List.mem_of_getElem? hx)
  have hj : j < k := by rw [← hlx]; exact (List.getElem?_eq_some_iff.1 hv).1
  have hi : i < xs.length := (List.getElem?_eq_some_iff.1 hx).1
  have hb : i * k + j < xs.length * k := by
    have := Nat.mul_le_mul_right k (show i + 1 ≤ xs.length from hi)
    rw [Nat.add_mul] at this
    omega
  have e := flat_get xs h1 i j hj
  rw [hx, Option.bind_some, hv, ← h5, List.getElem?_take, if_pos hb] at e
  simp only [World.cell?, hg]
  simpa using e
theorem OwnL.free (h : OwnL T k g cap xs w) (o : Nat) : w.frozen? ⟨g, o, none⟩ = false := by
  obtain ⟨_, _, _, cur, hg, _⟩ := h
  exact Lib.frozen_of_heap hg o
/-- One cell of one element is written. -/
theorem OwnL.set (h : OwnL T k g cap xs w) {i j : Nat} (hi : i < xs.length) (hj : j < k) (v : Value) : OwnL T k g cap (xs.modify i (·.set j v)) (w.setCell ⟨g, i * k + j, none⟩ v) := by
  obtain ⟨h1, h2, h3, cur, hg, h4, h5⟩ := h
  refine ⟨?_, by simpa using h2, h3, cur.setIfInBounds (i * k + j) v, ?_, by simpa using h4, ?_⟩
  · intro x hx
    obtain ⟨m, hm⟩ := List.mem_iff_getElem?.1 hx
    rw [List.getElem?_modify] at hm
    cases hy : xs[m]? with
    | none => rw [hy] at hm; simp at hm
    | some y =>
      rw [hy] at hm
      have hl := h1 y (List.mem_of_getElem? hy)
      split at hm <;> (simp at hm; subst hm; simpa using hl)
  · simp [World.setCell, Array.getElem?_modify, hg]
  · rw [List.length_modify, Array.toList_setIfInBounds, List.take_set, h5, flat_set xs h1 i j v hi hj]
/-- Cut in front. -/
theorem OwnL.take (h : OwnL T k g cap xs w) (n : Nat) (hn : n ≤ xs.length) : OwnL T k g cap (xs.take n) w := by
  obtain ⟨h1, h2, h3, cur, hg, h4, h5⟩ := h
  have hl : (xs.take n).length = n := by rw [List.length_take]; omega
  refine ⟨fun x hx => h1 x (List.mem_of_mem_take hx), by omega, h3, cur, hg, h4, ?_⟩
  have e : (xs.take n).flatten = xs.flatten.take (n * k) := by
    apply List.ext_getElem?
    intro t
    rcases Nat.eq_zero_or_pos k with h0 | hk
    · subst h0
      have z : ∀ (ys : List (List Value)), (∀ y ∈ ys, y.length = 0) → ys.flatten = [] := fun ys hy => by
        rw [List.flatten_eq_nil_iff]; exact fun y hy' => List.eq_nil_of_length_eq_zero (hy y hy')
      rw [z _ (fun x hx => h1 x (List.mem_of_mem_take hx)), z _ h1]
      simp
    · have ht : t = t / k * k + t % k := by have := Nat.div_add_mod t k; rw [Nat.mul_comm] at this; omega
      have hm := Nat.mod_lt t hk
      rw [ht, flat_get _ (fun x hx => h1 x (List.mem_of_mem_take hx)) _ _ hm, List.getElem?_take, List.getElem?_take]
      by_cases c : t / k < n
      · rw [if_pos c, if_pos ?_, flat_get _ h1 _ _ hm]
        have := Nat.mul_le_mul_right k (show t / k + 1 ≤ n from c)
        rw [Nat.add_mul] at this
        omega
      · rw [if_neg c, if_neg ?_]
        · rfl
        · have := Nat.mul_le_mul_right k (show n ≤ t / k by omega)
          omega
  rw [hl, e, ← h5, List.take_take]
  congr 1
  have := Nat.mul_le_mul_right k hn
  omega
/-- As a row that the call owns. -/
theorem OwnL.row (h : OwnL T k g cap xs w) {B : Nat} (hB : B ≤ g) : w.ownsRow B T k (.slice (some ⟨g, 0, none⟩) xs.length cap) xs.length xs.flatten := by
  obtain ⟨h1, h2, h3, cur, hg, h4, h5⟩ := h
  exact ⟨flats_len xs h1, .inr ⟨g, cap, cur, rfl, hB, hg, h2, h3, h4, h5⟩⟩
theorem OwnL.of_row {B n : Nat} (h : w.ownsRow B T k (.slice (some ⟨g, 0, none⟩) n cap) n xs.flatten) (hn : xs.length = n) (h1 : ∀ x ∈ xs, x.length = k) : OwnL T k g cap xs w := by
  subst hn
  rcases h.2 with ⟨e0, _⟩ | ⟨g', cap', cur, e0, hb, hg, hn, hm, hs, ht⟩
  · cases e0
  · cases e0
    exact ⟨h1, hn, hm, cur, hg, hs, ht⟩
theorem own_slice {B n : Nat} {v : Value} {ys : List Value} (h : w.ownsRow B T k v n ys) : (v = .slice none 0 0 ∧ n = 0) ∨ ∃ g cap, v = .slice (some ⟨g, 0, none⟩) n cap ∧ B ≤ g := by
  rcases h.2 with h1 | ⟨g', cap', cur, e0, hb, _⟩
  · exact .inl h1
  · exact .inr ⟨g', cap', e0, hb⟩
/-- 'clear(s[i:])': the first i elements stay. -/
theorem OwnL.clear {P : Program} (h : OwnL T k g cap xs w) {i n : Nat} (hi : i ≤ xs.length) (hn : n = xs.length - i) (c : Nat) (t ty : TypeId) (z : Value) (ht : P.underlying t = some (.slice T)) (hv : (zeroValue T).run P w = .ok z w) (hzs : z.cells.size = k) (h1 : ∀ u ∈ z.cells.toList, u.oneCell' = true) :
    ∃ w', (Builtin.clear_ #[t] ty #[.slice (some ⟨g, i * k, none⟩) n c]).run P w = .ok (.tuple #[]) w' ∧ OwnL T k g cap (xs.take i) w' ∧ w.grownBy w' (some g) := by
  subst hn
  rcases Nat.eq_zero_or_pos (xs.length - i) with h0 | hp
  · rw [h0]
    refine ⟨w, ?_, h.take i hi, ⟨rfl, rfl, rfl, Nat.le_refl _, fun _ _ _ => rfl⟩⟩
    simp [Builtin.clear_, run_underlying ht]
  · obtain ⟨m, hm⟩ : ∃ m, xs.length - i = m + 1 := ⟨xs.length - i - 1, by omega⟩
    have hT := h.take i hi
    obtain ⟨g1, g2, g3, cur, hg, g4, g5⟩ := h
    have hlen : ((Builtin.zeroCells z.cells (m + 1)).toList).length = (m + 1) * k := by rw [Array.length_toList, Builtin.zeroCells]; simp [hzs]
    have hroom : i * k + (m + 1) * k ≤ cur.size := by
      rw [g4, ← Nat.add_mul]
      exact Nat.mul_le_mul_right k (by omega)
    have hst := run_storeCells_at P g (i * k) T (Builtin.zeroCells z.cells (m + 1)).toList 0 cur w hg (by rw [hlen, Nat.add_zero]; exact hroom) (by
      intro v hv'
      unfold Builtin.zeroCells at hv'
      simp only [Array.toList_map, List.mem_map, Array.toList_range, List.mem_range] at hv'
      obtain ⟨q, hq, rfl⟩ := hv'
      refine h1 _ ?_
      have : q % z.cells.size < z.cells.size := Nat.mod_lt _ (by
        rcases Nat.eq_zero_or_pos z.cells.size with e | e
        · rw [e, Nat.mul_zero] at hq; exact absurd hq (Nat.not_lt_zero _)
        · exact e)
      rw [getElem!_pos z.cells _ this]
      exact Array.getElem_mem_toList _)
    rw [hm]
    refine ⟨w.setRow g (cur.toList.take (i * k + 0) ++ (Builtin.zeroCells z.cells (m + 1)).toList ++ cur.toList.drop (i * k + 0 + (Builtin.zeroCells z.cells (m + 1)).toList.length)).toArray, ?_, ?_, ?_⟩
    · simp [Builtin.clear_, run_underlying ht, hv, hst]
    · obtain ⟨q1, q2, q3, cur', hg', q4, q5⟩ := hT
      rw [hg] at hg'
      cases hg'
      refine ⟨q1, q2, q3, _, setRow_heap w g cur _ T (0, 0) hg, ?_, ?_⟩
      · rw [List.size_toArray]
        simp only [List.length_append, List.length_take, List.length_drop, hlen, Array.length_toList]
        omega
      · have hl : (xs.take i).length = i := by rw [List.length_take]; omega
        rw [hl] at q5 ⊢
        rw [List.toList_toArray, List.append_assoc, List.take_append_of_le_length (by simp; omega), List.take_take]
        simpa using q5
    · exact ⟨rfl, rfl, rfl, by simp, fun j hj hne => setRow_other w g j _ (fun q => hne (by rw [q]))⟩
end
end Go.Proofs.YtpmfbmigdpmloaaGreatDoor
end
section
/-
  Words for counted rows in memory, at this program. Nothing is walked here. No condition but those written.
-/
set_option linter.unusedVariables false
set_option linter.unusedSimpArgs false
namespace Go.Proofs.YtpmfbmigdpmloaaGreatDoor
open Go.RowKit Go.Lib Go.Proofs

instance : Inhabited Dat := ⟨⟨0, false, 0, ⟨#[]⟩⟩⟩
/-- A counted row as it lies in memory: its row's slice, its count. -/
structure Cv where
  A : Option Addr
  k : Nat
  c : Nat
  n : Int
instance : Inhabited Cv := ⟨⟨none, 0, 0, 0⟩⟩
def cellsV (x : Cv) : List Value := [.slice x.A x.k x.c, .int .i64 x.n]
def keepV (x : Cv) : Bool := !(x.n == 0)
theorem cellsV_len (x : Cv) : (cellsV x).length = 2 := rfl
theorem cellsV_one (x : Cv) : ∀ v ∈ cellsV x, v.oneCell' = true := by
  intro v hv
  simp [cellsV] at hv
  rcases hv with rfl | rfl <;> rfl
abbrev OwnC (g cap : Nat) (xs : List Cv) (w : World) : Prop := OwnL 74 2 g cap (xs.map cellsV) w
theorem OwnC.cells {g cap : Nat} {xs : List Cv} {w : World} (h : OwnC g cap xs w) {i : Nat} {x : Cv} (hx : xs[i]? = some x) :
    w.cell? ⟨g, i * 2, none⟩ = some (.slice x.A x.k x.c) ∧ w.cell? ⟨g, i * 2 + 1, none⟩ = some (.int .i64 x.n) := by
  have e : (xs.map cellsV)[i]? = some (cellsV x) := by rw [List.getElem?_map, hx]; rfl
  exact ⟨h.cell e (j := 0) rfl, h.cell e (j := 1) rfl⟩
/-- An element is written over. -/
theorem OwnC.put {g cap : Nat} {xs : List Cv} {w : World} (h : OwnC g cap xs w) {i : Nat} (hi : i < xs.length) (x : Cv) :
    OwnC g cap (xs.set i x) ((w.setCell ⟨g, i * 2, none⟩ (.slice x.A x.k x.c)).setCell ⟨g, i * 2 + 1, none⟩ (.int .i64 x.n)) := by
  have h1 := OwnL.set h (i := i) (j := 0) (by simpa using hi) (by omega) (.slice x.A x.k x.c)
  have h2 := OwnL.set h1 (i := i) (j := 1) (by simpa using hi) (by omega) (.int .i64 x.n)
  have e : (((xs.map cellsV).modify i (·.set 0 (.slice x.A x.k x.c))).modify i (·.set 1 (.int .i64 x.n))) = (xs.set i x).map cellsV := by
    apply List.ext_getElem?
    intro j
    rw [List.getElem?_modify, List.getElem?_modify, List.getElem?_map, List.getElem?_map, List.getElem?_set]
    cases hj : xs[j]? with
    | none =>
      have : xs.length ≤ j := List.getElem?_eq_none_iff.1 hj
      rw [if_neg (by omega)]
      simp
    | some y =>
      by_cases hij : i = j
      · subst hij
        simp [hi, cellsV]
      · simp [hij]
  rw [e] at h2
  exact h2
abbrev Cd := Cv × List Dat
def valD (d : Cd) : Value := .slice d.1.A d.1.k d.1.c
theorem RowV.nil (w : World) : RowV w (.slice none 0 0) [] := ⟨rfl, none, 0, rfl, Nat.le_refl _, by decide, fun _ => rfl, fun h => absurd h (by simp)⟩
end Go.Proofs.YtpmfbmigdpmloaaGreatDoor
end
section
/-
  A map from texts to places that a call owns: which keys it has, and at which place each stands. Nothing is walked here. No condition but those written.
-/
set_option linter.unusedVariables false
set_option linter.unusedSimpArgs false
namespace Go.Proofs.YtpmfbmigdpmloaaGreatDoor
open Go.RowKit Go.Lib
open Go.Maps (has IsMap)

/-- What the map answers of a key: the place at which it stands among the keys, and whether it does. -/
def lookI (keys : List (List UInt8)) (key : List UInt8) : Int × Bool := if key ∈ keys then ((keys.idxOf key : Nat), true) else (0, false)
/-- Block b is a map that has just these keys, each with its place. -/
def MpI (b : Nat) (keys : List (List UInt8)) (w : World) : Prop :=
  ∃ D : DataW Unit, w.ownsMap Tryz.prog 9 (plainElem Tryz.prog 3) b keys.length D ∧ IsMap D ∧
    ∀ key : List UInt8, (key ∈ keys → has D (.string key) = true ∧ ∀ z, D.atKey (.string key) z = .lit (.int .i64 (keys.idxOf key : Nat))) ∧ (key ∉ keys → has D (.string key) = false)
theorem MpI.lt {b : Nat} {keys : List (List UInt8)} {w : World} (h : MpI b keys w) : b < w.heap.size := by
  obtain ⟨D, h1, _⟩ := h
  exact h1.lt
theorem MpI.kept {b : Nat} {keys : List (List UInt8)} {w w' : World} {row : Option Nat} (h : MpI b keys w) (hg : w.grownBy w' row) (hne : some b ≠ row) : MpI b keys w' := by
  obtain ⟨D, h1, h2⟩ := h
  exact ⟨D, h1.kept hg hne, h2⟩
theorem MpI.alloc {b : Nat} {keys : List (List UInt8)} {w : World} (h : MpI b keys w) (o : Obj) : MpI b keys (w.alloc o) := by
  obtain ⟨D, h1, h2⟩ := h
  exact ⟨D, h1.alloc o, h2⟩
theorem MpI.drew {b : Nat} {keys : List (List UInt8)} {w : World} (h : MpI b keys w) : MpI b keys w.drew := h
theorem MpI.below {b : Nat} {keys : List (List UInt8)} {w w' : World} (h : MpI b keys w) (hb : Below w.heap.size w w') : MpI b keys w' := by
  obtain ⟨D, h1, h2⟩ := h
  exact ⟨D, h1.kept (row := none) ⟨hb.os, hb.tape, hb.output, hb.size, fun k hk _ => hb.block k hk⟩ (by simp), h2⟩
theorem MpI.setCell {b : Nat} {keys : List (List UInt8)} {w : World} (h : MpI b keys w) {a : Addr} (ha : b ≠ a.block) (u : Value) : MpI b keys (w.setCell a u) := by
  obtain ⟨D, h1, h2⟩ := h
  exact ⟨D, h1.setCell ha u, h2⟩
/-- While rows of some kind are written. -/
theorem MpI.others {b : Nat} {keys : List (List UInt8)} {w w' : World} {e : TypeId} (h : MpI b keys w) (ho : OthersKept e none w w') : MpI b keys w' := by
  obtain ⟨D, ⟨es, clock, h1, h2⟩, h3⟩ := h
  exact ⟨D, ⟨es, clock, ho b _ h1 (by simp) (fun c fz q => by cases q), h2⟩, h3⟩
/-- It is no row's block. -/
theorem MpI.noRow {b B n k : Nat} {keys : List (List UInt8)} {w : World} {e : TypeId} {v : Value} {xs : List Value} (h : MpI b keys w) (h' : w.ownsRow B e k v n xs) : some b ≠ v.ownBlock := by
  obtain ⟨D, ⟨es, clock, h1, h2⟩, h3⟩ := h
  rcases h'.2 with ⟨rfl, _⟩ | ⟨g, cap, cur, rfl, _, hg, _⟩
  · simp [Value.ownBlock]
  · intro q
    have : b = g := by simpa [Value.ownBlock] using q
    subst this
    rw [h1] at hg
    cases hg
theorem MpI.made (w : World) : MpI w.heap.size [] (w.alloc (.map #[] 0)) :=
  ⟨_, World.ownsMap_made w _ _ _, Maps.isMap_empty, fun key => ⟨fun h => (by cases h), fun _ => rfl⟩⟩
theorem key_lit (l : List UInt8) : WideAt.IsKeyLit (.string l) := trivial
theorem key_law : Maps.Keyed Tryz.prog 9 := Maps.string_keyed Tryz.underlying9
theorem zero_int (w : World) : (zeroValue 3).run Tryz.prog w = .ok (.int .i64 0) w := by kernel_rfl
theorem key_of (s : ByteArray) (h : s.size ≤ 140737488355328) : keyOf Tryz.prog 9 (.string s) = some (.string s.data.toList) := Go.WideMaps.keyOf_string_mk Tryz.underlying9 (by unfold maxLen; omega)
section
variable {ops : Array Oper} {rest : List Oper} {o : Oper} {a : Act} {Q : Exit → Act → World → Prop}
/-- 'v, ok := m[k]'. -/
theorem wpList_mpi_look (w : World) (hg : o.guard = none) (m x : Operand) (hop : o.op = Op.lookup 107 m x true) (b : Nat) (keys : List (List UInt8)) (hm : a.eval m = .map (some b)) (hown : MpI b keys w)
    (s : ByteArray) (hx : a.eval x = .string s) (hs : s.size ≤ 140737488355328)
    (hK : wpList Tryz.prog ops Q rest (a.put o.dst (.tuple #[.int .i64 (lookI keys s.data.toList).1, .bool (lookI keys s.data.toList).2])) w) : wpList Tryz.prog ops Q (o :: rest) a w := by
  obtain ⟨D, h1, _, h2⟩ := hown
  refine wpList_lookup_own_ok_int w hg m x 107 hop 9 3 .i64 key_law Tryz.underlying107 Tryz.underlying3 (zero_int w) b _ D hm h1 _ _ hx (key_of s hs) ?_
  intro c hat hwc
  obtain ⟨h3, h4⟩ := h2 s.data.toList
  unfold lookI at hK
  by_cases hk : s.data.toList ∈ keys
  · obtain ⟨h5, h6⟩ := h3 hk
    rw [if_pos hk] at hK
    rw [h6] at hat
    obtain rfl : ((keys.idxOf s.data.toList : Nat) : Int) = c := by simpa using hat
    rw [h5]
    exact hK
  · rw [if_neg hk] at hK
    rw [Maps.atKey_of_not_has (h4 hk)] at hat
    obtain rfl : (0 : Int) = c := by simpa using hat
    rw [h4 hk]
    exact hK
/-- 'm[k] = len(keys)', of a key that is not there. -/
theorem wpList_mpi_put (w : World) (hg : o.guard = none) (m x v : Operand) (hop : o.op = Op.mapUpdate 107 m x v) (b : Nat) (keys : List (List UInt8)) (hm : a.eval m = .map (some b)) (hown : MpI b keys w)
    (s : ByteArray) (hx : a.eval x = .string s) (hs : s.size ≤ 140737488355328) (hnew : s.data.toList ∉ keys) (hv : a.eval v = .int .i64 (keys.length : Nat)) (hn : keys.length ≤ 1099511627776)
    (hK : ∀ w', MpI b (keys ++ [s.data.toList]) w' → w.grownBy w' (some b) → wpList Tryz.prog ops Q rest (a.put o.dst undef) w') : wpList Tryz.prog ops Q (o :: rest) a w := by
  obtain ⟨D, h1, hI, h2⟩ := hown
  refine wpList_mapUpdate_own w hg m x v 107 hop 9 3 key_law Tryz.underlying107 _ b _ D hm h1 (by unfold maxLen; omega) _ _ _ hx hv (key_of s hs) (.lit (.int .i64 (keys.length : Nat))) [] (plainElem_int Tryz.underlying3 ?_) ?_
  · simp [Lit.wf, IntKind.min, IntKind.max, IntKind.signed, IntKind.bits]
    try omega
  · intro w' h3 h4
    refine hK w' ⟨_, by simpa using h3, hI.put _ _, fun key => ?_⟩ h4
    by_cases hk : key = s.data.toList
    · subst hk
      refine ⟨fun _ => ⟨Maps.has_put_same hI (key_lit _) _, fun z => ?_⟩, fun q => absurd (by simp) q⟩
      rw [Maps.atKey_put_same hI (key_lit _), List.idxOf_append, if_neg hnew]
      simp
    · have hne : (Lit.string key) ≠ .string s.data.toList := fun q => hk (by injection q)
      obtain ⟨h5, h6⟩ := h2 key
      refine ⟨fun hm => ?_, fun hm => ?_⟩
      · have hm' : key ∈ keys := by simpa [hk] using hm
        obtain ⟨h7, h8⟩ := h5 hm'
        refine ⟨by rw [Maps.has_put_other hne]; exact h7, fun z => ?_⟩
        rw [Maps.atKey_put_other hne, h8, List.idxOf_append, if_pos hm']
      · rw [Maps.has_put_other hne]
        exact h6 (fun q => hm (by simp [q]))
end
end Go.Proofs.YtpmfbmigdpmloaaGreatDoor
end
section
/-
  Plain mathematics of bags of rows: same rows put together, those of count 0 left out, in the order of rows. No condition but those written.
-/
set_option linter.unusedVariables false
set_option linter.unusedSimpArgs false
namespace Go.Proofs.YtpmfbmigdpmloaaGreatDoor
open Go.RowKit Go.Lib

/-- A row, how many times it is there. -/
abbrev Cn := List Dat × Int
def keyN (x : Cn) : List UInt8 := keyR x.1
/-- Where a key stands, or the end. -/
def placeN (keys : List (List UInt8)) (key : List UInt8) : Nat := if key ∈ keys then keys.idxOf key else keys.length
/-- With the row, if it is not there yet, 0 times. -/
def withN (acc : List Cn) (r : List Dat) : List Cn := if keyR r ∈ acc.map keyN then acc else acc ++ [(r, 0)]
/-- A row more, so many times. -/
def addN (acc : List Cn) (x : Cn) : List Cn := (withN acc x.1).modify (placeN (acc.map keyN) (keyN x)) (fun y => (y.1, wrap64 (y.2 + x.2)))
def sumN (l : List Cn) : List Cn := l.foldl addN []
theorem sumN_snoc (l : List Cn) (x : Cn) : sumN (l ++ [x]) = addN (sumN l) x := by simp [sumN, List.foldl_append]
theorem placeN_lt (acc : List Cn) (r : List Dat) : placeN (acc.map keyN) (keyR r) < (withN acc r).length := by
  unfold placeN withN
  by_cases h : keyR r ∈ acc.map keyN
  · rw [if_pos h, if_pos h]
    have := List.idxOf_lt_length_of_mem h
    simpa using this
  · rw [if_neg h, if_neg h]
    simp
theorem keys_modify (l : List Cn) (i : Nat) (f : Int → Int) : (l.modify i (fun y => (y.1, f y.2))).map keyN = l.map keyN := by
  apply List.ext_getElem?
  intro j
  rw [List.getElem?_map, List.getElem?_map, List.getElem?_modify]
  cases l[j]? with
  | none => simp
  | some y => by_cases h : i = j <;> simp [h, keyN]
theorem keys_with (acc : List Cn) (r : List Dat) : (withN acc r).map keyN = if keyR r ∈ acc.map keyN then acc.map keyN else acc.map keyN ++ [keyR r] := by
  unfold withN
  by_cases h : keyR r ∈ acc.map keyN
  · rw [if_pos h, if_pos h]
  · rw [if_neg h, if_neg h]
    simp [keyN]
theorem keys_add (acc : List Cn) (x : Cn) : (addN acc x).map keyN = (withN acc x.1).map keyN := keys_modify _ _ (fun n => wrap64 (n + x.2))
theorem keys_apart : ∀ (l acc : List Cn), (acc.map keyN).Nodup → ((l.foldl addN acc).map keyN).Nodup
  | [], acc, h => h
  | x :: l, acc, h => by
    refine keys_apart l _ ?_
    rw [keys_add, keys_with]
    by_cases hm : keyR x.1 ∈ acc.map keyN
    · rw [if_pos hm]; exact h
    · rw [if_neg hm, List.nodup_append]
      exact ⟨h, by simp, fun a ha b hb => by simp at hb; subst hb; exact fun q => hm (q ▸ ha)⟩
theorem add_len (acc : List Cn) (x : Cn) : (addN acc x).length ≤ acc.length + 1 := by
  unfold addN withN
  rw [List.length_modify]
  split
  · omega
  · simp
theorem sum_len (l : List Cn) : (sumN l).length ≤ l.length := by
  have h : ∀ (l acc : List Cn), (l.foldl addN acc).length ≤ acc.length + l.length := by
    intro l
    induction l with
    | nil => intro acc; simp
    | cons x l ih =>
      intro acc
      have h1 := ih (addN acc x)
      have h2 := add_len acc x
      simp only [List.foldl_cons, List.length_cons]
      omega
  simpa [sumN] using h l []
/-- Each row that is told was handed in. -/
theorem sum_rows (l : List Cn) : ∀ x ∈ sumN l, ∃ y ∈ l, x.1 = y.1 := by
  have h : ∀ (l acc : List Cn), ∀ x ∈ l.foldl addN acc, (∃ y ∈ acc, x.1 = y.1) ∨ ∃ y ∈ l, x.1 = y.1 := by
    intro l
    induction l with
    | nil => intro acc x hx; exact .inl ⟨x, hx, rfl⟩
    | cons z l ih =>
      intro acc x hx
      rcases ih _ x hx with ⟨y, hy, e⟩ | ⟨y, hy, e⟩
      · have : y.1 ∈ (withN acc z.1).map (·.1) := by
          have h1 : ((addN acc z).map (·.1)) = (withN acc z.1).map (·.1) := by
            unfold addN
            apply List.ext_getElem?
            intro j
            rw [List.getElem?_map, List.getElem?_map, List.getElem?_modify]
            cases (withN acc z.1)[j]? with
            | none => simp
            | some y => by_cases h : placeN (acc.map keyN) (keyN z) = j <;> simp [h]
          rw [← h1]
          exact List.mem_map_of_mem hy
        unfold withN at this
        split at this
        · obtain ⟨u, hu, e2⟩ := List.mem_map.1 this
          exact .inl ⟨u, hu, e.trans e2.symm⟩
        · rw [List.map_append, List.mem_append] at this
          rcases this with h2 | h2
          · obtain ⟨u, hu, e2⟩ := List.mem_map.1 h2
            exact .inl ⟨u, hu, e.trans e2.symm⟩
          · simp at h2
            exact .inr ⟨z, by simp, e.trans h2⟩
      · exact .inr ⟨y, by simp [hy], e⟩
  intro x hx
  rcases h l [] x hx with ⟨y, hy, _⟩ | h
  · cases hy
  · exact h
/-- What Sum tells. -/
def SumOf (l r : List Cn) : Prop := r.Perm ((sumN l).filter (fun x => x.2 != 0)) ∧ r.Pairwise (fun a b => cmpR a.1 b.1 = -1)
def WideN (l : List Cn) : Prop := ∀ x ∈ l, ∀ d ∈ x.1, Wide d
theorem sum_wide {l : List Cn} (h : WideN l) : WideN (sumN l) := fun x hx => by
  obtain ⟨y, hy, e⟩ := sum_rows l x hx
  rw [e]
  exact h y hy
/-- In order, and of other rows each: strictly in order. -/
theorem sum_of {l r : List Cn} (hl : WideN l) (hp : r.Perm ((sumN l).filter (fun x => x.2 != 0))) (hs : r.Pairwise (fun a b => ¬ cmpR b.1 a.1 < 0)) : SumOf l r := by
  refine ⟨hp, ?_⟩
  have hn : ((sumN l).map keyN).Nodup := keys_apart l [] (by simp)
  have h1 : ((sumN l).filter (fun x => x.2 != 0)).Pairwise (fun a b => keyN a ≠ keyN b) := by
    have : (sumN l).Pairwise (fun a b => keyN a ≠ keyN b) := List.pairwise_map.1 hn
    exact this.filter _
  have h2 : r.Pairwise (fun a b => keyN a ≠ keyN b) := (hp.symm.pairwise_iff (fun {a b} (h : keyN a ≠ keyN b) => h.symm)).1 h1
  have hw : WideN r := fun x hx => sum_wide hl x (List.mem_filter.1 (hp.mem_iff.1 hx)).1
  have h3 : r.Pairwise (fun a b => a ∈ r ∧ b ∈ r ∧ ¬ cmpR b.1 a.1 < 0 ∧ keyN a ≠ keyN b) := by
    refine List.Pairwise.imp_of_mem ?_ (hs.and h2)
    intro a b ha hb h
    exact ⟨ha, hb, h.1, h.2⟩
  refine h3.imp ?_
  rintro a b ⟨ha, hb, h4, h5⟩
  have h6 : cmpR a.1 b.1 ≠ 0 := fun q => h5 ((keyR_same a.1 b.1 (hw a ha) (hw b hb)).2 q)
  have h7 := cmpR_turn b.1 a.1
  have h8 := cmpR_range a.1 b.1
  omega
end Go.Proofs.YtpmfbmigdpmloaaGreatDoor
end
section
/-
  Words and laws for row.Sum, at this program: counted rows in memory, its key as a text, one more counted row behind those that the call owns. Conditions: those written.
-/
set_option linter.unusedVariables false
set_option linter.unusedSimpArgs false
namespace Go.Proofs.YtpmfbmigdpmloaaGreatDoor
open Go.RowKit Go.Lib Go.Proofs

def cnD (d : Cd) : Cn := (d.2, d.1.n)
def cellsC (ds : List Cd) : List Value := (ds.map (fun d => cellsV d.1)).flatten
theorem cellsC_len (ds : List Cd) : (cellsC ds).length = ds.length * 2 := by
  unfold cellsC
  rw [flats_len (k := 2) _ (fun x hx => by obtain ⟨y, _, rfl⟩ := List.mem_map.1 hx; rfl), List.length_map]
/-- The slice value v holds these counted rows, each of which reads as its row. -/
def CtsV (w : World) (v : Value) (ds : List Cd) : Prop := SlV w 2 v ds.length (cellsC ds) ∧ ∀ d ∈ ds, RowV w (valD d) d.2
theorem CtsV.below {w w' : World} {v : Value} {ds : List Cd} (h : CtsV w v ds) (hb : Below w.heap.size w w') : CtsV w' v ds := ⟨h.1.below hb, fun d hd => (h.2 d hd).below hb⟩
theorem CtsV.form {w : World} {v : Value} {ds : List Cd} (h : CtsV w v ds) : ∃ A c, v = .slice A ds.length c ∧ ds.length ≤ 9223372036854775807 := by
  obtain ⟨⟨_, A, c, rfl, h2, h3, _⟩, _⟩ := h
  exact ⟨A, c, rfl, by omega⟩
theorem CtsV.at {w : World} {A : Option Addr} {c : Nat} {ds : List Cd} (h : CtsV w (.slice A ds.length c) ds) {i : Nat} {d : Cd} (hd : ds[i]? = some d) :
    ∃ ad : Addr, A = some ad ∧ (ad.add (i * 2)).block < w.heap.size ∧ w.cell? (ad.add (i * 2)) = some (valD d) ∧ w.cell? ⟨(ad.add (i * 2)).block, (ad.add (i * 2)).off + 1, none⟩ = some (.int .i64 d.1.n) := by
  obtain ⟨⟨_, A', c', e, _, _, _, h4⟩, _⟩ := h
  obtain ⟨rfl, _, rfl⟩ := Value.slice.inj e
  have hi : i < ds.length := (List.getElem?_eq_some_iff.1 hd).1
  obtain ⟨ad, rfl, h5, h6⟩ := h4 (by omega)
  have hk : ∀ x ∈ ds.map (fun d => cellsV d.1), x.length = 2 := fun x hx => by obtain ⟨y, _, rfl⟩ := List.mem_map.1 hx; rfl
  have g (j : Nat) (hj : j < 2) : (cellsC ds)[i * 2 + j]? = (cellsV d.1)[j]? := by
    unfold cellsC
    rw [flat_get _ hk i j hj, List.getElem?_map, hd]
    rfl
  refine ⟨ad, rfl, by rw [add_block]; exact h5, h6 (i * 2) _ ((g 0 (by omega)).trans rfl), ?_⟩
  rw [← add_more ad (i * 2) 1 (by omega)]
  exact h6 (i * 2 + 1) _ ((g 1 (by omega)).trans rfl)
/-- The slice v, a row of the call's own, holds these. -/
abbrev OwnCs (B : Nat) (v : Value) (ds : List Cd) (w : World) : Prop := w.ownsRow B 74 2 v ds.length (cellsC ds)
theorem OwnCs.slice {B : Nat} {v : Value} {ds : List Cd} {w : World} (h : OwnCs B v ds w) : (v = .slice none 0 0 ∧ ds = []) ∨ ∃ g cap, v = .slice (some ⟨g, 0, none⟩) ds.length cap ∧ B ≤ g ∧ OwnC g cap (ds.map (·.1)) w := by
  rcases own_slice h with ⟨h1, h2⟩ | ⟨g, cap, rfl, hB⟩
  · exact .inl ⟨h1, List.eq_nil_of_length_eq_zero h2⟩
  · refine .inr ⟨g, cap, rfl, hB, ?_⟩
    have e : (ds.map (·.1)).map cellsV = ds.map (fun d => cellsV d.1) := by rw [List.map_map]; rfl
    unfold OwnC
    rw [e]
    exact OwnL.of_row h (by simp) (fun x hx => by obtain ⟨y, _, rfl⟩ := List.mem_map.1 hx; rfl)
theorem OwnCs.of {B g cap : Nat} {ds : List Cd} {w : World} (h : OwnC g cap (ds.map (·.1)) w) (hB : B ≤ g) : OwnCs B (.slice (some ⟨g, 0, none⟩) ds.length cap) ds w := by
  have := OwnL.row h hB
  have e : (ds.map (·.1)).map cellsV = ds.map (fun d => cellsV d.1) := by rw [List.map_map]; rfl
  rw [e] at this
  simpa [OwnCs, cellsC] using this
theorem OwnCs.nil (B : Nat) (w : World) : OwnCs B (.slice none 0 0) [] w := World.ownsRow_nil w B _ _
theorem OwnCs.len {B : Nat} {v : Value} {ds : List Cd} {w : World} (h : OwnCs B v ds w) : ∃ A c, v = .slice A ds.length c := by
  rcases h.slice with ⟨rfl, rfl⟩ | ⟨g, cap, rfl, _⟩
  · exact ⟨none, 0, rfl⟩
  · exact ⟨_, _, rfl⟩
abbrev OwnU (B : Nat) (v : Value) (l : List UInt8) (w : World) : Prop := w.ownsRow B 5 1 v l.length (Lib.byteCells l)
/-- string(key) -/
theorem conv_key {B : Nat} {v : Value} {l : List UInt8} {w : World} (h : OwnU B v l w) : (convert 31 9 v).run Tryz.prog w = .ok (.string ⟨l.toArray⟩) w := by
  rcases h.2 with ⟨rfl, h0⟩ | ⟨g, cap, cur, rfl, _⟩
  · have : l = [] := List.eq_nil_of_length_eq_zero h0
    subst this
    have h1 := run_convert_bytes_string (P := Tryz.prog) w 31 9 5 none 0 0 Tryz.underlying31 Tryz.underlying5 Tryz.underlying9
    rw [h1]
    rfl
  · refine run_convert_bytes_back (P := Tryz.prog) w 31 9 5 ⟨g, 0, none⟩ cap l Tryz.underlying31 Tryz.underlying5 Tryz.underlying9 (fun j hj => World.ownsRow.cells h (g := g) rfl j _ ?_)
    simp [Lib.byteCells, hj]
theorem info_ct : ∃ i, Tryz.prog.info? 74 = some i ∧ i.zero = some (.agg #[.slice none 0 0, .int .i64 0]) ∧ i.size = 2 ∧ i.bytes ≤ 64 := by
  have h : (Tryz.prog.info? 74).map (fun i => (i.zero, i.size, decide (i.bytes ≤ 64))) = some (some (.agg #[.slice none 0 0, .int .i64 0]), 2, true) := by kernel_rfl
  cases hi : Tryz.prog.info? 74 with
  | none => rw [hi] at h; cases h
  | some i => rw [hi] at h; simp at h; exact ⟨i, rfl, h.1, h.2.1, h.2.2⟩
section
/-- 'out = append(out, Counted{..})', the one new one in the block that the statement has just laid. -/
theorem wpList_count {ops : Array Oper} {rest : List Oper} {o : Oper} {a : Act} {Q : Exit → Act → World → Prop} (hgd : o.guard = none) (s x : Operand)
    (ho : o.op = .call { callee := .builtin .append, args := #[s, x], argTypes := #[71, 71] })
    (B : Nat) (v : Value) (ds : List Cd) (w0 : World) (d : Cd) (cs : Array Value) (hcs : cs = (cellsV d.1).toArray) (hb : OwnCs B v ds w0) (hs : a.eval s = v)
    (hx : a.eval x = .slice (some ⟨w0.heap.size, 0, none⟩) 1 1) (hlen : ds.length ≤ 1099511627776) (hB : B ≤ w0.heap.size)
    (h : ∀ v' w', OwnCs B v' (ds ++ [d]) w' → (v = .slice none 0 0 → OwnCs w0.heap.size v' (ds ++ [d]) w') → w0.grownBy w' v.ownBlock → wpList Tryz.prog ops Q rest (a.put o.dst v') w') : wpList Tryz.prog ops Q (o :: rest) a (w0.alloc (.cells cs 74)) := by
  subst hcs
  obtain ⟨i, hi, hz, hsz, hby⟩ := info_ct
  have hsx : ∀ j u, (cellsV d.1)[j]? = some u → (w0.alloc (.cells (cellsV d.1).toArray 74)).cell? ((⟨w0.heap.size, 0, none⟩ : Addr).add j) = some u := by
    intro j u hj
    have := cell_new w0 (cellsV d.1).toArray 74 j
    rw [show (⟨w0.heap.size, 0, none⟩ : Addr).add j = ⟨w0.heap.size, j, none⟩ by unfold Addr.add; split <;> simp_all]
    rw [this]
    simpa using hj
  have hby' : (ds.length + 1) * i.bytes ≤ 140737488355328 := by
    have := Nat.mul_le_mul (show ds.length + 1 ≤ 1099511627777 by omega) hby
    omega
  have hup : ∀ (B' : Nat) (v' : Value) (w' : World), w'.ownsRow B' 74 2 v' (ds.length + 1) (cellsC ds ++ cellsV d.1) → OwnCs B' v' (ds ++ [d]) w' := by
    intro B' v' w' ho'
    unfold OwnCs cellsC at *
    rw [List.length_append, List.map_append, List.flatten_append]
    simpa using ho'
  by_cases hv : v = .slice none 0 0
  · subst hv
    have h0 : ds.length = 0 := by
      rcases hb.slice with ⟨_, rfl⟩ | ⟨g, cap, e, _⟩
      · rfl
      · cases e
    have hb0 : (w0.alloc (.cells (cellsV d.1).toArray 74)).ownsRow w0.heap.size 74 2 (.slice none 0 0) ds.length (cellsC ds) := by
      rw [h0, List.eq_nil_of_length_eq_zero h0]
      exact World.ownsRow_nil _ _ _ _
    refine wpList_append_own _ hgd s x 71 ho w0.heap.size 74 i _ 2 i.bytes Tryz.underlying71 hi hz hsz rfl rfl (by decide) (.slice none 0 0) ds.length (cellsC ds) hs hb0 ⟨w0.heap.size, 0, none⟩ 1 1 (cellsV d.1) hx rfl hsx (cellsV_one _) (by unfold maxLen; omega) hby' (by rw [World.size_alloc]; omega) ?_
    intro v' w' ho' hg _
    have h1 := hup _ _ _ ho'
    refine h v' w' ⟨h1.1, ?_⟩ (fun _ => h1) (grown_trans (World.grownBy_alloc _ _ _) hg)
    rcases h1.2 with h2 | ⟨g, cap, cur, e, h2, h3⟩
    · exact .inl h2
    · exact .inr ⟨g, cap, cur, e, Nat.le_trans hB h2, h3⟩
  · have hb' := hb.alloc (.cells (cellsV d.1).toArray 74)
    refine wpList_append_own _ hgd s x 71 ho B 74 i _ 2 i.bytes Tryz.underlying71 hi hz hsz rfl rfl (by decide) v ds.length (cellsC ds) hs hb' ⟨w0.heap.size, 0, none⟩ 1 1 (cellsV d.1) hx rfl hsx (cellsV_one _) (by unfold maxLen; omega) hby' (by rw [World.size_alloc]; omega) ?_
    intro v' w' ho' hg _
    exact h v' w' (hup _ _ _ ho') (fun q => absurd q hv) (grown_trans (World.grownBy_alloc _ _ _) hg)
end
end Go.Proofs.YtpmfbmigdpmloaaGreatDoor
end
