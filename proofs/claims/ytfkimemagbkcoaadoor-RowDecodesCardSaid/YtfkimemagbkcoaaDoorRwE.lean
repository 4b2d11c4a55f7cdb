/-
  The encodings of data behind bytes that the caller owns, at this program. Conditions: those written.
-/
import Derived.Test.YtfkimemagbkcoaaDoorRowV
import Derived.Test.YtfkimemagbkcoaaDoorOwnK
import Derived.Deep.RegionHeld3
set_option linter.unusedVariables false
set_option linter.unusedSimpArgs false
namespace Go.Proofs.YtfkimemagbkcoaaDoor
open Go.RowKit Go.Lib

/-- The bytes l lie behind the slice v, a row of the call's own, since the world W0. -/
abbrev OwnB (B : Nat) (v : Value) (l : List UInt8) (W0 w : World) : Prop := OwnK 5 1 B v l.length (Lib.byteCells l) W0 w
theorem bytes_one (l : List UInt8) : ∀ u ∈ Lib.byteCells l, u.oneCell' = true := by
  intro u hu
  simp [Lib.byteCells] at hu
  obtain ⟨b, _, rfl⟩ := hu
  rfl
theorem info_u8 : ∃ i, Tryd.prog.info? 5 = some i ∧ i.zero = some (.int .u8 0) ∧ i.size = 1 ∧ i.bytes = 1 := by
  have h : (Tryd.prog.info? 5).map (fun i => (i.zero, i.size, i.bytes)) = some (some (.int .u8 0), 1, 1) := by kernel_rfl
  cases hi : Tryd.prog.info? 5 with
  | none => rw [hi] at h; cases h
  | some i => rw [hi] at h; simp at h; exact ⟨i, rfl, h.1, h.2.1, h.2.2⟩
section
/-- 'v = append(v, ..)' of some bytes that stand in the block that the statement has just laid. -/
theorem wpList_bytes {ops : Array Oper} {rest : List Oper} {o : Oper} {a : Act} {Q : Exit → Act → World → Prop} (hgd : o.guard = none) (s x : Operand)
    (ho : o.op = .call { callee := .builtin .append, args := #[s, x], argTypes := #[22, 22] })
    (B : Nat) (v : Value) (l : List UInt8) (W0 w0 : World) (m : Nat) (new : List UInt8) (cs : Array Value) (hcs : cs = (Lib.byteCells new).toArray) (hb : OwnB B v l W0 w0) (hs : a.eval s = v)
    (hx : a.eval x = .slice (some ⟨w0.heap.size, 0, none⟩) m m) (hl : new.length = m) (hlen : l.length + m ≤ 140737488355328)
    (h : ∀ v' w', OwnB B v' (l ++ new) W0 w' → wpList Tryd.prog ops Q rest (a.put o.dst v') w') : wpList Tryd.prog ops Q (o :: rest) a (w0.alloc (.cells cs 5)) := by
  subst hcs
  obtain ⟨i, hi, hz, hsz, hby⟩ := info_u8
  refine wpList_appendK hgd s x 22 ho B 5 i (.int .u8 0) 1 1 Tryd.underlying22 hi hz hsz hby rfl (by decide) v l.length (Lib.byteCells l) hs W0 w0 m (Lib.byteCells new) hb hx (by rw [Lib.byteCells_length, hl, Nat.mul_one]) (bytes_one new) (by omega) (by omega) ?_
  intro v' w' h'
  refine h v' w' ?_
  unfold OwnB
  rw [List.length_append, hl, Lib.byteCells_append]
  exact h'
end
/-- What the rounds hold: what is written, what is left. -/
def RelI (l : List UInt8) (m : Nat) (B : Nat) (w0 : World) (s0 s6 : Value) (wr : World) : Prop :=
  ∃ p : Nat, p ≤ 8 ∧ s6 = .int .i64 (56 - 8 * (p : Int)) ∧ OwnB B s0 (l ++ (be 8 m).take p) w0 wr
theorem be_at (m p q : Nat) (hp : p < 8) (hq : 256 ^ (7 - p) = q) : (be 8 m).take (p + 1) = (be 8 m).take p ++ [UInt8.ofNat (m / q)] := by
  subst hq
  have : p = 0 ∨ p = 1 ∨ p = 2 ∨ p = 3 ∨ p = 4 ∨ p = 5 ∨ p = 6 ∨ p = 7 := by omega
  rcases this with rfl | rfl | rfl | rfl | rfl | rfl | rfl | rfl <;> rfl
theorem byte_of (z : Int) (k : Nat) (h : z = ((k % 256 : Nat) : Int)) : (#[Value.int .u8 z] : Array Value) = (Lib.byteCells [UInt8.ofNat k]).toArray := by
  subst h
  simp [Lib.byteCells]
set_option maxHeartbeats 4000000 in
set_option maxRecDepth 1000000 in
theorem appendInt_any (B : Nat) (v : Value) (l : List UInt8) (n : Int) (w : World) (h : OwnB B v l w w) (hn : -9223372036854775808 ≤ n ∧ n ≤ 9223372036854775807) (hl : l.length ≤ 70368744177664) :
    Calls Tryd.prog 76 #[v, .int .i64 n] w fun e w' => ∃ v', e = .returned v' ∧ OwnB B v' (l ++ be 8 (n + 9223372036854775808).toNat) w w' := by
  have hH := Lib.hid h
  clear h
  obtain ⟨m, hm⟩ : ∃ m : Nat, n + 9223372036854775808 = (m : Int) := ⟨(n + 9223372036854775808).toNat, by omega⟩
  rw [hm, Int.toNat_natCast]
  have hmH := Lib.hid hm
  have hm64 : m < 18446744073709551616 := by omega
  clear hm
  go_enter Tryd.func76, Tryd.ntmps76
  go_wp2_with fail
  have e5 : IntKind.u64.wrap (IntKind.u64.wrap n + 9223372036854775808) = (m : Int) := by
    have := hmH.out
    simp only [IntKind.wrap, IntKind.bits, IntKind.signed]
    simp
    omega
  rw [e5]
  clear e5 hn
  go_loopw [0, 6] (fun s0 s6 wr => RelI l m B w s0 s6 wr) (fun _ s6 _ => (Go.RowKit.intOf s6 + 8).toNat)
  case atStart => exact ⟨0, by omega, rfl, by rw [List.take_zero, List.append_nil]; exact hH.out⟩
  case round =>
    unfold RelI at hrel
    obtain ⟨p, hp, hs, hown⟩ := hrel
    have hownH := Lib.hid hown
    have hlen := Lib.hid (show (l ++ (be 8 m).take p).length + 1 ≤ 140737488355328 by rw [List.length_append, List.length_take]; omega)
    clear hown
    by_cases hlt : p < 8
    · have hc : p = 0 ∨ p = 1 ∨ p = 2 ∨ p = 3 ∨ p = 4 ∨ p = 5 ∨ p = 6 ∨ p = 7 := by omega
      rcases hc with rfl | rfl | rfl | rfl | rfl | rfl | rfl | rfl
      · obtain rfl := hs.trans (show Value.int .i64 (56 - 8 * ((0 : Nat) : Int)) = .int .i64 56 from rfl)
        have hcs := byte_of ((m : Int) / 72057594037927936) (m / 72057594037927936) (by omega)
        have hcsH := Lib.hid hcs
        clear hcs
        go_wp2_with (at_builtin; refine wpList_bytes rfl _ _ rfl B _ _ w _ 1 [UInt8.ofNat (m / 72057594037927936)] _ hcsH.out hownH.out rfl rfl rfl hlen.out ?_; intro v' w' hown')
        have hownN := Lib.hid hown'
        clear hown'
        go_wp2_with fail
        go_roundw
        case rel => exact ⟨1, by omega, rfl, by rw [be_at m 0 72057594037927936 (by omega) rfl, ← List.append_assoc]; exact hownN.out⟩
        case measure => simp [Go.RowKit.intOf]
      · obtain rfl := hs.trans (show Value.int .i64 (56 - 8 * ((1 : Nat) : Int)) = .int .i64 48 from rfl)
        have hcs := byte_of ((m : Int) / 281474976710656 % 256) (m / 281474976710656) (by omega)
        have hcsH := Lib.hid hcs
        clear hcs
        go_wp2_with (at_builtin; refine wpList_bytes rfl _ _ rfl B _ _ w _ 1 [UInt8.ofNat (m / 281474976710656)] _ hcsH.out hownH.out rfl rfl rfl hlen.out ?_; intro v' w' hown')
        have hownN := Lib.hid hown'
        clear hown'
        go_wp2_with fail
        go_roundw
        case rel => exact ⟨2, by omega, rfl, by rw [be_at m 1 281474976710656 (by omega) rfl, ← List.append_assoc]; exact hownN.out⟩
        case measure => simp [Go.RowKit.intOf]
      · obtain rfl := hs.trans (show Value.int .i64 (56 - 8 * ((2 : Nat) : Int)) = .int .i64 40 from rfl)
        have hcs := byte_of ((m : Int) / 1099511627776 % 256) (m / 1099511627776) (by omega)
        have hcsH := Lib.hid hcs
        clear hcs
        go_wp2_with (at_builtin; refine wpList_bytes rfl _ _ rfl B _ _ w _ 1 [UInt8.ofNat (m / 1099511627776)] _ hcsH.out hownH.out rfl rfl rfl hlen.out ?_; intro v' w' hown')
        have hownN := Lib.hid hown'
        clear hown'
        go_wp2_with fail
        go_roundw
        case rel => exact ⟨3, by omega, rfl, by rw [be_at m 2 1099511627776 (by omega) rfl, ← List.append_assoc]; exact hownN.out⟩
        case measure => simp [Go.RowKit.intOf]
      · obtain rfl := hs.trans (show Value.int .i64 (56 - 8 * ((3 : Nat) : Int)) = .int .i64 32 from rfl)
        have hcs := byte_of ((m : Int) / 4294967296 % 256) (m / 4294967296) (by omega)
        have hcsH := Lib.hid hcs
        clear hcs
        go_wp2_with (at_builtin; refine wpList_bytes rfl _ _ rfl B _ _ w _ 1 [UInt8.ofNat (m / 4294967296)] _ hcsH.out hownH.out rfl rfl rfl hlen.out ?_; intro v' w' hown')
        have hownN := Lib.hid hown'
        clear hown'
        go_wp2_with fail
        go_roundw
        case rel => exact ⟨4, by omega, rfl, by rw [be_at m 3 4294967296 (by omega) rfl, ← List.append_assoc]; exact hownN.out⟩
        case measure => simp [Go.RowKit.intOf]
      · obtain rfl := hs.trans (show Value.int .i64 (56 - 8 * ((4 : Nat) : Int)) = .int .i64 24 from rfl)
        have hcs := byte_of ((m : Int) / 16777216 % 256) (m / 16777216) (by omega)
        have hcsH := Lib.hid hcs
        clear hcs
        go_wp2_with (at_builtin; refine wpList_bytes rfl _ _ rfl B _ _ w _ 1 [UInt8.ofNat (m / 16777216)] _ hcsH.out hownH.out rfl rfl rfl hlen.out ?_; intro v' w' hown')
        have hownN := Lib.hid hown'
        clear hown'
        go_wp2_with fail
        go_roundw
        case rel => exact ⟨5, by omega, rfl, by rw [be_at m 4 16777216 (by omega) rfl, ← List.append_assoc]; exact hownN.out⟩
        case measure => simp [Go.RowKit.intOf]
      · obtain rfl := hs.trans (show Value.int .i64 (56 - 8 * ((5 : Nat) : Int)) = .int .i64 16 from rfl)
        have hcs := byte_of ((m : Int) / 65536 % 256) (m / 65536) (by omega)
        have hcsH := Lib.hid hcs
        clear hcs
        go_wp2_with (at_builtin; refine wpList_bytes rfl _ _ rfl B _ _ w _ 1 [UInt8.ofNat (m / 65536)] _ hcsH.out hownH.out rfl rfl rfl hlen.out ?_; intro v' w' hown')
        have hownN := Lib.hid hown'
        clear hown'
        go_wp2_with fail
        go_roundw
        case rel => exact ⟨6, by omega, rfl, by rw [be_at m 5 65536 (by omega) rfl, ← List.append_assoc]; exact hownN.out⟩
        case measure => simp [Go.RowKit.intOf]
      · obtain rfl := hs.trans (show Value.int .i64 (56 - 8 * ((6 : Nat) : Int)) = .int .i64 8 from rfl)
        have hcs := byte_of ((m : Int) / 256 % 256) (m / 256) (by omega)
        have hcsH := Lib.hid hcs
        clear hcs
        go_wp2_with (at_builtin; refine wpList_bytes rfl _ _ rfl B _ _ w _ 1 [UInt8.ofNat (m / 256)] _ hcsH.out hownH.out rfl rfl rfl hlen.out ?_; intro v' w' hown')
        have hownN := Lib.hid hown'
        clear hown'
        go_wp2_with fail
        go_roundw
        case rel => exact ⟨7, by omega, rfl, by rw [be_at m 6 256 (by omega) rfl, ← List.append_assoc]; exact hownN.out⟩
        case measure => simp [Go.RowKit.intOf]
      · obtain rfl := hs.trans (show Value.int .i64 (56 - 8 * ((7 : Nat) : Int)) = .int .i64 0 from rfl)
        have hcs := byte_of ((m : Int) % 256) (m / 1) (by omega)
        have hcsH := Lib.hid hcs
        clear hcs
        go_wp2_with (at_builtin; refine wpList_bytes rfl _ _ rfl B _ _ w _ 1 [UInt8.ofNat (m / 1)] _ hcsH.out hownH.out rfl rfl rfl hlen.out ?_; intro v' w' hown')
        have hownN := Lib.hid hown'
        clear hown'
        go_wp2_with fail
        go_roundw
        case rel => exact ⟨8, by omega, rfl, by rw [be_at m 7 1 (by omega) rfl, ← List.append_assoc]; exact hownN.out⟩
        case measure => simp [Go.RowKit.intOf]
    · obtain rfl : p = 8 := by omega
      obtain rfl := hs.trans (show Value.int .i64 (56 - 8 * ((8 : Nat) : Int)) = .int .i64 (-8) from rfl)
      go_wp2_with fail
      go_ret
      exact ⟨_, rfl, hownH.out⟩
end Go.Proofs.YtfkimemagbkcoaaDoor
