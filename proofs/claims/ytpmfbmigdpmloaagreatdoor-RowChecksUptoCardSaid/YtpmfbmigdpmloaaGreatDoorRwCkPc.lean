/-
  Texts that belong together: RwCk. What each one says stands ahead of it.
-/
import Derived.Test.YtpmfbmigdpmloaaGreatDoorRwPrPc
import Derived.Test.YtpmfbmigdpmloaaGreatDoorPc06
import Derived.Test.YtpmfbmigdpmloaaGreatDoorPc03
/-
  The document's Check, Encode, Hash, Pick and Print of a row, and the bytes of a datum, at this program. Conditions: those written.
-/
set_option linter.unusedVariables false
set_option linter.unusedSimpArgs false
namespace Go.Proofs.YtpmfbmigdpmloaaGreatDoor
open Go.RowKit Go.Lib Go.Proofs

def RelKc (l : List Dat) (w0 : World) (s3 : Value) (wr : World) : Prop := ∃ p : Nat, p ≤ l.length ∧ s3 = .int .i64 (p : Int) ∧ chkL l = chkL (l.drop p) ∧ Below w0.heap.size w0 wr
set_option maxHeartbeats 4000000 in
set_option maxRecDepth 1000000 in
theorem ref02Check_any (v : Value) (l : List Dat) (w : World) (h : RowV w v l) (hs : ∀ d ∈ l, d.s.size ≤ 140737488355328) :
    Calls Tryz.prog 17 #[v] w fun e w' => e = .returned (.int .i64 (chkR l)) ∧ Below w.heap.size w w' := by
  obtain ⟨A, c, rfl, hla⟩ := h.form
  have hH := Lib.hid h; have hsH := Lib.hid hs
  clear h hs
  by_cases hbig : 32 < l.length
  · have hr := Lib.hid (show chkR l = 20 by unfold chkR; rw [if_pos hbig])
    go_enter Tryz.func17, Tryz.ntmps17
    go_wp2_with fail
    go_ret
    exact ⟨ret_int hr.out.symm, by go_grown⟩
  · have hr := Lib.hid (show chkR l = chkL l by unfold chkR; rw [if_neg (by omega)])
    go_enter Tryz.func17, Tryz.ntmps17
    go_wp2_with fail
    go_loopw [3, 4] (fun s3 s4 wr => RelKc l w s3 wr) (fun s3 _ _ => l.length - (Go.RowKit.intOf s3).toNat)
    case atStart => exact ⟨0, by omega, rfl, rfl, Below.refl _ _⟩
    case round =>
      unfold RelKc at hrel
      obtain ⟨p, hp, rfl, hck, hb⟩ := hrel
      have hbH := Lib.hid hb; have hckH := Lib.hid hck
      clear hb hck
      by_cases hlt : p < l.length
      · obtain ⟨ad, rfl, hba, a0_, a1_, a2_, a3_⟩ := (hH.out.below hbH.out).at hlt
        have hat := Lib.hid (chkL_at hlt)
        have hsz := Lib.hid (hsH.out _ (List.getElem_mem hlt))
        obtain ⟨d, hd⟩ : ∃ d, l[p] = d := ⟨_, rfl⟩
        rw [hd] at a0_ a1_ a2_ a3_ hat hsz
        clear hd
        obtain ⟨k, b, m, s⟩ := d
        simp only at a0_ a1_ a2_ a3_
        have hltH := Lib.hid hlt
        go_wp2_with fail
        refine (refCheck_any k b m s _ hsz.out).mono ?_
        obtain ⟨r, hr'⟩ : ∃ r, chk ⟨k, b, m, s⟩ = r := ⟨_, rfl⟩
        rw [hr'] at hat
        rw [hr']
        rintro e w2 ⟨rfl, hb2⟩
        have hb2H := Lib.hid (hbH.out.trans (hb2.mono hbH.out.size))
        clear hb2 a0_ a1_ a2_ a3_ hr'
        by_cases hz : r = 0
        · subst hz
          have hat2 := Lib.hid (show chkL l = chkL (l.drop (p + 1)) by rw [hckH.out, hat.out, if_pos rfl])
          go_wp2_with fail
          go_roundw
          case rel => exact ⟨p + 1, hltH.out, by go_num, hat2.out, hb2H.out⟩
          case measure => have := hltH.out; simp [Go.RowKit.intOf]; omega
        · have hat2 := Lib.hid (show chkR l = r by rw [hr.out, hckH.out, hat.out, if_neg hz])
          have hne : (r != 0) = true := by simpa using hz
          clear hz
          go_wp2_with fail
          go_ret
          exact ⟨ret_int hat2.out.symm, hb2H.out⟩
      · obtain rfl : p = l.length := by omega
        have hat2 := Lib.hid (show chkR l = 0 by rw [hr.out, hckH.out, List.drop_length]; rfl)
        go_wp2_with fail
        go_ret
        exact ⟨ret_int hat2.out.symm, hbH.out⟩

theorem OwnK.below0 {e : TypeId} {k B : Nat} {v : Value} {n : Nat} {xs : List Value} {W0 w : World} (h : OwnK e k B v n xs W0 w) : Below B W0 w := h.2.1
def RelBi (m B : Nat) (w0 : World) (s3 s5 : Value) (wr : World) : Prop := ∃ p : Nat, p ≤ 8 ∧ s5 = .int .i64 (p : Int) ∧ OwnB B s3 ([48] ++ (be 8 m).take p) w0 wr
def RelBt (s : ByteArray) (B : Nat) (w0 : World) (s3 s6 : Value) (wr : World) : Prop := ∃ p : Nat, p ≤ s.size ∧ s6 = .int .i64 (p : Int) ∧ OwnB B s3 ([64] ++ escT (s.data.toList.take p)) w0 wr
set_option maxHeartbeats 8000000 in
set_option maxRecDepth 1000000 in
theorem ref02Bytes_any (k : Int) (b : Bool) (n : Int) (s : ByteArray) (w : World) (hn : -9223372036854775808 ≤ n ∧ n ≤ 9223372036854775807) (hl : szD s ≤ 70368744177664) :
    Calls Tryz.prog 33 #[.agg #[.int .u8 k, .bool b, .int .i64 n, .string s]] w fun e w' => ∃ v', e = .returned v' ∧ OwnB w.heap.size v' (encD ⟨k, b, n, s⟩) w w' := by
  unfold szD at hl
  obtain ⟨W1, hW1⟩ : ∃ W1, w.alloc (.cells #[.int .u8 k, .bool b, .int .i64 n, .string s] 60) = W1 := ⟨_, rfl⟩
  have hB1 := Lib.hid (show Has W1 w.heap.size (.int .u8 k) (.bool b) (.int .i64 n) (.string s) from hW1 ▸ Has.new w _ _ _ _)
  have h01 := Lib.hid (show OwnB w.heap.size (.slice none 0 0) [] w W1 from hW1 ▸ OwnK.alloc (OwnK.start (World.ownsRow_nil _ _ _ _) (Nat.le_refl _)) _)
  have h1 := Lib.hid h01.out.again
  obtain ⟨c0_, c1_, c2_, c3_⟩ := hB1.out.cells
  by_cases k1 : k = 1
  · subst k1
    go_enter Tryz.func33, Tryz.ntmps33
    go_wp2_with (at_builtin; refine wpList_bytes rfl _ _ rfl w.heap.size _ [] W1 _ 1 [16] _ (by rfl) h1.out rfl rfl rfl (by first | decide | omega) ?_; intro v1 wv1 hq; have h2 := Lib.hid hq; clear hq)
    go_ret
    exact ⟨_, rfl, OwnK.trans h01.out h2.out⟩
  by_cases k2 : k = 2
  · subst k2
    cases b with
    | true =>
      go_enter Tryz.func33, Tryz.ntmps33
      go_wp2_with (at_builtin; refine wpList_bytes rfl _ _ rfl w.heap.size _ [] W1 _ 1 [33] _ (by rfl) h1.out rfl rfl rfl (by first | decide | omega) ?_; intro v1 wv1 hq; have h2 := Lib.hid hq; clear hq)
      go_ret
      exact ⟨_, rfl, OwnK.trans h01.out h2.out⟩
    | false =>
      go_enter Tryz.func33, Tryz.ntmps33
      go_wp2_with (at_builtin; refine wpList_bytes rfl _ _ rfl w.heap.size _ [] W1 _ 1 [32] _ (by rfl) h1.out rfl rfl rfl (by first | decide | omega) ?_; intro v1 wv1 hq; have h2 := Lib.hid hq; clear hq)
      go_ret
      exact ⟨_, rfl, OwnK.trans h01.out h2.out⟩
  by_cases k3 : k = 3
  · subst k3
    obtain ⟨m, hm⟩ : ∃ m : Nat, n + 9223372036854775808 = (m : Int) := ⟨(n + 9223372036854775808).toNat, by omega⟩
    have hmH := Lib.hid hm
    have hm64 : m < 18446744073709551616 := by omega
    have hen := Lib.hid (show encD ⟨3, b, n, s⟩ = [48] ++ be 8 m by unfold encD; simp [hm])
    have e5 : IntKind.u64.wrap (IntKind.u64.wrap n + 9223372036854775808) = (m : Int) := by
      simp only [IntKind.wrap, IntKind.bits, IntKind.signed]
      simp
      omega
    clear hm
    go_enter Tryz.func33, Tryz.ntmps33
    go_upto_region 11 with (at_builtin; refine wpList_bytes rfl _ _ rfl w.heap.size _ [] W1 _ 1 [48] _ (by rfl) h1.out rfl rfl rfl (by first | decide | omega) ?_; intro v1 wv1 hq; have h2 := Lib.hid hq; clear hq)
    have hB3 := Lib.hid (hB1.out.others h2.out.2.2.2)
    obtain ⟨f0_, f1_, f2_, f3_⟩ := hB3.out.cells
    clear c0_ c1_ c2_ c3_
    go_wp2_with fail
    clear e5 hn
    go_loopw [3, 5] (fun s3 s5 wr => RelBi m w.heap.size W1 s3 s5 wr) (fun s3 s5 _ => 8 - (Go.RowKit.intOf s5).toNat)
    case atStart => exact ⟨0, by omega, rfl, by simpa using h2.out⟩
    case round =>
      unfold RelBi at hrel
      obtain ⟨p, hp, hs5, hown⟩ := hrel
      have hownH := Lib.hid hown
      have hlen := Lib.hid (show ([48] ++ (be 8 m).take p).length + 1 ≤ 140737488355328 by rw [List.length_append, List.length_take, List.length_singleton]; omega)
      clear hown
      by_cases hlt : p < 8
      · have hc : p = 0 ∨ p = 1 ∨ p = 2 ∨ p = 3 ∨ p = 4 ∨ p = 5 ∨ p = 6 ∨ p = 7 := by omega
        rcases hc with rfl | rfl | rfl | rfl | rfl | rfl | rfl | rfl
        · obtain rfl := hs5.trans (show Value.int .i64 ((0 : Nat) : Int) = .int .i64 0 from rfl)
          have hcs := byte_of ((m : Int) / 72057594037927936) (m / 72057594037927936) (by omega)
          have hcsH := Lib.hid hcs
          clear hcs
          go_wp2_with (at_builtin; refine wpList_bytes rfl _ _ rfl w.heap.size _ _ W1 _ 1 [UInt8.ofNat (m / 72057594037927936)] _ hcsH.out hownH.out rfl rfl rfl hlen.out ?_; intro v1 wv1 hq; have hown2 := Lib.hid hq; clear hq)
          go_roundw
          case rel => exact ⟨1, by omega, rfl, by rw [be_at m 0 72057594037927936 (by omega) rfl, ← List.append_assoc]; exact hown2.out⟩
          case measure => simp [Go.RowKit.intOf]
        · obtain rfl := hs5.trans (show Value.int .i64 ((1 : Nat) : Int) = .int .i64 1 from rfl)
          have hcs := byte_of ((m : Int) / 281474976710656 % 256) (m / 281474976710656) (by omega)
          have hcsH := Lib.hid hcs
          clear hcs
          go_wp2_with (at_builtin; refine wpList_bytes rfl _ _ rfl w.heap.size _ _ W1 _ 1 [UInt8.ofNat (m / 281474976710656)] _ hcsH.out hownH.out rfl rfl rfl hlen.out ?_; intro v1 wv1 hq; have hown2 := Lib.hid hq; clear hq)
          go_roundw
          case rel => exact ⟨2, by omega, rfl, by rw [be_at m 1 281474976710656 (by omega) rfl, ← List.append_assoc]; exact hown2.out⟩
          case measure => simp [Go.RowKit.intOf]
        · obtain rfl := hs5.trans (show Value.int .i64 ((2 : Nat) : Int) = .int .i64 2 from rfl)
          have hcs := byte_of ((m : Int) / 1099511627776 % 256) (m / 1099511627776) (by omega)
          have hcsH := Lib.hid hcs
          clear hcs
          go_wp2_with (at_builtin; refine wpList_bytes rfl _ _ rfl w.heap.size _ _ W1 _ 1 [UInt8.ofNat (m / 1099511627776)] _ hcsH.out hownH.out rfl rfl rfl hlen.out ?_; intro v1 wv1 hq; have hown2 := Lib.hid hq; clear hq)
          go_roundw
          case rel => exact ⟨3, by omega, rfl, by rw [be_at m 2 1099511627776 (by omega) rfl, ← List.append_assoc]; exact hown2.out⟩
          case measure => simp [Go.RowKit.intOf]
        · obtain rfl := hs5.trans (show Value.int .i64 ((3 : Nat) : Int) = .int .i64 3 from rfl)
          have hcs := byte_of ((m : Int) / 4294967296 % 256) (m / 4294967296) (by omega)
          have hcsH := Lib.hid hcs
          clear hcs
          go_wp2_with (at_builtin; refine wpList_bytes rfl _ _ rfl w.heap.size _ _ W1 _ 1 [UInt8.ofNat (m / 4294967296)] _ hcsH.out hownH.out rfl rfl rfl hlen.out ?_; intro v1 wv1 hq; have hown2 := Lib.hid hq; clear hq)
          go_roundw
          case rel => exact ⟨4, by omega, rfl, by rw [be_at m 3 4294967296 (by omega) rfl, ← List.append_assoc]; exact hown2.out⟩
          case measure => simp [Go.RowKit.intOf]
        · obtain rfl := hs5.trans (show Value.int .i64 ((4 : Nat) : Int) = .int .i64 4 from rfl)
          have hcs := byte_of ((m : Int) / 16777216 % 256) (m / 16777216) (by omega)
          have hcsH := Lib.hid hcs
          clear hcs
          go_wp2_with (at_builtin; refine wpList_bytes rfl _ _ rfl w.heap.size _ _ W1 _ 1 [UInt8.ofNat (m / 16777216)] _ hcsH.out hownH.out rfl rfl rfl hlen.out ?_; intro v1 wv1 hq; have hown2 := Lib.hid hq; clear hq)
          go_roundw
          case rel => exact ⟨5, by omega, rfl, by rw [be_at m 4 16777216 (by omega) rfl, ← List.append_assoc]; exact hown2.out⟩
          case measure => simp [Go.RowKit.intOf]
        · obtain rfl := hs5.trans (show Value.int .i64 ((5 : Nat) : Int) = .int .i64 5 from rfl)
          have hcs := byte_of ((m : Int) / 65536 % 256) (m / 65536) (by omega)
          have hcsH := Lib.hid hcs
          clear hcs
          go_wp2_with (at_builtin; refine wpList_bytes rfl _ _ rfl w.heap.size _ _ W1 _ 1 [UInt8.ofNat (m / 65536)] _ hcsH.out hownH.out rfl rfl rfl hlen.out ?_; intro v1 wv1 hq; have hown2 := Lib.hid hq; clear hq)
          go_roundw
          case rel => exact ⟨6, by omega, rfl, by rw [be_at m 5 65536 (by omega) rfl, ← List.append_assoc]; exact hown2.out⟩
          case measure => simp [Go.RowKit.intOf]
        · obtain rfl := hs5.trans (show Value.int .i64 ((6 : Nat) : Int) = .int .i64 6 from rfl)
          have hcs := byte_of ((m : Int) / 256 % 256) (m / 256) (by omega)
          have hcsH := Lib.hid hcs
          clear hcs
          go_wp2_with (at_builtin; refine wpList_bytes rfl _ _ rfl w.heap.size _ _ W1 _ 1 [UInt8.ofNat (m / 256)] _ hcsH.out hownH.out rfl rfl rfl hlen.out ?_; intro v1 wv1 hq; have hown2 := Lib.hid hq; clear hq)
          go_roundw
          case rel => exact ⟨7, by omega, rfl, by rw [be_at m 6 256 (by omega) rfl, ← List.append_assoc]; exact hown2.out⟩
          case measure => simp [Go.RowKit.intOf]
        · obtain rfl := hs5.trans (show Value.int .i64 ((7 : Nat) : Int) = .int .i64 7 from rfl)
          have hcs := byte_of ((m : Int) % 256) (m / 1) (by omega)
          have hcsH := Lib.hid hcs
          clear hcs
          go_wp2_with (at_builtin; refine wpList_bytes rfl _ _ rfl w.heap.size _ _ W1 _ 1 [UInt8.ofNat (m / 1)] _ hcsH.out hownH.out rfl rfl rfl hlen.out ?_; intro v1 wv1 hq; have hown2 := Lib.hid hq; clear hq)
          go_roundw
          case rel => exact ⟨8, by omega, rfl, by rw [be_at m 7 1 (by omega) rfl, ← List.append_assoc]; exact hown2.out⟩
          case measure => simp [Go.RowKit.intOf]
      · obtain rfl : p = 8 := by omega
        obtain rfl := hs5.trans (show Value.int .i64 ((8 : Nat) : Int) = .int .i64 8 from rfl)
        have hfin := Lib.hid (show [48] ++ (be 8 m).take 8 = [48] ++ be 8 m from rfl)
        go_wp2_with fail
        go_ret
        exact ⟨_, rfl, by rw [hen.out, ← hfin.out]; exact OwnK.trans h01.out hownH.out⟩
  by_cases k4 : k = 4
  · subst k4
    have hen := Lib.hid (show encD ⟨4, b, n, s⟩ = [64] ++ escT s.data.toList ++ [0, 1] by unfold encD; simp)
    go_enter Tryz.func33, Tryz.ntmps33
    go_wp2_with (at_builtin; refine wpList_bytes rfl _ _ rfl w.heap.size _ [] W1 _ 1 [64] _ (by rfl) h1.out rfl rfl rfl (by first | decide | omega) ?_; intro v1 wv1 hq; have h2 := Lib.hid hq; clear hq)
    go_loopw [3, 6] (fun s3 s6 wr => RelBt s w.heap.size W1 s3 s6 wr) (fun s3 s6 _ => s.size - (Go.RowKit.intOf s6).toNat)
    case atStart => exact ⟨0, by omega, rfl, by simpa [escT] using h2.out⟩
    case round =>
      unfold RelBt at hrel
      obtain ⟨p, hp, rfl, hown⟩ := hrel
      have hownH := Lib.hid hown
      have hle : ([64] ++ escT (s.data.toList.take p)).length + 2 ≤ 140737488355328 := by
        have := escT_le (s.data.toList.take p)
        rw [List.length_take, size_toList] at this
        rw [List.length_append, List.length_singleton]; omega
      have hleH := Lib.hid hle
      have hBr := Lib.hid (hB1.out.others hown.2.2.2)
      obtain ⟨d0_, d1_, d2_, d3_⟩ := hBr.out.cells
      clear hown hle c0_ c1_ c2_ c3_
      by_cases hlt : p < s.size
      · obtain ⟨u, hu⟩ : ∃ u, s.get! p = u := ⟨_, rfl⟩
        have hx0 := fun w' => idx_at s p u hu hlt w'
        have hat := Lib.hid (escT_at hlt hu)
        have hcs : Hid ((#[Value.int .u8 (u.toNat : Int)] : Array Value) = (Lib.byteCells [u]).toArray) := by exact (show _ = _ by simp [Lib.byteCells])
        have hltH := Lib.hid hlt
        clear hu
        go_upto_region 22 with (at_builtin; refine wpList_bytes rfl _ _ rfl w.heap.size _ _ W1 _ 1 [u] _ hcs.out hownH.out rfl rfl rfl (by have := hleH.out; omega) ?_; intro v1 wv1 hq; have hown1 := Lib.hid hq; clear hq)
        have hB3 := Lib.hid (hB1.out.others hown1.out.2.2.2)
        obtain ⟨f0_, f1_, f2_, f3_⟩ := hB3.out.cells
        clear d0_ d1_ d2_ d3_
        by_cases hz : u = 0
        · subst hz
          go_wp2_with (at_builtin; refine wpList_bytes rfl _ _ rfl w.heap.size _ _ W1 _ 1 [255] _ (by rfl) hown1.out rfl rfl rfl (by have := hleH.out; rw [List.length_append, List.length_singleton]; omega) ?_; intro v2 wv2 hq; have hown2 := Lib.hid hq; clear hq)
          go_roundw
          case rel => exact ⟨p + 1, hltH.out, by go_num, by rw [hat.out, if_pos rfl, ← List.append_assoc]; have := hown2.out; rw [List.append_assoc] at this; exact this⟩
          case measure => have := hltH.out; simp [Go.RowKit.intOf]; omega
        · have hz' : ((u.toNat : Int) == 0) = false := u8_ne hz
          have hzH := Lib.hid hz
          clear hz
          go_wp2_with fail
          go_roundw
          case rel => exact ⟨p + 1, hltH.out, by go_num, by rw [hat.out, if_neg hzH.out, ← List.append_assoc]; exact hown1.out⟩
          case measure => have := hltH.out; simp [Go.RowKit.intOf]; omega
      · obtain rfl : p = s.size := by omega
        have hfin := Lib.hid (show s.data.toList.take s.size = s.data.toList from List.take_of_length_le (by rw [size_toList]; omega))
        go_wp2_with (at_builtin; refine wpList_bytes rfl _ _ rfl w.heap.size _ _ W1 _ 2 [0, 1] _ (by rfl) hownH.out rfl rfl rfl hleH.out ?_; intro v1 wv1 hq; have hown1 := Lib.hid hq; clear hq)
        go_ret
        refine ⟨_, rfl, ?_⟩
        have := hown1.out
        rw [hfin.out] at this
        rw [hen.out]
        exact OwnK.trans h01.out this
  · have hen := Lib.hid (show encD ⟨k, b, n, s⟩ = [] by unfold encD; rw [if_neg k1, if_neg k2, if_neg k3, if_neg k4])
    have g1 : (k == 1) = false := by simpa using k1
    have g2 : (k == 2) = false := by simpa using k2
    have g3 : (k == 3) = false := by simpa using k3
    have g4 : (k == 4) = false := by simpa using k4
    go_enter Tryz.func33, Tryz.ntmps33
    go_wp2_with fail
    go_ret
    exact ⟨_, rfl, by rw [hen.out]; exact h01.out⟩
set_option maxHeartbeats 4000000 in
set_option maxRecDepth 1000000 in
theorem ref02Encode_any (v : Value) (l : List Dat) (w : World) (h : RowV w v l) (hw : ∀ d ∈ l, Wide d ∧ d.s.size ≤ 140737488355328) :
    Calls Tryz.prog 14 #[v] w fun e w' => ∃ v', e = .returned (.tuple #[v', .int .i64 (chkR l)]) ∧ ((chkR l = 0 ∧ BytsV w' v' (encR l)) ∨ (chkR l ≠ 0 ∧ v' = .slice none 0 0)) ∧ Below w.heap.size w w' := by
  obtain ⟨A, c, rfl, hla⟩ := h.form
  have hH := Lib.hid h; have hwH := Lib.hid hw
  clear h hw
  obtain ⟨r, hr⟩ : ∃ r, chkR l = r := ⟨_, rfl⟩
  rw [hr]
  have hrH := Lib.hid hr
  clear hr
  go_enter Tryz.func14, Tryz.ntmps14
  go_wp2_with fail
  refine (ref02Check_any _ l w hH.out (fun d hd => (hwH.out d hd).2)).mono ?_
  rw [hrH.out]
  rintro e w1 ⟨rfl, hb1⟩
  have hb1H := Lib.hid hb1
  clear hb1
  by_cases hz : r = 0
  · subst hz
    obtain ⟨h32, hall⟩ := chkR_all hrH.out
    have hszl := Lib.hid (szR_small hall)
    have h1k := Lib.hid (fun d hd => chk_small (hall d hd))
    clear hall
    go_wp2_with fail
    go_loopw [5, 6] (fun s5 s6 wr => RelEn l w.heap.size w1 s5 s6 wr) (fun _ s6 _ => l.length - (Go.RowKit.intOf s6).toNat)
    case atStart => exact ⟨0, by omega, rfl, OwnK.start (World.ownsRow_nil _ _ _ _) hb1H.out.size⟩
    case round =>
      unfold RelEn at hrel
      obtain ⟨p, hp, rfl, hown⟩ := hrel
      obtain ⟨A0, c0, rfl⟩ := hown.form
      have hownH := Lib.hid hown
      clear hown
      by_cases hlt : p < l.length
      · obtain ⟨ad, rfl, hba, a0_, a1_, a2_, a3_⟩ := (hH.out.below (hb1H.out.trans hownH.out.2.1)).at hlt
        have hft := Lib.hid (flat_take (f := encD) hlt)
        have hsz := Lib.hid (show ((l.take p).flatMap encD).length + szD l[p].s ≤ 70368744177664 by
          have h1 := szR_take l p hlt
          have h2 := encR_le (l.take p)
          have h3 := hszl.out
          unfold encR at h2
          omega)
        have hwd := Lib.hid (hwH.out _ (List.getElem_mem hlt)).1
        obtain ⟨d, hd⟩ : ∃ d, l[p] = d := ⟨_, rfl⟩
        rw [hd] at a0_ a1_ a2_ a3_ hft hsz hwd
        clear hd
        obtain ⟨k, b, n, s⟩ := d
        obtain ⟨L, hL⟩ : ∃ L, (l.take p).flatMap encD = L := ⟨_, rfl⟩
        rw [hL] at hownH hft hsz ⊢
        clear hL
        simp only at a0_ a1_ a2_ a3_
        have hltH := Lib.hid hlt
        have hszs := Lib.hid (show szD s ≤ 70368744177664 by have := hsz.out; simp only at this; omega)
        go_wp2_with fail
        refine (ref02Bytes_any k b n s _ hwd.out.2 hszs.out).mono ?_
        rintro e w2 ⟨v2, rfl, h2⟩
        have hd2 := Lib.hid (own_slV h2.1)
        have hown2 := Lib.hid (OwnK.below hownH.out h2.below0)
        have hl2 := Lib.hid (show L.length + (encD ⟨k, b, n, s⟩).length ≤ 140737488355328 by have h3 := encD_le ⟨k, b, n, s⟩; have := hsz.out; simp only at this h3; omega)
        clear h2 a0_ a1_ a2_ a3_
        go_wp2_with (at_builtin; refine wpList_bytesK rfl _ _ rfl w.heap.size _ L w1 w2 _ (encD ⟨k, b, n, s⟩) hown2.out rfl (show BytsV _ _ _ from hd2.out) rfl hl2.out ?_; intro v3 w3 hq; have hown3 := Lib.hid hq; clear hq)
        go_roundw
        case rel => exact ⟨p + 1, hltH.out, by go_num, by rw [hft.out]; exact hown3.out⟩
        case measure => have := hltH.out; simp [Go.RowKit.intOf]; omega
      · obtain rfl : p = l.length := by omega
        rw [List.take_length] at hownH ⊢
        go_wp2_with fail
        refine bodyPost_ret (v := .tuple #[.slice A0 (l.flatMap encD).length c0, .int .i64 0]) (by simp [results, Tryz.results14, go_sem]) rfl ?_
        first | exact ⟨_, rfl, .inl ⟨rfl, own_slV hownH.out.1⟩, hb1H.out.trans hownH.out.2.1⟩ | exact ⟨_, rfl, own_slV hownH.out.1, hb1H.out.trans hownH.out.2.1⟩ | exact ⟨own_slV hownH.out.1, hb1H.out.trans hownH.out.2.1⟩
  · have hne : (r != 0) = true := by simpa using hz
    have hzH := Lib.hid hz
    clear hz
    go_wp2_with fail
    refine bodyPost_ret (v := .tuple #[.slice none 0 0, .int .i64 r]) (by simp [results, Tryz.results14, go_sem]) rfl ?_
    exact ⟨_, rfl, .inr ⟨hzH.out, rfl⟩, hb1H.out⟩
def RelHr (l : List Dat) (cols : List Int) (w0 : World) (s5 s6 : Value) (wr : World) : Prop :=
  ∃ p : Nat, p ≤ cols.length ∧ s6 = .int .i64 (p : Int) ∧ s5 = .int .u64 ((cols.take p).foldl (hashC l) hashS) ∧ Below w0.heap.size w0 wr
def RelHs (z : Int) (bs : List UInt8) (v : Value) (B : Nat) (w0 : World) (s5 s8 : Value) (wr : World) : Prop :=
  ∃ q : Nat, q ≤ bs.length ∧ s8 = .int .i64 (q : Int) ∧ s5 = .int .u64 (hashL z (bs.take q)) ∧ OwnU B v bs wr ∧ Below w0.heap.size w0 wr
set_option maxHeartbeats 4000000 in
set_option maxRecDepth 1000000 in
theorem ref02Hash_any (v vc : Value) (l : List Dat) (cols : List Int) (w : World) (h : RowV w v l) (hc : IntsV w vc cols) (hw : ∀ d ∈ l, Wide d ∧ szD d.s ≤ 70368744177664) :
    Calls Tryz.prog 18 #[v, vc] w fun e w' => e = .returned (.int .u64 (hashR l cols)) ∧ Below w.heap.size w w' := by
  obtain ⟨A, ca, rfl, hla⟩ := h.form
  obtain ⟨C, cc, rfl, hlc⟩ := hc.form
  have hH := Lib.hid h; have hcH := Lib.hid hc; have hwH := Lib.hid hw
  clear h hc hw
  go_enter Tryz.func18, Tryz.ntmps18
  go_wp2_with fail
  go_loopw [5, 6, 7, 8] (fun s5 s6 s7 s8 wr => RelHr l cols w s5 s6 wr) (fun s5 s6 s7 s8 _ => cols.length - (Go.RowKit.intOf s6).toNat)
  case atStart => exact ⟨0, by omega, rfl, rfl, Below.refl _ _⟩
  case round =>
    unfold RelHr at hrel
    obtain ⟨p, hp, rfl, rfl, hb⟩ := hrel
    have hbH := Lib.hid hb
    clear hb
    by_cases hlt : p < cols.length
    · obtain ⟨c, hcc⟩ : ∃ c, cols[p]? = some c := ⟨_, List.getElem?_eq_getElem hlt⟩
      obtain ⟨ac, rfl, hbc, n0_⟩ := (hcH.out.below hbH.out).at hcc
      have hst := Lib.hid (fold_take (f := hashC l) (b := hashS) hcc)
      obtain ⟨z, hz⟩ : ∃ z, (cols.take p).foldl (hashC l) hashS = z := ⟨_, rfl⟩
      rw [hz] at hst ⊢
      have hltH := Lib.hid hlt
      clear hcc hz
      by_cases hneg : c < 0
      · have hzz := Lib.hid (show hashC l z c = z by unfold hashC hasC; rw [decide_eq_false (by omega)]; rfl)
        go_wp2_with fail
        go_roundw
        case rel => exact ⟨p + 1, hltH.out, by go_num, by rw [hst.out, hzz.out], hbH.out⟩
        case measure => have := hltH.out; simp [Go.RowKit.intOf]; omega
      by_cases hbg : (l.length : Int) ≤ c
      · have hzz := Lib.hid (show hashC l z c = z by unfold hashC hasC; rw [decide_eq_false (by omega)]; rfl)
        go_wp2_with fail
        go_roundw
        case rel => exact ⟨p + 1, hltH.out, by go_num, by rw [hst.out, hzz.out], hbH.out⟩
        case measure => have := hltH.out; simp [Go.RowKit.intOf]; omega
      obtain ⟨n, rfl⟩ : ∃ n : Nat, c = (n : Int) := ⟨c.toNat, by omega⟩
      have hn : n < l.length := by omega
      obtain ⟨ad, rfl, hba, a0_, a1_, a2_, a3_⟩ := (hH.out.below hbH.out).at hn
      have hd2 : l[(n : Int).toNat]! = l[n] := by rw [Int.toNat_natCast, getElem!_pos l n hn]
      have hzz := Lib.hid (show hashC l z (n : Int) = hashL z (encD l[n]) by unfold hashC hasC; rw [decide_eq_true (by omega), if_pos rfl, hd2])
      have hwd := Lib.hid (hwH.out _ (List.getElem_mem hn))
      obtain ⟨d, hd⟩ : ∃ d, l[n] = d := ⟨_, rfl⟩
      rw [hd] at a0_ a1_ a2_ a3_ hzz hwd
      clear hd hd2
      obtain ⟨k, b, m, s⟩ := d
      simp only at a0_ a1_ a2_ a3_
      have hnH := Lib.hid hn
      go_wp2_with fail
      refine (ref02Bytes_any k b m s _ hwd.out.1.2 hwd.out.2).mono ?_
      rintro e w2 ⟨v2, rfl, hq⟩
      obtain ⟨A2, c2, rfl⟩ := hq.form
      have hk2 := Lib.hid (show OwnU wr.heap.size (.slice A2 (encD ⟨k, b, m, s⟩).length c2) (encD ⟨k, b, m, s⟩) w2 from hq.1)
      have hb2 := Lib.hid (hbH.out.trans (hq.2.1.mono hbH.out.size))
      obtain ⟨bs, hbs⟩ : ∃ bs, encD ⟨k, b, m, s⟩ = bs := ⟨_, rfl⟩
      have hbl : bs.length ≤ 70368744177664 := by rw [← hbs]; exact Nat.le_trans (encD_le ⟨k, b, m, s⟩) hwd.out.2
      rw [hbs] at hzz hk2 ⊢
      clear hbs a0_ a1_ a2_ a3_ hq n0_ hneg hbg hn
      obtain ⟨B2, hB2⟩ : ∃ B2, wr.heap.size = B2 := ⟨_, rfl⟩
      rw [hB2] at hk2
      clear hB2
      go_wp2_with fail
      go_loopw [5, 8] (fun s5 s8 wr => RelHs z bs (.slice A2 bs.length c2) B2 w s5 s8 wr) (fun s5 s8 _ => bs.length - (Go.RowKit.intOf s8).toNat)
      case atStart => exact ⟨0, by omega, rfl, rfl, hk2.out, hb2.out⟩
      case round =>
        unfold RelHs at hrel
        obtain ⟨q, hq, rfl, rfl, hkq, hbq⟩ := hrel
        have hkqH := Lib.hid hkq; have hbqH := Lib.hid hbq
        clear hkq hbq
        by_cases hlq : q < bs.length
        · obtain ⟨y, hy⟩ : ∃ y, bs[q]? = some y := ⟨_, List.getElem?_eq_getElem hlq⟩
          obtain ⟨g, rfl, y0_⟩ := OwnU.at hkqH.out hy
          have hsq := Lib.hid (show hashL z (bs.take (q + 1)) = hashB (hashL z (bs.take q)) y from fold_take hy)
          obtain ⟨zq, hzq⟩ : ∃ zq, hashL z (bs.take q) = zq := ⟨_, rfl⟩
          rw [hzq] at hsq ⊢
          have hlqH := Lib.hid hlq
          clear hzq hy
          go_wp2_with fail
          go_roundw
          case rel => exact ⟨q + 1, hlqH.out, by go_num, by rw [hsq.out]; rfl, hkqH.out, hbqH.out⟩
          case measure => have := hlqH.out; simp [Go.RowKit.intOf]; omega
        · obtain rfl : q = bs.length := by omega
          have hfq := Lib.hid (show bs.take bs.length = bs from List.take_length)
          rw [hfq.out]
          go_wp2_with fail
          go_roundw
          case rel => exact ⟨p + 1, hltH.out, by go_num, by rw [hst.out, hzz.out], hbqH.out⟩
          case measure => have := hltH.out; simp [Go.RowKit.intOf]; omega
    · obtain rfl : p = cols.length := by omega
      have hfin := Lib.hid (show cols.take cols.length = cols from List.take_length)
      go_wp2_with fail
      go_ret
      exact ⟨by rw [hfin.out]; rfl, hbH.out⟩
def RelPq (l : List Dat) (cols : List Int) (B : Nat) (w0 : World) (s6 s7 : Value) (wr : World) : Prop :=
  ∃ p : Nat, p ≤ cols.length ∧ s7 = .int .i64 (p : Int) ∧ (cols.take p).all (hasC l.length) = true ∧ OwnKR B s6 ((cols.take p).map (getC l)) w0 wr
set_option maxHeartbeats 4000000 in
set_option maxRecDepth 1000000 in
theorem ref02Pick_any (v vc : Value) (l : List Dat) (cols : List Int) (w : World) (h : RowV w v l) (hc : IntsV w vc cols) :
    Calls Tryz.prog 13 #[v, vc] w fun e w' => ∃ v' k, e = .returned (.tuple #[v', .int .i64 k]) ∧
      ((pickR l cols = none ∧ k = 20 ∧ v' = .slice none 0 0) ∨ ∃ q, pickR l cols = some q ∧ k = 0 ∧ RowV w' v' q) ∧ Below w.heap.size w w' := by
  obtain ⟨A, ca, rfl, hla⟩ := h.form
  obtain ⟨C, cc, rfl, hlc⟩ := hc.form
  have hH := Lib.hid h; have hcH := Lib.hid hc
  clear h hc
  by_cases hbig : 32 < cols.length
  · have hno := Lib.hid (show pickR l cols = none by unfold pickR; rw [if_neg]; rintro ⟨h1, _⟩; omega)
    go_enter Tryz.func13, Tryz.ntmps13
    go_wp2_with fail
    refine bodyPost_ret (v := .tuple #[.slice none 0 0, .int .i64 20]) (by simp [results, Tryz.results13, go_sem]) rfl ?_
    exact ⟨_, _, rfl, .inl ⟨hno.out, rfl, rfl⟩, by go_grown⟩
  go_enter Tryz.func13, Tryz.ntmps13
  go_wp2_with fail
  go_loopw [6, 7] (fun s6 s7 wr => RelPq l cols w.heap.size w s6 s7 wr) (fun s6 s7 _ => cols.length - (Go.RowKit.intOf s7).toNat)
  case atStart => exact ⟨0, by omega, rfl, rfl, OwnK.start (World.ownsRow_nil _ _ _ _) (Nat.le_refl _)⟩
  case round =>
    unfold RelPq at hrel
    obtain ⟨p, hp, rfl, hall, hown⟩ := hrel
    have hownH := Lib.hid hown; have hallH := Lib.hid hall
    clear hown hall
    by_cases hlt : p < cols.length
    · obtain ⟨c, hcc⟩ : ∃ c, cols[p]? = some c := ⟨_, List.getElem?_eq_getElem hlt⟩
      obtain ⟨ac, rfl, hbc, n0_⟩ := (hcH.out.below hownH.out.2.1).at hcc
      have hltH := Lib.hid hlt
      have hccH := Lib.hid hcc
      clear hcc
      by_cases hneg : c < 0
      · have hno := Lib.hid (pick_none (l := l) hccH.out (by unfold hasC; exact decide_eq_false (by omega)))
        go_wp2_with fail
        refine bodyPost_ret (v := .tuple #[.slice none 0 0, .int .i64 20]) (by simp [results, Tryz.results13, go_sem]) rfl ?_
        exact ⟨_, _, rfl, .inl ⟨hno.out, rfl, rfl⟩, hownH.out.2.1⟩
      by_cases hbg : (l.length : Int) ≤ c
      · have hno := Lib.hid (pick_none (l := l) hccH.out (by unfold hasC; exact decide_eq_false (by omega)))
        go_wp2_with fail
        refine bodyPost_ret (v := .tuple #[.slice none 0 0, .int .i64 20]) (by simp [results, Tryz.results13, go_sem]) rfl ?_
        exact ⟨_, _, rfl, .inl ⟨hno.out, rfl, rfl⟩, hownH.out.2.1⟩
      obtain ⟨n, rfl⟩ : ∃ n : Nat, c = (n : Int) := ⟨c.toNat, by omega⟩
      have hn : n < l.length := by omega
      have hst := Lib.hid (show (cols.take (p + 1)).map (getC l) = (cols.take p).map (getC l) ++ [l[n]] by
        obtain ⟨hp2, e⟩ := List.getElem?_eq_some_iff.1 hccH.out
        rw [List.take_succ_eq_append_getElem hp2, List.map_append, List.map_singleton, e]
        unfold getC
        rw [Int.toNat_natCast, getElem!_pos l n hn])
      have hal := Lib.hid (show (cols.take (p + 1)).all (hasC l.length) = true by rw [all_take hccH.out, hallH.out]; unfold hasC; rw [decide_eq_true (by omega)]; rfl)
      obtain ⟨ad, rfl, hba, a0_, a1_, a2_, a3_⟩ := (hH.out.below hownH.out.2.1).at hn
      obtain ⟨d, hd⟩ : ∃ d, l[n] = d := ⟨_, rfl⟩
      rw [hd] at a0_ a1_ a2_ a3_ hst
      clear hd
      obtain ⟨k, b, m, s⟩ := d
      simp only at a0_ a1_ a2_ a3_
      have hlen := Lib.hid (show ((cols.take p).map (getC l)).length + [(⟨k, b, m, s⟩ : Dat)].length ≤ 1099511627776 by rw [List.length_map, List.length_take]; simp; omega)
      obtain ⟨acc, hacc⟩ : ∃ acc, (cols.take p).map (getC l) = acc := ⟨_, rfl⟩
      rw [hacc] at hst hlen hownH
      clear hacc
      have hnH := Lib.hid hn
      obtain ⟨A6, c6, rfl, _⟩ := RowV.form (show RowV _ _ acc from own_slV hownH.out.1)
      go_wp2_with (at_builtin; refine wpList_rowK rfl _ _ 23 Tryz.underlying23 rfl w.heap.size _ acc w _ _ [⟨k, b, m, s⟩] (OwnK.alloc hownH.out _) rfl (one_datum wr k b m s) rfl hlen.out ?_; intro v4 w4 hq4; have hown4 := Lib.hid hq4; clear hq4)
      go_roundw
      case rel => exact ⟨p + 1, hltH.out, by go_num, hal.out, by rw [hst.out]; exact hown4.out⟩
      case measure => have := hltH.out; simp [Go.RowKit.intOf]; omega
    · obtain rfl : p = cols.length := by omega
      have hfin := Lib.hid (show pickR l cols = some (cols.map (getC l)) by unfold pickR; rw [if_pos ⟨by omega, by have := hallH.out; rw [List.take_length] at this; exact this⟩])
      rw [List.take_length] at hownH
      obtain ⟨acc, hacc⟩ : ∃ acc, cols.map (getC l) = acc := ⟨_, rfl⟩
      rw [hacc] at hfin hownH
      clear hacc
      obtain ⟨A6, c6, rfl, _⟩ := RowV.form (show RowV _ _ acc from own_slV hownH.out.1)
      go_wp2_with fail
      refine bodyPost_ret (v := .tuple #[.slice A6 acc.length c6, .int .i64 0]) (by simp [results, Tryz.results13, go_sem]) rfl ?_
      exact ⟨_, _, rfl, .inr ⟨acc, hfin.out, rfl, own_slV hownH.out.1⟩, hownH.out.2.1⟩
def RelQp (l : List Dat) (w0 : World) (s5 s6 : Value) (wr : World) : Prop :=
  ∃ p : Nat, p ≤ l.length ∧ s6 = .int .i64 (p : Int) ∧ s5 = .string ⟨(40 :: joinR (l.take p)).toArray⟩ ∧ Below w0.heap.size w0 wr
theorem string_add (a b : List UInt8) : (⟨a.toArray⟩ ++ ⟨b.toArray⟩ : ByteArray) = ⟨(a ++ b).toArray⟩ := by
  apply bytes_eq
  simp
set_option maxHeartbeats 4000000 in
set_option maxRecDepth 1000000 in
theorem ref02Print_any (v : Value) (l : List Dat) (w : World) (h : RowV w v l) (hw : ∀ d ∈ l, Wide d ∧ d.s.size ≤ 140737488355328) :
    Calls Tryz.prog 15 #[v] w fun e w' => e = .returned (.tuple #[.string (strR l), .int .i64 (chkR l)]) ∧ Below w.heap.size w w' := by
  obtain ⟨A, c, rfl, hla⟩ := h.form
  have hH := Lib.hid h; have hwH := Lib.hid hw
  clear h hw
  obtain ⟨r, hr⟩ : ∃ r, chkR l = r := ⟨_, rfl⟩
  obtain ⟨t, ht⟩ : ∃ t, strR l = t := ⟨_, rfl⟩
  rw [hr, ht]
  have hrH := Lib.hid hr; have htH := Lib.hid ht
  clear hr ht
  go_enter Tryz.func15, Tryz.ntmps15
  go_wp2_with fail
  refine (ref02Check_any _ l w hH.out (fun d hd => (hwH.out d hd).2)).mono ?_
  rw [hrH.out]
  rintro e w1 ⟨rfl, hb1⟩
  have hb1H := Lib.hid hb1
  clear hb1
  by_cases hz : r = 0
  · subst hz
    obtain ⟨h32, hok⟩ := okL hrH.out
    have hjl := Lib.hid (fun p => joinR_len (l := l.take p) (fun d hd => ⟨hok d (List.mem_of_mem_take hd), (hwH.out d (List.mem_of_mem_take hd)).1.2⟩))
    clear hok
    go_wp2_with fail
    go_loopw [5, 6] (fun s5 s6 wr => RelQp l w s5 s6 wr) (fun s5 s6 _ => l.length - (Go.RowKit.intOf s6).toNat)
    case atStart => exact ⟨0, by omega, rfl, rfl, hb1H.out⟩
    case round =>
      unfold RelQp at hrel
      obtain ⟨p, hp, rfl, rfl, hbw⟩ := hrel
      have hbwH := Lib.hid hbw
      clear hbw
      by_cases hlt : p < l.length
      · obtain ⟨ad, rfl, hba, a0_, a1_, a2_, a3_⟩ := (hH.out.below hbwH.out).at hlt
        have hwd := Lib.hid (hwH.out _ (List.getElem_mem hlt))
        have hsn := Lib.hid (show joinR (l.take (p + 1)) = if p = 0 then printS l[p] else joinR (l.take p) ++ 44 :: 32 :: printS l[p] by
          rw [List.take_succ_eq_append_getElem hlt, joinR_snoc]
          by_cases h0 : p = 0
          · subst h0; rw [if_pos rfl, if_pos (by simp)]
          · rw [if_neg h0, if_neg (by
              intro q
              have := congrArg List.length q
              rw [List.length_take, List.length_nil] at this
              omega)])
        obtain ⟨d, hd⟩ : ∃ d, l[p] = d := ⟨_, rfl⟩
        rw [hd] at a0_ a1_ a2_ a3_ hsn hwd
        clear hd
        obtain ⟨k, b, n, s⟩ := d
        simp only at a0_ a1_ a2_ a3_
        have hltH := Lib.hid hlt
        have hjp := Lib.hid (hjl.out (p + 1))
        obtain ⟨J, hJ⟩ : ∃ J, joinR (l.take p) = J := ⟨_, rfl⟩
        rw [hJ] at hsn ⊢
        have hJH := Lib.hid hJ
        obtain ⟨Q, hQ⟩ : ∃ Q, printS ⟨k, b, n, s⟩ = Q := ⟨_, rfl⟩
        rw [hQ] at hsn
        have hQH := Lib.hid hQ
        clear hJ hQ
        by_cases h0 : p = 0
        · have hsn2 := Lib.hid (show joinR (l.take (p + 1)) = Q by rw [hsn.out, if_pos h0])
          have hJ0 := Lib.hid (show (40 :: J : List UInt8) = [40] by rw [← hJH.out]; subst h0; rfl)
          have hp0 : ¬ (0 : Int) < (p : Int) := by omega
          have hq1 : ¬ 9223372036854775807 < J.length + 1 + Q.length := by have h1 := hjp.out; rw [hsn2.out] at h1; have h2 := congrArg List.length hJ0.out; simp only [List.length_take, List.length_cons, List.length_nil] at h1 h2; omega
          have h0H := Lib.hid h0
          clear h0
          go_wp2_with fail
          refine (refPrint_any k b n s _ hwd.out.2 hwd.out.1.2).mono ?_
          rw [hQH.out]
          rintro e w2 ⟨rfl, hb2⟩
          have hb2H := Lib.hid (hbwH.out.trans (hb2.mono hbwH.out.size))
          clear hb2 a0_ a1_ a2_ a3_
          go_wp2_with fail
          go_roundw
          case rel => exact ⟨p + 1, hltH.out, by go_num, by rw [hsn2.out, string_add, hJ0.out]; rfl, hb2H.out⟩
          case measure => have := hltH.out; simp [Go.RowKit.intOf]; omega
        · have hsn2 := Lib.hid (show joinR (l.take (p + 1)) = J ++ 44 :: 32 :: Q by rw [hsn.out, if_neg h0])
          have hp0 : (0 : Int) < (p : Int) := by omega
          have hq0 : J.length + 2 + Q.length ≤ 320000 := by have h1 := hjp.out; rw [hsn2.out] at h1; simp only [List.length_take, List.length_append, List.length_cons] at h1; omega
          have hq1 : ¬ 9223372036854775807 < J.length + 1 + 2 := by omega
          have hq2 : ¬ 9223372036854775807 < J.length + 1 + 2 + Q.length := by omega
          clear hq0
          clear h0
          go_wp2_with fail
          refine (refPrint_any k b n s _ hwd.out.2 hwd.out.1.2).mono ?_
          rw [hQH.out]
          rintro e w2 ⟨rfl, hb2⟩
          have hb2H := Lib.hid (hbwH.out.trans (hb2.mono hbwH.out.size))
          clear hb2 a0_ a1_ a2_ a3_
          go_wp2_with fail
          go_roundw
          case rel => exact ⟨p + 1, hltH.out, by go_num, by rw [hsn2.out]; congr 1; exact bytes_eq (by simp), hb2H.out⟩
          case measure => have := hltH.out; simp [Go.RowKit.intOf]; omega
      · obtain rfl : p = l.length := by omega
        rw [List.take_length]
        obtain ⟨J, hJ⟩ : ∃ J, joinR l = J := ⟨_, rfl⟩
        rw [hJ]
        have hJH := Lib.hid hJ
        have hq1 : ¬ 9223372036854775807 < J.length + 1 + 1 := by have h1 := hjl.out l.length; rw [List.take_length, hJ] at h1; omega
        clear hJ
        go_wp2_with fail
        refine bodyPost_ret (v := .tuple #[.string t, .int .i64 0]) (by simp [results, Tryz.results15, go_sem]; rw [← htH.out]; unfold strR; rw [if_pos hrH.out]; unfold printR; rw [hJH.out]; exact bytes_eq (by simp)) rfl ⟨rfl, hbwH.out⟩
  · have hte := Lib.hid (show t = ⟨#[]⟩ by rw [← htH.out]; unfold strR; rw [if_neg (by rw [hrH.out]; exact hz)])
    have hne : (r != 0) = true := by simpa using hz
    clear hz
    go_wp2_with fail
    refine bodyPost_ret (v := .tuple #[.string ⟨#[]⟩, .int .i64 r]) (by simp [results, Tryz.results15, go_sem]) rfl ⟨by rw [hte.out], hb1H.out⟩
end Go.Proofs.YtpmfbmigdpmloaaGreatDoor
