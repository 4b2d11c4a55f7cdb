/-
  The encodings of texts, of data, and the keys of rows, behind bytes that the caller owns, at this program. Conditions: those written.
-/
import Derived.Test.YtfkimemagbkcoaaDoorRwE
import Derived.Laws.IdiomStrings
set_option linter.unusedVariables false
set_option linter.unusedSimpArgs false
namespace Go.Proofs.YtfkimemagbkcoaaDoor
open Go.RowKit Go.Lib

theorem get_at {s : ByteArray} {p : Nat} (h : p < s.size) : s.data.toList[p]? = some (s.get! p) := by
  rcases s with ⟨a⟩
  simp only [ByteArray.get!]
  have h' : p < a.size := h
  rw [Array.getElem?_toList, Array.getElem?_eq_getElem h', getElem!_pos a p h']
theorem idx_at (s : ByteArray) (p : Nat) (u : UInt8) (hu : s.get! p = u) (h : p < s.size) (w : World) : (Instr.index 9 (.string s) (.int .i64 (p : Int))).run Tryd.prog w = .ok (.int .u8 (u.toNat : Int)) w := by
  subst hu
  rw [run_index_string w 9 s .i64 (p : Int) Tryd.underlying9, dif_pos ⟨by omega, by omega⟩]
  have : s.get! p = s[p]'h := by
    rcases s with ⟨a⟩
    simp only [ByteArray.get!, ByteArray.getElem_eq_getElem_data]
    exact getElem!_pos a p h
  simp only [this, Int.toNat_natCast]
theorem escT_at {s : ByteArray} {p : Nat} {u : UInt8} (h : p < s.size) (hu : s.get! p = u) : escT (s.data.toList.take (p + 1)) = escT (s.data.toList.take p) ++ (if u = 0 then [0, 255] else [u]) := by
  have h1 := get_at h
  rw [hu] at h1
  have : s.data.toList.take (p + 1) = s.data.toList.take p ++ [u] := by rw [List.take_add_one, h1]; rfl
  rw [this]
  unfold escT
  rw [List.flatMap_append]
  simp
theorem escT_le (l : List UInt8) : (escT l).length ≤ 2 * l.length := by
  unfold escT
  induction l with
  | nil => simp
  | cons b l ih =>
    rw [List.flatMap_cons, List.length_append, List.length_cons]
    split <;> simp only [List.length_cons, List.length_nil] <;> omega
theorem size_toList (s : ByteArray) : s.data.toList.length = s.size := by rcases s with ⟨a⟩; rfl
/-- What the rounds hold: what is written of the bytes up to a place. -/
def RelT (l : List UInt8) (s : ByteArray) (B : Nat) (w0 : World) (s0 s8 : Value) (wr : World) : Prop :=
  ∃ p : Nat, p ≤ s.size ∧ s8 = .int .i64 (p : Int) ∧ OwnB B s0 (l ++ escT (s.data.toList.take p)) w0 wr
set_option maxHeartbeats 4000000 in
set_option maxRecDepth 1000000 in
theorem appendText_any (B : Nat) (v : Value) (l : List UInt8) (s : ByteArray) (w : World) (h : OwnB B v l w w) (hl : l.length + 2 * s.size + 2 ≤ 140737488355328) :
    Calls Tryd.prog 77 #[v, .string s] w fun e w' => ∃ v', e = .returned v' ∧ OwnB B v' (l ++ (escT s.data.toList ++ [0, 1])) w w' := by
  have hH := Lib.hid h
  clear h
  go_enter Tryd.func77, Tryd.ntmps77
  go_wp2_with fail
  go_loopw [0, 5, 8] (fun s0 s5 s8 wr => RelT l s B w s0 s8 wr) (fun _ _ s8 _ => s.size - (Go.RowKit.intOf s8).toNat)
  case atStart => exact ⟨0, by omega, rfl, by rw [List.take_zero, show escT [] = [] from rfl, List.append_nil]; exact hH.out⟩
  case round =>
    unfold RelT at hrel
    obtain ⟨p, hp, rfl, hown⟩ := hrel
    have hownH := Lib.hid hown
    have hle : (l ++ escT (s.data.toList.take p)).length + 2 ≤ 140737488355328 := by
      have := escT_le (s.data.toList.take p)
      rw [List.length_take, size_toList] at this
      rw [List.length_append]; omega
    have hleH := Lib.hid hle
    clear hown hle
    by_cases hlt : p < s.size
    · obtain ⟨u, hu⟩ : ∃ u, s.get! p = u := ⟨_, rfl⟩
      have hx0 := fun w' => idx_at s p u hu hlt w'
      have hat := Lib.hid (escT_at hlt hu)
      have hcs : Hid ((#[Value.int .u8 (u.toNat : Int)] : Array Value) = (Lib.byteCells [u]).toArray) := by exact (show _ = _ by simp [Lib.byteCells])
      have hltH := Lib.hid hlt
      clear hu
      by_cases hz : u = 0
      · subst hz
        go_wp2_with (first
          | (at_builtin; refine wpList_bytes rfl _ _ rfl B _ _ w _ 1 [255] _ (by rfl) hown1.out rfl rfl rfl (by have := hleH.out; rw [List.length_append, List.length_singleton]; omega) ?_; intro v2 w2 hq; have hown2 := Lib.hid hq; clear hq)
          | (at_builtin; refine wpList_bytes rfl _ _ rfl B _ _ w _ 1 [0] _ (by rfl) hownH.out rfl rfl rfl (by have := hleH.out; omega) ?_; intro v1 w1 hq; have hown1 := Lib.hid hq; clear hq))
        go_roundw
        case rel => exact ⟨p + 1, hltH.out, by go_num, by rw [hat.out, if_pos rfl, ← List.append_assoc]; have := hown2.out; rw [List.append_assoc] at this; exact this⟩
        case measure => simp [Go.RowKit.intOf]; omega
      · have hz' : ((u.toNat : Int) == 0) = false := by
          rw [beq_eq_false_iff_ne]
          intro q
          exact hz (UInt8.toNat_inj.1 (show u.toNat = (0 : UInt8).toNat by rw [show (0 : UInt8).toNat = 0 from rfl]; omega))
        have hzH := Lib.hid hz
        clear hz
        go_wp2_with (at_builtin; refine wpList_bytes rfl _ _ rfl B _ _ w _ 1 [u] _ hcs.out hownH.out rfl rfl rfl (by have := hleH.out; omega) ?_; intro v' w' hown')
        have hown1 := Lib.hid hown'
        clear hown'
        go_wp2_with fail
        go_roundw
        case rel => exact ⟨p + 1, hltH.out, by go_num, by rw [hat.out, if_neg hzH.out, ← List.append_assoc]; exact hown1.out⟩
        case measure => simp [Go.RowKit.intOf]; omega
    · obtain rfl : p = s.size := by omega
      have hfin := Lib.hid (show s.data.toList.take s.size = s.data.toList from List.take_of_length_le (by rw [size_toList]; omega))
      go_wp2_with (at_builtin; refine wpList_bytes rfl _ _ rfl B _ _ w _ 2 [0, 1] _ (by rfl) hownH.out rfl rfl rfl hleH.out ?_; intro v' w' hown')
      have hown1 := Lib.hid hown'
      clear hown'
      go_wp2_with fail
      go_ret
      refine ⟨_, rfl, ?_⟩
      have := hown1.out
      rw [hfin.out, List.append_assoc] at this
      exact this
/-- .. as one operation of a region that draws its order. -/
theorem wp_bytes {o : Oper} {a : Act} {K : Act → World → Prop} {Q : Exit → Act → World → Prop} (s x : Operand)
    (ho : o.op = .call { callee := .builtin .append, args := #[s, x], argTypes := #[22, 22] })
    (B : Nat) (v : Value) (l : List UInt8) (W0 w0 : World) (m : Nat) (new : List UInt8) (cs : Array Value) (hcs : cs = (Lib.byteCells new).toArray) (hb : OwnB B v l W0 w0) (hs : a.eval s = v)
    (hx : a.eval x = .slice (some ⟨w0.heap.size, 0, none⟩) m m) (hl : new.length = m) (hlen : l.length + m ≤ 140737488355328)
    (h : ∀ v' w', OwnB B v' (l ++ new) W0 w' → K (a.put o.dst v') w') : o.wp Tryd.prog a (w0.alloc (.cells cs 5)) K Q := by
  subst hcs
  obtain ⟨i, hi, hz, hsz, hby⟩ := info_u8
  have hb' := hb.alloc (.cells (Lib.byteCells new).toArray 5)
  refine wp_append_own _ s x 22 ho B 5 i (.int .u8 0) 1 1 Tryd.underlying22 hi hz hsz hby rfl (by decide) v l.length (Lib.byteCells l) hs hb'.1 ⟨w0.heap.size, 0, none⟩ m m (Lib.byteCells new) hx (by rw [Lib.byteCells_length, hl, Nat.mul_one]) ?_ (bytes_one new) (by unfold maxLen; omega) (by omega) hb'.2.2.1 ?_
  · intro j u hj
    have := cell_new w0 (Lib.byteCells new).toArray 5 j
    rw [show (⟨w0.heap.size, 0, none⟩ : Addr).add j = ⟨w0.heap.size, j, none⟩ by unfold Addr.add; split <;> simp_all]
    rw [this]
    simpa using hj
  · intro v' w' ho' hg _
    refine h v' w' ?_
    have h1 := hb'.grown ho' hg
    unfold OwnB
    rw [List.length_append, hl, Lib.byteCells_append]
    exact h1
theorem Has.others {w w' : World} {b : Nat} {c0 c1 c2 c3 : Value} (h : Has w b c0 c1 c2 c3) (ho : OthersKept 5 none w w') : Has w' b c0 c1 c2 c3 :=
  ho b _ h (by simp) (fun c fz q => by cases q)
theorem OwnB.again {B : Nat} {v : Value} {l : List UInt8} {W0 w : World} (h : OwnB B v l W0 w) : OwnB B v l w w := OwnK.start h.1 h.2.2.1
/-- What a datum's encoding comes to at most. -/
def szD (s : ByteArray) : Nat := 2 * s.size + 16
set_option maxHeartbeats 4000000 in
set_option maxRecDepth 1000000 in
theorem appendDatum_any (B : Nat) (v : Value) (l : List UInt8) (k : Int) (b : Bool) (n : Int) (s : ByteArray) (w : World) (h : OwnB B v l w w) (hn : -9223372036854775808 ≤ n ∧ n ≤ 9223372036854775807) (hl : l.length + szD s ≤ 70368744177664) :
    Calls Tryd.prog 39 #[v, .agg #[.int .u8 k, .bool b, .int .i64 n, .string s]] w fun e w' => ∃ v', e = .returned v' ∧ OwnB B v' (l ++ encD ⟨k, b, n, s⟩) w w' := by
  unfold szD at hl
  obtain ⟨W1, hW1⟩ : ∃ W1, w.alloc (.cells #[.int .u8 k, .bool b, .int .i64 n, .string s] 79) = W1 := ⟨_, rfl⟩
  have hB1 := Lib.hid (show Has W1 w.heap.size (.int .u8 k) (.bool b) (.int .i64 n) (.string s) from hW1 ▸ Has.new w _ _ _ _)
  have h01 := Lib.hid (show OwnB B v l w W1 from hW1 ▸ h.alloc _)
  have h1 := Lib.hid h01.out.again
  obtain ⟨c0_, c1_, c2_, c3_⟩ := hB1.out.cells
  clear h
  by_cases k1 : k = 1
  · subst k1
    go_enter Tryd.func39, Tryd.ntmps39
    go_wp2_with (at_builtin; refine wpList_bytes rfl _ _ rfl B _ _ W1 _ 1 [16] _ (by rfl) h1.out rfl rfl rfl (by omega) ?_; intro v' w' hq; have h2 := Lib.hid hq; clear hq)
    go_ret
    exact ⟨_, rfl, OwnK.trans h01.out h2.out⟩
  by_cases k2 : k = 2
  · subst k2
    cases b with
    | true =>
      go_enter Tryd.func39, Tryd.ntmps39
      go_wp2_with (at_builtin; refine wpList_bytes rfl _ _ rfl B _ _ W1 _ 1 [33] _ (by rfl) h1.out rfl rfl rfl (by omega) ?_; intro v' w' hq; have h2 := Lib.hid hq; clear hq)
      go_ret
      exact ⟨_, rfl, OwnK.trans h01.out h2.out⟩
    | false =>
      go_enter Tryd.func39, Tryd.ntmps39
      go_wp2_with (at_builtin; refine wpList_bytes rfl _ _ rfl B _ _ W1 _ 1 [32] _ (by rfl) h1.out rfl rfl rfl (by omega) ?_; intro v' w' hq; have h2 := Lib.hid hq; clear hq)
      go_ret
      exact ⟨_, rfl, OwnK.trans h01.out h2.out⟩
  by_cases k3 : k = 3
  · subst k3
    go_enter Tryd.func39, Tryd.ntmps39
    go_wp2_with fail
    refine wp_region_noPanic ?_
    refine wp_region_held_drew (S := (fun w' => w'.cell? ⟨w.heap.size, 2, none⟩ = some (.int .i64 n))) (by kernel_rfl) (c2_) (fun hHeld => ?_)
    refine' wpAnyH_take (i := 0) (v := ?v0x1) ?hi0x1 ?hs0x1 ?hf0x1 ?hr0x1 ?hQ0x1 ?hy0x1 ?hS0x1 ?rest0x1
    case hi0x1 => (simp only [List.getElem?_toArray, List.getElem?_cons_succ, List.getElem?_cons_zero]; try rfl)
    case hs0x1 => kernel_rfl
    case hf0x1 => kernel_rfl
    case hr0x1 => kernel_rfl
    case hQ0x1 => exact fun _ _ _ h => h
    case hy0x1 => first | exact Or.inl ⟨by rfl, by (intro w hSw; (try dsimp only at hSw); go_simp; try rfl)⟩ | exact Or.inr ⟨by rfl, rfl⟩
    case hS0x1 => assumption
    (try simp only [Act.put, List.setIfInBounds_toArray, List.set_cons_zero, List.set_cons_succ])
    refine' wpAnyH_take (i := 3) (v := ?v3x2) ?hi3x2 ?hs3x2 ?hf3x2 ?hr3x2 ?hQ3x2 ?hy3x2 ?hS3x2 ?rest3x2
    case hi3x2 => (simp only [List.getElem?_toArray, List.getElem?_cons_succ, List.getElem?_cons_zero]; try rfl)
    case hs3x2 => kernel_rfl
    case hf3x2 => kernel_rfl
    case hr3x2 => kernel_rfl
    case hQ3x2 => exact fun _ _ _ h => h
    case hy3x2 => first | exact Or.inl ⟨by rfl, by (intro w hSw; (try dsimp only at hSw); go_simp; try rfl)⟩ | exact Or.inr ⟨by rfl, rfl⟩
    case hS3x2 => assumption
    (try simp only [Act.put, List.setIfInBounds_toArray, List.set_cons_zero, List.set_cons_succ])
    refine' wpAnyH_take (i := 4) (v := ?v4x3) ?hi4x3 ?hs4x3 ?hf4x3 ?hr4x3 ?hQ4x3 ?hy4x3 ?hS4x3 ?rest4x3
    case hi4x3 => (simp only [List.getElem?_toArray, List.getElem?_cons_succ, List.getElem?_cons_zero]; try rfl)
    case hs4x3 => kernel_rfl
    case hf4x3 => kernel_rfl
    case hr4x3 => kernel_rfl
    case hQ4x3 => exact fun _ _ _ h => h
    case hy4x3 => first | exact Or.inl ⟨by rfl, by (intro w hSw; (try dsimp only at hSw); go_simp; try rfl)⟩ | exact Or.inr ⟨by rfl, rfl⟩
    case hS4x3 => assumption
    (try simp only [Act.put, List.setIfInBounds_toArray, List.set_cons_zero, List.set_cons_succ])
    refine wpAnyH_ready (rs := [1]) (by kernel_rfl) (by simp) ?_
    refine' (AllReadyH.cons (i := 1) ?ho1x4 (fun K hK => ?st1x4) AllReadyH.nil)
    case ho1x4 => (simp only [List.getElem?_toArray, List.getElem?_cons_succ, List.getElem?_cons_zero]; try rfl)
    case st1x4 =>
      go_simp
      refine hK.out _ _ ?_ (fun hHeld => ?_)
      · exact ((hB1.out.drew).alloc _).cells.2.2.1
      clear hK K
      (try simp only [Act.put, List.setIfInBounds_toArray, List.set_cons_zero, List.set_cons_succ])
      refine wpAnyH_ready (rs := [2]) (by kernel_rfl) (by simp) ?_
      refine' (AllReadyH.cons (i := 2) ?ho2x5 (fun K hK => ?st2x5) AllReadyH.nil)
      case ho2x5 => (simp only [List.getElem?_toArray, List.getElem?_cons_succ, List.getElem?_cons_zero]; try rfl)
      case st2x5 =>
        refine wp_bytes _ _ (by rfl) B _ _ W1 _ 1 [48] _ (by rfl) (OwnK.drew h1.out) (by rfl) (by rfl) rfl (by omega) ?_
        intro v2 w2 hq
        have h2 := Lib.hid hq
        have hB2 := Lib.hid (hB1.out.others hq.2.2.2)
        clear hq
        refine hK.out _ _ ?_ (fun hHeld => ?_)
        · exact hB2.out.cells.2.2.1
        clear hK K
        (try simp only [Act.put, List.setIfInBounds_toArray, List.set_cons_zero, List.set_cons_succ])
        refine wpAnyH_ready (rs := [5]) (by kernel_rfl) (by simp) ?_
        refine' (AllReadyH.cons (i := 5) ?ho5x6 (fun K hK => ?st5x6) AllReadyH.nil)
        case ho5x6 => (simp only [List.getElem?_toArray, List.getElem?_cons_succ, List.getElem?_cons_zero]; try rfl)
        case st5x6 =>
          go_simp
          refine (appendInt_any B _ _ n _ h2.out.again hn (by rw [List.length_append, List.length_singleton]; omega)).mono ?_
          rintro e_ w3 ⟨v3, rfl, hq⟩
          have h3 := Lib.hid hq
          have hB3 := Lib.hid (hB2.out.others hq.2.2.2)
          clear hq
          refine hK.out _ _ ?_ (fun hHeld => ?_)
          · exact hB3.out.cells.2.2.1
          clear hK K
          (try simp only [Act.put, List.setIfInBounds_toArray, List.set_cons_zero, List.set_cons_succ])
          refine' wpAnyH_take (i := 6) (v := ?v6x7) ?hi6x7 ?hs6x7 ?hf6x7 ?hr6x7 ?hQ6x7 ?hy6x7 ?hS6x7 ?rest6x7
          case hi6x7 => (simp only [List.getElem?_toArray, List.getElem?_cons_succ, List.getElem?_cons_zero]; try rfl)
          case hs6x7 => kernel_rfl
          case hf6x7 => kernel_rfl
          case hr6x7 => kernel_rfl
          case hQ6x7 => exact fun _ _ _ h => h
          case hy6x7 => first | exact Or.inl ⟨by rfl, by (intro w hSw; (try dsimp only at hSw); go_simp; try rfl)⟩ | exact Or.inr ⟨by rfl, rfl⟩
          case hS6x7 => assumption
          (try simp only [Act.put, List.setIfInBounds_toArray, List.set_cons_zero, List.set_cons_succ])
          refine wpAnyH_done (by kernel_rfl) ?_ _
          refine NoPanic.normal ?_
          go_wp2_with fail
          go_ret
          refine ⟨_, rfl, ?_⟩
          have := OwnK.trans h01.out (OwnK.trans h2.out h3.out)
          rw [List.append_assoc] at this
          exact this
  by_cases k4 : k = 4
  · subst k4
    go_enter Tryd.func39, Tryd.ntmps39
    go_wp2_with fail
    refine wp_region_noPanic ?_
    refine wp_region_held_drew (S := (fun w' => w'.cell? ⟨w.heap.size, 3, none⟩ = some (.string s))) (by kernel_rfl) (c3_) (fun hHeld => ?_)
    refine' wpAnyH_take (i := 0) (v := ?v0x8) ?hi0x8 ?hs0x8 ?hf0x8 ?hr0x8 ?hQ0x8 ?hy0x8 ?hS0x8 ?rest0x8
    case hi0x8 => (simp only [List.getElem?_toArray, List.getElem?_cons_succ, List.getElem?_cons_zero]; try rfl)
    case hs0x8 => kernel_rfl
    case hf0x8 => kernel_rfl
    case hr0x8 => kernel_rfl
    case hQ0x8 => exact fun _ _ _ h => h
    case hy0x8 => first | exact Or.inl ⟨by rfl, by (intro w hSw; (try dsimp only at hSw); go_simp; try rfl)⟩ | exact Or.inr ⟨by rfl, rfl⟩
    case hS0x8 => assumption
    (try simp only [Act.put, List.setIfInBounds_toArray, List.set_cons_zero, List.set_cons_succ])
    refine' wpAnyH_take (i := 3) (v := ?v3x9) ?hi3x9 ?hs3x9 ?hf3x9 ?hr3x9 ?hQ3x9 ?hy3x9 ?hS3x9 ?rest3x9
    case hi3x9 => (simp only [List.getElem?_toArray, List.getElem?_cons_succ, List.getElem?_cons_zero]; try rfl)
    case hs3x9 => kernel_rfl
    case hf3x9 => kernel_rfl
    case hr3x9 => kernel_rfl
    case hQ3x9 => exact fun _ _ _ h => h
    case hy3x9 => first | exact Or.inl ⟨by rfl, by (intro w hSw; (try dsimp only at hSw); go_simp; try rfl)⟩ | exact Or.inr ⟨by rfl, rfl⟩
    case hS3x9 => assumption
    (try simp only [Act.put, List.setIfInBounds_toArray, List.set_cons_zero, List.set_cons_succ])
    refine' wpAnyH_take (i := 4) (v := ?v4x10) ?hi4x10 ?hs4x10 ?hf4x10 ?hr4x10 ?hQ4x10 ?hy4x10 ?hS4x10 ?rest4x10
    case hi4x10 => (simp only [List.getElem?_toArray, List.getElem?_cons_succ, List.getElem?_cons_zero]; try rfl)
    case hs4x10 => kernel_rfl
    case hf4x10 => kernel_rfl
    case hr4x10 => kernel_rfl
    case hQ4x10 => exact fun _ _ _ h => h
    case hy4x10 => first | exact Or.inl ⟨by rfl, by (intro w hSw; (try dsimp only at hSw); go_simp; try rfl)⟩ | exact Or.inr ⟨by rfl, rfl⟩
    case hS4x10 => assumption
    (try simp only [Act.put, List.setIfInBounds_toArray, List.set_cons_zero, List.set_cons_succ])
    refine wpAnyH_ready (rs := [1]) (by kernel_rfl) (by simp) ?_
    refine' (AllReadyH.cons (i := 1) ?ho1x11 (fun K hK => ?st1x11) AllReadyH.nil)
    case ho1x11 => (simp only [List.getElem?_toArray, List.getElem?_cons_succ, List.getElem?_cons_zero]; try rfl)
    case st1x11 =>
      go_simp
      refine hK.out _ _ ?_ (fun hHeld => ?_)
      · exact ((hB1.out.drew).alloc _).cells.2.2.2
      clear hK K
      (try simp only [Act.put, List.setIfInBounds_toArray, List.set_cons_zero, List.set_cons_succ])
      refine wpAnyH_ready (rs := [2]) (by kernel_rfl) (by simp) ?_
      refine' (AllReadyH.cons (i := 2) ?ho2x12 (fun K hK => ?st2x12) AllReadyH.nil)
      case ho2x12 => (simp only [List.getElem?_toArray, List.getElem?_cons_succ, List.getElem?_cons_zero]; try rfl)
      case st2x12 =>
        refine wp_bytes _ _ (by rfl) B _ _ W1 _ 1 [64] _ (by rfl) (OwnK.drew h1.out) (by rfl) (by rfl) rfl (by omega) ?_
        intro v2 w2 hq
        have h2 := Lib.hid hq
        have hB2 := Lib.hid (hB1.out.others hq.2.2.2)
        clear hq
        refine hK.out _ _ ?_ (fun hHeld => ?_)
        · exact hB2.out.cells.2.2.2
        clear hK K
        (try simp only [Act.put, List.setIfInBounds_toArray, List.set_cons_zero, List.set_cons_succ])
        refine wpAnyH_ready (rs := [5]) (by kernel_rfl) (by simp) ?_
        refine' (AllReadyH.cons (i := 5) ?ho5x13 (fun K hK => ?st5x13) AllReadyH.nil)
        case ho5x13 => (simp only [List.getElem?_toArray, List.getElem?_cons_succ, List.getElem?_cons_zero]; try rfl)
        case st5x13 =>
          go_simp
          refine (appendText_any B _ _ s _ h2.out.again (by rw [List.length_append, List.length_singleton]; omega)).mono ?_
          rintro e_ w3 ⟨v3, rfl, hq⟩
          have h3 := Lib.hid hq
          have hB3 := Lib.hid (hB2.out.others hq.2.2.2)
          clear hq
          refine hK.out _ _ ?_ (fun hHeld => ?_)
          · exact hB3.out.cells.2.2.2
          clear hK K
          (try simp only [Act.put, List.setIfInBounds_toArray, List.set_cons_zero, List.set_cons_succ])
          refine' wpAnyH_take (i := 6) (v := ?v6x14) ?hi6x14 ?hs6x14 ?hf6x14 ?hr6x14 ?hQ6x14 ?hy6x14 ?hS6x14 ?rest6x14
          case hi6x14 => (simp only [List.getElem?_toArray, List.getElem?_cons_succ, List.getElem?_cons_zero]; try rfl)
          case hs6x14 => kernel_rfl
          case hf6x14 => kernel_rfl
          case hr6x14 => kernel_rfl
          case hQ6x14 => exact fun _ _ _ h => h
          case hy6x14 => first | exact Or.inl ⟨by rfl, by (intro w hSw; (try dsimp only at hSw); go_simp; try rfl)⟩ | exact Or.inr ⟨by rfl, rfl⟩
          case hS6x14 => assumption
          (try simp only [Act.put, List.setIfInBounds_toArray, List.set_cons_zero, List.set_cons_succ])
          refine wpAnyH_done (by kernel_rfl) ?_ _
          refine NoPanic.normal ?_
          go_wp2_with fail
          go_ret
          refine ⟨_, rfl, ?_⟩
          have := OwnK.trans h01.out (OwnK.trans h2.out h3.out)
          rw [List.append_assoc] at this
          exact this
  have g1 : (k == 1) = false := by simpa using k1
  have g2 : (k == 2) = false := by simpa using k2
  have g3 : (k == 3) = false := by simpa using k3
  have g4 : (k == 4) = false := by simpa using k4
  have hE := Lib.hid (show encD ⟨k, b, n, s⟩ = [] by unfold encD; rw [if_neg k1, if_neg k2, if_neg k3, if_neg k4])
  clear k1 k2 k3 k4
  go_enter Tryd.func39, Tryd.ntmps39
  go_wp2_with fail
  go_ret
  exact ⟨_, rfl, by rw [hE.out, List.append_nil]; exact h01.out⟩
end Go.Proofs.YtfkimemagbkcoaaDoor
