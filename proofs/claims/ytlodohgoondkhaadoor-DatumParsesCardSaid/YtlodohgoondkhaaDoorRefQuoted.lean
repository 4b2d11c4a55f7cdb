/-
  What the document's own quoted answers, at this program: of every text of at most 2^40 bytes.
-/
import Derived.Test.YtlodohgoondkhaaDoorRefDigits
import Derived.Test.YtlodohgoondkhaaDoorRefLong
import Derived.Test.YtlodohgoondkhaaDoorQuote
import Derived.Lib.BufSteps
import Derived.Deep.RegionHeld3
import Derived.Laws.IdiomStrings
set_option linter.unusedVariables false
set_option linter.unusedSimpArgs false
namespace Go.Proofs.YtlodohgoondkhaaDoor
open Go.RowKit Go.Lib

theorem own_byte : (Tryd.prog.info? 5).map (fun i => (i.zero, i.size, i.bytes)) = some (some (.int .u8 0), 1, 1) := by kernel_rfl
theorem toList_drop (s : ByteArray) (p : Nat) (h : p < s.size) : s.data.toList.drop p = s.get! p :: s.data.toList.drop (p + 1) := by
  have hp : p < s.data.toList.length := by rw [size_list]; exact h
  rw [List.drop_eq_getElem_cons hp]
  congr 1
  rcases s with ⟨a⟩
  simp only [ByteArray.get!]
  rw [getElem!_pos a p h]
  simp
theorem esc_39 : escB 39 = [39, 39] := rfl
theorem of_bt {u : UInt8} {c : Nat} (h : u.toNat = c) : u = UInt8.ofNat c := by subst h; simp
theorem esc_hex {u : UInt8} {c : Nat} (h : u.toNat = c) (h1 : ¬ c = 39) (h2 : ¬ c = 92) (h3 : ¬ c = 10) (h4 : ¬ c = 13) (h5 : ¬ c = 9) (h6 : c < 32 ∨ c = 127) : escB u = [92, 120, hexD (c / 16), hexD (c % 16)] := by
  have k : ∀ (x : Nat) (y : UInt8), y.toNat = x → u = y → c = x := fun x y hy e => by rw [← h, e, hy]
  unfold escB
  rw [if_neg (fun e => h1 (k 39 39 (by decide) e)), if_neg (fun e => h2 (k 92 92 (by decide) e)), if_neg (fun e => h3 (k 10 10 (by decide) e)), if_neg (fun e => h4 (k 13 13 (by decide) e)), if_neg (fun e => h5 (k 9 9 (by decide) e)), if_pos, h]
  rcases h6 with h6 | h6
  · exact .inl (by rw [UInt8.lt_iff_toNat_lt, h]; exact h6)
  · exact .inr (by rw [of_bt h, h6]; rfl)
theorem esc_plain {u : UInt8} {c : Nat} (h : u.toNat = c) (h1 : ¬ c = 39) (h2 : ¬ c = 92) (h3 : ¬ c = 10) (h4 : ¬ c = 13) (h5 : ¬ c = 9) (h6 : ¬ (c < 32 ∨ c = 127)) : escB u = [u] := by
  have k : ∀ (x : Nat) (y : UInt8), y.toNat = x → u = y → c = x := fun x y hy e => by rw [← h, e, hy]
  unfold escB
  rw [if_neg (fun e => h1 (k 39 39 (by decide) e)), if_neg (fun e => h2 (k 92 92 (by decide) e)), if_neg (fun e => h3 (k 10 10 (by decide) e)), if_neg (fun e => h4 (k 13 13 (by decide) e)), if_neg (fun e => h5 (k 9 9 (by decide) e)), if_neg]
  rintro (e | e)
  · exact h6 (.inl (by rw [UInt8.lt_iff_toNat_lt, h] at e; exact e))
  · exact h6 (.inr (k 127 127 (by decide) e))
theorem conv_own {B n : Nat} {v : Value} {l : List UInt8} {w : World} (h : w.ownsRowF B 5 1 v n (Lib.byteCells l)) (hn : n = l.length) (h1 : 1 ≤ n) :
    ∃ g cap, v = .slice (some ⟨g, 0, none⟩) n cap ∧ (convert 86 9 (.slice (some ⟨g, 0, none⟩) n cap)).run Tryd.prog w = .ok (.string ⟨l.toArray⟩) w := by
  have hcells := @World.ownsRowF.cells w B 5 1 v n (Lib.byteCells l) h
  obtain ⟨_, hc⟩ := h
  rcases hc with ⟨_, h0⟩ | ⟨g, cap, cur, fz, rfl, _⟩
  · omega
  · refine ⟨g, cap, rfl, ?_⟩
    subst hn
    refine run_convert_bytes_back (P := Tryd.prog) w 86 9 5 ⟨g, 0, none⟩ cap l Tryd.underlying86 Tryd.underlying5 Tryd.underlying9 (fun j hj => hcells rfl j _ ?_)
    simp [Lib.byteCells, hj]
theorem idx_u8 (s : ByteArray) (p : Nat) (z : Int) (hz : z = (p : Int)) (h : p < s.size) (w : World) : (Instr.index 9 (.string s) (.int .u8 z)).run Tryd.prog w = .ok (.int .u8 (bt s p : Int)) w := by
  subst hz
  rw [run_index_string w 9 s .u8 (p : Int) Tryd.underlying9, dif_pos ⟨by omega, by omega⟩]
  have : s.get! p = s[p]'h := by
    rcases s with ⟨a⟩
    simp only [ByteArray.get!, ByteArray.getElem_eq_getElem_data]
    exact getElem!_pos a p h
  simp only [bt, this, Int.toNat_natCast]
theorem upon_append {P : Program} {o : Oper} {a : Act} {K : Act → World → Prop} {Q : Exit → Act → World → Prop} (s x : Operand) (t : TypeId) (ho : o.op = .call { callee := .builtin .append, args := #[s, x], argTypes := #[t, t] }) {v sl v' : Value} {w w' : World}
    (hs : a.eval s = v) (hx : a.eval x = sl) (hr : (Builtin.append_ #[t, t] o.type #[v, sl]).run P w = .ok v' w') (h : K (a.put o.dst v') w') : Oper.wp P o a w K Q := by
  unfold Oper.wp execOp
  simp only [ho, resolve, invoke, builtin, Sem.run_bind, Sem.run_pure, Result.andThen_ok, List.map_toArray, List.map_cons, List.map_nil, hs, hx, hr]
  exact h
set_option maxRecDepth 100000 in
theorem and15 : ∀ i : Fin 256, bits .and .u8 (i.val : Int) 15 = ((i.val % 16 : Nat) : Int) := by decide
/-- The sixteen digits. -/
def dgt : ByteArray := ⟨#[48, 49, 50, 51, 52, 53, 54, 55, 56, 57, 97, 98, 99, 100, 101, 102]⟩
theorem dgt_fin : ∀ i : Fin 16, bt dgt i.val = (hexD i.val).toNat := by decide
theorem dgt_bt (i : Nat) (h : i < 16) : bt dgt i = (hexD i).toNat := dgt_fin ⟨i, h⟩
/-- What the rounds hold: what is written of the bytes up to a place. -/
def RelQ (s : ByteArray) (w0 : World) (v i : Value) (wr : World) : Prop :=
  ∃ (p : Nat) (acc : List UInt8), i = .int .i64 (p : Int) ∧ p ≤ s.size ∧ Lib.OwnBuf w0.heap.size 5 v acc.length (Lib.byteCells acc) w0 wr ∧ acc ++ (s.data.toList.drop p).flatMap escB = 39 :: s.data.toList.flatMap escB ∧ acc.length ≤ 1 + 4 * p
theorem rel_step {s : ByteArray} {w0 w' : World} {v' : Value} {p : Nat} {acc e : List UInt8} {n : Nat} {xs : List Value} (hp : p < s.size) (he : escB (s.get! p) = e) (hacc : acc ++ (s.data.toList.drop p).flatMap escB = 39 :: s.data.toList.flatMap escB) (hal : acc.length ≤ 1 + 4 * p)
    (hn : n = acc.length + e.length) (hx : xs = Lib.byteCells acc ++ Lib.byteCells e) (hb : Lib.OwnBuf w0.heap.size 5 v' n xs w0 w') (i : Value) (hi : i = .int .i64 ((p + 1 : Nat) : Int)) : RelQ s w0 v' i w' := by
  refine ⟨p + 1, acc ++ e, hi, hp, ?_, ?_, ?_⟩
  · rw [List.length_append, ← hn, Lib.byteCells_append, ← hx]; exact hb
  · rw [← hacc, toList_drop s p hp, List.flatMap_cons, he, List.append_assoc]
  · have := (escB_len (s.get! p)).2
    rw [he] at this
    rw [List.length_append]; omega

set_option maxRecDepth 100000 in
set_option maxHeartbeats 8000000 in
theorem refQuoted_any (s : ByteArray) (w : World) (hs : s.size ≤ 1099511627776) :
    Calls Tryd.prog 63 #[.string s] w fun e w' => e = .returned (.string ⟨(quoteL s.data.toList).toArray⟩) ∧ Below w.heap.size w w' := by
  obtain ⟨i0, hi, hz0, hz1, hz2⟩ := info_parts own_byte
  go_enter Tryd.func63, Tryd.ntmps63
  go_wp2_with fail
  go_loopw [3, 4] (fun v i wr => RelQ s w v i wr) (fun _ i _ => s.size - (Go.RowKit.intOf i).toNat)
  case atStart => exact ⟨0, [39], rfl, Nat.zero_le _, ⟨⟨by simp [Lib.byteCells], .inr ⟨w.heap.size, 1, _, (0, 0), rfl, Nat.le_refl _, heap_alloc_new w _, Nat.zero_le _, Nat.le_refl _, by decide, by simp, by simp [Lib.byteCells]⟩⟩, by go_grown, by simp⟩, by simp, by simp⟩
  case round =>
    unfold RelQ at hrel
    obtain ⟨p, acc, rfl, hp, hbuf, hacc, hal⟩ := hrel
    have hbH := Lib.hid hbuf; have haccH := Lib.hid hacc; have halH := Lib.hid hal
    clear hbuf hacc hal
    by_cases hlt : p < s.size
    · have hltH := Lib.hid hlt
      have hx0 := fun w' => idx_run s p (p : Int) rfl hlt w'
      obtain ⟨c, hc⟩ : ∃ c, bt s p = c := ⟨_, rfl⟩
      have hc256 : c < 256 := by rw [← hc]; exact bt_lt s p
      rw [hc] at hx0
      have hcH := Lib.hid hc
      clear hc
      by_cases c0 : c = 39
      · subst c0
        go_wp2_with (at_builtin; refine Lib.wpList_append_text rfl _ _ 86 9 rfl w.heap.size 5 i0 Tryd.underlying86 Tryd.underlying9 hi hz0 hz1 hz2 _ _ _ rfl w hbH.out _ rfl (by have := halH.out; rw [Lib.size_two]; omega) ?_; intro v' w' hb')
        have hbN := Lib.hid hb'
        clear hb'
        go_wp2
        go_roundw
        case rel => exact rel_step (e := [39, 39]) hltH.out (by rw [of_bt hcH.out]; rfl) haccH.out halH.out rfl (by simp [Lib.strCells, Lib.byteCells]) hbN.out _ (by go_num)
        case measure => simp [Go.RowKit.intOf]; omega
      have d0 : ((c : Int) == 39) = false := by simp; omega
      by_cases c1 : c = 92
      · subst c1
        go_wp2_with (at_builtin; refine Lib.wpList_append_text rfl _ _ 86 9 rfl w.heap.size 5 i0 Tryd.underlying86 Tryd.underlying9 hi hz0 hz1 hz2 _ _ _ rfl w hbH.out _ rfl (by have := halH.out; rw [Lib.size_two]; omega) ?_; intro v' w' hb')
        have hbN := Lib.hid hb'
        clear hb'
        go_wp2
        go_roundw
        case rel => exact rel_step (e := [92, 92]) hltH.out (by rw [of_bt hcH.out]; rfl) haccH.out halH.out rfl (by simp [Lib.strCells, Lib.byteCells]) hbN.out _ (by go_num)
        case measure => simp [Go.RowKit.intOf]; omega
      have d1 : ((c : Int) == 92) = false := by simp; omega
      by_cases c2 : c = 10
      · subst c2
        go_wp2_with (at_builtin; refine Lib.wpList_append_text rfl _ _ 86 9 rfl w.heap.size 5 i0 Tryd.underlying86 Tryd.underlying9 hi hz0 hz1 hz2 _ _ _ rfl w hbH.out _ rfl (by have := halH.out; rw [Lib.size_two]; omega) ?_; intro v' w' hb')
        have hbN := Lib.hid hb'
        clear hb'
        go_wp2
        go_roundw
        case rel => exact rel_step (e := [92, 110]) hltH.out (by rw [of_bt hcH.out]; rfl) haccH.out halH.out rfl (by simp [Lib.strCells, Lib.byteCells]) hbN.out _ (by go_num)
        case measure => simp [Go.RowKit.intOf]; omega
      have d2 : ((c : Int) == 10) = false := by simp; omega
      by_cases c3 : c = 13
      · subst c3
        go_wp2_with (at_builtin; refine Lib.wpList_append_text rfl _ _ 86 9 rfl w.heap.size 5 i0 Tryd.underlying86 Tryd.underlying9 hi hz0 hz1 hz2 _ _ _ rfl w hbH.out _ rfl (by have := halH.out; rw [Lib.size_two]; omega) ?_; intro v' w' hb')
        have hbN := Lib.hid hb'
        clear hb'
        go_wp2
        go_roundw
        case rel => exact rel_step (e := [92, 114]) hltH.out (by rw [of_bt hcH.out]; rfl) haccH.out halH.out rfl (by simp [Lib.strCells, Lib.byteCells]) hbN.out _ (by go_num)
        case measure => simp [Go.RowKit.intOf]; omega
      have d3 : ((c : Int) == 13) = false := by simp; omega
      by_cases c4 : c = 9
      · subst c4
        go_wp2_with (at_builtin; refine Lib.wpList_append_text rfl _ _ 86 9 rfl w.heap.size 5 i0 Tryd.underlying86 Tryd.underlying9 hi hz0 hz1 hz2 _ _ _ rfl w hbH.out _ rfl (by have := halH.out; rw [Lib.size_two]; omega) ?_; intro v' w' hb')
        have hbN := Lib.hid hb'
        clear hb'
        go_wp2
        go_roundw
        case rel => exact rel_step (e := [92, 116]) hltH.out (by rw [of_bt hcH.out]; rfl) haccH.out halH.out rfl (by simp [Lib.strCells, Lib.byteCells]) hbN.out _ (by go_num)
        case measure => simp [Go.RowKit.intOf]; omega
      have d4 : ((c : Int) == 9) = false := by simp; omega
      by_cases c6 : c < 32 ∨ c = 127
      · by_cases c7 : c < 32
        · have d5 : (c : Int) < 32 := by omega
          have d7 : decide ((c : Int) < 32) = true := by simpa using d5
          have hx1 : ∃ x1, (hexD (c / 16)).toNat = x1 := ⟨_, rfl⟩
          obtain ⟨x1, hx1⟩ := hx1
          have hx2 : ∃ x2, (hexD (c % 16)).toNat = x2 := ⟨_, rfl⟩
          obtain ⟨x2, hx2⟩ := hx2
          have i1 := fun w' => idx_u8 dgt (c / 16) ((c : Int) / 16) (by omega) (by show c / 16 < 16; omega) w'
          have i2 := fun w' => idx_u8 dgt (c % 16) ((c : Int) % 16) (by omega) (by show c % 16 < 16; omega) w'
          rw [dgt_bt _ (by omega), hx1] at i1
          rw [dgt_bt _ (by omega), hx2] at i2
          unfold dgt at i1 i2
          have hand := and15 ⟨c, hc256⟩
          simp only at hand
          have hx1H := Lib.hid hx1; have hx2H := Lib.hid hx2
          clear hx1 hx2
          go_wp2_with fail
          refine wp_region_noPanic ?_
          refine wp_region_held_drew (S := (fun _ => True)) (by kernel_rfl) trivial (fun hHeld => ?_)
          refine' wpAnyH_take (i := 0) (v := u3) ?hi0x1 ?hs0x1 ?hf0x1 ?hr0x1 ?hQ0x1 ?hy0x1 ?hS0x1 ?rest0x1
          case hi0x1 => (simp only [List.getElem?_toArray, List.getElem?_cons_succ, List.getElem?_cons_zero]; try rfl)
          case hs0x1 => kernel_rfl
          case hf0x1 => kernel_rfl
          case hr0x1 => kernel_rfl
          case hQ0x1 => exact fun _ _ _ h => h
          case hy0x1 => exact Or.inl ⟨by rfl, by (intro w hSw; (try dsimp only at hSw); go_simp)⟩
          case hS0x1 => assumption
          (try simp only [Act.put, List.setIfInBounds_toArray, List.set_cons_zero, List.set_cons_succ])
          refine' wpAnyH_take (i := 1) (v := .int .u8 (c : Int)) ?hi1x2 ?hs1x2 ?hf1x2 ?hr1x2 ?hQ1x2 ?hy1x2 ?hS1x2 ?rest1x2
          case hi1x2 => (simp only [List.getElem?_toArray, List.getElem?_cons_succ, List.getElem?_cons_zero]; try rfl)
          case hs1x2 => kernel_rfl
          case hf1x2 => kernel_rfl
          case hr1x2 => kernel_rfl
          case hQ1x2 => exact fun _ _ _ h => h
          case hy1x2 => exact Or.inl ⟨by rfl, by (intro w hSw; (try dsimp only at hSw); go_simp)⟩
          case hS1x2 => assumption
          (try simp only [Act.put, List.setIfInBounds_toArray, List.set_cons_zero, List.set_cons_succ])
          refine' wpAnyH_take (i := 2) (v := .int .u8 ((c / 16 : Nat) : Int)) ?hi2x3 ?hs2x3 ?hf2x3 ?hr2x3 ?hQ2x3 ?hy2x3 ?hS2x3 ?rest2x3
          case hi2x3 => (simp only [List.getElem?_toArray, List.getElem?_cons_succ, List.getElem?_cons_zero]; try rfl)
          case hs2x3 => kernel_rfl
          case hf2x3 => kernel_rfl
          case hr2x3 => kernel_rfl
          case hQ2x3 => exact fun _ _ _ h => h
          case hy2x3 => exact Or.inl ⟨by rfl, by (intro w hSw; (try dsimp only at hSw); go_simp)⟩
          case hS2x3 => assumption
          (try simp only [Act.put, List.setIfInBounds_toArray, List.set_cons_zero, List.set_cons_succ])
          refine' wpAnyH_take (i := 4) (v := .int .u8 (c : Int)) ?hi4x4 ?hs4x4 ?hf4x4 ?hr4x4 ?hQ4x4 ?hy4x4 ?hS4x4 ?rest4x4
          case hi4x4 => (simp only [List.getElem?_toArray, List.getElem?_cons_succ, List.getElem?_cons_zero]; try rfl)
          case hs4x4 => kernel_rfl
          case hf4x4 => kernel_rfl
          case hr4x4 => kernel_rfl
          case hQ4x4 => exact fun _ _ _ h => h
          case hy4x4 => exact Or.inl ⟨by rfl, by (intro w hSw; (try dsimp only at hSw); go_simp)⟩
          case hS4x4 => assumption
          (try simp only [Act.put, List.setIfInBounds_toArray, List.set_cons_zero, List.set_cons_succ])
          refine' wpAnyH_take (i := 5) (v := .int .u8 ((c % 16 : Nat) : Int)) ?hi5x5 ?hs5x5 ?hf5x5 ?hr5x5 ?hQ5x5 ?hy5x5 ?hS5x5 ?rest5x5
          case hi5x5 => (simp only [List.getElem?_toArray, List.getElem?_cons_succ, List.getElem?_cons_zero]; try rfl)
          case hs5x5 => kernel_rfl
          case hf5x5 => kernel_rfl
          case hr5x5 => kernel_rfl
          case hQ5x5 => exact fun _ _ _ h => h
          case hy5x5 => exact Or.inl ⟨by rfl, by (intro w hSw; (try dsimp only at hSw); go_simp)⟩
          case hS5x5 => assumption
          (try simp only [Act.put, List.setIfInBounds_toArray, List.set_cons_zero, List.set_cons_succ])
          refine' wpAnyH_take (i := 3) (v := .int .u8 (x1 : Int)) ?hi3x6 ?hs3x6 ?hf3x6 ?hr3x6 ?hQ3x6 ?hy3x6 ?hS3x6 ?rest3x6
          case hi3x6 => (simp only [List.getElem?_toArray, List.getElem?_cons_succ, List.getElem?_cons_zero]; try rfl)
          case hs3x6 => kernel_rfl
          case hf3x6 => kernel_rfl
          case hr3x6 => kernel_rfl
          case hQ3x6 => exact fun _ _ _ h => h
          case hy3x6 => exact Or.inl ⟨by rfl, by (intro w hSw; (try dsimp only at hSw); go_simp)⟩
          case hS3x6 => assumption
          (try simp only [Act.put, List.setIfInBounds_toArray, List.set_cons_zero, List.set_cons_succ])
          refine' wpAnyH_take (i := 6) (v := .int .u8 (x2 : Int)) ?hi6x7 ?hs6x7 ?hf6x7 ?hr6x7 ?hQ6x7 ?hy6x7 ?hS6x7 ?rest6x7
          case hi6x7 => (simp only [List.getElem?_toArray, List.getElem?_cons_succ, List.getElem?_cons_zero]; try rfl)
          case hs6x7 => kernel_rfl
          case hf6x7 => kernel_rfl
          case hr6x7 => kernel_rfl
          case hQ6x7 => exact fun _ _ _ h => h
          case hy6x7 => exact Or.inl ⟨by rfl, by (intro w hSw; (try dsimp only at hSw); go_simp)⟩
          case hS6x7 => assumption
          (try simp only [Act.put, List.setIfInBounds_toArray, List.set_cons_zero, List.set_cons_succ])
          refine wpAnyH_ready (rs := [7]) (by kernel_rfl) (by simp) ?_
          refine' AllReadyH.cons (i := 7) ?ho7x8 (fun K hK => ?st7x8) AllReadyH.nil
          case ho7x8 => (simp only [List.getElem?_toArray, List.getElem?_cons_succ, List.getElem?_cons_zero]; try rfl)
          go_simp
          refine hK.out _ _ ?_ (fun hHeld => ?_)
          · trivial
          clear hK K
          (try simp only [Act.put, List.setIfInBounds_toArray, List.set_cons_zero, List.set_cons_succ])
          obtain ⟨v', w', hr, ho', hg, _⟩ := run_append_ownF (P := Tryd.prog) ((wr.alloc (.cells #[.int .u8 92, .int .u8 120, .int .u8 (x1 : Int), .int .u8 (x2 : Int)] 5)).drew) w.heap.size 86 86 5 i0 (.int .u8 0) 1 1 Tryd.underlying86 hi hz0 hz1 hz2 rfl (by decide) u3 acc.length (Lib.byteCells acc) (hbH.out.alloc _).1 ⟨wr.heap.size, 0, none⟩ 4 4 [.int .u8 92, .int .u8 120, .int .u8 (x1 : Int), .int .u8 (x2 : Int)] rfl (by
              intro j u hj
              match j, hj with
              | 0, hj => simp at hj; subst hj; simp [Addr.add]
              | 1, hj => simp at hj; subst hj; simp [Addr.add]
              | 2, hj => simp at hj; subst hj; simp [Addr.add]
              | 3, hj => simp at hj; subst hj; simp [Addr.add]
              | (j + 4), hj => simp at hj) (by intro u hu; simp at hu; rcases hu with rfl | rfl | rfl | rfl <;> rfl) (by have := halH.out; unfold maxLen; omega) (by have := halH.out; omega) (hbH.out.alloc _).2.2
          have hbN := Lib.hid (((hbH.out.alloc _).drewN 1).grown ho' hg)
          clear ho' hg
          refine wpAnyH_ready (rs := [8]) (by kernel_rfl) (by simp) ?_
          refine' AllReadyH.cons (i := 8) ?ho8c (fun K hK => ?st8c) AllReadyH.nil
          case ho8c => (simp only [List.getElem?_toArray, List.getElem?_cons_succ, List.getElem?_cons_zero]; try rfl)
          rw [if_pos (by rfl)]
          refine upon_append (.tmp 52) (.tmp 59) 86 rfl rfl rfl hr ?_
          refine hK.out _ _ trivial (fun hHeld => ?_)
          clear hK K
          (try simp only [Act.put, List.setIfInBounds_toArray, List.set_cons_zero, List.set_cons_succ])
          refine' wpAnyH_take (i := 9) (v := v') ?hi9x9 ?hs9x9 ?hf9x9 ?hr9x9 ?hQ9x9 ?hy9x9 ?hS9x9 ?rest9x9
          case hi9x9 => (simp only [List.getElem?_toArray, List.getElem?_cons_succ, List.getElem?_cons_zero]; try rfl)
          case hs9x9 => kernel_rfl
          case hf9x9 => kernel_rfl
          case hr9x9 => kernel_rfl
          case hQ9x9 => exact fun _ _ _ h => h
          case hy9x9 => exact Or.inl ⟨by rfl, by (intro w hSw; (try dsimp only at hSw); go_simp)⟩
          case hS9x9 => assumption
          (try simp only [Act.put, List.setIfInBounds_toArray, List.set_cons_zero, List.set_cons_succ])
          refine wpAnyH_done (by kernel_rfl) ?_ _
          refine NoPanic.normal ?_
          clear i1 i2 hand
          go_wp2
          go_roundw
          case rel => exact rel_step (e := [92, 120, hexD (c / 16), hexD (c % 16)]) hltH.out (esc_hex hcH.out c0 c1 c2 c3 c4 c6) haccH.out halH.out rfl (by simp [Lib.byteCells, hx1H.out, hx2H.out]) hbN.out _ (by go_num)
          case measure => simp [Go.RowKit.intOf]; omega
        · have c8 : c = 127 := by omega
          have d5 : ¬ (c : Int) < 32 := by omega
          have d6 : ((c : Int) == 127) = true := by simp; omega
          have d7 : decide ((c : Int) < 32) = false := by simpa using d5
          have hx1 : ∃ x1, (hexD (c / 16)).toNat = x1 := ⟨_, rfl⟩
          obtain ⟨x1, hx1⟩ := hx1
          have hx2 : ∃ x2, (hexD (c % 16)).toNat = x2 := ⟨_, rfl⟩
          obtain ⟨x2, hx2⟩ := hx2
          have i1 := fun w' => idx_u8 dgt (c / 16) ((c : Int) / 16) (by omega) (by show c / 16 < 16; omega) w'
          have i2 := fun w' => idx_u8 dgt (c % 16) ((c : Int) % 16) (by omega) (by show c % 16 < 16; omega) w'
          rw [dgt_bt _ (by omega), hx1] at i1
          rw [dgt_bt _ (by omega), hx2] at i2
          unfold dgt at i1 i2
          have hand := and15 ⟨c, hc256⟩
          simp only at hand
          have hx1H := Lib.hid hx1; have hx2H := Lib.hid hx2
          clear hx1 hx2
          clear c8
          go_wp2_with fail
          refine wp_region_noPanic ?_
          refine wp_region_held_drew (S := (fun _ => True)) (by kernel_rfl) trivial (fun hHeld => ?_)
          refine' wpAnyH_take (i := 0) (v := u3) ?hi0x10 ?hs0x10 ?hf0x10 ?hr0x10 ?hQ0x10 ?hy0x10 ?hS0x10 ?rest0x10
          case hi0x10 => (simp only [List.getElem?_toArray, List.getElem?_cons_succ, List.getElem?_cons_zero]; try rfl)
          case hs0x10 => kernel_rfl
          case hf0x10 => kernel_rfl
          case hr0x10 => kernel_rfl
          case hQ0x10 => exact fun _ _ _ h => h
          case hy0x10 => exact Or.inl ⟨by rfl, by (intro w hSw; (try dsimp only at hSw); go_simp)⟩
          case hS0x10 => assumption
          (try simp only [Act.put, List.setIfInBounds_toArray, List.set_cons_zero, List.set_cons_succ])
          refine' wpAnyH_take (i := 1) (v := .int .u8 (c : Int)) ?hi1x11 ?hs1x11 ?hf1x11 ?hr1x11 ?hQ1x11 ?hy1x11 ?hS1x11 ?rest1x11
          case hi1x11 => (simp only [List.getElem?_toArray, List.getElem?_cons_succ, List.getElem?_cons_zero]; try rfl)
          case hs1x11 => kernel_rfl
          case hf1x11 => kernel_rfl
          case hr1x11 => kernel_rfl
          case hQ1x11 => exact fun _ _ _ h => h
          case hy1x11 => exact Or.inl ⟨by rfl, by (intro w hSw; (try dsimp only at hSw); go_simp)⟩
          case hS1x11 => assumption
          (try simp only [Act.put, List.setIfInBounds_toArray, List.set_cons_zero, List.set_cons_succ])
          refine' wpAnyH_take (i := 2) (v := .int .u8 ((c / 16 : Nat) : Int)) ?hi2x12 ?hs2x12 ?hf2x12 ?hr2x12 ?hQ2x12 ?hy2x12 ?hS2x12 ?rest2x12
          case hi2x12 => (simp only [List.getElem?_toArray, List.getElem?_cons_succ, List.getElem?_cons_zero]; try rfl)
          case hs2x12 => kernel_rfl
          case hf2x12 => kernel_rfl
          case hr2x12 => kernel_rfl
          case hQ2x12 => exact fun _ _ _ h => h
          case hy2x12 => exact Or.inl ⟨by rfl, by (intro w hSw; (try dsimp only at hSw); go_simp)⟩
          case hS2x12 => assumption
          (try simp only [Act.put, List.setIfInBounds_toArray, List.set_cons_zero, List.set_cons_succ])
          refine' wpAnyH_take (i := 4) (v := .int .u8 (c : Int)) ?hi4x13 ?hs4x13 ?hf4x13 ?hr4x13 ?hQ4x13 ?hy4x13 ?hS4x13 ?rest4x13
          case hi4x13 => (simp only [List.getElem?_toArray, List.getElem?_cons_succ, List.getElem?_cons_zero]; try rfl)
          case hs4x13 => kernel_rfl
          case hf4x13 => kernel_rfl
          case hr4x13 => kernel_rfl
          case hQ4x13 => exact fun _ _ _ h => h
          case hy4x13 => exact Or.inl ⟨by rfl, by (intro w hSw; (try dsimp only at hSw); go_simp)⟩
          case hS4x13 => assumption
          (try simp only [Act.put, List.setIfInBounds_toArray, List.set_cons_zero, List.set_cons_succ])
          refine' wpAnyH_take (i := 5) (v := .int .u8 ((c % 16 : Nat) : Int)) ?hi5x14 ?hs5x14 ?hf5x14 ?hr5x14 ?hQ5x14 ?hy5x14 ?hS5x14 ?rest5x14
          case hi5x14 => (simp only [List.getElem?_toArray, List.getElem?_cons_succ, List.getElem?_cons_zero]; try rfl)
          case hs5x14 => kernel_rfl
          case hf5x14 => kernel_rfl
          case hr5x14 => kernel_rfl
          case hQ5x14 => exact fun _ _ _ h => h
          case hy5x14 => exact Or.inl ⟨by rfl, by (intro w hSw; (try dsimp only at hSw); go_simp)⟩
          case hS5x14 => assumption
          (try simp only [Act.put, List.setIfInBounds_toArray, List.set_cons_zero, List.set_cons_succ])
          refine' wpAnyH_take (i := 3) (v := .int .u8 (x1 : Int)) ?hi3x15 ?hs3x15 ?hf3x15 ?hr3x15 ?hQ3x15 ?hy3x15 ?hS3x15 ?rest3x15
          case hi3x15 => (simp only [List.getElem?_toArray, List.getElem?_cons_succ, List.getElem?_cons_zero]; try rfl)
          case hs3x15 => kernel_rfl
          case hf3x15 => kernel_rfl
          case hr3x15 => kernel_rfl
          case hQ3x15 => exact fun _ _ _ h => h
          case hy3x15 => exact Or.inl ⟨by rfl, by (intro w hSw; (try dsimp only at hSw); go_simp)⟩
          case hS3x15 => assumption
          (try simp only [Act.put, List.setIfInBounds_toArray, List.set_cons_zero, List.set_cons_succ])
          refine' wpAnyH_take (i := 6) (v := .int .u8 (x2 : Int)) ?hi6x16 ?hs6x16 ?hf6x16 ?hr6x16 ?hQ6x16 ?hy6x16 ?hS6x16 ?rest6x16
          case hi6x16 => (simp only [List.getElem?_toArray, List.getElem?_cons_succ, List.getElem?_cons_zero]; try rfl)
          case hs6x16 => kernel_rfl
          case hf6x16 => kernel_rfl
          case hr6x16 => kernel_rfl
          case hQ6x16 => exact fun _ _ _ h => h
          case hy6x16 => exact Or.inl ⟨by rfl, by (intro w hSw; (try dsimp only at hSw); go_simp)⟩
          case hS6x16 => assumption
          (try simp only [Act.put, List.setIfInBounds_toArray, List.set_cons_zero, List.set_cons_succ])
          refine wpAnyH_ready (rs := [7]) (by kernel_rfl) (by simp) ?_
          refine' AllReadyH.cons (i := 7) ?ho7x17 (fun K hK => ?st7x17) AllReadyH.nil
          case ho7x17 => (simp only [List.getElem?_toArray, List.getElem?_cons_succ, List.getElem?_cons_zero]; try rfl)
          go_simp
          refine hK.out _ _ ?_ (fun hHeld => ?_)
          · trivial
          clear hK K
          (try simp only [Act.put, List.setIfInBounds_toArray, List.set_cons_zero, List.set_cons_succ])
          obtain ⟨v', w', hr, ho', hg, _⟩ := run_append_ownF (P := Tryd.prog) ((wr.alloc (.cells #[.int .u8 92, .int .u8 120, .int .u8 (x1 : Int), .int .u8 (x2 : Int)] 5)).drew) w.heap.size 86 86 5 i0 (.int .u8 0) 1 1 Tryd.underlying86 hi hz0 hz1 hz2 rfl (by decide) u3 acc.length (Lib.byteCells acc) (hbH.out.alloc _).1 ⟨wr.heap.size, 0, none⟩ 4 4 [.int .u8 92, .int .u8 120, .int .u8 (x1 : Int), .int .u8 (x2 : Int)] rfl (by
              intro j u hj
              match j, hj with
              | 0, hj => simp at hj; subst hj; simp [Addr.add]
              | 1, hj => simp at hj; subst hj; simp [Addr.add]
              | 2, hj => simp at hj; subst hj; simp [Addr.add]
              | 3, hj => simp at hj; subst hj; simp [Addr.add]
              | (j + 4), hj => simp at hj) (by intro u hu; simp at hu; rcases hu with rfl | rfl | rfl | rfl <;> rfl) (by have := halH.out; unfold maxLen; omega) (by have := halH.out; omega) (hbH.out.alloc _).2.2
          have hbN := Lib.hid (((hbH.out.alloc _).drewN 1).grown ho' hg)
          clear ho' hg
          refine wpAnyH_ready (rs := [8]) (by kernel_rfl) (by simp) ?_
          refine' AllReadyH.cons (i := 8) ?ho8d (fun K hK => ?st8d) AllReadyH.nil
          case ho8d => (simp only [List.getElem?_toArray, List.getElem?_cons_succ, List.getElem?_cons_zero]; try rfl)
          rw [if_pos (by rfl)]
          refine upon_append (.tmp 52) (.tmp 59) 86 rfl rfl rfl hr ?_
          refine hK.out _ _ trivial (fun hHeld => ?_)
          clear hK K
          (try simp only [Act.put, List.setIfInBounds_toArray, List.set_cons_zero, List.set_cons_succ])
          refine' wpAnyH_take (i := 9) (v := v') ?hi9x18 ?hs9x18 ?hf9x18 ?hr9x18 ?hQ9x18 ?hy9x18 ?hS9x18 ?rest9x18
          case hi9x18 => (simp only [List.getElem?_toArray, List.getElem?_cons_succ, List.getElem?_cons_zero]; try rfl)
          case hs9x18 => kernel_rfl
          case hf9x18 => kernel_rfl
          case hr9x18 => kernel_rfl
          case hQ9x18 => exact fun _ _ _ h => h
          case hy9x18 => exact Or.inl ⟨by rfl, by (intro w hSw; (try dsimp only at hSw); go_simp)⟩
          case hS9x18 => assumption
          (try simp only [Act.put, List.setIfInBounds_toArray, List.set_cons_zero, List.set_cons_succ])
          refine wpAnyH_done (by kernel_rfl) ?_ _
          refine NoPanic.normal ?_
          clear i1 i2 hand
          go_wp2
          go_roundw
          case rel => exact rel_step (e := [92, 120, hexD (c / 16), hexD (c % 16)]) hltH.out (esc_hex hcH.out c0 c1 c2 c3 c4 c6) haccH.out halH.out rfl (by simp [Lib.byteCells, hx1H.out, hx2H.out]) hbN.out _ (by go_num)
          case measure => simp [Go.RowKit.intOf]; omega
      · have d5 : ¬ (c : Int) < 32 := by omega
        have d6 : ((c : Int) == 127) = false := by simp; omega
        have d7 : decide ((c : Int) < 32) = false := by simpa using d5
        go_wp2_with (at_builtin; refine Lib.wpList_append_byte rfl _ _ 86 rfl w.heap.size 5 i0 Tryd.underlying86 hi hz0 hz1 hz2 _ _ _ (by rfl) w _ _ hbH.out (by rfl) (by have := halH.out; omega) ?_; intro v' w' hb')
        have hbN := Lib.hid hb'
        clear hb'
        go_wp2
        go_roundw
        case rel => exact rel_step (e := [s.get! p]) hltH.out (esc_plain hcH.out c0 c1 c2 c3 c4 c6) haccH.out halH.out rfl (by have := hcH.out; unfold bt at this; simp [Lib.byteCells, this]) hbN.out _ (by go_num)
        case measure => simp [Go.RowKit.intOf]; omega
    · have hend : acc = 39 :: s.data.toList.flatMap escB := by
        have h := haccH.out
        rw [List.drop_eq_nil_of_le (by rw [size_list]; omega)] at h
        simpa using h
      have hendH := Lib.hid hend
      clear hend
      go_wp2_with (at_builtin; refine Lib.wpList_append_byte rfl _ _ 86 rfl w.heap.size 5 i0 Tryd.underlying86 hi hz0 hz1 hz2 _ _ _ (by rfl) w _ _ hbH.out (by rfl) (by have := halH.out; omega) ?_; intro v' w' hb'; obtain ⟨ho', hbw, _⟩ := hb'; obtain ⟨g, cap, rfl, hconv⟩ := conv_own (l := acc ++ [39]) (by rw [Lib.byteCells_append]; exact ho') (by simp) (by omega))
      go_ret
      exact ⟨ret_strL (by rw [hendH.out]; rfl), hbw⟩
end Go.Proofs.YtlodohgoondkhaaDoor
