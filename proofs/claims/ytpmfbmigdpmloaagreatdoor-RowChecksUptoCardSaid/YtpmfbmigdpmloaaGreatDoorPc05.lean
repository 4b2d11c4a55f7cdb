/-
  Texts that belong together: RefQuoted, RefRunes, RefCheck, RefPrint, RwX. What each one says stands ahead of it.
-/
import Derived.Test.YtpmfbmigdpmloaaGreatDoorPc04
import Derived.Test.YtpmfbmigdpmloaaGreatDoorRefLongPc
import Derived.Lib.BufSteps
import Derived.Deep.RegionHeld3
import Derived.Laws.IdiomStrings
import Derived.Test.YtpmfbmigdpmloaaGreatDoorPc01
import Derived.Test.YtpmfbmigdpmloaaGreatDoorPc03
import Derived.Deep.Cut
section
/-
  What the document's own quoted answers, at this program: of every text of at most 2^40 bytes.
-/
set_option linter.unusedVariables false
set_option linter.unusedSimpArgs false
namespace Go.Proofs.YtpmfbmigdpmloaaGreatDoor
open Go.RowKit Go.Lib

theorem own_byte : (Tryz.prog.info? 5).map (fun i => (i.zero, i.size, i.bytes)) = some (some (.int .u8 0), 1, 1) := by kernel_rfl
theorem toList_drop (s : ByteArray) (p : Nat) (h : p < s.size) : s.data.toList.drop p = s.get! p :: s.data.toList.drop (p + 1) := by
  have hp : p < s.data.toList.length := by rw [size_list]; exact h
  rw [List.drop_eq_getElem_cons hp]
  congr 1
  rcases s with ⟨a⟩
  simp only [ByteArray.get!]
  rw [getElem!_pos a p h]
  simp
theorem esc_39 : escB 39 = [39, 39] := rfl
theorem of_bt {u : UInt8} {c : Nat} (h : u.toNat = c) : u = UInt8.ofNat c := by subst h; simp
theorem esc_hex {u : UInt8} {c : Nat} (h : u.toNat = c) (h1 : ¬ c = 39) (h2 : ¬ c = 92) (h3 : ¬ c = 10) (h4 : ¬ c = 13) (h5 : ¬ c = 9) (h6 : c < 32 ∨ c = 127) : escB u = [92, 120, hexD (c / 16), hexD (c % 16)] := by
  have k : ∀ (x : Nat) (y : UInt8), y.toNat = x → u = y → c = x := fun x y hy e => by rw [← h, e, hy]
  unfold escB
  rw [if_neg (fun e => h1 (k 39 39 (by decide) e)), if_neg (fun e => h2 (k 92 92 (by decide) e)), if_neg (fun e => h3 (k 10 10 (by decide) e)), if_neg (fun e => h4 (k 13 13 (by decide) e)), if_neg (fun e => h5 (k 9 9 (by decide) e)), if_pos, h]
  rcases h6 with h6 | h6
  · exact .inl (by rw [UInt8.lt_iff_toNat_lt, h]; exact h6)
  · exact .inr (by rw [of_bt h, h6]; rfl)
theorem esc_plain {u : UInt8} {c : Nat} (h : u.toNat = c) (h1 : ¬ c = 39) (h2 : ¬ c = 92) (h3 : ¬ c = 10) (h4 : ¬ c = 13) (h5 : ¬ c = 9) (h6 : ¬ (c < 32 ∨ c = 127)) : escB u = [u] := by
  have k : ∀ (x : Nat) (y : UInt8), y.toNat = x → u = y → c = x := fun x y hy e => by rw [← h, e, hy]
  unfold escB
  rw [if_neg (fun e => h1 (k 39 39 (by decide) e)), if_neg (fun e => h2 (k 92 92 (by decide) e)), if_neg (fun e => h3 (k 10 10 (by decide) e)), if_neg (fun e => h4 (k 13 13 (by decide) e)), if_neg (fun e => h5 (k 9 9 (by decide) e)), if_neg]
  rintro (e | e)
  · exact h6 (.inl (by rw [UInt8.lt_iff_toNat_lt, h] at e; exact e))
  · exact h6 (.inr (k 127 127 (by decide) e))
theorem conv_own {B n : Nat} {v : Value} {l : List UInt8} {w : World} (h : w.ownsRowF B 5 1 v n (Lib.byteCells l)) (hn : n = l.length) (h1 : 1 ≤ n) :
    ∃ g cap, v = .slice (some ⟨g, 0, none⟩) n cap ∧ (convert 31 9 (.slice (some ⟨g, 0, none⟩) n cap)).run Tryz.prog w = .ok (.string ⟨l.toArray⟩) w := by
  have hcells := @World.ownsRowF.cells w B 5 1 v n (Lib.byteCells l) h
  obtain ⟨_, hc⟩ := h
  rcases hc with ⟨_, h0⟩ | ⟨g, cap, cur, fz, rfl, _⟩
  · omega
  · refine ⟨g, cap, rfl, ?_⟩
    subst hn
    refine run_convert_bytes_back (P := Tryz.prog) w 31 9 5 ⟨g, 0, none⟩ cap l Tryz.underlying31 Tryz.underlying5 Tryz.underlying9 (fun j hj => hcells rfl j _ ?_)
    simp [Lib.byteCells, hj]
theorem idx_u8 (s : ByteArray) (p : Nat) (z : Int) (hz : z = (p : Int)) (h : p < s.size) (w : World) : (Instr.index 9 (.string s) (.int .u8 z)).run Tryz.prog w = .ok (.int .u8 (bt s p : Int)) w := by
  subst hz
  rw [run_index_string w 9 s .u8 (p : Int) Tryz.underlying9, dif_pos ⟨by omega, by omega⟩]
  have : s.get! p = s[p]'h := by
    rcases s with ⟨a⟩
    simp only [ByteArray.get!, ByteArray.getElem_eq_getElem_data]
    exact getElem!_pos a p h
  simp only [bt, this, Int.toNat_natCast]
theorem upon_append {P : Program} {o : Oper} {a : Act} {K : Act → World → Prop} {Q : Exit → Act → World → Prop} (s x : Operand) (t : TypeId) (ho : o.op = .call { callee := .builtin .append, args := #[s, x], argTypes := #[t, t] }) {v sl v' : Value} {w w' : World}
    (hs : a.eval s = v) (hx : a.eval x = sl) (hr : (Builtin.append_ #[t, t] o.type #[v, sl]).run P w = .ok v' w') (h : K (a.put o.dst v') w') : Oper.wp P o a w K Q := by
  unfold Oper.wp execOp
  simp only [ho, resolve, invoke, builtin, Sem.run_bind, Sem.run_pure, Result.andThen_ok, List.map_toArray, List.map_cons, List.map_nil, hs, hx, hr]
  exact h
set_option maxRecDepth 100000 in
theorem and15 : ∀ i : Fin 256, bits .and .u8 (i.val : Int) 15 = ((i.val % 16 : Nat) : Int) := by decide
/-- The sixteen digits. -/
def dgt : ByteArray := ⟨#[48, 49, 50, 51, 52, 53, 54, 55, 56, 57, 97, 98, 99, 100, 101, 102]⟩
theorem dgt_fin : ∀ i : Fin 16, bt dgt i.val = (hexD i.val).toNat := by decide
theorem dgt_bt (i : Nat) (h : i < 16) : bt dgt i = (hexD i).toNat := dgt_fin ⟨i, h⟩
/-- What the rounds hold: what is written of the bytes up to a place. -/
def RelQ (s : ByteArray) (w0 : World) (v i : Value) (wr : World) : Prop :=
  ∃ (p : Nat) (acc : List UInt8), i = .int .i64 (p : Int) ∧ p ≤ s.size ∧ Lib.OwnBuf w0.heap.size 5 v acc.length (Lib.byteCells acc) w0 wr ∧ acc ++ (s.data.toList.drop p).flatMap escB = 39 :: s.data.toList.flatMap escB ∧ acc.length ≤ 1 + 4 * p
theorem rel_step {s : ByteArray} {w0 w' : World} {v' : Value} {p : Nat} {acc e : List UInt8} {n : Nat} {xs : List Value} (hp : p < s.size) (he : escB (s.get! p) = e) (hacc : acc ++ (s.data.toList.drop p).flatMap escB = 39 :: s.data.toList.flatMap escB) (hal : acc.length ≤ 1 + 4 * p)
    (hn : n = acc.length + e.length) (hx : xs = Lib.byteCells acc ++ Lib.byteCells e) (hb : Lib.OwnBuf w0.heap.size 5 v' n xs w0 w') (i : Value) (hi : i = .int .i64 ((p + 1 : Nat) : Int)) : RelQ s w0 v' i w' := by
  refine ⟨p + 1, acc ++ e, hi, hp, ?_, ?_, ?_⟩
  · rw [List.length_append, ← hn, Lib.byteCells_append, ← hx]; exact hb
  · rw [← hacc, toList_drop s p hp, List.flatMap_cons, he, List.append_assoc]
  · have := (escB_len (s.get! p)).2
    rw [he] at this
    rw [List.length_append]; omega

set_option maxRecDepth 100000 in
set_option maxHeartbeats 8000000 in
theorem refQuoted_any (s : ByteArray) (w : World) (hs : s.size ≤ 1099511627776) :
    Calls Tryz.prog 58 #[.string s] w fun e w' => e = .returned (.string ⟨(quoteL s.data.toList).toArray⟩) ∧ Below w.heap.size w w' := by
  obtain ⟨i0, hi, hz0, hz1, hz2⟩ := info_parts own_byte
  go_enter Tryz.func58, Tryz.ntmps58
  go_wp2_with fail
  go_loopw [3, 4] (fun v i wr => RelQ s w v i wr) (fun _ i _ => s.size - (Go.RowKit.intOf i).toNat)
  case atStart => exact ⟨0, [39], rfl, Nat.zero_le _, ⟨⟨by simp [Lib.byteCells], .inr ⟨w.heap.size, 1, _, (0, 0), rfl, Nat.le_refl _, heap_alloc_new w _, Nat.zero_le _, Nat.le_refl _, by decide, by simp, by simp [Lib.byteCells]⟩⟩, by go_grown, by simp⟩, by simp, by simp⟩
  case round =>
    unfold RelQ at hrel
    obtain ⟨p, acc, rfl, hp, hbuf, hacc, hal⟩ := hrel
    have hbH := Lib.hid hbuf; have haccH := Lib.hid hacc; have halH := Lib.hid hal
    clear hbuf hacc hal
    by_cases hlt : p < s.size
    · have hltH := Lib.hid hlt
      have hx0 := fun w' => idx_run s p (p : Int) rfl hlt w'
      obtain ⟨c, hc⟩ : ∃ c, bt s p = c := ⟨_, rfl⟩
      have hc256 : c < 256 := by rw [← hc]; exact bt_lt s p
      rw [hc] at hx0
      have hcH := Lib.hid hc
      clear hc
      by_cases c0 : c = 39
      · subst c0
        go_wp2_with (at_builtin; refine Lib.wpList_append_text rfl _ _ 31 9 rfl w.heap.size 5 i0 Tryz.underlying31 Tryz.underlying9 hi hz0 hz1 hz2 _ _ _ rfl w hbH.out _ rfl (by have := halH.out; rw [Lib.size_two]; omega) ?_; intro v' w' hb')
        have hbN := Lib.hid hb'
        clear hb'
        go_wp2
        go_roundw
        case rel => exact rel_step (e := [39, 39]) hltH.out (by rw [of_bt hcH.out]; rfl) haccH.out halH.out rfl (by simp [Lib.strCells, Lib.byteCells]) hbN.out _ (by go_num)
        case measure => simp [Go.RowKit.intOf]; omega
      have d0 : ((c : Int) == 39) = false := by simp; omega
      by_cases c1 : c = 92
      · subst c1
        go_wp2_with (at_builtin; refine Lib.wpList_append_text rfl _ _ 31 9 rfl w.heap.size 5 i0 Tryz.underlying31 Tryz.underlying9 hi hz0 hz1 hz2 _ _ _ rfl w hbH.out _ rfl (by have := halH.out; rw [Lib.size_two]; omega) ?_; intro v' w' hb')
        have hbN := Lib.hid hb'
        clear hb'
        go_wp2
        go_roundw
        case rel => exact rel_step (e := [92, 92]) hltH.out (by rw [of_bt hcH.out]; rfl) haccH.out halH.out rfl (by simp [Lib.strCells, Lib.byteCells]) hbN.out _ (by go_num)
        case measure => simp [Go.RowKit.intOf]; omega
      have d1 : ((c : Int) == 92) = false := by simp; omega
      by_cases c2 : c = 10
      · subst c2
        go_wp2_with (at_builtin; refine Lib.wpList_append_text rfl _ _ 31 9 rfl w.heap.size 5 i0 Tryz.underlying31 Tryz.underlying9 hi hz0 hz1 hz2 _ _ _ rfl w hbH.out _ rfl (by have := halH.out; rw [Lib.size_two]; omega) ?_; intro v' w' hb')
        have hbN := Lib.hid hb'
        clear hb'
        go_wp2
        go_roundw
        case rel => exact rel_step (e := [92, 110]) hltH.out (by rw [of_bt hcH.out]; rfl) haccH.out halH.out rfl (by simp [Lib.strCells, Lib.byteCells]) hbN.out _ (by go_num)
        case measure => simp [Go.RowKit.intOf]; omega
      have d2 : ((c : Int) == 10) = false := by simp; omega
      by_cases c3 : c = 13
      · subst c3
        go_wp2_with (at_builtin; refine Lib.wpList_append_text rfl _ _ 31 9 rfl w.heap.size 5 i0 Tryz.underlying31 Tryz.underlying9 hi hz0 hz1 hz2 _ _ _ rfl w hbH.out _ rfl (by have := halH.out; rw [Lib.size_two]; omega) ?_; intro v' w' hb')
        have hbN := Lib.hid hb'
        clear hb'
        go_wp2
        go_roundw
        case rel => exact rel_step (e := [92, 114]) hltH.out (by rw [of_bt hcH.out]; rfl) haccH.out halH.out rfl (by simp [Lib.strCells, Lib.byteCells]) hbN.out _ (by go_num)
        case measure => simp [Go.RowKit.intOf]; omega
      have d3 : ((c : Int) == 13) = false := by simp; omega
      by_cases c4 : c = 9
      · subst c4
        go_wp2_with (at_builtin; refine Lib.wpList_append_text rfl _ _ 31 9 rfl w.heap.size 5 i0 Tryz.underlying31 Tryz.underlying9 hi hz0 hz1 hz2 _ _ _ rfl w hbH.out _ rfl (by have := halH.out; rw [Lib.size_two]; omega) ?_; intro v' w' hb')
        have hbN := Lib.hid hb'
        clear hb'
        go_wp2
        go_roundw
        case rel => exact rel_step (e := [92, 116]) hltH.out (by rw [of_bt hcH.out]; rfl) haccH.out halH.out rfl (by simp [Lib.strCells, Lib.byteCells]) hbN.out _ (by go_num)
        case measure => simp [Go.RowKit.intOf]; omega
      have d4 : ((c : Int) == 9) = false := by simp; omega
      by_cases c6 : c < 32 ∨ c = 127
      · by_cases c7 : c < 32
        · have d5 : (c : Int) < 32 := by omega
          have d7 : decide ((c : Int) < 32) = true := by simpa using d5
          have hx1 : ∃ x1, (hexD (c / 16)).toNat = x1 := ⟨_, rfl⟩
          obtain ⟨x1, hx1⟩ := hx1
          have hx2 : ∃ x2, (hexD (c % 16)).toNat = x2 := ⟨_, rfl⟩
          obtain ⟨x2, hx2⟩ := hx2
          have i1 := fun w' => idx_u8 dgt (c / 16) ((c : Int) / 16) (by omega) (by show c / 16 < 16; omega) w'
          have i2 := fun w' => idx_u8 dgt (c % 16) ((c : Int) % 16) (by omega) (by show c % 16 < 16; omega) w'
          rw [dgt_bt _ (by omega), hx1] at i1
          rw [dgt_bt _ (by omega), hx2] at i2
          unfold dgt at i1 i2
          have hand := and15 ⟨c, hc256⟩
          simp only at hand
          have hx1H := Lib.hid hx1; have hx2H := Lib.hid hx2
          clear hx1 hx2
          go_wp2_with fail
          refine wp_region_noPanic ?_
          refine wp_region_held_drew (S := (fun _ => True)) (by kernel_rfl) trivial (fun hHeld => ?_)
          refine' wpAnyH_take (i := 0) (v := u3) ?hi0x1 ?hs0x1 ?hf0x1 ?hr0x1 ?hQ0x1 ?hy0x1 ?hS0x1 ?rest0x1
          case hi0x1 => (simp only [List.getElem?_toArray, List.getElem?_cons_succ, List.getElem?_cons_zero]; try rfl)
          case hs0x1 => kernel_rfl
          case hf0x1 => kernel_rfl
          case hr0x1 => kernel_rfl
          case hQ0x1 => exact fun _ _ _ h => h
          case hy0x1 => exact Or.inl ⟨by rfl, by (intro w hSw; (try dsimp only at hSw); go_simp)⟩
          case hS0x1 => assumption
          (try simp only [Act.put, List.setIfInBounds_toArray, List.set_cons_zero, List.set_cons_succ])
          refine' wpAnyH_take (i := 1) (v := .int .u8 (c : Int)) ?hi1x2 ?hs1x2 ?hf1x2 ?hr1x2 ?hQ1x2 ?hy1x2 ?hS1x2 ?rest1x2
          case hi1x2 => (simp only [List.getElem?_toArray, List.getElem?_cons_succ, List.getElem?_cons_zero]; try rfl)
          case hs1x2 => kernel_rfl
          case hf1x2 => kernel_rfl
          case hr1x2 => kernel_rfl
          case hQ1x2 => exact fun _ _ _ h => h
          case hy1x2 => exact Or.inl ⟨by rfl, by (intro w hSw; (try dsimp only at hSw); go_simp)⟩
          case hS1x2 => assumption
          (try simp only [Act.put, List.setIfInBounds_toArray, List.set_cons_zero, List.set_cons_succ])
          refine' wpAnyH_take (i := 2) (v := .int .u8 ((c / 16 : Nat) : Int)) ?hi2x3 ?hs2x3 ?hf2x3 ?hr2x3 ?hQ2x3 ?hy2x3 ?hS2x3 ?rest2x3
          case hi2x3 => (simp only [List.getElem?_toArray, List.getElem?_cons_succ, List.getElem?_cons_zero]; try rfl)
          case hs2x3 => kernel_rfl
          case hf2x3 => kernel_rfl
          case hr2x3 => kernel_rfl
          case hQ2x3 => exact fun _ _ _ h => h
          case hy2x3 => exact Or.inl ⟨by rfl, by (intro w hSw; (try dsimp only at hSw); go_simp)⟩
          case hS2x3 => assumption
          (try simp only [Act.put, List.setIfInBounds_toArray, List.set_cons_zero, List.set_cons_succ])
          refine' wpAnyH_take (i := 4) (v := .int .u8 (c : Int)) ?hi4x4 ?hs4x4 ?hf4x4 ?hr4x4 ?hQ4x4 ?hy4x4 ?hS4x4 ?rest4x4
          case hi4x4 => (simp only [List.getElem?_toArray, List.getElem?_cons_succ, List.getElem?_cons_zero]; try rfl)
          case hs4x4 => kernel_rfl
          case hf4x4 => kernel_rfl
          case hr4x4 => kernel_rfl
          case hQ4x4 => exact fun _ _ _ h => h
          case hy4x4 => exact Or.inl ⟨by rfl, by (intro w hSw; (try dsimp only at hSw); go_simp)⟩
          case hS4x4 => assumption
          (try simp only [Act.put, List.setIfInBounds_toArray, List.set_cons_zero, List.set_cons_succ])
          refine' wpAnyH_take (i := 5) (v := .int .u8 ((c % 16 : Nat) : Int)) ?hi5x5 ?hs5x5 ?hf5x5 ?hr5x5 ?hQ5x5 ?hy5x5 ?hS5x5 ?rest5x5
          case hi5x5 => (simp only [List.getElem?_toArray, List.getElem?_cons_succ, List.getElem?_cons_zero]; try rfl)
          case hs5x5 => kernel_rfl
          case hf5x5 => kernel_rfl
          case hr5x5 => kernel_rfl
          case hQ5x5 => exact fun _ _ _ h => h
          case hy5x5 => exact Or.inl ⟨by rfl, by (intro w hSw; (try dsimp only at hSw); go_simp)⟩
          case hS5x5 => assumption
          (try simp only [Act.put, List.setIfInBounds_toArray, List.set_cons_zero, List.set_cons_succ])
          refine' wpAnyH_take (i := 3) (v := .int .u8 (x1 : Int)) ?hi3x6 ?hs3x6 ?hf3x6 ?hr3x6 ?hQ3x6 ?hy3x6 ?hS3x6 ?rest3x6
          case hi3x6 => (simp only [List.getElem?_toArray, List.getElem?_cons_succ, List.getElem?_cons_zero]; try rfl)
          case hs3x6 => kernel_rfl
          case hf3x6 => kernel_rfl
          case hr3x6 => kernel_rfl
          case hQ3x6 => exact fun _ _ _ h => h
          case hy3x6 => exact Or.inl ⟨by rfl, by (intro w hSw; (try dsimp only at hSw); go_simp)⟩
          case hS3x6 => assumption
          (try simp only [Act.put, List.setIfInBounds_toArray, List.set_cons_zero, List.set_cons_succ])
          refine' wpAnyH_take (i := 6) (v := .int .u8 (x2 : Int)) ?hi6x7 ?hs6x7 ?hf6x7 ?hr6x7 ?hQ6x7 ?hy6x7 ?hS6x7 ?rest6x7
          case hi6x7 => (simp only [List.getElem?_toArray, List.getElem?_cons_succ, List.getElem?_cons_zero]; try rfl)
          case hs6x7 => kernel_rfl
          case hf6x7 => kernel_rfl
          case hr6x7 => kernel_rfl
          case hQ6x7 => exact fun _ _ _ h => h
          case hy6x7 => exact Or.inl ⟨by rfl, by (intro w hSw; (try dsimp only at hSw); go_simp)⟩
          case hS6x7 => assumption
          (try simp only [Act.put, List.setIfInBounds_toArray, List.set_cons_zero, List.set_cons_succ])
          refine wpAnyH_ready (rs := [7]) (by kernel_rfl) (by simp) ?_
          refine' AllReadyH.cons (i := 7) ?ho7x8 (fun K hK => ?st7x8) AllReadyH.nil
          case ho7x8 => (simp only [List.getElem?_toArray, List.getElem?_cons_succ, List.getElem?_cons_zero]; try rfl)
          go_simp
          refine hK.out _ _ ?_ (fun hHeld => ?_)
          · trivial
          clear hK K
          (try simp only [Act.put, List.setIfInBounds_toArray, List.set_cons_zero, List.set_cons_succ])
          obtain ⟨v', w', hr, ho', hg, _⟩ := run_append_ownF (P := Tryz.prog) ((wr.alloc (.cells #[.int .u8 92, .int .u8 120, .int .u8 (x1 : Int), .int .u8 (x2 : Int)] 5)).drew) w.heap.size 31 31 5 i0 (.int .u8 0) 1 1 Tryz.underlying31 hi hz0 hz1 hz2 rfl (by decide) u3 acc.length (Lib.byteCells acc) (hbH.out.alloc _).1 ⟨wr.heap.size, 0, none⟩ 4 4 [.int .u8 92, .int .u8 120, .int .u8 (x1 : Int), .int .u8 (x2 : Int)] rfl (by
              intro j u hj
              match j, hj with
              | 0, hj => simp at hj; subst hj; simp [Addr.add]
              | 1, hj => simp at hj; subst hj; simp [Addr.add]
              | 2, hj => simp at hj; subst hj; simp [Addr.add]
              | 3, hj => simp at hj; subst hj; simp [Addr.add]
              | (j + 4), hj => simp at hj) (by intro u hu; simp at hu; rcases hu with rfl | rfl | rfl | rfl <;> rfl) (by have := halH.out; unfold maxLen; omega) (by have := halH.out; omega) (hbH.out.alloc _).2.2
          have hbN := Lib.hid (((hbH.out.alloc _).drewN 1).grown ho' hg)
          clear ho' hg
          refine wpAnyH_ready (rs := [8]) (by kernel_rfl) (by simp) ?_
          refine' AllReadyH.cons (i := 8) ?ho8c (fun K hK => ?st8c) AllReadyH.nil
          case ho8c => (simp only [List.getElem?_toArray, List.getElem?_cons_succ, List.getElem?_cons_zero]; try rfl)
          rw [if_pos (by rfl)]
          refine upon_append (.tmp 52) (.tmp 59) 31 rfl rfl rfl hr ?_
          refine hK.out _ _ trivial (fun hHeld => ?_)
          clear hK K
          (try simp only [Act.put, List.setIfInBounds_toArray, List.set_cons_zero, List.set_cons_succ])
          refine' wpAnyH_take (i := 9) (v := v') ?hi9x9 ?hs9x9 ?hf9x9 ?hr9x9 ?hQ9x9 ?hy9x9 ?hS9x9 ?rest9x9
          case hi9x9 => (simp only [List.getElem?_toArray, List.getElem?_cons_succ, List.getElem?_cons_zero]; try rfl)
          case hs9x9 => kernel_rfl
          case hf9x9 => kernel_rfl
          case hr9x9 => kernel_rfl
          case hQ9x9 => exact fun _ _ _ h => h
          case hy9x9 => exact Or.inl ⟨by rfl, by (intro w hSw; (try dsimp only at hSw); go_simp)⟩
          case hS9x9 => assumption
          (try simp only [Act.put, List.setIfInBounds_toArray, List.set_cons_zero, List.set_cons_succ])
          refine wpAnyH_done (by kernel_rfl) ?_ _
          refine NoPanic.normal ?_
          clear i1 i2 hand
          go_wp2
          go_roundw
          case rel => exact rel_step (e := [92, 120, hexD (c / 16), hexD (c % 16)]) hltH.out (esc_hex hcH.out c0 c1 c2 c3 c4 c6) haccH.out halH.out rfl (by simp [Lib.byteCells, hx1H.out, hx2H.out]) hbN.out _ (by go_num)
          case measure => simp [Go.RowKit.intOf]; omega
        · have c8 : c = 127 := by omega
          have d5 : ¬ (c : Int) < 32 := by omega
          have d6 : ((c : Int) == 127) = true := by simp; omega
          have d7 : decide ((c : Int) < 32) = false := by simpa using d5
          have hx1 : ∃ x1, (hexD (c / 16)).toNat = x1 := ⟨_, rfl⟩
          obtain ⟨x1, hx1⟩ := hx1
          have hx2 : ∃ x2, (hexD (c % 16)).toNat = x2 := ⟨_, rfl⟩
          obtain ⟨x2, hx2⟩ := hx2
          have i1 := fun w' => idx_u8 dgt (c / 16) ((c : Int) / 16) (by omega) (by show c / 16 < 16; omega) w'
          have i2 := fun w' => idx_u8 dgt (c % 16) ((c : Int) % 16) (by omega) (by show c % 16 < 16; omega) w'
          rw [dgt_bt _ (by omega), hx1] at i1
          rw [dgt_bt _ (by omega), hx2] at i2
          unfold dgt at i1 i2
          have hand := and15 ⟨c, hc256⟩
          simp only at hand
          have hx1H := Lib.hid hx1; have hx2H := Lib.hid hx2
          clear hx1 hx2
          clear c8
          go_wp2_with fail
          refine wp_region_noPanic ?_
          refine wp_region_held_drew (S := (fun _ => True)) (by kernel_rfl) trivial (fun hHeld => ?_)
          refine' wpAnyH_take (i := 0) (v := u3) ?hi0x10 ?hs0x10 ?hf0x10 ?hr0x10 ?hQ0x10 ?hy0x10 ?hS0x10 ?rest0x10
          case hi0x10 => (simp only [List.getElem?_toArray, List.getElem?_cons_succ, List.getElem?_cons_zero]; try rfl)
          case hs0x10 => kernel_rfl
          case hf0x10 => kernel_rfl
          case hr0x10 => kernel_rfl
          case hQ0x10 => exact fun _ _ _ h => h
          case hy0x10 => exact Or.inl ⟨by rfl, by (intro w hSw; (try dsimp only at hSw); go_simp)⟩
          case hS0x10 => assumption
          (try simp only [Act.put, List.setIfInBounds_toArray, List.set_cons_zero, List.set_cons_succ])
          refine' wpAnyH_take (i := 1) (v := .int .u8 (c : Int)) ?hi1x11 ?hs1x11 ?hf1x11 ?hr1x11 ?hQ1x11 ?hy1x11 ?hS1x11 ?rest1x11
          case hi1x11 => (simp only [List.getElem?_toArray, List.getElem?_cons_succ, List.getElem?_cons_zero]; try rfl)
          case hs1x11 => kernel_rfl
          case hf1x11 => kernel_rfl
          case hr1x11 => kernel_rfl
          case hQ1x11 => exact fun _ _ _ h => h
          case hy1x11 => exact Or.inl ⟨by rfl, by (intro w hSw; (try dsimp only at hSw); go_simp)⟩
          case hS1x11 => assumption
          (try simp only [Act.put, List.setIfInBounds_toArray, List.set_cons_zero, List.set_cons_succ])
          refine' wpAnyH_take (i := 2) (v := .int .u8 ((c / 16 : Nat) : Int)) ?hi2x12 ?hs2x12 ?hf2x12 ?hr2x12 ?hQ2x12 ?hy2x12 ?hS2x12 ?rest2x12
          case hi2x12 => (simp only [List.getElem?_toArray, List.getElem?_cons_succ, List.getElem?_cons_zero]; try rfl)
          case hs2x12 => kernel_rfl
          case hf2x12 => kernel_rfl
          case hr2x12 => kernel_rfl
          case hQ2x12 => exact fun _ _ _ h => h
          case hy2x12 => exact Or.inl ⟨by rfl, by (intro w hSw; (try dsimp only at hSw); go_simp)⟩
          case hS2x12 => assumption
          (try simp only [Act.put, List.setIfInBounds_toArray, List.set_cons_zero, List.set_cons_succ])
          refine' wpAnyH_take (i := 4) (v := .int .u8 (c : Int)) ?hi4x13 ?hs4x13 ?hf4x13 ?hr4x13 ?hQ4x13 ?hy4x13 ?hS4x13 ?rest4x13
          case hi4x13 => (simp only [List.getElem?_toArray, List.getElem?_cons_succ, List.getElem?_cons_zero]; try rfl)
          case hs4x13 => kernel_rfl
          case hf4x13 => kernel_rfl
          case hr4x13 => kernel_rfl
          case hQ4x13 => exact fun _ _ _ h => h
          case hy4x13 => exact Or.inl ⟨by rfl, by (intro w hSw; (try dsimp only at hSw); go_simp)⟩
          case hS4x13 => assumption
          (try simp only [Act.put, List.setIfInBounds_toArray, List.set_cons_zero, List.set_cons_succ])
          refine' wpAnyH_take (i := 5) (v := .int .u8 ((c % 16 : Nat) : Int)) ?hi5x14 ?hs5x14 ?hf5x14 ?hr5x14 ?hQ5x14 ?hy5x14 ?hS5x14 ?rest5x14
          case hi5x14 => (simp only [List.getElem?_toArray, List.getElem?_cons_succ, List.getElem?_cons_zero]; try rfl)
          case hs5x14 => kernel_rfl
          case hf5x14 => kernel_rfl
          case hr5x14 => kernel_rfl
          case hQ5x14 => exact fun _ _ _ h => h
          case hy5x14 => exact Or.inl ⟨by rfl, by (intro w hSw; (try dsimp only at hSw); go_simp)⟩
          case hS5x14 => assumption
          (try simp only [Act.put, List.setIfInBounds_toArray, List.set_cons_zero, List.set_cons_succ])
          refine' wpAnyH_take (i := 3) (v := .int .u8 (x1 : Int)) ?hi3x15 ?hs3x15 ?hf3x15 ?hr3x15 ?hQ3x15 ?hy3x15 ?hS3x15 ?rest3x15
          case hi3x15 => (simp only [List.getElem?_toArray, List.getElem?_cons_succ, List.getElem?_cons_zero]; try rfl)
          case hs3x15 => kernel_rfl
          case hf3x15 => kernel_rfl
          case hr3x15 => kernel_rfl
          case hQ3x15 => exact fun _ _ _ h => h
          case hy3x15 => exact Or.inl ⟨by rfl, by (intro w hSw; (try dsimp only at hSw); go_simp)⟩
          case hS3x15 => assumption
          (try simp only [Act.put, List.setIfInBounds_toArray, List.set_cons_zero, List.set_cons_succ])
          refine' wpAnyH_take (i := 6) (v := .int .u8 (x2 : Int)) ?hi6x16 ?hs6x16 ?hf6x16 ?hr6x16 ?hQ6x16 ?hy6x16 ?hS6x16 ?rest6x16
          case hi6x16 => (simp only [List.getElem?_toArray, List.getElem?_cons_succ, List.getElem?_cons_zero]; try rfl)
          case hs6x16 => kernel_rfl
          case hf6x16 => kernel_rfl
          case hr6x16 => kernel_rfl
          case hQ6x16 => exact fun _ _ _ h => h
          case hy6x16 => exact Or.inl ⟨by rfl, by (intro w hSw; (try dsimp only at hSw); go_simp)⟩
          case hS6x16 => assumption
          (try simp only [Act.put, List.setIfInBounds_toArray, List.set_cons_zero, List.set_cons_succ])
          refine wpAnyH_ready (rs := [7]) (by kernel_rfl) (by simp) ?_
          refine' AllReadyH.cons (i := 7) ?ho7x17 (fun K hK => ?st7x17) AllReadyH.nil
          case ho7x17 => (simp only [List.getElem?_toArray, List.getElem?_cons_succ, List.getElem?_cons_zero]; try rfl)
          go_simp
          refine hK.out _ _ ?_ (fun hHeld => ?_)
          · trivial
          clear hK K
          (try simp only [Act.put, List.setIfInBounds_toArray, List.set_cons_zero, List.set_cons_succ])
          obtain ⟨v', w', hr, ho', hg, _⟩ := run_append_ownF (P := Tryz.prog) ((wr.alloc (.cells #[.int .u8 92, .int .u8 120, .int .u8 (x1 : Int), .int .u8 (x2 : Int)] 5)).drew) w.heap.size 31 31 5 i0 (.int .u8 0) 1 1 Tryz.underlying31 hi hz0 hz1 hz2 rfl (by decide) u3 acc.length (Lib.byteCells acc) (hbH.out.alloc _).1 ⟨wr.heap.size, 0, none⟩ 4 4 [.int .u8 92, .int .u8 120, .int .u8 (x1 : Int), .int .u8 (x2 : Int)] rfl (by
              intro j u hj
              match j, hj with
              | 0, hj => simp at hj; subst hj; simp [Addr.add]
              | 1, hj => simp at hj; subst hj; simp [Addr.add]
              | 2, hj => simp at hj; subst hj; simp [Addr.add]
              | 3, hj => simp at hj; subst hj; simp [Addr.add]
              | (j + 4), hj => simp at hj) (by intro u hu; simp at hu; rcases hu with rfl | rfl | rfl | rfl <;> rfl) (by have := halH.out; unfold maxLen; omega) (by have := halH.out; omega) (hbH.out.alloc _).2.2
          have hbN := Lib.hid (((hbH.out.alloc _).drewN 1).grown ho' hg)
          clear ho' hg
          refine wpAnyH_ready (rs := [8]) (by kernel_rfl) (by simp) ?_
          refine' AllReadyH.cons (i := 8) ?ho8d (fun K hK => ?st8d) AllReadyH.nil
          case ho8d => (simp only [List.getElem?_toArray, List.getElem?_cons_succ, List.getElem?_cons_zero]; try rfl)
          rw [if_pos (by rfl)]
          refine upon_append (.tmp 52) (.tmp 59) 31 rfl rfl rfl hr ?_
          refine hK.out _ _ trivial (fun hHeld => ?_)
          clear hK K
          (try simp only [Act.put, List.setIfInBounds_toArray, List.set_cons_zero, List.set_cons_succ])
          refine' wpAnyH_take (i := 9) (v := v') ?hi9x18 ?hs9x18 ?hf9x18 ?hr9x18 ?hQ9x18 ?hy9x18 ?hS9x18 ?rest9x18
          case hi9x18 => (simp only [List.getElem?_toArray, List.getElem?_cons_succ, List.getElem?_cons_zero]; try rfl)
          case hs9x18 => kernel_rfl
          case hf9x18 => kernel_rfl
          case hr9x18 => kernel_rfl
          case hQ9x18 => exact fun _ _ _ h => h
          case hy9x18 => exact Or.inl ⟨by rfl, by (intro w hSw; (try dsimp only at hSw); go_simp)⟩
          case hS9x18 => assumption
          (try simp only [Act.put, List.setIfInBounds_toArray, List.set_cons_zero, List.set_cons_succ])
          refine wpAnyH_done (by kernel_rfl) ?_ _
          refine NoPanic.normal ?_
          clear i1 i2 hand
          go_wp2
          go_roundw
          case rel => exact rel_step (e := [92, 120, hexD (c / 16), hexD (c % 16)]) hltH.out (esc_hex hcH.out c0 c1 c2 c3 c4 c6) haccH.out halH.out rfl (by simp [Lib.byteCells, hx1H.out, hx2H.out]) hbN.out _ (by go_num)
          case measure => simp [Go.RowKit.intOf]; omega
      · have d5 : ¬ (c : Int) < 32 := by omega
        have d6 : ((c : Int) == 127) = false := by simp; omega
        have d7 : decide ((c : Int) < 32) = false := by simpa using d5
        go_wp2_with (at_builtin; refine Lib.wpList_append_byte rfl _ _ 31 rfl w.heap.size 5 i0 Tryz.underlying31 hi hz0 hz1 hz2 _ _ _ (by rfl) w _ _ hbH.out (by rfl) (by have := halH.out; omega) ?_; intro v' w' hb')
        have hbN := Lib.hid hb'
        clear hb'
        go_wp2
        go_roundw
        case rel => exact rel_step (e := [s.get! p]) hltH.out (esc_plain hcH.out c0 c1 c2 c3 c4 c6) haccH.out halH.out rfl (by have := hcH.out; unfold bt at this; simp [Lib.byteCells, this]) hbN.out _ (by go_num)
        case measure => simp [Go.RowKit.intOf]; omega
    · have hend : acc = 39 :: s.data.toList.flatMap escB := by
        have h := haccH.out
        rw [List.drop_eq_nil_of_le (by rw [size_list]; omega)] at h
        simpa using h
      have hendH := Lib.hid hend
      clear hend
      go_wp2_with (at_builtin; refine Lib.wpList_append_byte rfl _ _ 31 rfl w.heap.size 5 i0 Tryz.underlying31 hi hz0 hz1 hz2 _ _ _ (by rfl) w _ _ hbH.out (by rfl) (by have := halH.out; omega) ?_; intro v' w' hb'; obtain ⟨ho', hbw, _⟩ := hb'; obtain ⟨g, cap, rfl, hconv⟩ := conv_own (l := acc ++ [39]) (by rw [Lib.byteCells_append]; exact ho') (by simp) (by omega))
      go_ret
      exact ⟨ret_strL (by rw [hendH.out]; rfl), hbw⟩
end Go.Proofs.YtpmfbmigdpmloaaGreatDoor
end
section
/-
  What the document's count of runes answers, at this program: of every text of at most 2^47 bytes.
-/
set_option linter.unusedVariables false
set_option linter.unusedSimpArgs false
namespace Go.Proofs.YtpmfbmigdpmloaaGreatDoor
open Go.RowKit Go.Lib

/-- What the rounds hold: so many runes up to a place; what lies behind it is UTF-8 just if all is. -/
def RelR (s : ByteArray) (w0 : World) (n i : Value) (wr : World) : Prop :=
  ∃ p c : Nat, n = .int .i64 (c : Int) ∧ i = .int .i64 (p : Int) ∧ p ≤ s.size ∧ c + cntS s p = runeCount s ∧ validD (s.data.toList.drop p) = validD s.data.toList ∧ c ≤ p ∧ Below w0.heap.size w0 wr

set_option maxRecDepth 100000 in
set_option maxHeartbeats 4000000 in
theorem refRunes_any (s : ByteArray) (w : World) (hs : s.size ≤ 140737488355328) :
    Calls Tryz.prog 61 #[.string s] w fun e w' => e = .returned (.int .i64 (runesS s)) ∧ Below w.heap.size w w' := by
  obtain ⟨r, hr⟩ : ∃ r, runesS s = r := ⟨_, rfl⟩
  rw [hr]
  have hrH := Lib.hid hr
  clear hr
  go_enter Tryz.func61, Tryz.ntmps61
  go_wp2_with fail
  go_loopw [3, 4] (fun n i wr => RelR s w n i wr) (fun _ i _ => s.size - (Go.RowKit.intOf i).toNat)
  case atStart => exact ⟨0, 0, rfl, rfl, Nat.zero_le _, by simp [cntS_zero], by simp, Nat.le_refl _, Below.refl _ _⟩
  case round =>
    unfold RelR at hrel
    obtain ⟨p, c, rfl, rfl, hp, hc, hv, hcp, hb⟩ := hrel
    have hcH := Lib.hid hc; have hvH := Lib.hid hv; have hb0 := Lib.hid hb
    clear hc hv hb
    have hsz := hb0.out.size
    by_cases hlt : p < s.size
    · by_cases hl : longS s p = 0
      · have hlH := Lib.hid hl
        clear hl
        go_wp2_with (go_at_call 92; go_must (refine (refLong_any s p _ hlt hs).mono ?_; rw [hlH.out]; rintro e w' ⟨rfl, hb'⟩; have hb := hb0.out.trans (hb'.mono hsz); clear hb'))
        go_ret
        refine ⟨ret_i64 ?_, hb⟩
        rw [← hrH.out]
        unfold runesS
        rw [← hvH.out, runes_bad hlt hlH.out]
        rfl
      · obtain ⟨e1, e2, e3, e4, e5⟩ := runes_good hlt hl
        obtain ⟨k, hk⟩ : ∃ k, longS s p = k := ⟨_, rfl⟩
        rw [hk] at hl e2 e3 e4 e5
        have hkH := Lib.hid hk; have e2H := Lib.hid e2; have e4H := Lib.hid e4
        clear hk e1 e2 e4
        go_wp2_with (go_at_call 92; go_must (refine (refLong_any s p _ hlt hs).mono ?_; rw [hkH.out]; rintro e w' ⟨rfl, hb'⟩; have hb := hb0.out.trans (hb'.mono hsz); clear hb'))
        go_roundw
        case rel => exact ⟨p + k, c + 1, by go_num, by go_num, e3, by have := hcH.out; have := e4H.out; omega, by rw [← e2H.out]; exact hvH.out, by omega, hb⟩
        case measure => simp [Go.RowKit.intOf]; omega
    · go_wp2_with fail
      go_ret
      refine ⟨ret_i64 ?_, hb0.out⟩
      rw [← hrH.out]
      unfold runesS
      have h1 : s.data.toList.drop p = [] := List.drop_eq_nil_of_le (by rw [size_list]; omega)
      have h2 := hvH.out
      rw [h1] at h2
      rw [← h2, if_pos validD_nil, ← hcH.out, cntS_end s p hlt]
      omega
end Go.Proofs.YtpmfbmigdpmloaaGreatDoor
end
section
/-
  What the document's own Check answers, at this program: of every datum with a text of at most 2^47 bytes.
-/
set_option linter.unusedVariables false
set_option linter.unusedSimpArgs false
namespace Go.Proofs.YtpmfbmigdpmloaaGreatDoor
open Go.RowKit Go.Lib

theorem validD_empty {s : ByteArray} (h : s.size = 0) : validD s.data.toList = true := by
  have : s.data.toList = [] := List.eq_nil_of_length_eq_zero (by rw [size_list]; exact h)
  rw [this]; exact validD_nil
theorem form_valid {k : Int} {b : Bool} {n : Int} {s : ByteArray} (h : form ⟨k, b, n, s⟩ = true) : validD s.data.toList = true := by
  by_cases h4 : k = 4
  · subst h4
    have : form ⟨4, b, n, s⟩ = (!b && decide (n = 0) && validD s.data.toList) := by simp [form]
    rw [this] at h
    simp at h
    exact h.2
  · apply validD_empty
    unfold form at h
    simp only at h
    repeat' split at h
    all_goals simp_all
/-- Where the document's Check comes to the runes: the rest of the form is right. -/
theorem form_parts (k : Int) (b : Bool) (n : Int) (s : ByteArray) : form ⟨k, b, n, s⟩ = (decide (1 ≤ k) && decide (k ≤ 4) && (decide (k = 2) || !b) && (decide (k = 3) || decide (n = 0)) && (decide (k = 4) || decide (s.size = 0)) && validD s.data.toList) := by
  by_cases he : s.size = 0
  · have hv := validD_empty he
    unfold form
    simp only [hv, he]
    by_cases h1 : k = 1 <;> by_cases h2 : k = 2 <;> by_cases h3 : k = 3 <;> by_cases h4 : k = 4 <;> cases b <;> simp_all <;> omega
  · unfold form
    simp only [he]
    by_cases h1 : k = 1 <;> by_cases h2 : k = 2 <;> by_cases h3 : k = 3 <;> by_cases h4 : k = 4 <;> cases b <;> simp_all <;> omega
theorem runesS_neg (s : ByteArray) : runesS s < 0 ↔ validD s.data.toList = false := by
  unfold runesS
  by_cases h : validD s.data.toList = true
  · rw [if_pos h]; simp [h]
  · rw [if_neg h]; simp [h]

set_option maxRecDepth 100000 in
set_option maxHeartbeats 4000000 in
theorem refCheck_any (k : Int) (b : Bool) (n : Int) (s : ByteArray) (w : World) (hs : s.size ≤ 140737488355328) :
    Calls Tryz.prog 36 #[.agg #[.int .u8 k, .bool b, .int .i64 n, .string s]] w fun e w' => e = .returned (.int .i64 (chk ⟨k, b, n, s⟩)) ∧ Below w.heap.size w w' := by
  obtain ⟨r, hr⟩ : ∃ r, chk ⟨k, b, n, s⟩ = r := ⟨_, rfl⟩
  rw [hr]
  have hrH := Lib.hid hr
  clear hr
  obtain ⟨u, hu⟩ : ∃ u, runesS s = u := ⟨_, rfl⟩
  have huH := Lib.hid hu
  have hvH := Lib.hid (hu ▸ runesS_neg s : u < 0 ↔ validD s.data.toList = false)
  clear hu
  go_enter Tryz.func36, Tryz.ntmps36
  go_wp2_with (go_at_call 61; go_must (refine (refRunes_any s _ hs).mono ?_; rw [huH.out]; rintro e w' ⟨rfl, hb'⟩; have hb : Below w.heap.size w w' := chainB (by go_grown) hb' (by simp); have hcell : w'.cell? ⟨w.heap.size, 3, none⟩ = some (.string s) := (by rw [hb'.cell (by simp)]; exact cell_new w _ _ 3); clear hb'))
  all_goals
    go_ret
    refine ⟨ret_i64 ?_, by go_grown⟩
    rw [← hrH.out]
    have hv := hvH.out
    have he := toList_size s
    unfold chk
    rw [form_parts]
    simp only []
    generalize validD s.data.toList = v at hv
    generalize s.toList.isEmpty = z at *
    clear hrH huH hvH
    cases v <;> cases b <;> simp_all <;> first | omega | (rename_i h; rcases h with h | h; exact absurd h (by omega); exact h)
end Go.Proofs.YtpmfbmigdpmloaaGreatDoor
end
section
/-
  What the document's own Print answers, at this program: of every datum. Condition: its text has at most 2^47 bytes, its number is a 64-bit number.
-/
set_option linter.unusedVariables false
set_option linter.unusedSimpArgs false
namespace Go.Proofs.YtpmfbmigdpmloaaGreatDoor
open Go.RowKit Go.Lib

theorem refDigits_int (z : Int) (m : Nat) (hz : z = (m : Int)) (hm : m < 18446744073709551616) (w : World) : Calls Tryz.prog 59 #[.int .u64 z] w fun e w' => e = .returned (.string ⟨(decDigits m).toArray⟩) ∧ Below w.heap.size w w' := by
  subst hz
  exact refDigits_any m hm w
theorem ret_strA {x y : ByteArray} (h : x = y) : Ending.returned (.string x) = Ending.returned (.string y) := by rw [h]
set_option maxRecDepth 100000 in
set_option maxHeartbeats 8000000 in
theorem refPrint_bad (k : Int) (b : Bool) (n : Int) (s : ByteArray) (w : World) (hs : s.size ≤ 140737488355328) (hc : ¬ chk ⟨k, b, n, s⟩ = 0) :
    Calls Tryz.prog 34 #[.agg #[.int .u8 k, .bool b, .int .i64 n, .string s]] w fun e w' => e = .returned (.string ⟨#[]⟩) ∧ Below w.heap.size w w' := by
  obtain ⟨u, hu⟩ : ∃ u, chk ⟨k, b, n, s⟩ = u := ⟨_, rfl⟩
  rw [hu] at hc
  have hg : (u != 0) = true := by simpa using hc
  have hcH := Lib.hid hu
  have hsH := Lib.hid hs
  clear hu hc hs
  go_enter Tryz.func34, Tryz.ntmps34
  go_wp2_with fail
  refine (refCheck_any k b n s _ hsH.out).mono ?_
  rintro e w1 ⟨rfl, hb1⟩
  rw [hcH.out]
  go_wp2
  go_ret
  exact ⟨rfl, chainB (by go_grown) hb1 (by simp)⟩

set_option maxRecDepth 100000 in
set_option maxHeartbeats 8000000 in
theorem refPrint_null (w : World)  :
    Calls Tryz.prog 34 #[.agg #[.int .u8 1, .bool false, .int .i64 0, .string ⟨#[]⟩]] w fun e w' => e = .returned (.string ⟨#[110, 117, 108, 108]⟩) ∧ Below w.heap.size w w' := by
  have hcH := Lib.hid (show chk ⟨1, false, 0, ⟨#[]⟩⟩ = 0 by decide)
  have hsH := Lib.hid (show (⟨#[]⟩ : ByteArray).size ≤ 140737488355328 by decide)
  go_enter Tryz.func34, Tryz.ntmps34
  go_wp2_with fail
  refine (refCheck_any 1 false 0 ⟨#[]⟩ _ hsH.out).mono ?_
  rintro e w1 ⟨rfl, hb1⟩
  rw [hcH.out]
  obtain ⟨a0, a1, a2, a3⟩ := ((Has.new w (.int .u8 1) (.bool false) (.int .i64 0) (.string ⟨#[]⟩)).below hb1).cells
  go_wp2
  go_ret
  exact ⟨rfl, chainB (by go_grown) hb1 (by simp)⟩

set_option maxRecDepth 100000 in
set_option maxHeartbeats 8000000 in
theorem refPrint_true (w : World)  :
    Calls Tryz.prog 34 #[.agg #[.int .u8 2, .bool true, .int .i64 0, .string ⟨#[]⟩]] w fun e w' => e = .returned (.string ⟨#[116, 114, 117, 101]⟩) ∧ Below w.heap.size w w' := by
  have hcH := Lib.hid (show chk ⟨2, true, 0, ⟨#[]⟩⟩ = 0 by decide)
  have hsH := Lib.hid (show (⟨#[]⟩ : ByteArray).size ≤ 140737488355328 by decide)
  go_enter Tryz.func34, Tryz.ntmps34
  go_wp2_with fail
  refine (refCheck_any 2 true 0 ⟨#[]⟩ _ hsH.out).mono ?_
  rintro e w1 ⟨rfl, hb1⟩
  rw [hcH.out]
  obtain ⟨a0, a1, a2, a3⟩ := ((Has.new w (.int .u8 2) (.bool true) (.int .i64 0) (.string ⟨#[]⟩)).below hb1).cells
  go_wp2
  go_ret
  exact ⟨rfl, chainB (by go_grown) hb1 (by simp)⟩

set_option maxRecDepth 100000 in
set_option maxHeartbeats 8000000 in
theorem refPrint_false (w : World)  :
    Calls Tryz.prog 34 #[.agg #[.int .u8 2, .bool false, .int .i64 0, .string ⟨#[]⟩]] w fun e w' => e = .returned (.string ⟨#[102, 97, 108, 115, 101]⟩) ∧ Below w.heap.size w w' := by
  have hcH := Lib.hid (show chk ⟨2, false, 0, ⟨#[]⟩⟩ = 0 by decide)
  have hsH := Lib.hid (show (⟨#[]⟩ : ByteArray).size ≤ 140737488355328 by decide)
  go_enter Tryz.func34, Tryz.ntmps34
  go_wp2_with fail
  refine (refCheck_any 2 false 0 ⟨#[]⟩ _ hsH.out).mono ?_
  rintro e w1 ⟨rfl, hb1⟩
  rw [hcH.out]
  obtain ⟨a0, a1, a2, a3⟩ := ((Has.new w (.int .u8 2) (.bool false) (.int .i64 0) (.string ⟨#[]⟩)).below hb1).cells
  go_wp2
  go_ret
  exact ⟨rfl, chainB (by go_grown) hb1 (by simp)⟩

set_option maxRecDepth 100000 in
set_option maxHeartbeats 8000000 in
theorem refPrint_text (s : ByteArray) (w : World) (hc : chk ⟨4, false, 0, s⟩ = 0) (hl : s.size ≤ 1000) :
    Calls Tryz.prog 34 #[.agg #[.int .u8 4, .bool false, .int .i64 0, .string s]] w fun e w' => e = .returned (.string ⟨(quoteL s.data.toList).toArray⟩) ∧ Below w.heap.size w w' := by
  have hcH := Lib.hid hc
  have hsH := Lib.hid (show s.size ≤ 140737488355328 by omega)
  have hqH := Lib.hid (show s.size ≤ 1099511627776 by omega)
  clear hc hl
  go_enter Tryz.func34, Tryz.ntmps34
  go_wp2_with fail
  refine (refCheck_any 4 false 0 s _ hsH.out).mono ?_
  rintro e w1 ⟨rfl, hb1⟩
  rw [hcH.out]
  obtain ⟨a0, a1, a2, a3⟩ := ((Has.new w (.int .u8 4) (.bool false) (.int .i64 0) (.string s)).below hb1).cells
  go_wp2_with (go_at_call 58; go_must (refine (refQuoted_any s _ hqH.out).mono ?_; rintro e w2 ⟨rfl, hb2⟩; have hb := chainB (B := w.heap.size) (a := w) (chainB (by go_grown) hb1 (by simp)) hb2 (by have := hb1.size; simp at this; omega)))
  go_ret
  exact ⟨rfl, hb⟩

set_option maxRecDepth 100000 in
set_option maxHeartbeats 8000000 in
theorem refPrint_neg (n : Int) (m : Nat) (w : World) (hn : I64 n) (hneg : n < 0) (hmn : (m : Int) = -n) :
    Calls Tryz.prog 34 #[.agg #[.int .u8 3, .bool false, .int .i64 n, .string ⟨#[]⟩]] w fun e w' => e = .returned (.string ⟨(45 :: decDigits m).toArray⟩) ∧ Below w.heap.size w w' := by
  have hcH := Lib.hid (show chk ⟨3, false, n, ⟨#[]⟩⟩ = 0 from okD_chk (ok_int n))
  have hsH := Lib.hid (show (⟨#[]⟩ : ByteArray).size ≤ 140737488355328 by decide)
  obtain ⟨h1, h2⟩ := hn
  have hm : m < 18446744073709551616 := by omega
  have hlen := decDigits_len 19 m (by omega)
  obtain ⟨ds, hds⟩ : ∃ ds, decDigits m = ds := ⟨_, rfl⟩
  rw [hds] at hlen ⊢
  have hdsH := Lib.hid hds
  have hlen2 : ds.length ≤ 9223372036854775806 := by omega
  clear hds hlen
  go_enter Tryz.func34, Tryz.ntmps34
  go_wp2_with fail
  refine (refCheck_any 3 false n ⟨#[]⟩ _ hsH.out).mono ?_
  rintro e w1 ⟨rfl, hb1⟩
  rw [hcH.out]
  obtain ⟨a0, a1, a2, a3⟩ := ((Has.new w (.int .u8 3) (.bool false) (.int .i64 n) (.string ⟨#[]⟩)).below hb1).cells
  go_wp2_with (go_at_call 59; go_must (refine (refDigits_int _ m (by omega) hm _).mono ?_; rw [hdsH.out]; rintro e w2 ⟨rfl, hb2⟩; have hb := chainB (B := w.heap.size) (a := w) (chainB (by go_grown) hb1 (by simp)) hb2 (by have := hb1.size; simp at this; omega)))
  go_ret
  exact ⟨ret_strA (bytes_ext (by simp)), hb⟩

set_option maxRecDepth 100000 in
set_option maxHeartbeats 8000000 in
theorem refPrint_pos (n : Int) (m : Nat) (w : World) (hn : I64 n) (hpos : ¬ n < 0) (hmn : (m : Int) = n) :
    Calls Tryz.prog 34 #[.agg #[.int .u8 3, .bool false, .int .i64 n, .string ⟨#[]⟩]] w fun e w' => e = .returned (.string ⟨(decDigits m).toArray⟩) ∧ Below w.heap.size w w' := by
  have hcH := Lib.hid (show chk ⟨3, false, n, ⟨#[]⟩⟩ = 0 from okD_chk (ok_int n))
  have hsH := Lib.hid (show (⟨#[]⟩ : ByteArray).size ≤ 140737488355328 by decide)
  obtain ⟨h1, h2⟩ := hn
  have hm : m < 18446744073709551616 := by omega
  have hlen := decDigits_len 19 m (by omega)
  obtain ⟨ds, hds⟩ : ∃ ds, decDigits m = ds := ⟨_, rfl⟩
  rw [hds] at hlen ⊢
  have hdsH := Lib.hid hds
  have hlen2 : ds.length ≤ 9223372036854775806 := by omega
  clear hds hlen
  go_enter Tryz.func34, Tryz.ntmps34
  go_wp2_with fail
  refine (refCheck_any 3 false n ⟨#[]⟩ _ hsH.out).mono ?_
  rintro e w1 ⟨rfl, hb1⟩
  rw [hcH.out]
  obtain ⟨a0, a1, a2, a3⟩ := ((Has.new w (.int .u8 3) (.bool false) (.int .i64 n) (.string ⟨#[]⟩)).below hb1).cells
  go_wp2_with (go_at_call 59; go_must (refine (refDigits_int _ m (by omega) hm _).mono ?_; rw [hdsH.out]; rintro e w2 ⟨rfl, hb2⟩; have hb := chainB (B := w.heap.size) (a := w) (chainB (by go_grown) hb1 (by simp)) hb2 (by have := hb1.size; simp at this; omega)))
  go_ret
  exact ⟨rfl, hb⟩

/-- Print, of every datum. -/
theorem refPrint_any (k : Int) (b : Bool) (n : Int) (s : ByteArray) (w : World) (hs : s.size ≤ 140737488355328) (hn : I64 n) :
    Calls Tryz.prog 34 #[.agg #[.int .u8 k, .bool b, .int .i64 n, .string s]] w fun e w' => e = .returned (.string ⟨(printS ⟨k, b, n, s⟩).toArray⟩) ∧ Below w.heap.size w w' := by
  cases ho : okD ⟨k, b, n, s⟩ with
  | false =>
    rw [printS_bad ho]
    exact refPrint_bad k b n s w hs (fun h => by have := okD_chk_ne ho; rw [h] at this; cases this)
  | true =>
    have hc := okD_chk ho
    rcases ok_cases ho with h | ⟨b', h⟩ | ⟨n', h⟩ | ⟨s', h, hv, hl⟩
    · rw [h, printS_null]
      obtain ⟨rfl, rfl, rfl, rfl⟩ := dat_eta h
      exact refPrint_null w
    · rw [h, printS_bool]
      obtain ⟨rfl, rfl, rfl, rfl⟩ := dat_eta h
      cases b
      · exact refPrint_false w
      · exact refPrint_true w
    · rw [h, printS_int]
      obtain ⟨rfl, rfl, rfl, rfl⟩ := dat_eta h
      unfold itoa
      by_cases hz : n < 0
      · rw [if_pos hz]
        exact refPrint_neg n n.natAbs w hn hz (by omega)
      · rw [if_neg hz]
        exact refPrint_pos n n.toNat w hn hz (by omega)
    · have ho' := ho
      rw [h] at ho'
      rw [h, printS_text ho']
      obtain ⟨rfl, rfl, rfl, rfl⟩ := dat_eta h
      exact refPrint_text s w hc hl
end Go.Proofs.YtpmfbmigdpmloaaGreatDoor
end
section
/-
  Rows that are the same; rows that are lent, and whether they are whole: SameRow, LentRow, WholeRow, at this program. Conditions: those written.
-/
set_option linter.unusedVariables false
set_option linter.unusedSimpArgs false
namespace Go.Proofs.YtpmfbmigdpmloaaGreatDoor
open Go.RowKit Go.Lib Go.Proofs

def RelX (l : List Dat) (w0 : World) (s5 : Value) (wr : World) : Prop := ∃ p : Nat, p ≤ l.length ∧ s5 = .int .i64 (p : Int) ∧ Below w0.heap.size w0 wr
set_option maxHeartbeats 4000000 in
set_option maxRecDepth 1000000 in
theorem sameRow_any (va vb : Value) (l : List Dat) (w : World) (ha : RowV w va l) (hb : RowV w vb l) :
    Calls Tryz.prog 19 #[va, vb] w fun e w' => e = .returned (.bool true) ∧ Below w.heap.size w w' := by
  obtain ⟨A, ca, rfl, hla⟩ := ha.form
  obtain ⟨B, cb, rfl, hlb⟩ := hb.form
  have haH := Lib.hid ha; have hbH := Lib.hid hb
  clear ha hb
  go_enter Tryz.func19, Tryz.ntmps19
  go_wp2_with fail
  go_loopw [5] (fun s5 wr => RelX l w s5 wr) (fun s5 _ => l.length - (Go.RowKit.intOf s5).toNat)
  case atStart => exact ⟨0, by omega, rfl, Below.refl _ _⟩
  case round =>
    unfold RelX at hrel
    obtain ⟨p, hp, rfl, hbw⟩ := hrel
    have hbwH := Lib.hid hbw
    clear hbw
    by_cases hlt : p < l.length
    · obtain ⟨ad, rfl, hba, a0_, a1_, a2_, a3_⟩ := (haH.out.below hbwH.out).at hlt
      obtain ⟨bd, rfl, hbb, b0_, b1_, b2_, b3_⟩ := (hbH.out.below hbwH.out).at hlt
      obtain ⟨d, hd⟩ : ∃ d, l[p] = d := ⟨_, rfl⟩
      rw [hd] at a0_ a1_ a2_ a3_ b0_ b1_ b2_ b3_
      clear hd
      obtain ⟨k, b, m, s⟩ := d
      simp only at a0_ a1_ a2_ a3_ b0_ b1_ b2_ b3_
      go_wp2_with fail
      refine wp_region_noPanic ?_
      refine wp_region_held_drew (S := (fun w' => w'.cell? (ad.add (p * 4)) = some (.int .u8 k) ∧ w'.cell? ⟨(ad.add (p * 4)).block, (ad.add (p * 4)).off + 1, none⟩ = some (.bool b) ∧ w'.cell? ⟨(ad.add (p * 4)).block, (ad.add (p * 4)).off + 2, none⟩ = some (.int .i64 m) ∧ w'.cell? ⟨(ad.add (p * 4)).block, (ad.add (p * 4)).off + 3, none⟩ = some (.string s) ∧ w'.cell? (bd.add (p * 4)) = some (.int .u8 k) ∧ w'.cell? ⟨(bd.add (p * 4)).block, (bd.add (p * 4)).off + 1, none⟩ = some (.bool b) ∧ w'.cell? ⟨(bd.add (p * 4)).block, (bd.add (p * 4)).off + 2, none⟩ = some (.int .i64 m) ∧ w'.cell? ⟨(bd.add (p * 4)).block, (bd.add (p * 4)).off + 3, none⟩ = some (.string s))) (by kernel_rfl) (⟨a0_, a1_, a2_, a3_, b0_, b1_, b2_, b3_⟩) (fun hHeld => ?_)
      refine' wpAnyH_take (i := 0) (v := ?v0x1) ?hi0x1 ?hs0x1 ?hf0x1 ?hr0x1 ?hQ0x1 ?hy0x1 ?hS0x1 ?rest0x1
      case hi0x1 => (simp only [List.getElem?_toArray, List.getElem?_cons_succ, List.getElem?_cons_zero]; try rfl)
      case hs0x1 => kernel_rfl
      case hf0x1 => kernel_rfl
      case hr0x1 => kernel_rfl
      case hQ0x1 => exact fun _ _ _ h => h
      case hy0x1 => first | exact Or.inl ⟨by rfl, by (intro w hSw; (try dsimp only at hSw); go_simp; try rfl)⟩ | exact Or.inr ⟨by rfl, rfl⟩
      case hS0x1 => assumption
      (try simp only [Act.put, List.setIfInBounds_toArray, List.set_cons_zero, List.set_cons_succ])
      refine' wpAnyH_take (i := 1) (v := ?v1x2) ?hi1x2 ?hs1x2 ?hf1x2 ?hr1x2 ?hQ1x2 ?hy1x2 ?hS1x2 ?rest1x2
      case hi1x2 => (simp only [List.getElem?_toArray, List.getElem?_cons_succ, List.getElem?_cons_zero]; try rfl)
      case hs1x2 => kernel_rfl
      case hf1x2 => kernel_rfl
      case hr1x2 => kernel_rfl
      case hQ1x2 => exact fun _ _ _ h => h
      case hy1x2 => first | exact Or.inl ⟨by rfl, by (intro w hSw; (try dsimp only at hSw); go_simp; try rfl)⟩ | exact Or.inr ⟨by rfl, rfl⟩
      case hS1x2 => assumption
      (try simp only [Act.put, List.setIfInBounds_toArray, List.set_cons_zero, List.set_cons_succ])
      refine' wpAnyH_take (i := 2) (v := ?v2x3) ?hi2x3 ?hs2x3 ?hf2x3 ?hr2x3 ?hQ2x3 ?hy2x3 ?hS2x3 ?rest2x3
      case hi2x3 => (simp only [List.getElem?_toArray, List.getElem?_cons_succ, List.getElem?_cons_zero]; try rfl)
      case hs2x3 => kernel_rfl
      case hf2x3 => kernel_rfl
      case hr2x3 => kernel_rfl
      case hQ2x3 => exact fun _ _ _ h => h
      case hy2x3 => first | exact Or.inl ⟨by rfl, by (intro w hSw; (try dsimp only at hSw); go_simp; try rfl)⟩ | exact Or.inr ⟨by rfl, rfl⟩
      case hS2x3 => assumption
      (try simp only [Act.put, List.setIfInBounds_toArray, List.set_cons_zero, List.set_cons_succ])
      refine' wpAnyH_take (i := 3) (v := ?v3x4) ?hi3x4 ?hs3x4 ?hf3x4 ?hr3x4 ?hQ3x4 ?hy3x4 ?hS3x4 ?rest3x4
      case hi3x4 => (simp only [List.getElem?_toArray, List.getElem?_cons_succ, List.getElem?_cons_zero]; try rfl)
      case hs3x4 => kernel_rfl
      case hf3x4 => kernel_rfl
      case hr3x4 => kernel_rfl
      case hQ3x4 => exact fun _ _ _ h => h
      case hy3x4 => first | exact Or.inl ⟨by rfl, by (intro w hSw; (try dsimp only at hSw); go_simp; try rfl)⟩ | exact Or.inr ⟨by rfl, rfl⟩
      case hS3x4 => assumption
      (try simp only [Act.put, List.setIfInBounds_toArray, List.set_cons_zero, List.set_cons_succ])
      refine' wpAnyH_take (i := 4) (v := ?v4x5) ?hi4x5 ?hs4x5 ?hf4x5 ?hr4x5 ?hQ4x5 ?hy4x5 ?hS4x5 ?rest4x5
      case hi4x5 => (simp only [List.getElem?_toArray, List.getElem?_cons_succ, List.getElem?_cons_zero]; try rfl)
      case hs4x5 => kernel_rfl
      case hf4x5 => kernel_rfl
      case hr4x5 => kernel_rfl
      case hQ4x5 => exact fun _ _ _ h => h
      case hy4x5 => first | exact Or.inl ⟨by rfl, by (intro w hSw; (try dsimp only at hSw); go_simp; try rfl)⟩ | exact Or.inr ⟨by rfl, rfl⟩
      case hS4x5 => assumption
      (try simp only [Act.put, List.setIfInBounds_toArray, List.set_cons_zero, List.set_cons_succ])
      refine' wpAnyH_take (i := 5) (v := ?v5x6) ?hi5x6 ?hs5x6 ?hf5x6 ?hr5x6 ?hQ5x6 ?hy5x6 ?hS5x6 ?rest5x6
      case hi5x6 => (simp only [List.getElem?_toArray, List.getElem?_cons_succ, List.getElem?_cons_zero]; try rfl)
      case hs5x6 => kernel_rfl
      case hf5x6 => kernel_rfl
      case hr5x6 => kernel_rfl
      case hQ5x6 => exact fun _ _ _ h => h
      case hy5x6 => first | exact Or.inl ⟨by rfl, by (intro w hSw; (try dsimp only at hSw); go_simp; try rfl)⟩ | exact Or.inr ⟨by rfl, rfl⟩
      case hS5x6 => assumption
      (try simp only [Act.put, List.setIfInBounds_toArray, List.set_cons_zero, List.set_cons_succ])
      refine' wpAnyH_take (i := 6) (v := ?v6x7) ?hi6x7 ?hs6x7 ?hf6x7 ?hr6x7 ?hQ6x7 ?hy6x7 ?hS6x7 ?rest6x7
      case hi6x7 => (simp only [List.getElem?_toArray, List.getElem?_cons_succ, List.getElem?_cons_zero]; try rfl)
      case hs6x7 => kernel_rfl
      case hf6x7 => kernel_rfl
      case hr6x7 => kernel_rfl
      case hQ6x7 => exact fun _ _ _ h => h
      case hy6x7 => first | exact Or.inl ⟨by rfl, by (intro w hSw; (try dsimp only at hSw); go_simp; try rfl)⟩ | exact Or.inr ⟨by rfl, rfl⟩
      case hS6x7 => assumption
      (try simp only [Act.put, List.setIfInBounds_toArray, List.set_cons_zero, List.set_cons_succ])
      refine' wpAnyH_take (i := 7) (v := ?v7x8) ?hi7x8 ?hs7x8 ?hf7x8 ?hr7x8 ?hQ7x8 ?hy7x8 ?hS7x8 ?rest7x8
      case hi7x8 => (simp only [List.getElem?_toArray, List.getElem?_cons_succ, List.getElem?_cons_zero]; try rfl)
      case hs7x8 => kernel_rfl
      case hf7x8 => kernel_rfl
      case hr7x8 => kernel_rfl
      case hQ7x8 => exact fun _ _ _ h => h
      case hy7x8 => first | exact Or.inl ⟨by rfl, by (intro w hSw; (try dsimp only at hSw); go_simp; try rfl)⟩ | exact Or.inr ⟨by rfl, rfl⟩
      case hS7x8 => assumption
      (try simp only [Act.put, List.setIfInBounds_toArray, List.set_cons_zero, List.set_cons_succ])
      refine' wpAnyH_take (i := 8) (v := ?v8x9) ?hi8x9 ?hs8x9 ?hf8x9 ?hr8x9 ?hQ8x9 ?hy8x9 ?hS8x9 ?rest8x9
      case hi8x9 => (simp only [List.getElem?_toArray, List.getElem?_cons_succ, List.getElem?_cons_zero]; try rfl)
      case hs8x9 => kernel_rfl
      case hf8x9 => kernel_rfl
      case hr8x9 => kernel_rfl
      case hQ8x9 => exact fun _ _ _ h => h
      case hy8x9 => first | exact Or.inl ⟨by rfl, by (intro w hSw; (try dsimp only at hSw); go_simp; try rfl)⟩ | exact Or.inr ⟨by rfl, rfl⟩
      case hS8x9 => assumption
      (try simp only [Act.put, List.setIfInBounds_toArray, List.set_cons_zero, List.set_cons_succ])
      refine wpAnyH_done (by kernel_rfl) ?_ _
      refine NoPanic.normal ?_
      go_wp2_with fail
      go_roundw
      case rel => exact ⟨p + 1, hlt, by go_num, hbwH.out.drew⟩
      case measure => simp [Go.RowKit.intOf]; omega
    · obtain rfl : p = l.length := by omega
      go_wp2_with fail
      go_ret
      exact ⟨rfl, hbwH.out⟩
def mkD (k : Int) : Dat := ⟨k, false, 0, ⟨#[]⟩⟩
/-- What is lent of a row: a row of its own with two of room behind it, that have marks. -/
def LentD (B : Nat) (v : Value) (l : List Dat) (w : World) : Prop := ∃ g cap, v = .slice (some ⟨g, 0, none⟩) l.length cap ∧ B ≤ g ∧ OwnL 60 4 g cap ((l ++ [mkD 91, mkD 92]).map cellsD) w
theorem LentD.below {B : Nat} {v : Value} {l : List Dat} {w w' : World} (h : LentD B v l w) (hb : Below w.heap.size w w') : LentD B v l w' := by
  obtain ⟨g, cap, rfl, hB, h⟩ := h
  exact ⟨g, cap, rfl, hB, h.below hb⟩
theorem LentD.low {B B' : Nat} {v : Value} {l : List Dat} {w : World} (h : LentD B v l w) (hB : B' ≤ B) : LentD B' v l w := by
  obtain ⟨g, cap, rfl, hB', h⟩ := h
  exact ⟨g, cap, rfl, Nat.le_trans hB hB', h⟩
theorem LentD.rowV {B : Nat} {v : Value} {l : List Dat} {w : World} (h : LentD B v l w) : RowV w v l := by
  obtain ⟨g, cap, rfl, hB, h⟩ := h
  have h1 := SlV.front (m := l.length) h.rowV (by simp)
  rw [List.flatMap_append, List.take_left' (cells_len l)] at h1
  exact h1
theorem make_room (n : Nat) (hn : n ≤ 1099511627776) (W : World) : ∃ c, (Instr.makeSlice 22 (.int .i64 0) (.int .i64 ((n : Int) + 2))).run Tryz.prog W = .ok (.slice (some ⟨W.heap.size, 0, none⟩) 0 (n + 2)) (W.alloc (.cells c 60)) ∧
    (W.alloc (.cells c 60)).ownsRow W.heap.size 60 4 (.slice (some ⟨W.heap.size, 0, none⟩) 0 (n + 2)) 0 [] := by
  obtain ⟨i, hi, hz, hs, hb⟩ := info_datum
  have hr := run_make (P := Tryz.prog) W 22 60 i _ Tryz.underlying22 hi hz .i64 .i64 0 ((n : Int) + 2) (by omega) (by omega) (by
    have h1 : (i.bytes : Int) * ((n : Int) + 2) ≤ 64 * ((n : Int) + 2) := Int.mul_le_mul_of_nonneg_right (by omega) (by omega)
    omega) (by omega)
  rw [show ((n : Int) + 2).toNat = n + 2 by omega, Int.toNat_zero] at hr
  refine ⟨_, hr, rfl, .inr ⟨W.heap.size, n + 2, _, rfl, Nat.le_refl _, heap_alloc_new W _, Nat.zero_le _, by unfold maxLen; omega, ?_, by simp⟩⟩
  rw [size_madeCells, hs]
theorem cells_one (l : List Dat) : ∀ u ∈ l.flatMap cellsD, u.oneCell' = true := by
  intro u hu
  obtain ⟨d, _, hd⟩ := List.mem_flatMap.1 hu
  simp [cellsD] at hd
  rcases hd with rfl | rfl | rfl | rfl <;> rfl
/-- Two marks, just laid. -/
theorem two_marks (w : World) : SlV (w.alloc (.cells #[.int .u8 91, .bool false, .int .i64 0, .string ⟨#[]⟩, .int .u8 92, .bool false, .int .i64 0, .string ⟨#[]⟩] 60)) 4 (.slice (some ⟨w.heap.size, 0, none⟩) 2 2) 2 ([mkD 91, mkD 92].flatMap cellsD) := by
  have h : OwnL 60 4 w.heap.size 2 ([mkD 91, mkD 92].map cellsD) (w.alloc (.cells #[.int .u8 91, .bool false, .int .i64 0, .string ⟨#[]⟩, .int .u8 92, .bool false, .int .i64 0, .string ⟨#[]⟩] 60)) :=
    ⟨fun y hy => by obtain ⟨x, _, rfl⟩ := List.mem_map.1 hy; rfl, by simp, by decide, _, heap_alloc_new w _, rfl, rfl⟩
  exact h.slV
set_option maxHeartbeats 4000000 in
set_option maxRecDepth 1000000 in
theorem lentRow_any (v : Value) (l : List Dat) (w : World) (h : RowV w v l) (hs : l.length ≤ 1099511627776) :
    Calls Tryz.prog 7 #[v] w fun e w' => ∃ u, e = .returned u ∧ LentD w.heap.size u l w' ∧ Below w.heap.size w w' := by
  obtain ⟨i0, hi, hz0, hz1, hz2⟩ := info_datum
  obtain ⟨A, c, rfl, hla⟩ := h.form
  obtain ⟨cz, hmk, hown⟩ := make_room l.length hs w
  obtain ⟨W1, hW1⟩ : ∃ W1, w.alloc (.cells cz 60) = W1 := ⟨_, rfl⟩
  rw [hW1] at hmk hown
  have hb01 : Below w.heap.size w W1 := hW1 ▸ (Below.refl _ w).alloc (Nat.le_refl _) _
  have hvH := Lib.hid (h.below hb01)
  have hownH := Lib.hid hown; have hb1 := Lib.hid hb01
  have hby : (0 + l.length) * i0.bytes ≤ 140737488355328 := by
    have := Nat.mul_le_mul (show 0 + l.length ≤ 1099511627776 by omega) hz2
    omega
  have hby2 : (l.length + 2) * i0.bytes ≤ 140737488355328 := by
    have := Nat.mul_le_mul (show l.length + 2 ≤ 1099511627778 by omega) hz2
    omega
  clear h hown hW1 hb01
  go_enter Tryz.func7, Tryz.ntmps7
  go_upto_region 2 with (at_builtin; refine wpList_append_sl rfl _ _ 22 rfl w.heap.size 60 i0 _ 4 i0.bytes Tryz.underlying22 hi hz0 hz1 rfl rfl (by decide) _ 0 [] W1 _ _ _ hownH.out rfl hvH.out rfl (cells_one l) (by unfold maxLen; omega) hby hb1.out.size ?_; intro v1 w1 ho1 hg1; have hb2 := Lib.hid (below_own hb1.out hownH.out hg1 hb1.out.size); have ho1H := Lib.hid (show w1.ownsRow w.heap.size 60 4 v1 l.length (l.flatMap cellsD) by simpa using ho1); clear ho1 hg1)
  obtain ⟨W2, hW2⟩ : ∃ W2, w1.alloc (.cells #[.int .u8 91, .bool false, .int .i64 0, .string ⟨#[]⟩, .int .u8 92, .bool false, .int .i64 0, .string ⟨#[]⟩] 60) = W2 := ⟨_, rfl⟩
  have hm2 := Lib.hid (show SlV W2 4 (.slice (some ⟨w1.heap.size, 0, none⟩) 2 2) 2 ([mkD 91, mkD 92].flatMap cellsD) from hW2 ▸ two_marks w1)
  have ho2 := Lib.hid (show W2.ownsRow w.heap.size 60 4 v1 l.length (l.flatMap cellsD) from hW2 ▸ ho1H.out.alloc _)
  have hb12 := Lib.hid (show Below w.heap.size w W2 from hW2 ▸ hb2.out.alloc hb2.out.size _)
  go_upto_region 3 with (at_builtin; refine wpList_append_sl rfl _ _ 22 rfl w.heap.size 60 i0 _ 4 i0.bytes Tryz.underlying22 hi hz0 hz1 rfl rfl (by decide) _ l.length (l.flatMap cellsD) W2 _ _ _ ho2.out rfl hm2.out rfl (cells_one _) (by unfold maxLen; omega) hby2 hb12.out.size ?_; intro v3 w3 ho3 hg3; have hb3 := Lib.hid (below_own hb12.out ho2.out hg3 hb12.out.size); have ho3H := Lib.hid ho3; clear ho3 hg3)
  have e3 : l.flatMap cellsD ++ [mkD 91, mkD 92].flatMap cellsD = ((l ++ [mkD 91, mkD 92]).map cellsD).flatten := by rw [flatten_cells, List.flatMap_append]
  obtain ⟨g, cap, rfl, hgB⟩ : ∃ g cap, v3 = .slice (some ⟨g, 0, none⟩) (l.length + 2) cap ∧ w.heap.size ≤ g := by
    rcases own_slice ho3H.out with ⟨_, h2⟩ | h
    · omega
    · exact h
  have hown := Lib.hid (show OwnL 60 4 g cap ((l ++ [mkD 91, mkD 92]).map cellsD) w3 from OwnL.of_row (n := l.length + 2) (B := w.heap.size) (by rw [← e3]; exact ho3H.out) (by simp) (fun x hx => by obtain ⟨y, _, rfl⟩ := List.mem_map.1 hx; rfl))
  have hcap : l.length ≤ cap := by have := hown.out.len; simp at this; omega
  clear e3 hW2
  go_wp2_with fail
  go_ret
  exact ⟨_, rfl, ⟨g, cap, rfl, hgB, hown.out⟩, hb3.out⟩
theorem LentD.marks {B : Nat} {A : Option Addr} {n c : Nat} {l : List Dat} {w : World} (h : LentD B (.slice A n c) l w) : ∃ g, A = some ⟨g, 0, none⟩ ∧ n = l.length ∧ l.length + 2 ≤ c ∧
    (w.cell? ⟨g, l.length * 4, none⟩ = some (.int .u8 91) ∧ w.cell? ⟨g, l.length * 4 + 1, none⟩ = some (.bool false) ∧ w.cell? ⟨g, l.length * 4 + 2, none⟩ = some (.int .i64 0) ∧ w.cell? ⟨g, l.length * 4 + 3, none⟩ = some (.string ⟨#[]⟩)) ∧
    (w.cell? ⟨g, (l.length + 1) * 4, none⟩ = some (.int .u8 92) ∧ w.cell? ⟨g, (l.length + 1) * 4 + 1, none⟩ = some (.bool false) ∧ w.cell? ⟨g, (l.length + 1) * 4 + 2, none⟩ = some (.int .i64 0) ∧ w.cell? ⟨g, (l.length + 1) * 4 + 3, none⟩ = some (.string ⟨#[]⟩)) := by
  obtain ⟨g, cap, e, hB, h⟩ := h
  obtain ⟨rfl, rfl, rfl⟩ := Value.slice.inj e
  have e1 : ((l ++ [mkD 91, mkD 92]).map cellsD)[l.length]? = some (cellsD (mkD 91)) := by rw [List.getElem?_map]; simp
  have e2 : ((l ++ [mkD 91, mkD 92]).map cellsD)[l.length + 1]? = some (cellsD (mkD 92)) := by rw [List.getElem?_map, List.getElem?_append_right (by omega)]; simp
  exact ⟨g, rfl, rfl, by have := h.len; simpa using this, ⟨h.cell e1 (j := 0) rfl, h.cell e1 (j := 1) rfl, h.cell e1 (j := 2) rfl, h.cell e1 (j := 3) rfl⟩, ⟨h.cell e2 (j := 0) rfl, h.cell e2 (j := 1) rfl, h.cell e2 (j := 2) rfl, h.cell e2 (j := 3) rfl⟩⟩
end Go.Proofs.YtpmfbmigdpmloaaGreatDoor
end
