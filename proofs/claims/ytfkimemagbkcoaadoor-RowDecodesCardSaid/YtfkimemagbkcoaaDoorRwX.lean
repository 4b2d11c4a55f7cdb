/-
  Rows that are the same; rows that are lent, and whether they are whole: SameRow, LentRow, WholeRow, at this program. Conditions: those written.
-/
import Derived.Test.YtfkimemagbkcoaaDoorRwN
import Derived.Test.YtfkimemagbkcoaaDoorSlA
import Derived.Deep.Cut
set_option linter.unusedVariables false
set_option linter.unusedSimpArgs false
namespace Go.Proofs.YtfkimemagbkcoaaDoor
open Go.RowKit Go.Lib Go.Proofs

def RelX (l : List Dat) (w0 : World) (s5 : Value) (wr : World) : Prop := ∃ p : Nat, p ≤ l.length ∧ s5 = .int .i64 (p : Int) ∧ Below w0.heap.size w0 wr
set_option maxHeartbeats 4000000 in
set_option maxRecDepth 1000000 in
theorem sameRow_any (va vb : Value) (l : List Dat) (w : World) (ha : RowV w va l) (hb : RowV w vb l) :
    Calls Tryd.prog 12 #[va, vb] w fun e w' => e = .returned (.bool true) ∧ Below w.heap.size w w' := by
  obtain ⟨A, ca, rfl, hla⟩ := ha.form
  obtain ⟨B, cb, rfl, hlb⟩ := hb.form
  have haH := Lib.hid ha; have hbH := Lib.hid hb
  clear ha hb
  go_enter Tryd.func12, Tryd.ntmps12
  go_wp2_with fail
  go_loopw [5] (fun s5 wr => RelX l w s5 wr) (fun s5 _ => l.length - (Go.RowKit.intOf s5).toNat)
  case atStart => exact ⟨0, by omega, rfl, Below.refl _ _⟩
  case round =>
    unfold RelX at hrel
    obtain ⟨p, hp, rfl, hbw⟩ := hrel
    have hbwH := Lib.hid hbw
    clear hbw
    by_cases hlt : p < l.length
    · obtain ⟨ad, rfl, hba, a0_, a1_, a2_, a3_⟩ := (haH.out.below hbwH.out).at hlt
      obtain ⟨bd, rfl, hbb, b0_, b1_, b2_, b3_⟩ := (hbH.out.below hbwH.out).at hlt
      obtain ⟨d, hd⟩ : ∃ d, l[p] = d := ⟨_, rfl⟩
      rw [hd] at a0_ a1_ a2_ a3_ b0_ b1_ b2_ b3_
      clear hd
      obtain ⟨k, b, m, s⟩ := d
      simp only at a0_ a1_ a2_ a3_ b0_ b1_ b2_ b3_
      go_wp2_with fail
      refine wp_region_noPanic ?_
      refine wp_region_held_drew (S := (fun w' => w'.cell? (ad.add (p * 4)) = some (.int .u8 k) ∧ w'.cell? ⟨(ad.add (p * 4)).block, (ad.add (p * 4)).off + 1, none⟩ = some (.bool b) ∧ w'.cell? ⟨(ad.add (p * 4)).block, (ad.add (p * 4)).off + 2, none⟩ = some (.int .i64 m) ∧ w'.cell? ⟨(ad.add (p * 4)).block, (ad.add (p * 4)).off + 3, none⟩ = some (.string s) ∧ w'.cell? (bd.add (p * 4)) = some (.int .u8 k) ∧ w'.cell? ⟨(bd.add (p * 4)).block, (bd.add (p * 4)).off + 1, none⟩ = some (.bool b) ∧ w'.cell? ⟨(bd.add (p * 4)).block, (bd.add (p * 4)).off + 2, none⟩ = some (.int .i64 m) ∧ w'.cell? ⟨(bd.add (p * 4)).block, (bd.add (p * 4)).off + 3, none⟩ = some (.string s))) (by kernel_rfl) (⟨a0_, a1_, a2_, a3_, b0_, b1_, b2_, b3_⟩) (fun hHeld => ?_)
      refine' wpAnyH_take (i := 0) (v := ?v0x1) ?hi0x1 ?hs0x1 ?hf0x1 ?hr0x1 ?hQ0x1 ?hy0x1 ?hS0x1 ?rest0x1
      case hi0x1 => (simp only [List.getElem?_toArray, List.getElem?_cons_succ, List.getElem?_cons_zero]; try rfl)
      case hs0x1 => kernel_rfl
      case hf0x1 => kernel_rfl
      case hr0x1 => kernel_rfl
      case hQ0x1 => exact fun _ _ _ h => h
      case hy0x1 => first | exact Or.inl ⟨by rfl, by (intro w hSw; (try dsimp only at hSw); go_simp; try rfl)⟩ | exact Or.inr ⟨by rfl, rfl⟩
      case hS0x1 => assumption
      (try simp only [Act.put, List.setIfInBounds_toArray, List.set_cons_zero, List.set_cons_succ])
      refine' wpAnyH_take (i := 1) (v := ?v1x2) ?hi1x2 ?hs1x2 ?hf1x2 ?hr1x2 ?hQ1x2 ?hy1x2 ?hS1x2 ?rest1x2
      case hi1x2 => (simp only [List.getElem?_toArray, List.getElem?_cons_succ, List.getElem?_cons_zero]; try rfl)
      case hs1x2 => kernel_rfl
      case hf1x2 => kernel_rfl
      case hr1x2 => kernel_rfl
      case hQ1x2 => exact fun _ _ _ h => h
      case hy1x2 => first | exact Or.inl ⟨by rfl, by (intro w hSw; (try dsimp only at hSw); go_simp; try rfl)⟩ | exact Or.inr ⟨by rfl, rfl⟩
      case hS1x2 => assumption
      (try simp only [Act.put, List.setIfInBounds_toArray, List.set_cons_zero, List.set_cons_succ])
      refine' wpAnyH_take (i := 2) (v := ?v2x3) ?hi2x3 ?hs2x3 ?hf2x3 ?hr2x3 ?hQ2x3 ?hy2x3 ?hS2x3 ?rest2x3
      case hi2x3 => (simp only [List.getElem?_toArray, List.getElem?_cons_succ, List.getElem?_cons_zero]; try rfl)
      case hs2x3 => kernel_rfl
      case hf2x3 => kernel_rfl
      case hr2x3 => kernel_rfl
      case hQ2x3 => exact fun _ _ _ h => h
      case hy2x3 => first | exact Or.inl ⟨by rfl, by (intro w hSw; (try dsimp only at hSw); go_simp; try rfl)⟩ | exact Or.inr ⟨by rfl, rfl⟩
      case hS2x3 => assumption
      (try simp only [Act.put, List.setIfInBounds_toArray, List.set_cons_zero, List.set_cons_succ])
      refine' wpAnyH_take (i := 3) (v := ?v3x4) ?hi3x4 ?hs3x4 ?hf3x4 ?hr3x4 ?hQ3x4 ?hy3x4 ?hS3x4 ?rest3x4
      case hi3x4 => (simp only [List.getElem?_toArray, List.getElem?_cons_succ, List.getElem?_cons_zero]; try rfl)
      case hs3x4 => kernel_rfl
      case hf3x4 => kernel_rfl
      case hr3x4 => kernel_rfl
      case hQ3x4 => exact fun _ _ _ h => h
      case hy3x4 => first | exact Or.inl ⟨by rfl, by (intro w hSw; (try dsimp only at hSw); go_simp; try rfl)⟩ | exact Or.inr ⟨by rfl, rfl⟩
      case hS3x4 => assumption
      (try simp only [Act.put, List.setIfInBounds_toArray, List.set_cons_zero, List.set_cons_succ])
      refine' wpAnyH_take (i := 4) (v := ?v4x5) ?hi4x5 ?hs4x5 ?hf4x5 ?hr4x5 ?hQ4x5 ?hy4x5 ?hS4x5 ?rest4x5
      case hi4x5 => (simp only [List.getElem?_toArray, List.getElem?_cons_succ, List.getElem?_cons_zero]; try rfl)
      case hs4x5 => kernel_rfl
      case hf4x5 => kernel_rfl
      case hr4x5 => kernel_rfl
      case hQ4x5 => exact fun _ _ _ h => h
      case hy4x5 => first | exact Or.inl ⟨by rfl, by (intro w hSw; (try dsimp only at hSw); go_simp; try rfl)⟩ | exact Or.inr ⟨by rfl, rfl⟩
      case hS4x5 => assumption
      (try simp only [Act.put, List.setIfInBounds_toArray, List.set_cons_zero, List.set_cons_succ])
      refine' wpAnyH_take (i := 5) (v := ?v5x6) ?hi5x6 ?hs5x6 ?hf5x6 ?hr5x6 ?hQ5x6 ?hy5x6 ?hS5x6 ?rest5x6
      case hi5x6 => (simp only [List.getElem?_toArray, List.getElem?_cons_succ, List.getElem?_cons_zero]; try rfl)
      case hs5x6 => kernel_rfl
      case hf5x6 => kernel_rfl
      case hr5x6 => kernel_rfl
      case hQ5x6 => exact fun _ _ _ h => h
      case hy5x6 => first | exact Or.inl ⟨by rfl, by (intro w hSw; (try dsimp only at hSw); go_simp; try rfl)⟩ | exact Or.inr ⟨by rfl, rfl⟩
      case hS5x6 => assumption
      (try simp only [Act.put, List.setIfInBounds_toArray, List.set_cons_zero, List.set_cons_succ])
      refine' wpAnyH_take (i := 6) (v := ?v6x7) ?hi6x7 ?hs6x7 ?hf6x7 ?hr6x7 ?hQ6x7 ?hy6x7 ?hS6x7 ?rest6x7
      case hi6x7 => (simp only [List.getElem?_toArray, List.getElem?_cons_succ, List.getElem?_cons_zero]; try rfl)
      case hs6x7 => kernel_rfl
      case hf6x7 => kernel_rfl
      case hr6x7 => kernel_rfl
      case hQ6x7 => exact fun _ _ _ h => h
      case hy6x7 => first | exact Or.inl ⟨by rfl, by (intro w hSw; (try dsimp only at hSw); go_simp; try rfl)⟩ | exact Or.inr ⟨by rfl, rfl⟩
      case hS6x7 => assumption
      (try simp only [Act.put, List.setIfInBounds_toArray, List.set_cons_zero, List.set_cons_succ])
      refine' wpAnyH_take (i := 7) (v := ?v7x8) ?hi7x8 ?hs7x8 ?hf7x8 ?hr7x8 ?hQ7x8 ?hy7x8 ?hS7x8 ?rest7x8
      case hi7x8 => (simp only [List.getElem?_toArray, List.getElem?_cons_succ, List.getElem?_cons_zero]; try rfl)
      case hs7x8 => kernel_rfl
      case hf7x8 => kernel_rfl
      case hr7x8 => kernel_rfl
      case hQ7x8 => exact fun _ _ _ h => h
      case hy7x8 => first | exact Or.inl ⟨by rfl, by (intro w hSw; (try dsimp only at hSw); go_simp; try rfl)⟩ | exact Or.inr ⟨by rfl, rfl⟩
      case hS7x8 => assumption
      (try simp only [Act.put, List.setIfInBounds_toArray, List.set_cons_zero, List.set_cons_succ])
      refine' wpAnyH_take (i := 8) (v := ?v8x9) ?hi8x9 ?hs8x9 ?hf8x9 ?hr8x9 ?hQ8x9 ?hy8x9 ?hS8x9 ?rest8x9
      case hi8x9 => (simp only [List.getElem?_toArray, List.getElem?_cons_succ, List.getElem?_cons_zero]; try rfl)
      case hs8x9 => kernel_rfl
      case hf8x9 => kernel_rfl
      case hr8x9 => kernel_rfl
      case hQ8x9 => exact fun _ _ _ h => h
      case hy8x9 => first | exact Or.inl ⟨by rfl, by (intro w hSw; (try dsimp only at hSw); go_simp; try rfl)⟩ | exact Or.inr ⟨by rfl, rfl⟩
      case hS8x9 => assumption
      (try simp only [Act.put, List.setIfInBounds_toArray, List.set_cons_zero, List.set_cons_succ])
      refine wpAnyH_done (by kernel_rfl) ?_ _
      refine NoPanic.normal ?_
      go_wp2_with fail
      go_roundw
      case rel => exact ⟨p + 1, hlt, by go_num, hbwH.out.drew⟩
      case measure => simp [Go.RowKit.intOf]; omega
    · obtain rfl : p = l.length := by omega
      go_wp2_with fail
      go_ret
      exact ⟨rfl, hbwH.out⟩
def mkD (k : Int) : Dat := ⟨k, false, 0, ⟨#[]⟩⟩
/-- What is lent of a row: a row of its own with two of room behind it, that have marks. -/
def LentD (B : Nat) (v : Value) (l : List Dat) (w : World) : Prop := ∃ g cap, v = .slice (some ⟨g, 0, none⟩) l.length cap ∧ B ≤ g ∧ OwnL 79 4 g cap ((l ++ [mkD 91, mkD 92]).map cellsD) w
theorem LentD.below {B : Nat} {v : Value} {l : List Dat} {w w' : World} (h : LentD B v l w) (hb : Below w.heap.size w w') : LentD B v l w' := by
  obtain ⟨g, cap, rfl, hB, h⟩ := h
  exact ⟨g, cap, rfl, hB, h.below hb⟩
theorem LentD.low {B B' : Nat} {v : Value} {l : List Dat} {w : World} (h : LentD B v l w) (hB : B' ≤ B) : LentD B' v l w := by
  obtain ⟨g, cap, rfl, hB', h⟩ := h
  exact ⟨g, cap, rfl, Nat.le_trans hB hB', h⟩
theorem LentD.rowV {B : Nat} {v : Value} {l : List Dat} {w : World} (h : LentD B v l w) : RowV w v l := by
  obtain ⟨g, cap, rfl, hB, h⟩ := h
  have h1 := SlV.front (m := l.length) h.rowV (by simp)
  rw [List.flatMap_append, List.take_left' (cells_len l)] at h1
  exact h1
theorem make_room (n : Nat) (hn : n ≤ 1099511627776) (W : World) : ∃ c, (Instr.makeSlice 24 (.int .i64 0) (.int .i64 ((n : Int) + 2))).run Tryd.prog W = .ok (.slice (some ⟨W.heap.size, 0, none⟩) 0 (n + 2)) (W.alloc (.cells c 79)) ∧
    (W.alloc (.cells c 79)).ownsRow W.heap.size 79 4 (.slice (some ⟨W.heap.size, 0, none⟩) 0 (n + 2)) 0 [] := by
  obtain ⟨i, hi, hz, hs, hb⟩ := info_datum
  have hr := run_make (P := Tryd.prog) W 24 79 i _ Tryd.underlying24 hi hz .i64 .i64 0 ((n : Int) + 2) (by omega) (by omega) (by
    have h1 : (i.bytes : Int) * ((n : Int) + 2) ≤ 64 * ((n : Int) + 2) := Int.mul_le_mul_of_nonneg_right (by omega) (by omega)
    omega) (by omega)
  rw [show ((n : Int) + 2).toNat = n + 2 by omega, Int.toNat_zero] at hr
  refine ⟨_, hr, rfl, .inr ⟨W.heap.size, n + 2, _, rfl, Nat.le_refl _, heap_alloc_new W _, Nat.zero_le _, by unfold maxLen; omega, ?_, by simp⟩⟩
  rw [size_madeCells, hs]
theorem cells_one (l : List Dat) : ∀ u ∈ l.flatMap cellsD, u.oneCell' = true := by
  intro u hu
  obtain ⟨d, _, hd⟩ := List.mem_flatMap.1 hu
  simp [cellsD] at hd
  rcases hd with rfl | rfl | rfl | rfl <;> rfl
/-- Two marks, just laid. -/
theorem two_marks (w : World) : SlV (w.alloc (.cells #[.int .u8 91, .bool false, .int .i64 0, .string ⟨#[]⟩, .int .u8 92, .bool false, .int .i64 0, .string ⟨#[]⟩] 79)) 4 (.slice (some ⟨w.heap.size, 0, none⟩) 2 2) 2 ([mkD 91, mkD 92].flatMap cellsD) := by
  have h : OwnL 79 4 w.heap.size 2 ([mkD 91, mkD 92].map cellsD) (w.alloc (.cells #[.int .u8 91, .bool false, .int .i64 0, .string ⟨#[]⟩, .int .u8 92, .bool false, .int .i64 0, .string ⟨#[]⟩] 79)) :=
    ⟨fun y hy => by obtain ⟨x, _, rfl⟩ := List.mem_map.1 hy; rfl, by simp, by decide, _, heap_alloc_new w _, rfl, rfl⟩
  exact h.slV
set_option maxHeartbeats 4000000 in
set_option maxRecDepth 1000000 in
theorem lentRow_any (v : Value) (l : List Dat) (w : World) (h : RowV w v l) (hs : l.length ≤ 1099511627776) :
    Calls Tryd.prog 21 #[v] w fun e w' => ∃ u, e = .returned u ∧ LentD w.heap.size u l w' ∧ Below w.heap.size w w' := by
  obtain ⟨i0, hi, hz0, hz1, hz2⟩ := info_datum
  obtain ⟨A, c, rfl, hla⟩ := h.form
  obtain ⟨cz, hmk, hown⟩ := make_room l.length hs w
  obtain ⟨W1, hW1⟩ : ∃ W1, w.alloc (.cells cz 79) = W1 := ⟨_, rfl⟩
  rw [hW1] at hmk hown
  have hb01 : Below w.heap.size w W1 := hW1 ▸ (Below.refl _ w).alloc (Nat.le_refl _) _
  have hvH := Lib.hid (h.below hb01)
  have hownH := Lib.hid hown; have hb1 := Lib.hid hb01
  have hby : (0 + l.length) * i0.bytes ≤ 140737488355328 := by
    have := Nat.mul_le_mul (show 0 + l.length ≤ 1099511627776 by omega) hz2
    omega
  have hby2 : (l.length + 2) * i0.bytes ≤ 140737488355328 := by
    have := Nat.mul_le_mul (show l.length + 2 ≤ 1099511627778 by omega) hz2
    omega
  clear h hown hW1 hb01
  go_enter Tryd.func21, Tryd.ntmps21
  go_upto_region 2 with (at_builtin; refine wpList_append_sl rfl _ _ 24 rfl w.heap.size 79 i0 _ 4 i0.bytes Tryd.underlying24 hi hz0 hz1 rfl rfl (by decide) _ 0 [] W1 _ _ _ hownH.out rfl hvH.out rfl (cells_one l) (by unfold maxLen; omega) hby hb1.out.size ?_; intro v1 w1 ho1 hg1; have hb2 := Lib.hid (below_own hb1.out hownH.out hg1 hb1.out.size); have ho1H := Lib.hid (show w1.ownsRow w.heap.size 79 4 v1 l.length (l.flatMap cellsD) by simpa using ho1); clear ho1 hg1)
  obtain ⟨W2, hW2⟩ : ∃ W2, w1.alloc (.cells #[.int .u8 91, .bool false, .int .i64 0, .string ⟨#[]⟩, .int .u8 92, .bool false, .int .i64 0, .string ⟨#[]⟩] 79) = W2 := ⟨_, rfl⟩
  have hm2 := Lib.hid (show SlV W2 4 (.slice (some ⟨w1.heap.size, 0, none⟩) 2 2) 2 ([mkD 91, mkD 92].flatMap cellsD) from hW2 ▸ two_marks w1)
  have ho2 := Lib.hid (show W2.ownsRow w.heap.size 79 4 v1 l.length (l.flatMap cellsD) from hW2 ▸ ho1H.out.alloc _)
  have hb12 := Lib.hid (show Below w.heap.size w W2 from hW2 ▸ hb2.out.alloc hb2.out.size _)
  go_upto_region 3 with (at_builtin; refine wpList_append_sl rfl _ _ 24 rfl w.heap.size 79 i0 _ 4 i0.bytes Tryd.underlying24 hi hz0 hz1 rfl rfl (by decide) _ l.length (l.flatMap cellsD) W2 _ _ _ ho2.out rfl hm2.out rfl (cells_one _) (by unfold maxLen; omega) hby2 hb12.out.size ?_; intro v3 w3 ho3 hg3; have hb3 := Lib.hid (below_own hb12.out ho2.out hg3 hb12.out.size); have ho3H := Lib.hid ho3; clear ho3 hg3)
  have e3 : l.flatMap cellsD ++ [mkD 91, mkD 92].flatMap cellsD = ((l ++ [mkD 91, mkD 92]).map cellsD).flatten := by rw [flatten_cells, List.flatMap_append]
  obtain ⟨g, cap, rfl, hgB⟩ : ∃ g cap, v3 = .slice (some ⟨g, 0, none⟩) (l.length + 2) cap ∧ w.heap.size ≤ g := by
    rcases own_slice ho3H.out with ⟨_, h2⟩ | h
    · omega
    · exact h
  have hown := Lib.hid (show OwnL 79 4 g cap ((l ++ [mkD 91, mkD 92]).map cellsD) w3 from OwnL.of_row (n := l.length + 2) (B := w.heap.size) (by rw [← e3]; exact ho3H.out) (by simp) (fun x hx => by obtain ⟨y, _, rfl⟩ := List.mem_map.1 hx; rfl))
  have hcap : l.length ≤ cap := by have := hown.out.len; simp at this; omega
  clear e3 hW2
  go_wp2_with fail
  go_ret
  exact ⟨_, rfl, ⟨g, cap, rfl, hgB, hown.out⟩, hb3.out⟩
theorem LentD.marks {B : Nat} {A : Option Addr} {n c : Nat} {l : List Dat} {w : World} (h : LentD B (.slice A n c) l w) : ∃ g, A = some ⟨g, 0, none⟩ ∧ n = l.length ∧ l.length + 2 ≤ c ∧
    (w.cell? ⟨g, l.length * 4, none⟩ = some (.int .u8 91) ∧ w.cell? ⟨g, l.length * 4 + 1, none⟩ = some (.bool false) ∧ w.cell? ⟨g, l.length * 4 + 2, none⟩ = some (.int .i64 0) ∧ w.cell? ⟨g, l.length * 4 + 3, none⟩ = some (.string ⟨#[]⟩)) ∧
    (w.cell? ⟨g, (l.length + 1) * 4, none⟩ = some (.int .u8 92) ∧ w.cell? ⟨g, (l.length + 1) * 4 + 1, none⟩ = some (.bool false) ∧ w.cell? ⟨g, (l.length + 1) * 4 + 2, none⟩ = some (.int .i64 0) ∧ w.cell? ⟨g, (l.length + 1) * 4 + 3, none⟩ = some (.string ⟨#[]⟩)) := by
  obtain ⟨g, cap, e, hB, h⟩ := h
  obtain ⟨rfl, rfl, rfl⟩ := Value.slice.inj e
  have e1 : ((l ++ [mkD 91, mkD 92]).map cellsD)[l.length]? = some (cellsD (mkD 91)) := by rw [List.getElem?_map]; simp
  have e2 : ((l ++ [mkD 91, mkD 92]).map cellsD)[l.length + 1]? = some (cellsD (mkD 92)) := by rw [List.getElem?_map, List.getElem?_append_right (by omega)]; simp
  exact ⟨g, rfl, rfl, by have := h.len; simpa using this, ⟨h.cell e1 (j := 0) rfl, h.cell e1 (j := 1) rfl, h.cell e1 (j := 2) rfl, h.cell e1 (j := 3) rfl⟩, ⟨h.cell e2 (j := 0) rfl, h.cell e2 (j := 1) rfl, h.cell e2 (j := 2) rfl, h.cell e2 (j := 3) rfl⟩⟩
end Go.Proofs.YtfkimemagbkcoaaDoor
