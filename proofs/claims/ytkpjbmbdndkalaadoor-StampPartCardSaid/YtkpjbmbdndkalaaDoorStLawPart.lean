/-
  The law StampPart answers true, at this program: of any three ways, at any depth. Condition: the table of the powers of ten lies as its initialiser lays it; numbers of their kinds.
-/
import Derived.Test.YtkpjbmbdndkalaaDoorStKn
import Derived.Deep.RegionHeld3
import Derived.Deep.DeepCutAuto
import Derived.Laws.OwnMore
set_option linter.unusedVariables false
set_option linter.unusedSimpArgs false
namespace Go.Proofs.YtkpjbmbdndkalaaDoor
open Go.RowKit Go.Lib

theorem make_u32 (n : Nat) (hn : n ≤ 1099511627776) (W : World) : (Instr.makeSlice 23 (.int .i64 (n : Int)) (.int .i64 (n : Int))).run Tryd.prog W = .ok (.slice (some ⟨W.heap.size, 0, none⟩) n n) (W.alloc (.cells (Array.replicate n (uv 0)) 60)) := by
  obtain ⟨i0, hi, hz0, hz1, hz2⟩ := info_parts u32_info
  rw [run_make W _ _ i0 _ Tryd.underlying23 hi hz0 .i64 .i64 n n (by omega) (Int.le_refl _) (by rw [hz2]; omega) (by omega), hz1]
  have h : madeCells (Value.int .u32 0).cells n = Array.replicate n (uv 0) := by
    apply Array.ext'
    rw [show (Value.int .u32 0).cells = #[Value.int .u32 0] from rfl, toList_madeCells_one]
    simp
  simp only [Int.toNat_natCast, Nat.mul_one, h]
theorem zeros_at (w : World) (b k : Nat) (hb : b = w.heap.size) (hk : k ≤ 9223372036854775807 := by omega) : WordsV (w.alloc (.cells (Array.replicate k (uv 0)) 60)) (.slice (some ⟨b, 0, none⟩) k k) (List.replicate k 0) := by
  subst hb
  have := WordsV.new w (List.replicate k 0) 60 (by simpa using hk)
  simpa using this
theorem zerosW (k : Nat) : TmW ⟨0, List.replicate k 0⟩ := ⟨by simp, fun z hz => by
  obtain rfl := List.eq_of_mem_replicate hz
  omega⟩
theorem WordsV.drew {w : World} {v : Value} {l : List Int} (h : WordsV w v l) : WordsV w.drew v l := SlV.drew h
theorem keep3 {p : Nat} {a0 a1 a2 : Value} {t : TypeId} {W0 w : World} (h : HasC W0 p [a0, a1, a2] t) (hb : Below W0.heap.size W0 w) : w.cell? ⟨p, 0, none⟩ = some a0 ∧ w.cell? ⟨p, 1, none⟩ = some a1 ∧ w.cell? ⟨p, 2, none⟩ = some a2 :=
  ⟨(h.below hb).cell 0 rfl, (h.below hb).cell 1 rfl, (h.below hb).cell 2 rfl⟩
theorem pts3 (w : World) (x y z : Pt) (P Q R : Option Addr) (m n k cp cq cr : Nat) (T : TypeId) (a1 a2 a3 b1 b2 b3 : Value) (h1 : m = x.en.length) (h2 : n = y.en.length) (h3 : k = z.en.length) (g1 : m ≤ cp) (f1 : cp ≤ 9223372036854775807) (g2 : n ≤ cq) (f2 : cq ≤ 9223372036854775807) (g3 : k ≤ cr) (f3 : cr ≤ 9223372036854775807) :
    PtsV (w.alloc (.cells #[a1, b1, .slice P m cp, a2, b2, .slice Q n cq, a3, b3, .slice R k cr] T)) (.slice (some ⟨w.heap.size, 0, none⟩) 3 3) [x, y, z] := by
  refine ⟨_, _, rfl, Nat.le_refl _, by decide, fun j hj => ?_⟩
  match j, hj with
  | 0, _ => exact ⟨_, _, _, _, rfl, h1, g1, f1, by rw [add_block]; simp, by rw [show (⟨w.heap.size, 0, none⟩ : Addr).add (0 * 3 + 2) = ⟨w.heap.size, 2, none⟩ from rfl, cell_new]; rfl⟩
  | 1, _ => exact ⟨_, _, _, _, rfl, h2, g2, f2, by rw [add_block]; simp, by rw [show (⟨w.heap.size, 0, none⟩ : Addr).add (1 * 3 + 2) = ⟨w.heap.size, 5, none⟩ from rfl, cell_new]; rfl⟩
  | 2, _ => exact ⟨_, _, _, _, rfl, h3, g3, f3, by rw [add_block]; simp, by rw [show (⟨w.heap.size, 0, none⟩ : Addr).add (2 * 3 + 2) = ⟨w.heap.size, 8, none⟩ from rfl, cell_new]; rfl⟩
set_option maxHeartbeats 2000000 in
set_option maxRecDepth 1000000 in
theorem stampPart_any (vp vq vr : Value) (p q r : Pt) (d : Int) (w : World) (hT : Pows w) (hp : PtV w vp p) (hq : PtV w vq q) (hr : PtV w vr r) (wp : PtW p) (wq : PtW q) (wr : PtW r) (wd : -9223372036854775808 ≤ d ∧ d ≤ 9223372036854775807) :
    Calls Tryd.prog 6 #[vp, vq, vr, .int .i64 d] w fun e w' => e = .returned (.bool true) ∧ Below w.heap.size w w' := by
  obtain ⟨pl, pa, pe⟩ := p
  obtain ⟨ql, qa, qe⟩ := q
  obtain ⟨rl, ra, re⟩ := r
  obtain ⟨ps, rfl, hps⟩ := hp
  obtain ⟨qs, rfl, hqs⟩ := hq
  obtain ⟨rs, rfl, hrs⟩ := hr
  simp only at hps hqs hrs
  obtain ⟨P, m, cp, rfl, hm, hmc, hcp⟩ := hps.form
  obtain ⟨Q, n, cq, rfl, hn, hnc, hcq⟩ := hqs.form
  obtain ⟨R, k, cr, rfl, hk, hkc, hcr⟩ := hrs.form
  obtain ⟨W0, hW0, hwW, hA, hB, hC, hzz⟩ := boxes3 w [.int .i64 pl, .int .u32 pa, .slice P m cp] [.int .i64 ql, .int .u32 qa, .slice Q n cq] [.int .i64 rl, .int .u32 ra, .slice R k cr] 62 62 62
  have vpH := Lib.hid (show PtV W0 (.agg #[.int .i64 pl, .int .u32 pa, .slice P m cp]) ⟨pl, pa, pe⟩ from ⟨_, rfl, hps.below hwW⟩)
  have vqH := Lib.hid (show PtV W0 (.agg #[.int .i64 ql, .int .u32 qa, .slice Q n cq]) ⟨ql, qa, qe⟩ from ⟨_, rfl, hqs.below hwW⟩)
  have vrH := Lib.hid (show PtV W0 (.agg #[.int .i64 rl, .int .u32 ra, .slice R k cr]) ⟨rl, ra, re⟩ from ⟨_, rfl, hrs.below hwW⟩)
  have hPH := Lib.hid hA; have hQH := Lib.hid hB; have hRH := Lib.hid hC; have hwWH := Lib.hid hwW; have hz0 := Lib.hid hzz; have hTH := Lib.hid (hT.below hwW)
  have hmH := Lib.hid hm; have hnH := Lib.hid hn; have hkH := Lib.hid hk; have wpH := Lib.hid wp
  clear hps hqs hrs hA hB hC hwW hzz hT hm hn hk wp
  have hb := Below.refl W0.heap.size W0
  have p0_ := (hPH.out.below hb).cell 0 rfl; have p1_ := (hPH.out.below hb).cell 1 rfl; have p2_ := (hPH.out.below hb).cell 2 rfl; have q0_ := (hQH.out.below hb).cell 0 rfl; have q1_ := (hQH.out.below hb).cell 1 rfl; have q2_ := (hQH.out.below hb).cell 2 rfl; have r0_ := (hRH.out.below hb).cell 0 rfl; have r1_ := (hRH.out.below hb).cell 1 rfl; have r2_ := (hRH.out.below hb).cell 2 rfl; have hz := Nat.lt_of_lt_of_le hz0.out hb.size; have hs := hb.size
  go_enter Tryd.func6, Tryd.ntmps6
  go_wp2_with fail
  refine (far_any _ [⟨pl, pa, pe⟩, ⟨ql, qa, qe⟩, ⟨rl, ra, re⟩] _ (pts3 _ _ _ _ _ _ _ _ _ _ _ _ _ _ _ _ _ _ _ _ hmH.out.symm hnH.out.symm hkH.out.symm hmc hcp hnc hcq hkc hcr)).mono ?_
  rintro e w' ⟨rfl, hw'⟩
  obtain ⟨W1, hW1⟩ : ∃ x, w' = x := ⟨_, rfl⟩
  replace hb : Below W0.heap.size W0 W1 := by rw [← hW1, ← hw']; go_grown
  rw [hW1]
  clear hW1 hw'
  clear p0_ p1_ p2_ q0_ q1_ q2_ r0_ r1_ r2_ hz hs
  have p0_ := (hPH.out.below hb).cell 0 rfl; have p1_ := (hPH.out.below hb).cell 1 rfl; have p2_ := (hPH.out.below hb).cell 2 rfl; have q0_ := (hQH.out.below hb).cell 0 rfl; have q1_ := (hQH.out.below hb).cell 1 rfl; have q2_ := (hQH.out.below hb).cell 2 rfl; have r0_ := (hRH.out.below hb).cell 0 rfl; have r1_ := (hRH.out.below hb).cell 1 rfl; have r2_ := (hRH.out.below hb).cell 2 rfl; have hz := Nat.lt_of_lt_of_le hz0.out hb.size; have hs := hb.size
  obtain ⟨X, hX⟩ : ∃ x, ([⟨pl, pa, pe⟩, ⟨ql, qa, qe⟩, ⟨rl, ra, re⟩] : List Pt).any (fun x => decide (40 < x.en.length)) = x := ⟨_, rfl⟩
  rw [hX]
  have hXH := Lib.hid hX
  clear hX
  cases X with
  | true =>
    go_wp2_with fail
    refine (known_any _ (hTH.out.below hb)).mono ?_
    rintro e w' ⟨rfl, hb'⟩
    replace hb := chainB hb hb' hb.size
    clear hb'
    go_wp2_with fail
    go_ret
    exact ⟨rfl, hwWH.out.trans (hb.mono hwWH.out.size)⟩
  | false =>
    obtain ⟨l1, l2, l3⟩ : pe.length ≤ 40 ∧ qe.length ≤ 40 ∧ re.length ≤ 40 := by
      have := hXH.out
      simpa using this
    have lpH := Lib.hid (Nat.le_trans l1 (show 40 ≤ 1099511627776 by decide)); have lqH := Lib.hid (Nat.le_trans l2 (show 40 ≤ 1099511627776 by decide)); have lrH := Lib.hid (Nat.le_trans l3 (show 40 ≤ 1099511627776 by decide))
    clear hXH l1 l2 l3
    go_wp2_with fail
    refine (known_any _ (hTH.out.below hb)).mono ?_
    rintro e w' ⟨rfl, hb'⟩
    replace hb := chainB (B := W0.heap.size) (a := W0) (by go_grown) hb' (by have := hb.size; first | omega | (simp; done) | (simp; omega))
    clear hb' p0_ p1_ p2_ q0_ q1_ q2_ r0_ r1_ r2_ hz hs
    have p0_ := (hPH.out.below hb).cell 0 rfl; have p1_ := (hPH.out.below hb).cell 1 rfl; have p2_ := (hPH.out.below hb).cell 2 rfl; have q0_ := (hQH.out.below hb).cell 0 rfl; have q1_ := (hQH.out.below hb).cell 1 rfl; have q2_ := (hQH.out.below hb).cell 2 rfl; have r0_ := (hRH.out.below hb).cell 0 rfl; have r1_ := (hRH.out.below hb).cell 1 rfl; have r2_ := (hRH.out.below hb).cell 2 rfl; have hz := Nat.lt_of_lt_of_le hz0.out hb.size; have hs := hb.size
    go_wp2_with fail
    obtain ⟨x1, hx1⟩ : ∃ x, pathLeq ⟨pl, pa, pe⟩ ⟨ql, qa, qe⟩ d = x := ⟨_, rfl⟩
    have hx1H := Lib.hid hx1
    clear hx1
    refine (pathLeq_any _ _ ⟨pl, pa, pe⟩ ⟨ql, qa, qe⟩ d _ (vpH.out.below hb) (vqH.out.below hb) lpH.out lqH.out).mono ?_
    rw [hx1H.out]
    rintro e w' ⟨rfl, hb'⟩
    replace hb := chainB (B := W0.heap.size) (a := W0) (by go_grown) hb' (by have := hb.size; first | omega | (simp; done) | (simp; omega))
    clear hb' p0_ p1_ p2_ q0_ q1_ q2_ r0_ r1_ r2_ hz hs
    have p0_ := (hPH.out.below hb).cell 0 rfl; have p1_ := (hPH.out.below hb).cell 1 rfl; have p2_ := (hPH.out.below hb).cell 2 rfl; have q0_ := (hQH.out.below hb).cell 0 rfl; have q1_ := (hQH.out.below hb).cell 1 rfl; have q2_ := (hQH.out.below hb).cell 2 rfl; have r0_ := (hRH.out.below hb).cell 0 rfl; have r1_ := (hRH.out.below hb).cell 1 rfl; have r2_ := (hRH.out.below hb).cell 2 rfl; have hz := Nat.lt_of_lt_of_le hz0.out hb.size; have hs := hb.size
    go_wp2_with fail
    obtain ⟨x2, hx2⟩ : ∃ x, pathLeq ⟨ql, qa, qe⟩ ⟨rl, ra, re⟩ d = x := ⟨_, rfl⟩
    have hx2H := Lib.hid hx2
    clear hx2
    refine (pathLeq_any _ _ ⟨ql, qa, qe⟩ ⟨rl, ra, re⟩ d _ (vqH.out.below hb) (vrH.out.below hb) lqH.out lrH.out).mono ?_
    rw [hx2H.out]
    rintro e w' ⟨rfl, hb'⟩
    replace hb := chainB (B := W0.heap.size) (a := W0) (by go_grown) hb' (by have := hb.size; first | omega | (simp; done) | (simp; omega))
    clear hb' p0_ p1_ p2_ q0_ q1_ q2_ r0_ r1_ r2_ hz hs
    have p0_ := (hPH.out.below hb).cell 0 rfl; have p1_ := (hPH.out.below hb).cell 1 rfl; have p2_ := (hPH.out.below hb).cell 2 rfl; have q0_ := (hQH.out.below hb).cell 0 rfl; have q1_ := (hQH.out.below hb).cell 1 rfl; have q2_ := (hQH.out.below hb).cell 2 rfl; have r0_ := (hRH.out.below hb).cell 0 rfl; have r1_ := (hRH.out.below hb).cell 1 rfl; have r2_ := (hRH.out.below hb).cell 2 rfl; have hz := Nat.lt_of_lt_of_le hz0.out hb.size; have hs := hb.size
    go_wp2_with fail
    obtain ⟨x3, hx3⟩ : ∃ x, pathLeq ⟨pl, pa, pe⟩ ⟨rl, ra, re⟩ d = x := ⟨_, rfl⟩
    have hx3H := Lib.hid hx3
    clear hx3
    refine (pathLeq_any _ _ ⟨pl, pa, pe⟩ ⟨rl, ra, re⟩ d _ (vpH.out.below hb) (vrH.out.below hb) lpH.out lrH.out).mono ?_
    rw [hx3H.out]
    rintro e w' ⟨rfl, hb'⟩
    replace hb := chainB (B := W0.heap.size) (a := W0) (by go_grown) hb' (by have := hb.size; first | omega | (simp; done) | (simp; omega))
    clear hb' p0_ p1_ p2_ q0_ q1_ q2_ r0_ r1_ r2_ hz hs
    have p0_ := (hPH.out.below hb).cell 0 rfl; have p1_ := (hPH.out.below hb).cell 1 rfl; have p2_ := (hPH.out.below hb).cell 2 rfl; have q0_ := (hQH.out.below hb).cell 0 rfl; have q1_ := (hQH.out.below hb).cell 1 rfl; have q2_ := (hQH.out.below hb).cell 2 rfl; have r0_ := (hRH.out.below hb).cell 0 rfl; have r1_ := (hRH.out.below hb).cell 1 rfl; have r2_ := (hRH.out.below hb).cell 2 rfl; have hz := Nat.lt_of_lt_of_le hz0.out hb.size; have hs := hb.size
    go_wp2_with fail
    obtain ⟨kk, hkk⟩ : ∃ kk : Nat, min (max d 0) 3 = (kk : Int) := ⟨(min (max d 0) 3).toNat, by omega⟩
    obtain ⟨E, hE⟩ : ∃ E, applyE ⟨pl, pa, pe⟩ ⟨0, List.replicate kk 0⟩ = E := ⟨_, rfl⟩
    obtain ⟨T, hT⟩ : ∃ E, applyT ⟨pl, pa, pe⟩ ⟨0, List.replicate kk 0⟩ = E := ⟨_, rfl⟩
    have hEH := Lib.hid hE; have hTT := Lib.hid hT; have hkH2 := Lib.hid hkk
    have hmk := make_u32 kk (by omega)
    clear hE hT
    go_cut [13] (fun c wx => c = .int .u16 E ∧ Below W0.heap.size W0 wx)
    case first =>
      refine wp_region_noPanic ?_
      refine wp_region_held_drew (S := (fun w' => w'.cell? ⟨w.heap.size, 0, none⟩ = some (.int .i64 pl) ∧ w'.cell? ⟨w.heap.size, 1, none⟩ = some (.int .u32 pa) ∧ w'.cell? ⟨w.heap.size, 2, none⟩ = some (.slice P m cp))) (by kernel_rfl) (⟨p0_, p1_, p2_⟩) (fun hHeld => ?_)
      refine' wpAnyH_take (i := 0) (v := ?v0x1) ?hi0x1 ?hs0x1 ?hf0x1 ?hr0x1 ?hQ0x1 ?hy0x1 ?hS0x1 ?rest0x1
      case hi0x1 => (simp only [List.getElem?_toArray, List.getElem?_cons_succ, List.getElem?_cons_zero]; try rfl)
      case hs0x1 => kernel_rfl
      case hf0x1 => kernel_rfl
      case hr0x1 => kernel_rfl
      case hQ0x1 => exact fun _ _ _ h => h
      case hy0x1 => first | exact Or.inl ⟨by rfl, by (intro w hSw; (try dsimp only at hSw); go_simp; try rfl)⟩ | exact Or.inr ⟨by rfl, rfl⟩
      case hS0x1 => assumption
      (try simp only [Act.put, List.setIfInBounds_toArray, List.set_cons_zero, List.set_cons_succ])
      refine' wpAnyH_take (i := 1) (v := ?v1x2) ?hi1x2 ?hs1x2 ?hf1x2 ?hr1x2 ?hQ1x2 ?hy1x2 ?hS1x2 ?rest1x2
      case hi1x2 => (simp only [List.getElem?_toArray, List.getElem?_cons_succ, List.getElem?_cons_zero]; try rfl)
      case hs1x2 => kernel_rfl
      case hf1x2 => kernel_rfl
      case hr1x2 => kernel_rfl
      case hQ1x2 => exact fun _ _ _ h => h
      case hy1x2 => first | exact Or.inl ⟨by rfl, by (intro w hSw; (try dsimp only at hSw); go_simp; try rfl)⟩ | exact Or.inr ⟨by rfl, rfl⟩
      case hS1x2 => assumption
      (try simp only [Act.put, List.setIfInBounds_toArray, List.set_cons_zero, List.set_cons_succ])
      refine' wpAnyH_take (i := 2) (v := ?v2x3) ?hi2x3 ?hs2x3 ?hf2x3 ?hr2x3 ?hQ2x3 ?hy2x3 ?hS2x3 ?rest2x3
      case hi2x3 => (simp only [List.getElem?_toArray, List.getElem?_cons_succ, List.getElem?_cons_zero]; try rfl)
      case hs2x3 => kernel_rfl
      case hf2x3 => kernel_rfl
      case hr2x3 => kernel_rfl
      case hQ2x3 => exact fun _ _ _ h => h
      case hy2x3 => first | exact Or.inl ⟨by rfl, by (intro w hSw; (try dsimp only at hSw); go_simp; try rfl)⟩ | exact Or.inr ⟨by rfl, rfl⟩
      case hS2x3 => assumption
      (try simp only [Act.put, List.setIfInBounds_toArray, List.set_cons_zero, List.set_cons_succ])
      refine' wpAnyH_take (i := 3) (v := .int .i64 (kk : Int)) ?hi3x4 ?hs3x4 ?hf3x4 ?hr3x4 ?hQ3x4 ?hy3x4 ?hS3x4 ?rest3x4
      case hi3x4 => (simp only [List.getElem?_toArray, List.getElem?_cons_succ, List.getElem?_cons_zero]; try rfl)
      case hs3x4 => kernel_rfl
      case hf3x4 => kernel_rfl
      case hr3x4 => kernel_rfl
      case hQ3x4 => exact fun _ _ _ h => h
      case hy3x4 => first | exact Or.inl ⟨by rfl, by (intro w hSw; (try dsimp only at hSw); go_simp; try rfl)⟩ | exact Or.inr ⟨by rfl, rfl⟩
      case hS3x4 => assumption
      (try simp only [Act.put, List.setIfInBounds_toArray, List.set_cons_zero, List.set_cons_succ])
      refine wpAnyH_ready (rs := [4, 10]) (by kernel_rfl) (by simp) ?_
      refine' (AllReadyH.cons (i := 4) ?ho4x5 (fun K hK => ?st4x5) (AllReadyH.cons (i := 10) ?ho10x6 (fun K hK => ?st10x6) AllReadyH.nil))
      case ho4x5 => (simp only [List.getElem?_toArray, List.getElem?_cons_succ, List.getElem?_cons_zero]; try rfl)
      case ho10x6 => (simp only [List.getElem?_toArray, List.getElem?_cons_succ, List.getElem?_cons_zero]; try rfl)
      case st4x5 =>
        go_simp
        refine hK.out _ _ ?_ (fun hHeld => ?_)
        · exact keep3 hPH.out (by go_grown)
        clear hK K
        (try simp only [Act.put, List.setIfInBounds_toArray, List.set_cons_zero, List.set_cons_succ])
        refine' wpAnyH_take (i := 5) (v := ?v5x7) ?hi5x7 ?hs5x7 ?hf5x7 ?hr5x7 ?hQ5x7 ?hy5x7 ?hS5x7 ?rest5x7
        case hi5x7 => (simp only [List.getElem?_toArray, List.getElem?_cons_succ, List.getElem?_cons_zero]; try rfl)
        case hs5x7 => kernel_rfl
        case hf5x7 => kernel_rfl
        case hr5x7 => kernel_rfl
        case hQ5x7 => exact fun _ _ _ h => h
        case hy5x7 => first | exact Or.inl ⟨by rfl, by (intro w hSw; (try dsimp only at hSw); go_simp; try rfl)⟩ | exact Or.inr ⟨by rfl, rfl⟩
        case hS5x7 => assumption
        (try simp only [Act.put, List.setIfInBounds_toArray, List.set_cons_zero, List.set_cons_succ])
        refine wpAnyH_ready (rs := [6, 10]) (by kernel_rfl) (by simp) ?_
        refine' (AllReadyH.cons (i := 6) ?ho6x8 (fun K hK => ?st6x8) (AllReadyH.cons (i := 10) ?ho10x9 (fun K hK => ?st10x9) AllReadyH.nil))
        case ho6x8 => (simp only [List.getElem?_toArray, List.getElem?_cons_succ, List.getElem?_cons_zero]; try rfl)
        case ho10x9 => (simp only [List.getElem?_toArray, List.getElem?_cons_succ, List.getElem?_cons_zero]; try rfl)
        case st6x8 =>
          go_simp
          refine (apply_any _ _ ⟨pl, pa, pe⟩ ⟨0, List.replicate kk 0⟩ _ (vpH.out.below (by go_grown)) ⟨_, rfl, WordsV.drew (zeros_at _ _ kk rfl)⟩ wpH.out (zerosW kk) lpH.out (by simp; have := hkH2.out; omega)).mono ?_; rw [hTT.out, hEH.out]; rintro e w2 ⟨v, rfl, ho, hb'⟩; obtain ⟨V, n', c', rfl, hn', hc1', hc2'⟩ := ho.words.form; replace hb := chainB (B := W0.heap.size) (a := W0) (by go_grown) hb' (by have := hb.size; first | (simp; done) | (simp; omega)); clear hn' hb' ho
          refine hK.out _ _ ?_ (fun hHeld => ?_)
          · exact keep3 hPH.out hb
          clear hK K
          (try simp only [Act.put, List.setIfInBounds_toArray, List.set_cons_zero, List.set_cons_succ])
          refine' wpAnyH_take (i := 7) (v := ?v7x10) ?hi7x10 ?hs7x10 ?hf7x10 ?hr7x10 ?hQ7x10 ?hy7x10 ?hS7x10 ?rest7x10
          case hi7x10 => (simp only [List.getElem?_toArray, List.getElem?_cons_succ, List.getElem?_cons_zero]; try rfl)
          case hs7x10 => kernel_rfl
          case hf7x10 => kernel_rfl
          case hr7x10 => kernel_rfl
          case hQ7x10 => exact fun _ _ _ h => h
          case hy7x10 => first | exact Or.inl ⟨by rfl, by (intro w hSw; (try dsimp only at hSw); go_simp; try rfl)⟩ | exact Or.inr ⟨by rfl, rfl⟩
          case hS7x10 => assumption
          (try simp only [Act.put, List.setIfInBounds_toArray, List.set_cons_zero, List.set_cons_succ])
          refine' wpAnyH_take (i := 8) (v := ?v8x11) ?hi8x11 ?hs8x11 ?hf8x11 ?hr8x11 ?hQ8x11 ?hy8x11 ?hS8x11 ?rest8x11
          case hi8x11 => (simp only [List.getElem?_toArray, List.getElem?_cons_succ, List.getElem?_cons_zero]; try rfl)
          case hs8x11 => kernel_rfl
          case hf8x11 => kernel_rfl
          case hr8x11 => kernel_rfl
          case hQ8x11 => exact fun _ _ _ h => h
          case hy8x11 => first | exact Or.inl ⟨by rfl, by (intro w hSw; (try dsimp only at hSw); go_simp; try rfl)⟩ | exact Or.inr ⟨by rfl, rfl⟩
          case hS8x11 => assumption
          (try simp only [Act.put, List.setIfInBounds_toArray, List.set_cons_zero, List.set_cons_succ])
          refine' wpAnyH_take (i := 9) (v := ?v9x12) ?hi9x12 ?hs9x12 ?hf9x12 ?hr9x12 ?hQ9x12 ?hy9x12 ?hS9x12 ?rest9x12
          case hi9x12 => (simp only [List.getElem?_toArray, List.getElem?_cons_succ, List.getElem?_cons_zero]; try rfl)
          case hs9x12 => kernel_rfl
          case hf9x12 => kernel_rfl
          case hr9x12 => kernel_rfl
          case hQ9x12 => exact fun _ _ _ h => h
          case hy9x12 => first | exact Or.inl ⟨by rfl, by (intro w hSw; (try dsimp only at hSw); go_simp; try rfl)⟩ | exact Or.inr ⟨by rfl, rfl⟩
          case hS9x12 => assumption
          (try simp only [Act.put, List.setIfInBounds_toArray, List.set_cons_zero, List.set_cons_succ])
          refine wpAnyH_ready (rs := [10]) (by kernel_rfl) (by simp) ?_
          refine' (AllReadyH.cons (i := 10) ?ho10x13 (fun K hK => ?st10x13) AllReadyH.nil)
          case ho10x13 => (simp only [List.getElem?_toArray, List.getElem?_cons_succ, List.getElem?_cons_zero]; try rfl)
          case st10x13 =>
            go_simp
            refine hK.out _ _ ?_ (fun hHeld => ?_)
            · exact keep3 hPH.out (hb.alloc hb.size _)
            clear hK K
            (try simp only [Act.put, List.setIfInBounds_toArray, List.set_cons_zero, List.set_cons_succ])
            refine wpAnyH_ready (rs := [11]) (by kernel_rfl) (by simp) ?_
            refine' (AllReadyH.cons (i := 11) ?ho11x14 (fun K hK => ?st11x14) AllReadyH.nil)
            case ho11x14 => (simp only [List.getElem?_toArray, List.getElem?_cons_succ, List.getElem?_cons_zero]; try rfl)
            case st11x14 =>
              go_simp
              refine hK.out _ _ ?_ (fun hHeld => ?_)
              · exact keep3 hPH.out (hb.alloc hb.size _)
              clear hK K
              (try simp only [Act.put, List.setIfInBounds_toArray, List.set_cons_zero, List.set_cons_succ])
              refine' wpAnyH_take (i := 12) (v := ?v12x15) ?hi12x15 ?hs12x15 ?hf12x15 ?hr12x15 ?hQ12x15 ?hy12x15 ?hS12x15 ?rest12x15
              case hi12x15 => (simp only [List.getElem?_toArray, List.getElem?_cons_succ, List.getElem?_cons_zero]; try rfl)
              case hs12x15 => kernel_rfl
              case hf12x15 => kernel_rfl
              case hr12x15 => kernel_rfl
              case hQ12x15 => exact fun _ _ _ h => h
              case hy12x15 => first | exact Or.inl ⟨by rfl, by (intro w hSw; (try dsimp only at hSw); go_simp; try rfl)⟩ | exact Or.inr ⟨by rfl, rfl⟩
              case hS12x15 => assumption
              (try simp only [Act.put, List.setIfInBounds_toArray, List.set_cons_zero, List.set_cons_succ])
              refine wpAnyH_done (by kernel_rfl) ?_ _
              refine NoPanic.normal ?_
              go_wp2_with fail
              go_meet
              exact ⟨rfl, by first | exact hb.alloc hb.size _ | go_grown⟩
        case st10x9 =>
          go_simp
          refine hK.out _ _ ?_ (fun hHeld => ?_)
          · exact keep3 hPH.out (by go_grown)
          clear hK K
          (try simp only [Act.put, List.setIfInBounds_toArray, List.set_cons_zero, List.set_cons_succ])
          refine wpAnyH_ready (rs := [6]) (by kernel_rfl) (by simp) ?_
          refine' (AllReadyH.cons (i := 6) ?ho6x16 (fun K hK => ?st6x16) AllReadyH.nil)
          case ho6x16 => (simp only [List.getElem?_toArray, List.getElem?_cons_succ, List.getElem?_cons_zero]; try rfl)
          case st6x16 =>
            go_simp
            refine (apply_any _ _ ⟨pl, pa, pe⟩ ⟨0, List.replicate kk 0⟩ _ (vpH.out.below (by go_grown)) ⟨_, rfl, WordsV.drew ((zeros_at _ _ kk rfl).alloc _)⟩ wpH.out (zerosW kk) lpH.out (by simp; have := hkH2.out; omega)).mono ?_; rw [hTT.out, hEH.out]; rintro e w2 ⟨v, rfl, ho, hb'⟩; obtain ⟨V, n', c', rfl, hn', hc1', hc2'⟩ := ho.words.form; have hO := Lib.hid ((has_at _ (w'.heap.size + 1) [.int .u64 0, .slice none 0 0] 25 (by simp)).drew.below hb'); replace hb := chainB (B := W0.heap.size) (a := W0) (by go_grown) hb' (by have := hb.size; first | (simp; done) | (simp; omega)); clear hn' hb' ho
            refine hK.out _ _ ?_ (fun hHeld => ?_)
            · exact keep3 hPH.out hb
            clear hK K
            (try simp only [Act.put, List.setIfInBounds_toArray, List.set_cons_zero, List.set_cons_succ])
            have o0_ := hO.out.cell 0 rfl; have o1_ := hO.out.cell 1 rfl; have of0_ := hO.out.free 0; have of1_ := hO.out.free 1; have ol_ := hO.out.lt
            refine' wpAnyH_take (i := 7) (v := ?v7x17) ?hi7x17 ?hs7x17 ?hf7x17 ?hr7x17 ?hQ7x17 ?hy7x17 ?hS7x17 ?rest7x17
            case hi7x17 => (simp only [List.getElem?_toArray, List.getElem?_cons_succ, List.getElem?_cons_zero]; try rfl)
            case hs7x17 => kernel_rfl
            case hf7x17 => kernel_rfl
            case hr7x17 => kernel_rfl
            case hQ7x17 => exact fun _ _ _ h => h
            case hy7x17 => first | exact Or.inl ⟨by rfl, by (intro w hSw; (try dsimp only at hSw); go_simp; try rfl)⟩ | exact Or.inr ⟨by rfl, rfl⟩
            case hS7x17 => assumption
            (try simp only [Act.put, List.setIfInBounds_toArray, List.set_cons_zero, List.set_cons_succ])
            refine' wpAnyH_take (i := 8) (v := ?v8x18) ?hi8x18 ?hs8x18 ?hf8x18 ?hr8x18 ?hQ8x18 ?hy8x18 ?hS8x18 ?rest8x18
            case hi8x18 => (simp only [List.getElem?_toArray, List.getElem?_cons_succ, List.getElem?_cons_zero]; try rfl)
            case hs8x18 => kernel_rfl
            case hf8x18 => kernel_rfl
            case hr8x18 => kernel_rfl
            case hQ8x18 => exact fun _ _ _ h => h
            case hy8x18 => first | exact Or.inl ⟨by rfl, by (intro w hSw; (try dsimp only at hSw); go_simp; try rfl)⟩ | exact Or.inr ⟨by rfl, rfl⟩
            case hS8x18 => assumption
            (try simp only [Act.put, List.setIfInBounds_toArray, List.set_cons_zero, List.set_cons_succ])
            refine' wpAnyH_take (i := 9) (v := ?v9x19) ?hi9x19 ?hs9x19 ?hf9x19 ?hr9x19 ?hQ9x19 ?hy9x19 ?hS9x19 ?rest9x19
            case hi9x19 => (simp only [List.getElem?_toArray, List.getElem?_cons_succ, List.getElem?_cons_zero]; try rfl)
            case hs9x19 => kernel_rfl
            case hf9x19 => kernel_rfl
            case hr9x19 => kernel_rfl
            case hQ9x19 => exact fun _ _ _ h => h
            case hy9x19 => first | exact Or.inl ⟨by rfl, by (intro w hSw; (try dsimp only at hSw); go_simp; try rfl)⟩ | exact Or.inr ⟨by rfl, rfl⟩
            case hS9x19 => assumption
            (try simp only [Act.put, List.setIfInBounds_toArray, List.set_cons_zero, List.set_cons_succ])
            refine wpAnyH_ready (rs := [11]) (by kernel_rfl) (by simp) ?_
            refine' (AllReadyH.cons (i := 11) ?ho11x20 (fun K hK => ?st11x20) AllReadyH.nil)
            case ho11x20 => (simp only [List.getElem?_toArray, List.getElem?_cons_succ, List.getElem?_cons_zero]; try rfl)
            case st11x20 =>
              go_simp
              refine hK.out _ _ ?_ (fun hHeld => ?_)
              · exact keep3 hPH.out ((hb.setCell (by simp; omega) _).setCell (by simp; omega) _)
              clear hK K
              (try simp only [Act.put, List.setIfInBounds_toArray, List.set_cons_zero, List.set_cons_succ])
              refine' wpAnyH_take (i := 12) (v := ?v12x21) ?hi12x21 ?hs12x21 ?hf12x21 ?hr12x21 ?hQ12x21 ?hy12x21 ?hS12x21 ?rest12x21
              case hi12x21 => (simp only [List.getElem?_toArray, List.getElem?_cons_succ, List.getElem?_cons_zero]; try rfl)
              case hs12x21 => kernel_rfl
              case hf12x21 => kernel_rfl
              case hr12x21 => kernel_rfl
              case hQ12x21 => exact fun _ _ _ h => h
              case hy12x21 => first | exact Or.inl ⟨by rfl, by (intro w hSw; (try dsimp only at hSw); go_simp; try rfl)⟩ | exact Or.inr ⟨by rfl, rfl⟩
              case hS12x21 => assumption
              (try simp only [Act.put, List.setIfInBounds_toArray, List.set_cons_zero, List.set_cons_succ])
              refine wpAnyH_done (by kernel_rfl) ?_ _
              refine NoPanic.normal ?_
              go_wp2_with fail
              go_meet
              exact ⟨rfl, by first | exact (hb.setCell (by simp; omega) _).setCell (by simp; omega) _ | go_grown⟩
      case st10x6 =>
        go_simp
        refine hK.out _ _ ?_ (fun hHeld => ?_)
        · exact keep3 hPH.out (by go_grown)
        clear hK K
        (try simp only [Act.put, List.setIfInBounds_toArray, List.set_cons_zero, List.set_cons_succ])
        refine wpAnyH_ready (rs := [4]) (by kernel_rfl) (by simp) ?_
        refine' (AllReadyH.cons (i := 4) ?ho4x22 (fun K hK => ?st4x22) AllReadyH.nil)
        case ho4x22 => (simp only [List.getElem?_toArray, List.getElem?_cons_succ, List.getElem?_cons_zero]; try rfl)
        case st4x22 =>
          go_simp
          refine hK.out _ _ ?_ (fun hHeld => ?_)
          · exact keep3 hPH.out (by go_grown)
          clear hK K
          (try simp only [Act.put, List.setIfInBounds_toArray, List.set_cons_zero, List.set_cons_succ])
          refine' wpAnyH_take (i := 5) (v := ?v5x23) ?hi5x23 ?hs5x23 ?hf5x23 ?hr5x23 ?hQ5x23 ?hy5x23 ?hS5x23 ?rest5x23
          case hi5x23 => (simp only [List.getElem?_toArray, List.getElem?_cons_succ, List.getElem?_cons_zero]; try rfl)
          case hs5x23 => kernel_rfl
          case hf5x23 => kernel_rfl
          case hr5x23 => kernel_rfl
          case hQ5x23 => exact fun _ _ _ h => h
          case hy5x23 => first | exact Or.inl ⟨by rfl, by (intro w hSw; (try dsimp only at hSw); go_simp; try rfl)⟩ | exact Or.inr ⟨by rfl, rfl⟩
          case hS5x23 => assumption
          (try simp only [Act.put, List.setIfInBounds_toArray, List.set_cons_zero, List.set_cons_succ])
          refine wpAnyH_ready (rs := [6]) (by kernel_rfl) (by simp) ?_
          refine' (AllReadyH.cons (i := 6) ?ho6x24 (fun K hK => ?st6x24) AllReadyH.nil)
          case ho6x24 => (simp only [List.getElem?_toArray, List.getElem?_cons_succ, List.getElem?_cons_zero]; try rfl)
          case st6x24 =>
            go_simp
            refine (apply_any _ _ ⟨pl, pa, pe⟩ ⟨0, List.replicate kk 0⟩ _ (vpH.out.below (by go_grown)) ⟨_, rfl, WordsV.drew (zeros_at _ _ kk (by simp))⟩ wpH.out (zerosW kk) lpH.out (by simp; have := hkH2.out; omega)).mono ?_; rw [hTT.out, hEH.out]; rintro e w2 ⟨v, rfl, ho, hb'⟩; obtain ⟨V, n', c', rfl, hn', hc1', hc2'⟩ := ho.words.form; have hO := Lib.hid (((has_at _ _ [.int .u64 0, .slice none 0 0] 25 rfl).alloc _).drew.below hb'); replace hb := chainB (B := W0.heap.size) (a := W0) (by go_grown) hb' (by have := hb.size; first | (simp; done) | (simp; omega)); clear hn' hb' ho
            refine hK.out _ _ ?_ (fun hHeld => ?_)
            · exact keep3 hPH.out hb
            clear hK K
            (try simp only [Act.put, List.setIfInBounds_toArray, List.set_cons_zero, List.set_cons_succ])
            have o0_ := hO.out.cell 0 rfl; have o1_ := hO.out.cell 1 rfl; have of0_ := hO.out.free 0; have of1_ := hO.out.free 1; have ol_ := hO.out.lt
            refine' wpAnyH_take (i := 7) (v := ?v7x25) ?hi7x25 ?hs7x25 ?hf7x25 ?hr7x25 ?hQ7x25 ?hy7x25 ?hS7x25 ?rest7x25
            case hi7x25 => (simp only [List.getElem?_toArray, List.getElem?_cons_succ, List.getElem?_cons_zero]; try rfl)
            case hs7x25 => kernel_rfl
            case hf7x25 => kernel_rfl
            case hr7x25 => kernel_rfl
            case hQ7x25 => exact fun _ _ _ h => h
            case hy7x25 => first | exact Or.inl ⟨by rfl, by (intro w hSw; (try dsimp only at hSw); go_simp; try rfl)⟩ | exact Or.inr ⟨by rfl, rfl⟩
            case hS7x25 => assumption
            (try simp only [Act.put, List.setIfInBounds_toArray, List.set_cons_zero, List.set_cons_succ])
            refine' wpAnyH_take (i := 8) (v := ?v8x26) ?hi8x26 ?hs8x26 ?hf8x26 ?hr8x26 ?hQ8x26 ?hy8x26 ?hS8x26 ?rest8x26
            case hi8x26 => (simp only [List.getElem?_toArray, List.getElem?_cons_succ, List.getElem?_cons_zero]; try rfl)
            case hs8x26 => kernel_rfl
            case hf8x26 => kernel_rfl
            case hr8x26 => kernel_rfl
            case hQ8x26 => exact fun _ _ _ h => h
            case hy8x26 => first | exact Or.inl ⟨by rfl, by (intro w hSw; (try dsimp only at hSw); go_simp; try rfl)⟩ | exact Or.inr ⟨by rfl, rfl⟩
            case hS8x26 => assumption
            (try simp only [Act.put, List.setIfInBounds_toArray, List.set_cons_zero, List.set_cons_succ])
            refine' wpAnyH_take (i := 9) (v := ?v9x27) ?hi9x27 ?hs9x27 ?hf9x27 ?hr9x27 ?hQ9x27 ?hy9x27 ?hS9x27 ?rest9x27
            case hi9x27 => (simp only [List.getElem?_toArray, List.getElem?_cons_succ, List.getElem?_cons_zero]; try rfl)
            case hs9x27 => kernel_rfl
            case hf9x27 => kernel_rfl
            case hr9x27 => kernel_rfl
            case hQ9x27 => exact fun _ _ _ h => h
            case hy9x27 => first | exact Or.inl ⟨by rfl, by (intro w hSw; (try dsimp only at hSw); go_simp; try rfl)⟩ | exact Or.inr ⟨by rfl, rfl⟩
            case hS9x27 => assumption
            (try simp only [Act.put, List.setIfInBounds_toArray, List.set_cons_zero, List.set_cons_succ])
            refine wpAnyH_ready (rs := [11]) (by kernel_rfl) (by simp) ?_
            refine' (AllReadyH.cons (i := 11) ?ho11x28 (fun K hK => ?st11x28) AllReadyH.nil)
            case ho11x28 => (simp only [List.getElem?_toArray, List.getElem?_cons_succ, List.getElem?_cons_zero]; try rfl)
            case st11x28 =>
              go_simp
              refine hK.out _ _ ?_ (fun hHeld => ?_)
              · exact keep3 hPH.out ((hb.setCell (by simp; omega) _).setCell (by simp; omega) _)
              clear hK K
              (try simp only [Act.put, List.setIfInBounds_toArray, List.set_cons_zero, List.set_cons_succ])
              refine' wpAnyH_take (i := 12) (v := ?v12x29) ?hi12x29 ?hs12x29 ?hf12x29 ?hr12x29 ?hQ12x29 ?hy12x29 ?hS12x29 ?rest12x29
              case hi12x29 => (simp only [List.getElem?_toArray, List.getElem?_cons_succ, List.getElem?_cons_zero]; try rfl)
              case hs12x29 => kernel_rfl
              case hf12x29 => kernel_rfl
              case hr12x29 => kernel_rfl
              case hQ12x29 => exact fun _ _ _ h => h
              case hy12x29 => first | exact Or.inl ⟨by rfl, by (intro w hSw; (try dsimp only at hSw); go_simp; try rfl)⟩ | exact Or.inr ⟨by rfl, rfl⟩
              case hS12x29 => assumption
              (try simp only [Act.put, List.setIfInBounds_toArray, List.set_cons_zero, List.set_cons_succ])
              refine wpAnyH_done (by kernel_rfl) ?_ _
              refine NoPanic.normal ?_
              go_wp2_with fail
              go_meet
              exact ⟨rfl, by first | exact (hb.setCell (by simp; omega) _).setCell (by simp; omega) _ | go_grown⟩
    case rest =>
      obtain ⟨rfl, hbw⟩ := hcut
      clear p0_ p1_ p2_ q0_ q1_ q2_ r0_ r1_ r2_ hz hs hb hmk
      have hb := hbw
      clear hbw
      have p0_ := (hPH.out.below hb).cell 0 rfl; have p1_ := (hPH.out.below hb).cell 1 rfl; have p2_ := (hPH.out.below hb).cell 2 rfl; have q0_ := (hQH.out.below hb).cell 0 rfl; have q1_ := (hQH.out.below hb).cell 1 rfl; have q2_ := (hQH.out.below hb).cell 2 rfl; have r0_ := (hRH.out.below hb).cell 0 rfl; have r1_ := (hRH.out.below hb).cell 1 rfl; have r2_ := (hRH.out.below hb).cell 2 rfl; have hz := Nat.lt_of_lt_of_le hz0.out hb.size; have hs := hb.size
      go_wp2_with fail
      obtain ⟨x4, hx4⟩ : ∃ x, pathLeq ⟨pl, pa, pe⟩ ⟨pl, pa, pe⟩ d = x := ⟨_, rfl⟩
      have hx4H := Lib.hid hx4
      clear hx4
      refine (pathLeq_any _ _ ⟨pl, pa, pe⟩ ⟨pl, pa, pe⟩ d _ (vpH.out.below hb) (vpH.out.below hb) lpH.out lpH.out).mono ?_
      rw [hx4H.out]
      rintro e w' ⟨rfl, hb'⟩
      replace hb := chainB (B := W0.heap.size) (a := W0) (by go_grown) hb' (by have := hb.size; first | omega | (simp; done) | (simp; omega))
      clear hb' p0_ p1_ p2_ q0_ q1_ q2_ r0_ r1_ r2_ hz hs
      have p0_ := (hPH.out.below hb).cell 0 rfl; have p1_ := (hPH.out.below hb).cell 1 rfl; have p2_ := (hPH.out.below hb).cell 2 rfl; have q0_ := (hQH.out.below hb).cell 0 rfl; have q1_ := (hQH.out.below hb).cell 1 rfl; have q2_ := (hQH.out.below hb).cell 2 rfl; have r0_ := (hRH.out.below hb).cell 0 rfl; have r1_ := (hRH.out.below hb).cell 1 rfl; have r2_ := (hRH.out.below hb).cell 2 rfl; have hz := Nat.lt_of_lt_of_le hz0.out hb.size; have hs := hb.size
      have hgood : E = 0 → 0 ≤ d → d ≤ 3 → 0 ≤ pl → pl ≤ d → x4 = true := by
        intro h1 h2 h3 h4 h5
        have h6 := applyE_lv (hEH.out.trans h1)
        have h7 := h6.2.2.2
        have h8 : (kk : Int) = d := by have := hkH2.out; omega
        rw [← hx4H.out]
        refine pathLeq_refl h2 h3 h4 h5 ?_
        simp only [keptT, List.length_replicate] at h7
        simp only
        omega
      have htr : x1 = true → x2 = true → x3 = true := by
        intro h1 h2
        rw [← hx3H.out]
        exact pathLeq_trans (hx1H.out.trans h1) (hx2H.out.trans h2)
      have hgH := Lib.hid hgood; have htH := Lib.hid htr
      clear hgood htr hkk
      by_cases e1 : E = 0
      · subst e1
        by_cases d0 : 0 ≤ d
        · by_cases d3 : d ≤ 3
          · by_cases l0 : 0 ≤ pl
            · by_cases l1 : pl ≤ d
              · obtain rfl := hgH.out rfl d0 d3 l0 l1
                cases x1 <;> cases x2 <;> (try (obtain rfl := htH.out rfl rfl)) <;> (go_wp2_with fail; go_ret; exact ⟨rfl, hwWH.out.trans (hb.mono hwWH.out.size)⟩)
              · cases x1 <;> cases x2 <;> (try (obtain rfl := htH.out rfl rfl)) <;> (go_wp2_with fail; go_ret; exact ⟨rfl, hwWH.out.trans (hb.mono hwWH.out.size)⟩)
            · cases x1 <;> cases x2 <;> (try (obtain rfl := htH.out rfl rfl)) <;> (go_wp2_with fail; go_ret; exact ⟨rfl, hwWH.out.trans (hb.mono hwWH.out.size)⟩)
          · cases x1 <;> cases x2 <;> (try (obtain rfl := htH.out rfl rfl)) <;> (go_wp2_with fail; go_ret; exact ⟨rfl, hwWH.out.trans (hb.mono hwWH.out.size)⟩)
        · cases x1 <;> cases x2 <;> (try (obtain rfl := htH.out rfl rfl)) <;> (go_wp2_with fail; go_ret; exact ⟨rfl, hwWH.out.trans (hb.mono hwWH.out.size)⟩)
      · have e1b : (E == 0) = false := by simpa using e1
        cases x1 <;> cases x2 <;> (try (obtain rfl := htH.out rfl rfl)) <;> (go_wp2_with fail; go_ret; exact ⟨rfl, hwWH.out.trans (hb.mono hwWH.out.size)⟩)
end Go.Proofs.YtkpjbmbdndkalaaDoor
