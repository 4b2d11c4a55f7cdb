/-
  One channel of layer 9, a ring: write, put, take. Conditions: those written.
-/
import Derived.Test.YtpghndmfdmimmaaMlO
import Derived.Laws.CopyOwn
import Derived.Deep.RegionHeld3
set_option linter.unusedVariables false
set_option linter.unusedSimpArgs false
namespace Go.Proofs.Ytpghndmfdmimmaa
open Go.RowKit Go.Lib

theorem run_copy_blk {P : Program} (w : World) (dT sT ty elem : TypeId) (sz : Nat) (g off dLen dCap : Nat) (a : Addr) (sLen sCap : Nat) (cur : List Value) (t : TypeId) (cs : List Value)
    (hu : P.underlying dT = some (.slice elem)) (hs : (P.info? elem).map (·.size) = some sz) (hg : HasC w g cur t) (hn : cs.length = Nat.min sLen dLen * sz)
    (hsrc : ∀ j v, cs[j]? = some v → w.cell? (a.add j) = some v) (hfit : off + cs.length ≤ cur.length) (h1 : ∀ v ∈ cs, v.oneCell' = true) :
    (Builtin.copy_ #[dT, sT] ty #[.slice (some ⟨g, off, none⟩) dLen dCap, .slice (some a) sLen sCap]).run P w =
      .ok (goInt (Nat.min sLen dLen)) (w.setRow g (splice cur off cs).toArray) := by
  have hl := run_loadCells_list (P := P) w a cs hsrc
  have hst := run_storeCells_at P g off t cs 0 cur.toArray w hg (by simpa using hfit) h1
  cases hq : P.info? elem with
  | none => simp [hq] at hs
  | some i =>
    have hi : i.size = sz := by simpa [hq] using hs
    simp [Builtin.copy_, run_underlying hu, Builtin.lenOf, Builtin.firstCells, sizeOf, typeInfo, hq, hi, ← hn, hl, hst, splice]
theorem grown_setRow (w : World) (g : Nat) (cs : Array Value) : w.grownBy (w.setRow g cs) (some g) :=
  ⟨rfl, rfl, rfl, by simp [World.setRow], fun k _ hk => setRow_other w g k cs (fun e => hk (by rw [e]))⟩
theorem wp_copy_blk {P : Program} {o : Oper} {a : Act} {K : Act → World → Prop} {Q : Exit → Act → World → Prop} (w : World) (d s : Operand) (dT elem : TypeId)
    (ho : o.op = .call { callee := .builtin .copy, args := #[d, s], argTypes := #[dT, dT] }) (sz : Nat) (hu : P.underlying dT = some (.slice elem)) (hs : (P.info? elem).map (·.size) = some sz)
    (g off dLen dCap : Nat) (ad : Addr) (sLen sCap : Nat) (hd : a.eval d = .slice (some ⟨g, off, none⟩) dLen dCap) (hx : a.eval s = .slice (some ad) sLen sCap)
    (cur : List Value) (t : TypeId) (cs : List Value) (hg : HasC w g cur t) (hn : cs.length = Nat.min sLen dLen * sz)
    (hsrc : ∀ j v, cs[j]? = some v → w.cell? (ad.add j) = some v) (hfit : off + cs.length ≤ cur.length) (h1 : ∀ v ∈ cs, v.oneCell' = true)
    (h : ∀ w', HasC w' g (splice cur off cs) t → w.grownBy w' (some g) → K (a.put o.dst (goInt (Nat.min sLen dLen))) w') : o.wp P a w K Q := by
  have hr := run_copy_blk (P := P) w dT dT o.type elem sz g off dLen dCap ad sLen sCap cur t cs hu hs hg hn hsrc hfit h1
  unfold Oper.wp execOp
  simp only [ho, resolve, invoke, builtin, Sem.run_bind, Sem.run_pure, Result.andThen_ok, List.map_toArray, List.map_cons, List.map_nil, hd, hx, hr]
  exact h _ (setRow_heap w g _ _ t _ hg) (grown_setRow w g _)
theorem below_grown {a b c : World} {r : Option Nat} (h : Below a.heap.size a b) (hg : b.grownBy c r) : a.grownBy c r :=
  ⟨hg.os.trans h.os, hg.tape.trans h.tape, hg.output.trans h.output, Nat.le_trans h.size hg.size, fun k hk hr => (hg.block k (Nat.lt_of_lt_of_le hk h.size) hr).trans (h.block k hk)⟩
theorem below_grown0 {a b c : World} (h : Below a.heap.size a b) (k : Below b.heap.size b c) : Below a.heap.size a c := chainB h k h.size
theorem min1 {a : Nat} (h : 0 < a) : 7 = Nat.min 1 a * 7 := by
  have : Nat.min 1 a = 1 := by show min 1 a = 1; omega
  rw [this]
theorem empty_any (S o : Nat) (c : Int) (w : World) (h : w.cell? ⟨S, o + 2, none⟩ = some (.int .i64 c)) :
    Calls Try.prog 30 #[.pointer (some ⟨S, o, none⟩)] w fun e w' => e = .returned (.bool (c == 0)) ∧ w = w' := by
  go_enter Try.func30, Try.ntmps30
  go_wp2
  go_ret
  exact ⟨rfl, rfl⟩
theorem full_any (S o T n m : Nat) (c : Int) (w : World) (h0 : w.cell? ⟨S, o, none⟩ = some (.slice (some ⟨T, 0, none⟩) n m)) (h : w.cell? ⟨S, o + 2, none⟩ = some (.int .i64 c)) :
    Calls Try.prog 38 #[.pointer (some ⟨S, o, none⟩)] w fun e w' => e = .returned (.bool (c == (n : Int))) ∧ ∃ k, w' = w.drewN k := by
  go_enter Try.func38, Try.ntmps38
  go_wp2
  go_quiet (fail)
  go_wp2
  go_ret
  exact ⟨rfl, _, rfl⟩
theorem slot_any (S o T n m f p k : Nat) (w : World) (h0 : w.cell? ⟨S, o, none⟩ = some (.slice (some ⟨T, 0, none⟩) n m)) (h : w.cell? ⟨S, o + 1, none⟩ = some (.int .i64 f)) (hn : 0 < n) (hn2 : n ≤ 64) (hf : f ≤ 64) (hp : p ≤ 64) (hk : (f + p) % n = k) :
    Calls Try.prog 60 #[.pointer (some ⟨S, o, none⟩), .int .i64 p] w fun e w' => e = .returned (.int .i64 k) ∧ Below w.heap.size w w' := by
  subst hk
  go_enter Try.func60, Try.ntmps60
  go_wp2
  go_quiet (fail)
  go_wp2
  go_ret
  exact ⟨rfl, rfl, rfl, rfl, Nat.le_refl _, fun _ _ => rfl⟩
theorem message_info : (Try.prog.info? 31).map (·.size) = some 7 := by kernel_rfl
set_option maxRecDepth 100000 in
set_option maxHeartbeats 8000000 in
theorem write_any (S o T n f p k : Nat) (cs ds : List Value) (x0 x1 x2 x3 x4 x5 x6 : Value) (w : World) (hS : HasC w S cs 98) (hT : HasC w T ds 31) (hc0 : cs[o]? = some (.slice (some ⟨T, 0, none⟩) n n)) (hc1 : cs[o + 1]? = some (.int .i64 f))
    (hd : ds.length = 7 * n) (hn : 0 < n) (hn2 : n ≤ 64) (hf : f ≤ 64) (hp : p ≤ 64) (hk : (f + p) % n = k) (h1 : ∀ v ∈ [x0, x1, x2, x3, x4, x5, x6], v.oneCell' = true) :
    Calls Try.prog 59 #[.pointer (some ⟨S, o, none⟩), .int .i64 p, .agg #[x0, x1, x2, x3, x4, x5, x6]] w fun e w' => e = .returned (.tuple #[]) ∧ HasC w' T (splice ds (k * 7) [x0, x1, x2, x3, x4, x5, x6]) 31 ∧ w.grownBy w' (some T) := by
  obtain ⟨W0, hW0, hwW, hA, hzz⟩ := boxes1 w [x0, x1, x2, x3, x4, x5, x6] 31
  have hkn : k < n := by rw [← hk]; exact Nat.mod_lt _ hn
  have hkH := Lib.hid hk
  have hkle : k ≤ n := Nat.le_of_lt hkn
  have hnk : ¬ n = k := by omega
  have hSof : Hid (∀ w', Below W0.heap.size W0 w' → w'.cell? ⟨S, o, none⟩ = some (.slice (some ⟨T, 0, none⟩) n n) ∧ w'.cell? ⟨S, o + 1, none⟩ = some (.int .i64 f) ∧ w'.cell? ⟨w.heap.size, 0, none⟩ = some x0 ∧ w'.cell? ⟨w.heap.size, 1, none⟩ = some x1 ∧ w'.cell? ⟨w.heap.size, 2, none⟩ = some x2 ∧ w'.cell? ⟨w.heap.size, 3, none⟩ = some x3 ∧ w'.cell? ⟨w.heap.size, 4, none⟩ = some x4 ∧ w'.cell? ⟨w.heap.size, 5, none⟩ = some x5 ∧ w'.cell? ⟨w.heap.size, 6, none⟩ = some x6) := fun w' h => ⟨((hS.below hwW).below h).cell _ hc0, ((hS.below hwW).below h).cell _ hc1, (hA.below h).cell 0 rfl, (hA.below h).cell 1 rfl, (hA.below h).cell 2 rfl, (hA.below h).cell 3 rfl, (hA.below h).cell 4 rfl, (hA.below h).cell 5 rfl, (hA.below h).cell 6 rfl⟩
  have hSH := Lib.hid (hS.below hwW); have hTH := Lib.hid (hT.below hwW); have hAH := Lib.hid hA; have hwH := Lib.hid hwW; have hzH := Lib.hid hzz
  have h1H := Lib.hid h1; have hdH := Lib.hid hd
  have hTS : (some T : Option Nat) ≠ some S := by have := hTH.out.types hSH.out (by decide); simpa using this
  have hTA : (some T : Option Nat) ≠ some w.heap.size := by have := hT.lt; simp; omega
  have hTW := Lib.hid hT.lt
  clear hS hT hwW hA hzz hk h1 hd
  go_enter Try.func59, Try.ntmps59
  go_wp2_with fail
  refine wp_region_noPanic ?_
  refine wp_region_held_drew (S := (fun w' => w'.cell? ⟨S, o, none⟩ = some (.slice (some ⟨T, 0, none⟩) n n) ∧ w'.cell? ⟨S, o + 1, none⟩ = some (.int .i64 f) ∧ w'.cell? ⟨w.heap.size, 0, none⟩ = some x0 ∧ w'.cell? ⟨w.heap.size, 1, none⟩ = some x1 ∧ w'.cell? ⟨w.heap.size, 2, none⟩ = some x2 ∧ w'.cell? ⟨w.heap.size, 3, none⟩ = some x3 ∧ w'.cell? ⟨w.heap.size, 4, none⟩ = some x4 ∧ w'.cell? ⟨w.heap.size, 5, none⟩ = some x5 ∧ w'.cell? ⟨w.heap.size, 6, none⟩ = some x6)) (by kernel_rfl) (hSof.out _ (Below.refl _ _).drew) (fun hHeld => ?_)
  refine' wpAnyH_take (i := 0) (v := ?v0x1) ?hi0x1 ?hs0x1 ?hf0x1 ?hr0x1 ?hQ0x1 ?hy0x1 ?hS0x1 ?rest0x1
  case hi0x1 => (simp only [List.getElem?_toArray, List.getElem?_cons_succ, List.getElem?_cons_zero]; try rfl)
  case hs0x1 => kernel_rfl
  case hf0x1 => kernel_rfl
  case hr0x1 => kernel_rfl
  case hQ0x1 => exact fun _ _ _ h => h
  case hy0x1 => first | exact Or.inl ⟨by rfl, by (intro w hSw; (try dsimp only at hSw); go_simp; try rfl)⟩ | exact Or.inr ⟨by rfl, rfl⟩
  case hS0x1 => assumption
  (try simp only [Act.put, List.setIfInBounds_toArray, List.set_cons_zero, List.set_cons_succ])
  refine' wpAnyH_take (i := 1) (v := ?v1x2) ?hi1x2 ?hs1x2 ?hf1x2 ?hr1x2 ?hQ1x2 ?hy1x2 ?hS1x2 ?rest1x2
  case hi1x2 => (simp only [List.getElem?_toArray, List.getElem?_cons_succ, List.getElem?_cons_zero]; try rfl)
  case hs1x2 => kernel_rfl
  case hf1x2 => kernel_rfl
  case hr1x2 => kernel_rfl
  case hQ1x2 => exact fun _ _ _ h => h
  case hy1x2 => first | exact Or.inl ⟨by rfl, by (intro w hSw; (try dsimp only at hSw); go_simp; try rfl)⟩ | exact Or.inr ⟨by rfl, rfl⟩
  case hS1x2 => assumption
  (try simp only [Act.put, List.setIfInBounds_toArray, List.set_cons_zero, List.set_cons_succ])
  refine' wpAnyH_take (i := 2) (v := ?v2x3) ?hi2x3 ?hs2x3 ?hf2x3 ?hr2x3 ?hQ2x3 ?hy2x3 ?hS2x3 ?rest2x3
  case hi2x3 => (simp only [List.getElem?_toArray, List.getElem?_cons_succ, List.getElem?_cons_zero]; try rfl)
  case hs2x3 => kernel_rfl
  case hf2x3 => kernel_rfl
  case hr2x3 => kernel_rfl
  case hQ2x3 => exact fun _ _ _ h => h
  case hy2x3 => first | exact Or.inl ⟨by rfl, by (intro w hSw; (try dsimp only at hSw); go_simp; try rfl)⟩ | exact Or.inr ⟨by rfl, rfl⟩
  case hS2x3 => assumption
  (try simp only [Act.put, List.setIfInBounds_toArray, List.set_cons_zero, List.set_cons_succ])
  refine' wpAnyH_take (i := 3) (v := ?v3x4) ?hi3x4 ?hs3x4 ?hf3x4 ?hr3x4 ?hQ3x4 ?hy3x4 ?hS3x4 ?rest3x4
  case hi3x4 => (simp only [List.getElem?_toArray, List.getElem?_cons_succ, List.getElem?_cons_zero]; try rfl)
  case hs3x4 => kernel_rfl
  case hf3x4 => kernel_rfl
  case hr3x4 => kernel_rfl
  case hQ3x4 => exact fun _ _ _ h => h
  case hy3x4 => first | exact Or.inl ⟨by rfl, by (intro w hSw; (try dsimp only at hSw); go_simp; try rfl)⟩ | exact Or.inr ⟨by rfl, rfl⟩
  case hS3x4 => assumption
  (try simp only [Act.put, List.setIfInBounds_toArray, List.set_cons_zero, List.set_cons_succ])
  refine' wpAnyH_take (i := 4) (v := ?v4x5) ?hi4x5 ?hs4x5 ?hf4x5 ?hr4x5 ?hQ4x5 ?hy4x5 ?hS4x5 ?rest4x5
  case hi4x5 => (simp only [List.getElem?_toArray, List.getElem?_cons_succ, List.getElem?_cons_zero]; try rfl)
  case hs4x5 => kernel_rfl
  case hf4x5 => kernel_rfl
  case hr4x5 => kernel_rfl
  case hQ4x5 => exact fun _ _ _ h => h
  case hy4x5 => first | exact Or.inl ⟨by rfl, by (intro w hSw; (try dsimp only at hSw); go_simp; try rfl)⟩ | exact Or.inr ⟨by rfl, rfl⟩
  case hS4x5 => assumption
  (try simp only [Act.put, List.setIfInBounds_toArray, List.set_cons_zero, List.set_cons_succ])
  refine' wpAnyH_take (i := 5) (v := ?v5x6) ?hi5x6 ?hs5x6 ?hf5x6 ?hr5x6 ?hQ5x6 ?hy5x6 ?hS5x6 ?rest5x6
  case hi5x6 => (simp only [List.getElem?_toArray, List.getElem?_cons_succ, List.getElem?_cons_zero]; try rfl)
  case hs5x6 => kernel_rfl
  case hf5x6 => kernel_rfl
  case hr5x6 => kernel_rfl
  case hQ5x6 => exact fun _ _ _ h => h
  case hy5x6 => first | exact Or.inl ⟨by rfl, by (intro w hSw; (try dsimp only at hSw); go_simp; try rfl)⟩ | exact Or.inr ⟨by rfl, rfl⟩
  case hS5x6 => assumption
  (try simp only [Act.put, List.setIfInBounds_toArray, List.set_cons_zero, List.set_cons_succ])
  refine' wpAnyH_take (i := 8) (v := ?v8x7) ?hi8x7 ?hs8x7 ?hf8x7 ?hr8x7 ?hQ8x7 ?hy8x7 ?hS8x7 ?rest8x7
  case hi8x7 => (simp only [List.getElem?_toArray, List.getElem?_cons_succ, List.getElem?_cons_zero]; try rfl)
  case hs8x7 => kernel_rfl
  case hf8x7 => kernel_rfl
  case hr8x7 => kernel_rfl
  case hQ8x7 => exact fun _ _ _ h => h
  case hy8x7 => first | exact Or.inl ⟨by rfl, by (intro w hSw; (try dsimp only at hSw); go_simp; try rfl)⟩ | exact Or.inr ⟨by rfl, rfl⟩
  case hS8x7 => assumption
  (try simp only [Act.put, List.setIfInBounds_toArray, List.set_cons_zero, List.set_cons_succ])
  refine wpAnyH_ready (rs := [6, 9]) (by kernel_rfl) (by simp) ?_
  refine' (AllReadyH.cons (i := 6) ?ho6x8 (fun K hK => ?st6x8) (AllReadyH.cons (i := 9) ?ho9x9 (fun K hK => ?st9x9) AllReadyH.nil))
  case ho6x8 => (simp only [List.getElem?_toArray, List.getElem?_cons_succ, List.getElem?_cons_zero]; try rfl)
  case ho9x9 => (simp only [List.getElem?_toArray, List.getElem?_cons_succ, List.getElem?_cons_zero]; try rfl)
  case st6x8 =>
    go_simp
    refine (slot_any S o T n n f p k _ hHeld.1 hHeld.2.1 hn hn2 hf hp hkH.out).mono ?_
    rintro e w2 ⟨rfl, hb_⟩
    have hb2 := chainB (B := W0.heap.size) (a := W0) ((Below.refl _ _).drew) hb_ (by simp)
    clear hb_
    refine hK.out _ _ ?_ (fun hHeld => ?_)
    · exact hSof.out _ hb2
    clear hK K
    (try simp only [Act.put, List.setIfInBounds_toArray, List.set_cons_zero, List.set_cons_succ])
    refine' wpAnyH_take (i := 7) (v := ?v7x10) ?hi7x10 ?hs7x10 ?hf7x10 ?hr7x10 ?hQ7x10 ?hy7x10 ?hS7x10 ?rest7x10
    case hi7x10 => (simp only [List.getElem?_toArray, List.getElem?_cons_succ, List.getElem?_cons_zero]; try rfl)
    case hs7x10 => kernel_rfl
    case hf7x10 => kernel_rfl
    case hr7x10 => kernel_rfl
    case hQ7x10 => exact fun _ _ _ h => h
    case hy7x10 => first | exact Or.inl ⟨by rfl, by (intro w hSw; (try dsimp only at hSw); go_simp; try rfl)⟩ | exact Or.inr ⟨by rfl, rfl⟩
    case hS7x10 => assumption
    (try simp only [Act.put, List.setIfInBounds_toArray, List.set_cons_zero, List.set_cons_succ])
    refine wpAnyH_ready (rs := [9]) (by kernel_rfl) (by simp) ?_
    refine' (AllReadyH.cons (i := 9) ?ho9x11 (fun K hK => ?st9x11) AllReadyH.nil)
    case ho9x11 => (simp only [List.getElem?_toArray, List.getElem?_cons_succ, List.getElem?_cons_zero]; try rfl)
    case st9x11 =>
      go_simp
      refine hK.out _ _ ?_ (fun hHeld => ?_)
      · exact hSof.out _ (hb2.alloc hb2.size _)
      clear hK K
      (try simp only [Act.put, List.setIfInBounds_toArray, List.set_cons_zero, List.set_cons_succ])
      refine wpAnyH_ready (rs := [10]) (by kernel_rfl) (by simp) ?_
      refine' (AllReadyH.cons (i := 10) ?ho10x12 (fun K hK => ?st10x12) AllReadyH.nil)
      case ho10x12 => (simp only [List.getElem?_toArray, List.getElem?_cons_succ, List.getElem?_cons_zero]; try rfl)
      case st10x12 =>
        refine wp_copy_blk _ _ _ 96 31 rfl 7 Try.underlying96 message_info T (k * 7) (n - k) (n - k) _ 1 1 (by rfl) (by rfl) ds 31 [x0, x1, x2, x3, x4, x5, x6] (hTH.out.below (hb2.alloc hb2.size _)) (min1 (by omega)) (news_of (ds := []) (by rw [List.append_nil]; exact has_at _ _ [x0, x1, x2, x3, x4, x5, x6] 31 (by simp))) (by have := hdH.out; simp; omega) h1H.out ?_
        intro w3 hT3 hg3
        have hG3 := Lib.hid (below_grown (below_grown0 hwH.out (hb2.alloc hb2.size _)) hg3)
        refine hK.out _ _ ?_ (fun hHeld => ?_)
        · exact ⟨((hSH.out.below (hb2.alloc hb2.size _)).grown hg3 hTS).cell _ hc0, ((hSH.out.below (hb2.alloc hb2.size _)).grown hg3 hTS).cell _ hc1, ((hAH.out.below (hb2.alloc hb2.size _)).grown hg3 hTA).cell 0 rfl, ((hAH.out.below (hb2.alloc hb2.size _)).grown hg3 hTA).cell 1 rfl, ((hAH.out.below (hb2.alloc hb2.size _)).grown hg3 hTA).cell 2 rfl, ((hAH.out.below (hb2.alloc hb2.size _)).grown hg3 hTA).cell 3 rfl, ((hAH.out.below (hb2.alloc hb2.size _)).grown hg3 hTA).cell 4 rfl, ((hAH.out.below (hb2.alloc hb2.size _)).grown hg3 hTA).cell 5 rfl, ((hAH.out.below (hb2.alloc hb2.size _)).grown hg3 hTA).cell 6 rfl⟩
        clear hK K
        (try simp only [Act.put, List.setIfInBounds_toArray, List.set_cons_zero, List.set_cons_succ])
        refine wpAnyH_done (by kernel_rfl) ?_ _
        refine NoPanic.normal ?_
        go_wp2_with fail
        go_returns
        exact ⟨rfl, hT3, hG3.out⟩
  case st9x9 =>
    go_simp
    refine hK.out _ _ ?_ (fun hHeld => ?_)
    · exact hSof.out _ ((Below.refl _ _).drew.alloc (by simp) _)
    clear hK K
    (try simp only [Act.put, List.setIfInBounds_toArray, List.set_cons_zero, List.set_cons_succ])
    refine wpAnyH_ready (rs := [6]) (by kernel_rfl) (by simp) ?_
    refine' (AllReadyH.cons (i := 6) ?ho6x13 (fun K hK => ?st6x13) AllReadyH.nil)
    case ho6x13 => (simp only [List.getElem?_toArray, List.getElem?_cons_succ, List.getElem?_cons_zero]; try rfl)
    case st6x13 =>
      go_simp
      refine (slot_any S o T n n f p k _ hHeld.1 hHeld.2.1 hn hn2 hf hp hkH.out).mono ?_
      rintro e w2 ⟨rfl, hb_⟩
      have hb2 := chainB (B := W0.heap.size) (a := W0) ((Below.refl _ _).drew.alloc (by simp) _) hb_ (by simp)
      have hN := Lib.hid ((has_at W0 _ [x0, x1, x2, x3, x4, x5, x6] 31 rfl).drew.below hb_)
      clear hb_
      refine hK.out _ _ ?_ (fun hHeld => ?_)
      · exact hSof.out _ hb2
      clear hK K
      (try simp only [Act.put, List.setIfInBounds_toArray, List.set_cons_zero, List.set_cons_succ])
      refine' wpAnyH_take (i := 7) (v := ?v7x14) ?hi7x14 ?hs7x14 ?hf7x14 ?hr7x14 ?hQ7x14 ?hy7x14 ?hS7x14 ?rest7x14
      case hi7x14 => (simp only [List.getElem?_toArray, List.getElem?_cons_succ, List.getElem?_cons_zero]; try rfl)
      case hs7x14 => kernel_rfl
      case hf7x14 => kernel_rfl
      case hr7x14 => kernel_rfl
      case hQ7x14 => exact fun _ _ _ h => h
      case hy7x14 => first | exact Or.inl ⟨by rfl, by (intro w hSw; (try dsimp only at hSw); go_simp; try rfl)⟩ | exact Or.inr ⟨by rfl, rfl⟩
      case hS7x14 => assumption
      (try simp only [Act.put, List.setIfInBounds_toArray, List.set_cons_zero, List.set_cons_succ])
      refine wpAnyH_ready (rs := [10]) (by kernel_rfl) (by simp) ?_
      refine' (AllReadyH.cons (i := 10) ?ho10x15 (fun K hK => ?st10x15) AllReadyH.nil)
      case ho10x15 => (simp only [List.getElem?_toArray, List.getElem?_cons_succ, List.getElem?_cons_zero]; try rfl)
      case st10x15 =>
        refine wp_copy_blk _ _ _ 96 31 rfl 7 Try.underlying96 message_info T (k * 7) (n - k) (n - k) _ 1 1 (by rfl) (by rfl) ds 31 [x0, x1, x2, x3, x4, x5, x6] (hTH.out.below (hb2)) (min1 (by omega)) (news_of (ds := []) (by rw [List.append_nil]; exact hN.out)) (by have := hdH.out; simp; omega) h1H.out ?_
        intro w3 hT3 hg3
        have hG3 := Lib.hid (below_grown (below_grown0 hwH.out (hb2)) hg3)
        refine hK.out _ _ ?_ (fun hHeld => ?_)
        · exact ⟨((hSH.out.below (hb2)).grown hg3 hTS).cell _ hc0, ((hSH.out.below (hb2)).grown hg3 hTS).cell _ hc1, ((hAH.out.below (hb2)).grown hg3 hTA).cell 0 rfl, ((hAH.out.below (hb2)).grown hg3 hTA).cell 1 rfl, ((hAH.out.below (hb2)).grown hg3 hTA).cell 2 rfl, ((hAH.out.below (hb2)).grown hg3 hTA).cell 3 rfl, ((hAH.out.below (hb2)).grown hg3 hTA).cell 4 rfl, ((hAH.out.below (hb2)).grown hg3 hTA).cell 5 rfl, ((hAH.out.below (hb2)).grown hg3 hTA).cell 6 rfl⟩
        clear hK K
        (try simp only [Act.put, List.setIfInBounds_toArray, List.set_cons_zero, List.set_cons_succ])
        refine wpAnyH_done (by kernel_rfl) ?_ _
        refine NoPanic.normal ?_
        go_wp2_with fail
        go_returns
        exact ⟨rfl, hT3, hG3.out⟩
/-- w' is w but for the blocks S and T, and new ones. -/
structure Two (w w' : World) (S T : Nat) : Prop where
  os : w'.os = w.os
  tape : w'.tape = w.tape
  output : w'.output = w.output
  size : w.heap.size ≤ w'.heap.size
  block : ∀ k, k < w.heap.size → k ≠ S → k ≠ T → w'.heap[k]? = w.heap[k]?
theorem Two.of {w w' : World} {S T : Nat} (h : w.grownBy w' (some T)) : Two w w' S T := ⟨h.os, h.tape, h.output, h.size, fun k hk _ hT => h.block k hk (by simpa using hT)⟩
theorem Two.setCell {w w' : World} {S T : Nat} (h : Two w w' S T) (i : Nat) (x : Value) : Two w (w'.setCell ⟨S, i, none⟩ x) S T :=
  ⟨h.os, h.tape, h.output, by simpa using h.size, fun k hk hS hT => (Below.heap_setCell _ _ _ _ hS).trans (h.block k hk hS hT)⟩
theorem Two.after {w w0 w' : World} {S T : Nat} (h : Below w.heap.size w w0) (k : Two w0 w' S T) : Two w w' S T :=
  ⟨k.os.trans h.os, k.tape.trans h.tape, k.output.trans h.output, Nat.le_trans h.size k.size, fun i hi hS hT => (k.block i (Nat.lt_of_lt_of_le hi h.size) hS hT).trans (h.block i hi)⟩
theorem Two.below {w w0 w' : World} {S T : Nat} (k : Two w w0 S T) (h : Below w0.heap.size w0 w') : Two w w' S T :=
  ⟨h.os.trans k.os, h.tape.trans k.tape, h.output.trans k.output, Nat.le_trans k.size h.size, fun i hi hS hT => (h.block i (Nat.lt_of_lt_of_le hi k.size)).trans (k.block i hi hS hT)⟩
theorem Two.has {w w' : World} {S T b : Nat} {cs : List Value} {t : TypeId} (k : Two w w' S T) (h : HasC w b cs t) (hS : b ≠ S) (hT : b ≠ T) : HasC w' b cs t := (k.block b h.lt hS hT).trans h
set_option maxRecDepth 100000 in
set_option maxHeartbeats 8000000 in
theorem put_any (S o T n f c k : Nat) (cs ds : List Value) (x0 x1 x2 x3 x4 x5 x6 : Value) (w : World) (hS : HasC w S cs 98) (hT : HasC w T ds 31) (hc0 : cs[o]? = some (.slice (some ⟨T, 0, none⟩) n n)) (hc1 : cs[o + 1]? = some (.int .i64 f)) (hc2 : cs[o + 2]? = some (.int .i64 c)) (hd : ds.length = 7 * n) (hn : 0 < n) (hn2 : n ≤ 64) (hf : f ≤ 64) (hc : c ≤ 64) (hk : (f + c) % n = k) (h1 : ∀ v ∈ [x0, x1, x2, x3, x4, x5, x6], v.oneCell' = true) :
    Calls Try.prog 39 #[.pointer (some ⟨S, o, none⟩), .agg #[x0, x1, x2, x3, x4, x5, x6]] w fun e w' => e = .returned (.tuple #[]) ∧ HasC w' S (cs.set (o + 2) (.int .i64 (c + 1))) 98 ∧ HasC w' T (splice ds (k * 7) [x0, x1, x2, x3, x4, x5, x6]) 31 ∧ Two w w' S T := by
  obtain ⟨W0, hW0, hwW, hA, hzz⟩ := boxes1 w [x0, x1, x2, x3, x4, x5, x6] 31
  have hkH := Lib.hid hk
  have hSof : Hid (∀ w', Below W0.heap.size W0 w' → w'.cell? ⟨S, o + 2, none⟩ = some (.int .i64 c) ∧ w'.cell? ⟨w.heap.size, 0, none⟩ = some x0 ∧ w'.cell? ⟨w.heap.size, 1, none⟩ = some x1 ∧ w'.cell? ⟨w.heap.size, 2, none⟩ = some x2 ∧ w'.cell? ⟨w.heap.size, 3, none⟩ = some x3 ∧ w'.cell? ⟨w.heap.size, 4, none⟩ = some x4 ∧ w'.cell? ⟨w.heap.size, 5, none⟩ = some x5 ∧ w'.cell? ⟨w.heap.size, 6, none⟩ = some x6) := fun w' h => ⟨((hS.below hwW).below h).cell _ hc2, (hA.below h).cell 0 rfl, (hA.below h).cell 1 rfl, (hA.below h).cell 2 rfl, (hA.below h).cell 3 rfl, (hA.below h).cell 4 rfl, (hA.below h).cell 5 rfl, (hA.below h).cell 6 rfl⟩
  have hSH := Lib.hid (hS.below hwW); have hTH := Lib.hid (hT.below hwW); have hAH := Lib.hid hA; have hwH := Lib.hid hwW; have hzH := Lib.hid hzz
  have h1H := Lib.hid h1; have hdH := Lib.hid hd; have hc0H := Lib.hid hc0; have hc1H := Lib.hid hc1; have hc2H := Lib.hid hc2
  have hTS : (some T : Option Nat) ≠ some S := by have := hTH.out.types hSH.out (by decide); simpa using this
  have hTS' : T ≠ S := hTH.out.types hSH.out (by decide)
  have hTA : (some T : Option Nat) ≠ some w.heap.size := by have := hT.lt; simp; omega
  clear hS hT hwW hA hzz hk h1 hd hc0 hc1 hc2
  go_enter Try.func39, Try.ntmps39
  go_wp2_with fail
  refine wp_region_noPanic ?_
  refine wp_region_held_drew (S := (fun w' => w'.cell? ⟨S, o + 2, none⟩ = some (.int .i64 c) ∧ w'.cell? ⟨w.heap.size, 0, none⟩ = some x0 ∧ w'.cell? ⟨w.heap.size, 1, none⟩ = some x1 ∧ w'.cell? ⟨w.heap.size, 2, none⟩ = some x2 ∧ w'.cell? ⟨w.heap.size, 3, none⟩ = some x3 ∧ w'.cell? ⟨w.heap.size, 4, none⟩ = some x4 ∧ w'.cell? ⟨w.heap.size, 5, none⟩ = some x5 ∧ w'.cell? ⟨w.heap.size, 6, none⟩ = some x6)) (by kernel_rfl) (hSof.out _ (Below.refl _ _).drew) (fun hHeld => ?_)
  refine' wpAnyH_take (i := 0) (v := ?v0x16) ?hi0x16 ?hs0x16 ?hf0x16 ?hr0x16 ?hQ0x16 ?hy0x16 ?hS0x16 ?rest0x16
  case hi0x16 => (simp only [List.getElem?_toArray, List.getElem?_cons_succ, List.getElem?_cons_zero]; try rfl)
  case hs0x16 => kernel_rfl
  case hf0x16 => kernel_rfl
  case hr0x16 => kernel_rfl
  case hQ0x16 => exact fun _ _ _ h => h
  case hy0x16 => first | exact Or.inl ⟨by rfl, by (intro w hSw; (try dsimp only at hSw); go_simp; try rfl)⟩ | exact Or.inr ⟨by rfl, rfl⟩
  case hS0x16 => assumption
  (try simp only [Act.put, List.setIfInBounds_toArray, List.set_cons_zero, List.set_cons_succ])
  refine' wpAnyH_take (i := 1) (v := ?v1x17) ?hi1x17 ?hs1x17 ?hf1x17 ?hr1x17 ?hQ1x17 ?hy1x17 ?hS1x17 ?rest1x17
  case hi1x17 => (simp only [List.getElem?_toArray, List.getElem?_cons_succ, List.getElem?_cons_zero]; try rfl)
  case hs1x17 => kernel_rfl
  case hf1x17 => kernel_rfl
  case hr1x17 => kernel_rfl
  case hQ1x17 => exact fun _ _ _ h => h
  case hy1x17 => first | exact Or.inl ⟨by rfl, by (intro w hSw; (try dsimp only at hSw); go_simp; try rfl)⟩ | exact Or.inr ⟨by rfl, rfl⟩
  case hS1x17 => assumption
  (try simp only [Act.put, List.setIfInBounds_toArray, List.set_cons_zero, List.set_cons_succ])
  refine' wpAnyH_take (i := 2) (v := ?v2x18) ?hi2x18 ?hs2x18 ?hf2x18 ?hr2x18 ?hQ2x18 ?hy2x18 ?hS2x18 ?rest2x18
  case hi2x18 => (simp only [List.getElem?_toArray, List.getElem?_cons_succ, List.getElem?_cons_zero]; try rfl)
  case hs2x18 => kernel_rfl
  case hf2x18 => kernel_rfl
  case hr2x18 => kernel_rfl
  case hQ2x18 => exact fun _ _ _ h => h
  case hy2x18 => first | exact Or.inl ⟨by rfl, by (intro w hSw; (try dsimp only at hSw); go_simp; try rfl)⟩ | exact Or.inr ⟨by rfl, rfl⟩
  case hS2x18 => assumption
  (try simp only [Act.put, List.setIfInBounds_toArray, List.set_cons_zero, List.set_cons_succ])
  refine' wpAnyH_take (i := 3) (v := ?v3x19) ?hi3x19 ?hs3x19 ?hf3x19 ?hr3x19 ?hQ3x19 ?hy3x19 ?hS3x19 ?rest3x19
  case hi3x19 => (simp only [List.getElem?_toArray, List.getElem?_cons_succ, List.getElem?_cons_zero]; try rfl)
  case hs3x19 => kernel_rfl
  case hf3x19 => kernel_rfl
  case hr3x19 => kernel_rfl
  case hQ3x19 => exact fun _ _ _ h => h
  case hy3x19 => first | exact Or.inl ⟨by rfl, by (intro w hSw; (try dsimp only at hSw); go_simp; try rfl)⟩ | exact Or.inr ⟨by rfl, rfl⟩
  case hS3x19 => assumption
  (try simp only [Act.put, List.setIfInBounds_toArray, List.set_cons_zero, List.set_cons_succ])
  refine' wpAnyH_take (i := 4) (v := ?v4x20) ?hi4x20 ?hs4x20 ?hf4x20 ?hr4x20 ?hQ4x20 ?hy4x20 ?hS4x20 ?rest4x20
  case hi4x20 => (simp only [List.getElem?_toArray, List.getElem?_cons_succ, List.getElem?_cons_zero]; try rfl)
  case hs4x20 => kernel_rfl
  case hf4x20 => kernel_rfl
  case hr4x20 => kernel_rfl
  case hQ4x20 => exact fun _ _ _ h => h
  case hy4x20 => first | exact Or.inl ⟨by rfl, by (intro w hSw; (try dsimp only at hSw); go_simp; try rfl)⟩ | exact Or.inr ⟨by rfl, rfl⟩
  case hS4x20 => assumption
  (try simp only [Act.put, List.setIfInBounds_toArray, List.set_cons_zero, List.set_cons_succ])
  refine' wpAnyH_take (i := 5) (v := ?v5x21) ?hi5x21 ?hs5x21 ?hf5x21 ?hr5x21 ?hQ5x21 ?hy5x21 ?hS5x21 ?rest5x21
  case hi5x21 => (simp only [List.getElem?_toArray, List.getElem?_cons_succ, List.getElem?_cons_zero]; try rfl)
  case hs5x21 => kernel_rfl
  case hf5x21 => kernel_rfl
  case hr5x21 => kernel_rfl
  case hQ5x21 => exact fun _ _ _ h => h
  case hy5x21 => first | exact Or.inl ⟨by rfl, by (intro w hSw; (try dsimp only at hSw); go_simp; try rfl)⟩ | exact Or.inr ⟨by rfl, rfl⟩
  case hS5x21 => assumption
  (try simp only [Act.put, List.setIfInBounds_toArray, List.set_cons_zero, List.set_cons_succ])
  refine wpAnyH_ready (rs := [6]) (by kernel_rfl) (by simp) ?_
  refine' (AllReadyH.cons (i := 6) ?ho6x22 (fun K hK => ?st6x22) AllReadyH.nil)
  case ho6x22 => (simp only [List.getElem?_toArray, List.getElem?_cons_succ, List.getElem?_cons_zero]; try rfl)
  case st6x22 =>
    go_simp
    refine (write_any S o T n f c k cs ds x0 x1 x2 x3 x4 x5 x6 _ (hSH.out.below (Below.refl _ _).drew) (hTH.out.below (Below.refl _ _).drew) hc0H.out hc1H.out hdH.out hn hn2 hf hc hkH.out h1H.out).mono ?_
    rintro e w3 ⟨rfl, hT3, hg_⟩
    have hg3 := Lib.hid (below_grown (Below.refl W0.heap.size W0).drew hg_)
    have hT3H := Lib.hid hT3
    clear hg_ hT3
    refine hK.out _ _ ?_ (fun hHeld => ?_)
    · exact ⟨(hSH.out.grown hg3.out hTS).cell _ hc2H.out, (hAH.out.grown hg3.out hTA).cell 0 rfl, (hAH.out.grown hg3.out hTA).cell 1 rfl, (hAH.out.grown hg3.out hTA).cell 2 rfl, (hAH.out.grown hg3.out hTA).cell 3 rfl, (hAH.out.grown hg3.out hTA).cell 4 rfl, (hAH.out.grown hg3.out hTA).cell 5 rfl, (hAH.out.grown hg3.out hTA).cell 6 rfl⟩
    clear hK K
    (try simp only [Act.put, List.setIfInBounds_toArray, List.set_cons_zero, List.set_cons_succ])
    refine wpAnyH_done (by kernel_rfl) ?_ _
    refine NoPanic.normal ?_
    have hS3 := Lib.hid (hSH.out.grown hg3.out hTS)
    have s2 := hS3.out.cell _ hc2H.out; have sf := hS3.out.free (o + 2)
    go_wp2_with fail
    go_returns
    refine ⟨rfl, by simpa using hS3.out.set (o + 2) (.int .i64 ((c : Int) + 1)), hT3H.out.far hTS' _, Two.setCell (Two.after hwH.out (Two.of hg3.out)) _ _⟩
theorem HasC.far7 {w : World} {b g : Nat} {cs : List Value} {t : TypeId} (h : HasC w b cs t) (hp : b ≠ g) (x0 x1 x2 x3 x4 x5 x6 : Value) :
    HasC (((((((w.setCell ⟨g, 0, none⟩ x0).setCell ⟨g, 1, none⟩ x1).setCell ⟨g, 2, none⟩ x2).setCell ⟨g, 3, none⟩ x3).setCell ⟨g, 4, none⟩ x4).setCell ⟨g, 5, none⟩ x5).setCell ⟨g, 6, none⟩ x6) b cs t :=
  ((((((h.far (p := ⟨g, 0, none⟩) hp x0).far (p := ⟨g, 1, none⟩) hp x1).far (p := ⟨g, 2, none⟩) hp x2).far (p := ⟨g, 3, none⟩) hp x3).far (p := ⟨g, 4, none⟩) hp x4).far (p := ⟨g, 5, none⟩) hp x5).far (p := ⟨g, 6, none⟩) hp x6
theorem Two.new {w w' : World} {S T g : Nat} (h : Two w w' S T) (hg : w.heap.size ≤ g) (i : Nat) (x : Value) : Two w (w'.setCell ⟨g, i, none⟩ x) S T :=
  ⟨h.os, h.tape, h.output, by simpa using h.size, fun k hk hS hT => (Below.heap_setCell _ _ _ _ (show k ≠ g by omega)).trans (h.block k hk hS hT)⟩
theorem Two.new7 {w w' : World} {S T g : Nat} (h : Two w w' S T) (hg : w.heap.size ≤ g) (x0 x1 x2 x3 x4 x5 x6 : Value) :
    Two w (((((((w'.setCell ⟨g, 0, none⟩ x0).setCell ⟨g, 1, none⟩ x1).setCell ⟨g, 2, none⟩ x2).setCell ⟨g, 3, none⟩ x3).setCell ⟨g, 4, none⟩ x4).setCell ⟨g, 5, none⟩ x5).setCell ⟨g, 6, none⟩ x6) S T :=
  ((((((h.new hg 0 x0).new hg 1 x1).new hg 2 x2).new hg 3 x3).new hg 4 x4).new hg 5 x5).new hg 6 x6
theorem boxes1d (w : World) (c0 : List Value) (t0 : TypeId) :
    ∃ W0, (w.alloc (.cells c0.toArray t0)).drew = W0 ∧ Below w.heap.size w W0 ∧ HasC W0 w.heap.size c0 t0 ∧ W0.heap.size = w.heap.size + 1 :=
  ⟨_, rfl, by go_grown, HasC.new _ _ _, by simp⟩
set_option maxRecDepth 100000 in
set_option maxHeartbeats 8000000 in
theorem take_any (S o T n f c g : Nat) (cs ds : List Value) (A : Addr) (cu : Nat) (w : World) (hS : HasC w S cs 98) (hT : HasC w T ds 31) (hc0 : cs[o]? = some (.slice (some ⟨T, 0, none⟩) n n)) (hc1 : cs[o + 1]? = some (.int .i64 f)) (hc2 : cs[o + 2]? = some (.int .i64 c)) (hd : ds.length = 7 * n) (hn : 0 < n) (hn2 : n ≤ 64) (hfn : f < n) (hc : c ≤ 64) (hg : (f + 1) % n = g) (hm0 : ds[f * 7]? = some (.int .i64 0)) (hm1 : ds[f * 7 + 1]? = some (.bool false)) (hm2 : ds[f * 7 + 2]? = some (.int .i64 0)) (hm3 : ds[f * 7 + 3]? = some (.int .u64 0)) (hm4 : ds[f * 7 + 4]? = some (.slice none 0 0)) (hm5 : ds[f * 7 + 5]? = some (.slice (some A) 1 cu)) (hm6 : ds[f * 7 + 6]? = some (.slice none 0 0)) :
    Calls Try.prog 31 #[.pointer (some ⟨S, o, none⟩)] w fun e w' => e = .returned (.agg #[.int .i64 0, .bool false, .int .i64 0, .int .u64 0, .slice none 0 0, .slice (some A) 1 cu, .slice none 0 0]) ∧ HasC w' S ((cs.set (o + 1) (.int .i64 g)).set (o + 2) (.int .i64 (c - 1))) 98 ∧ HasC w' T (splice ds (f * 7) [.int .i64 0, .bool false, .int .i64 0, .int .u64 0, .slice none 0 0, .slice none 0 0, .slice none 0 0]) 31 ∧ Two w w' S T := by
  obtain ⟨W0, hW0, hwW, hA, hzz⟩ := boxes1 w [.int .i64 0, .bool false, .int .i64 0, .int .u64 0, .slice none 0 0, .slice none 0 0, .slice none 0 0] 31
  have hgH := Lib.hid hg
  have hf : f ≤ 64 := by omega
  have hfl : (f : Int) < (n : Int) := by omega
  have hSof : Hid (∀ w', Below W0.heap.size W0 w' → w'.cell? ⟨S, o, none⟩ = some (.slice (some ⟨T, 0, none⟩) n n) ∧ w'.cell? ⟨S, o + 1, none⟩ = some (.int .i64 f) ∧ w'.cell? ⟨T, f * 7, none⟩ = some (.int .i64 0) ∧ w'.cell? ⟨T, f * 7 + 1, none⟩ = some (.bool false) ∧ w'.cell? ⟨T, f * 7 + 2, none⟩ = some (.int .i64 0) ∧ w'.cell? ⟨T, f * 7 + 3, none⟩ = some (.int .u64 0) ∧ w'.cell? ⟨T, f * 7 + 4, none⟩ = some (.slice none 0 0) ∧ w'.cell? ⟨T, f * 7 + 5, none⟩ = some (.slice (some A) 1 cu) ∧ w'.cell? ⟨T, f * 7 + 6, none⟩ = some (.slice none 0 0)) := fun w' h => ⟨((hS.below hwW).below h).cell _ hc0, ((hS.below hwW).below h).cell _ hc1, ((hT.below hwW).below h).cell _ hm0, ((hT.below hwW).below h).cell _ hm1, ((hT.below hwW).below h).cell _ hm2, ((hT.below hwW).below h).cell _ hm3, ((hT.below hwW).below h).cell _ hm4, ((hT.below hwW).below h).cell _ hm5, ((hT.below hwW).below h).cell _ hm6⟩
  have hSH := Lib.hid (hS.below hwW); have hTH := Lib.hid (hT.below hwW); have hAH := Lib.hid hA; have hwH := Lib.hid hwW; have hzH := Lib.hid hzz
  have hdH := Lib.hid hd; have hc0H := Lib.hid hc0; have hc1H := Lib.hid hc1; have hc2H := Lib.hid hc2
  have hTS : (some T : Option Nat) ≠ some S := by have := hTH.out.types hSH.out (by decide); simpa using this
  have hTS' : T ≠ S := hTH.out.types hSH.out (by decide)
  have hTA : (some T : Option Nat) ≠ some w.heap.size := by have := hT.lt; simp; omega
  have hTlt := Lib.hid (show T < W0.heap.size from hTH.out.lt)
  have nSH := Lib.hid (show (¬ W0.heap.size = S) ∧ (¬ S = W0.heap.size) ∧ (¬ w.heap.size = S) ∧ (¬ S = w.heap.size) by have h1 := hS.lt; have h2 := hwW.size; omega)
  clear hS hT hwW hA hzz hg hd hc0 hc1 hc2 hm0 hm1 hm2 hm3 hm4 hm5 hm6
  go_enter Try.func31, Try.ntmps31
  go_wp2_with fail
  refine wp_region_noPanic ?_
  refine wp_region_held_drew (S := (fun w' => w'.cell? ⟨S, o, none⟩ = some (.slice (some ⟨T, 0, none⟩) n n) ∧ w'.cell? ⟨S, o + 1, none⟩ = some (.int .i64 f) ∧ w'.cell? ⟨T, f * 7, none⟩ = some (.int .i64 0) ∧ w'.cell? ⟨T, f * 7 + 1, none⟩ = some (.bool false) ∧ w'.cell? ⟨T, f * 7 + 2, none⟩ = some (.int .i64 0) ∧ w'.cell? ⟨T, f * 7 + 3, none⟩ = some (.int .u64 0) ∧ w'.cell? ⟨T, f * 7 + 4, none⟩ = some (.slice none 0 0) ∧ w'.cell? ⟨T, f * 7 + 5, none⟩ = some (.slice (some A) 1 cu) ∧ w'.cell? ⟨T, f * 7 + 6, none⟩ = some (.slice none 0 0))) (by kernel_rfl) (hSof.out _ (Below.refl _ _).drew) (fun hHeld => ?_)
  refine' wpAnyH_take (i := 0) (v := ?v0x23) ?hi0x23 ?hs0x23 ?hf0x23 ?hr0x23 ?hQ0x23 ?hy0x23 ?hS0x23 ?rest0x23
  case hi0x23 => (simp only [List.getElem?_toArray, List.getElem?_cons_succ, List.getElem?_cons_zero]; try rfl)
  case hs0x23 => kernel_rfl
  case hf0x23 => kernel_rfl
  case hr0x23 => kernel_rfl
  case hQ0x23 => exact fun _ _ _ h => h
  case hy0x23 => first | exact Or.inl ⟨by rfl, by (intro w hSw; (try dsimp only at hSw); go_simp; try rfl)⟩ | exact Or.inr ⟨by rfl, rfl⟩
  case hS0x23 => assumption
  (try simp only [Act.put, List.setIfInBounds_toArray, List.set_cons_zero, List.set_cons_succ])
  refine' wpAnyH_take (i := 1) (v := ?v1x24) ?hi1x24 ?hs1x24 ?hf1x24 ?hr1x24 ?hQ1x24 ?hy1x24 ?hS1x24 ?rest1x24
  case hi1x24 => (simp only [List.getElem?_toArray, List.getElem?_cons_succ, List.getElem?_cons_zero]; try rfl)
  case hs1x24 => kernel_rfl
  case hf1x24 => kernel_rfl
  case hr1x24 => kernel_rfl
  case hQ1x24 => exact fun _ _ _ h => h
  case hy1x24 => first | exact Or.inl ⟨by rfl, by (intro w hSw; (try dsimp only at hSw); go_simp; try rfl)⟩ | exact Or.inr ⟨by rfl, rfl⟩
  case hS1x24 => assumption
  (try simp only [Act.put, List.setIfInBounds_toArray, List.set_cons_zero, List.set_cons_succ])
  refine' wpAnyH_take (i := 2) (v := ?v2x25) ?hi2x25 ?hs2x25 ?hf2x25 ?hr2x25 ?hQ2x25 ?hy2x25 ?hS2x25 ?rest2x25
  case hi2x25 => (simp only [List.getElem?_toArray, List.getElem?_cons_succ, List.getElem?_cons_zero]; try rfl)
  case hs2x25 => kernel_rfl
  case hf2x25 => kernel_rfl
  case hr2x25 => kernel_rfl
  case hQ2x25 => exact fun _ _ _ h => h
  case hy2x25 => first | exact Or.inl ⟨by rfl, by (intro w hSw; (try dsimp only at hSw); go_simp; try rfl)⟩ | exact Or.inr ⟨by rfl, rfl⟩
  case hS2x25 => assumption
  (try simp only [Act.put, List.setIfInBounds_toArray, List.set_cons_zero, List.set_cons_succ])
  refine' wpAnyH_take (i := 3) (v := ?v3x26) ?hi3x26 ?hs3x26 ?hf3x26 ?hr3x26 ?hQ3x26 ?hy3x26 ?hS3x26 ?rest3x26
  case hi3x26 => (simp only [List.getElem?_toArray, List.getElem?_cons_succ, List.getElem?_cons_zero]; try rfl)
  case hs3x26 => kernel_rfl
  case hf3x26 => kernel_rfl
  case hr3x26 => kernel_rfl
  case hQ3x26 => exact fun _ _ _ h => h
  case hy3x26 => first | exact Or.inl ⟨by rfl, by (intro w hSw; (try dsimp only at hSw); go_simp; try rfl)⟩ | exact Or.inr ⟨by rfl, rfl⟩
  case hS3x26 => assumption
  (try simp only [Act.put, List.setIfInBounds_toArray, List.set_cons_zero, List.set_cons_succ])
  refine' wpAnyH_take (i := 4) (v := ?v4x27) ?hi4x27 ?hs4x27 ?hf4x27 ?hr4x27 ?hQ4x27 ?hy4x27 ?hS4x27 ?rest4x27
  case hi4x27 => (simp only [List.getElem?_toArray, List.getElem?_cons_succ, List.getElem?_cons_zero]; try rfl)
  case hs4x27 => kernel_rfl
  case hf4x27 => kernel_rfl
  case hr4x27 => kernel_rfl
  case hQ4x27 => exact fun _ _ _ h => h
  case hy4x27 => first | exact Or.inl ⟨by rfl, by (intro w hSw; (try dsimp only at hSw); go_simp; try rfl)⟩ | exact Or.inr ⟨by rfl, rfl⟩
  case hS4x27 => assumption
  (try simp only [Act.put, List.setIfInBounds_toArray, List.set_cons_zero, List.set_cons_succ])
  refine' wpAnyH_take (i := 5) (v := ?v5x28) ?hi5x28 ?hs5x28 ?hf5x28 ?hr5x28 ?hQ5x28 ?hy5x28 ?hS5x28 ?rest5x28
  case hi5x28 => (simp only [List.getElem?_toArray, List.getElem?_cons_succ, List.getElem?_cons_zero]; try rfl)
  case hs5x28 => kernel_rfl
  case hf5x28 => kernel_rfl
  case hr5x28 => kernel_rfl
  case hQ5x28 => exact fun _ _ _ h => h
  case hy5x28 => first | exact Or.inl ⟨by rfl, by (intro w hSw; (try dsimp only at hSw); go_simp; try rfl)⟩ | exact Or.inr ⟨by rfl, rfl⟩
  case hS5x28 => assumption
  (try simp only [Act.put, List.setIfInBounds_toArray, List.set_cons_zero, List.set_cons_succ])
  refine' wpAnyH_take (i := 6) (v := ?v6x29) ?hi6x29 ?hs6x29 ?hf6x29 ?hr6x29 ?hQ6x29 ?hy6x29 ?hS6x29 ?rest6x29
  case hi6x29 => (simp only [List.getElem?_toArray, List.getElem?_cons_succ, List.getElem?_cons_zero]; try rfl)
  case hs6x29 => kernel_rfl
  case hf6x29 => kernel_rfl
  case hr6x29 => kernel_rfl
  case hQ6x29 => exact fun _ _ _ h => h
  case hy6x29 => first | exact Or.inl ⟨by rfl, by (intro w hSw; (try dsimp only at hSw); go_simp; try rfl)⟩ | exact Or.inr ⟨by rfl, rfl⟩
  case hS6x29 => assumption
  (try simp only [Act.put, List.setIfInBounds_toArray, List.set_cons_zero, List.set_cons_succ])
  refine' wpAnyH_take (i := 7) (v := ?v7x30) ?hi7x30 ?hs7x30 ?hf7x30 ?hr7x30 ?hQ7x30 ?hy7x30 ?hS7x30 ?rest7x30
  case hi7x30 => (simp only [List.getElem?_toArray, List.getElem?_cons_succ, List.getElem?_cons_zero]; try rfl)
  case hs7x30 => kernel_rfl
  case hf7x30 => kernel_rfl
  case hr7x30 => kernel_rfl
  case hQ7x30 => exact fun _ _ _ h => h
  case hy7x30 => first | exact Or.inl ⟨by rfl, by (intro w hSw; (try dsimp only at hSw); go_simp; try rfl)⟩ | exact Or.inr ⟨by rfl, rfl⟩
  case hS7x30 => assumption
  (try simp only [Act.put, List.setIfInBounds_toArray, List.set_cons_zero, List.set_cons_succ])
  refine' wpAnyH_take (i := 8) (v := ?v8x31) ?hi8x31 ?hs8x31 ?hf8x31 ?hr8x31 ?hQ8x31 ?hy8x31 ?hS8x31 ?rest8x31
  case hi8x31 => (simp only [List.getElem?_toArray, List.getElem?_cons_succ, List.getElem?_cons_zero]; try rfl)
  case hs8x31 => kernel_rfl
  case hf8x31 => kernel_rfl
  case hr8x31 => kernel_rfl
  case hQ8x31 => exact fun _ _ _ h => h
  case hy8x31 => first | exact Or.inl ⟨by rfl, by (intro w hSw; (try dsimp only at hSw); go_simp; try rfl)⟩ | exact Or.inr ⟨by rfl, rfl⟩
  case hS8x31 => assumption
  (try simp only [Act.put, List.setIfInBounds_toArray, List.set_cons_zero, List.set_cons_succ])
  refine' wpAnyH_take (i := 9) (v := ?v9x32) ?hi9x32 ?hs9x32 ?hf9x32 ?hr9x32 ?hQ9x32 ?hy9x32 ?hS9x32 ?rest9x32
  case hi9x32 => (simp only [List.getElem?_toArray, List.getElem?_cons_succ, List.getElem?_cons_zero]; try rfl)
  case hs9x32 => kernel_rfl
  case hf9x32 => kernel_rfl
  case hr9x32 => kernel_rfl
  case hQ9x32 => exact fun _ _ _ h => h
  case hy9x32 => first | exact Or.inl ⟨by rfl, by (intro w hSw; (try dsimp only at hSw); go_simp; try rfl)⟩ | exact Or.inr ⟨by rfl, rfl⟩
  case hS9x32 => assumption
  (try simp only [Act.put, List.setIfInBounds_toArray, List.set_cons_zero, List.set_cons_succ])
  refine wpAnyH_ready (rs := [10]) (by kernel_rfl) (by simp) ?_
  refine' (AllReadyH.cons (i := 10) ?ho10x33 (fun K hK => ?st10x33) AllReadyH.nil)
  case ho10x33 => (simp only [List.getElem?_toArray, List.getElem?_cons_succ, List.getElem?_cons_zero]; try rfl)
  case st10x33 =>
    go_simp
    refine hK.out _ _ ?_ (fun hHeld => ?_)
    · exact hSof.out _ ((Below.refl _ _).drew.alloc (by simp) _)
    clear hK K
    (try simp only [Act.put, List.setIfInBounds_toArray, List.set_cons_zero, List.set_cons_succ])
    refine wpAnyH_ready (rs := [11]) (by kernel_rfl) (by simp) ?_
    refine' (AllReadyH.cons (i := 11) ?ho11x34 (fun K hK => ?st11x34) AllReadyH.nil)
    case ho11x34 => (simp only [List.getElem?_toArray, List.getElem?_cons_succ, List.getElem?_cons_zero]; try rfl)
    case st11x34 =>
      go_simp
      refine hK.out _ _ ?_ (fun hHeld => ?_)
      · exact hSof.out _ ((Below.refl _ _).drew.alloc (by simp) _)
      clear hK K
      (try simp only [Act.put, List.setIfInBounds_toArray, List.set_cons_zero, List.set_cons_succ])
      refine wpAnyH_done (by kernel_rfl) ?_ _
      refine NoPanic.normal ?_
      obtain ⟨W1, hW1, hw1, hB1, hz1⟩ := boxes1d W0 [.int .i64 0, .bool false, .int .i64 0, .int .u64 0, .slice none 0 0, .slice (some A) 1 cu, .slice none 0 0] 31
      have hw1H := Lib.hid hw1
      have hS1 := Lib.hid (hSH.out.below hw1H.out); have hT1 := Lib.hid (hTH.out.below hw1H.out); have hA1 := Lib.hid (hAH.out.below hw1H.out); have hX1 := Lib.hid (show HasC W1 W0.heap.size [.int .i64 0, .bool false, .int .i64 0, .int .u64 0, .slice none 0 0, .slice (some A) 1 cu, .slice none 0 0] 31 from hB1)
      clear hw1 hB1 hz1 hSH hTH hAH
      go_wp2_with fail
      refine (write_any S o T n f 0 f cs ds (.int .i64 0) (.bool false) (.int .i64 0) (.int .u64 0) (.slice none 0 0) (.slice none 0 0) (.slice none 0 0) _ hS1.out hT1.out hc0H.out hc1H.out hdH.out hn hn2 hf (by omega) (by simpa using Nat.mod_eq_of_lt hfn) (by decide)).mono ?_
      rintro e w3 ⟨rfl, hT3, hg3⟩
      have hTx : (some T : Option Nat) ≠ some W0.heap.size := by have := hTlt.out; simp; omega
      have hS3 := Lib.hid (hS1.out.grown hg3 hTS); have hA3 := Lib.hid (hA1.out.grown hg3 hTA); have hX3 := Lib.hid (hX1.out.grown hg3 hTx); have hT3H := Lib.hid hT3
      have hG3 := Lib.hid (below_grown hw1H.out hg3)
      clear hT3 hg3 hS1 hT1 hA1 hX1 hTx hW1 hw1H
      go_wp2_with fail
      refine (slot_any S o T n n f 1 g _ (hS3.out.cell _ hc0H.out) (hS3.out.cell _ hc1H.out) hn hn2 hf (by omega) hgH.out).mono ?_
      rintro e w4 ⟨rfl, hb4⟩
      have hS4 := Lib.hid (hS3.out.below hb4); have hA4 := Lib.hid (hA3.out.below hb4); have hX4 := Lib.hid (hX3.out.below hb4); have hT4 := Lib.hid (hT3H.out.below hb4)
      have hG4 := Lib.hid ((Two.of (S := S) hG3.out).below hb4)
      clear hb4 hS3 hA3 hX3 hT3H hG3
      have s1 := hS4.out.cell _ hc1H.out; have s2 := hS4.out.cell _ hc2H.out; have sf1 := hS4.out.free (o + 1); have sf2 := hS4.out.free (o + 2)
      have r0 := hA4.out.cell 0 rfl; have r1 := hA4.out.cell 1 rfl; have r2 := hA4.out.cell 2 rfl; have r3 := hA4.out.cell 3 rfl; have r4 := hA4.out.cell 4 rfl; have r5 := hA4.out.cell 5 rfl; have r6 := hA4.out.cell 6 rfl
      have q0 := hA4.out.free 0; have q1 := hA4.out.free 1; have q2 := hA4.out.free 2; have q3 := hA4.out.free 3; have q4 := hA4.out.free 4; have q5 := hA4.out.free 5; have q6 := hA4.out.free 6
      have y0 := hX4.out.cell 0 rfl; have y1 := hX4.out.cell 1 rfl; have y2 := hX4.out.cell 2 rfl; have y3 := hX4.out.cell 3 rfl; have y4 := hX4.out.cell 4 rfl; have y5 := hX4.out.cell 5 rfl; have y6 := hX4.out.cell 6 rfl
      have hl := hA4.out.lt
      obtain ⟨nS1, nS2, nS3, nS4⟩ := nSH.out
      go_wp2_with fail
      refine bodyPost_ret (v := .agg #[.int .i64 0, .bool false, .int .i64 0, .int .u64 0, .slice none 0 0, .slice (some A) 1 cu, .slice none 0 0]) (by simp [results, Try.results31, go_sem, r0, r1, r2, r3, r4, r5, r6, hl, nS1, nS2, nS3, nS4]) rfl ⟨rfl, ?_, ?_, ?_⟩
      · exact ((hS4.out.set (o + 1) _).set (o + 2) _).far7 nS4 _ _ _ _ _ _ _
      · exact ((hT4.out.far (p := ⟨S, o + 1, none⟩) hTS' _).far (p := ⟨S, o + 2, none⟩) hTS' _).far7 (by have := hTA; simpa using this) _ _ _ _ _ _ _
      · exact ((Two.after hwH.out hG4.out).setCell _ _ |>.setCell _ _).new7 (Nat.le_refl _) _ _ _ _ _ _ _
end Go.Proofs.Ytpghndmfdmimmaa
