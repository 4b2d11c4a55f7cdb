/-
  Texts that belong together: RwRb, RwSb, RwLa, RwFb. What each one says stands ahead of it.
-/
import Derived.Test.YtpmfbmigdpmloaaGreatDoorPk08
import Derived.Test.YtpmfbmigdpmloaaGreatDoorPk05
import Derived.Test.YtpmfbmigdpmloaaGreatDoorPk04
import Derived.Deep.Cut
import Derived.Test.YtpmfbmigdpmloaaGreatDoorPk11
section
/-
  How the program reads a row's bytes, at this program: the reader's row with its deferred function; row.Decode. Condition: unicode/utf8's tables lie as their initialisers lay them.
  row.Decode, at this program. Condition: unicode/utf8's tables lie as their initialisers lay them.
-/
set_option linter.unusedVariables false
set_option linter.unusedSimpArgs false
namespace Go.Proofs.YtpmfbmigdpmloaaGreatDoor
open Go.RowKit Go.Lib

set_option maxRecDepth 100000 in
theorem catch_panic (b1 b2 : Nat) (older : List PanicEntry) (w : World) (h1 : ∃ x, HasV w b1 [x] 23) (h2 : ∃ x, HasV w b2 [x] 28) (hne : ¬ b2 = b1) :
    CallsD Tryz.prog 76 #[.pointer (some ⟨b1, 0, none⟩), .pointer (some ⟨b2, 0, none⟩)] (.panicking ({ v := .iface 124 (.agg #[.int .u16 20]), recovered := false } :: older)) w fun e u' w' =>
      e = .returned (.tuple #[]) ∧ u' = .panicking ({ v := .iface 124 (.agg #[.int .u16 20]), recovered := true } :: older) ∧ w' = ((w.setCell ⟨b1, 0, none⟩ (.slice none 0 0)).setCell ⟨b2, 0, none⟩ (.int .u16 20)).drew := by
  obtain ⟨x, hx⟩ := h1; obtain ⟨y, hy⟩ := h2
  have r0_ := hx.cell 0 rfl; have rf_ := hx.free 0
  have e0_ := hy.cell 0 rfl; have ef_ := hy.free 0
  clear hx hy
  refine callsD_of_wpS Tryz.func76 rfl fun c₀ cs hu => ?_
  apply wpS_seq
  apply wpS_region
  simp [wpOpsS, go_sem, recoverD, hu, Tryz.ntmps76, Exit.thenS]
  simp only [Array.replicate_succ, Array.replicate_zero, List.push_toArray, List.nil_append, List.cons_append, List.append_toArray, List.setIfInBounds_toArray, List.set_cons_zero, List.set_cons_succ]
  refine wpS_of_wp ?_
  have hta : ∀ w : World, (Instr.typeAssert (.iface 124 (.agg #[.int .u16 20])) 20 124 false).run Tryz.prog w = .ok (.agg #[.int .u16 20]) w := fun _ => by kernel_rfl
  go_wp2_with fail
  refine wp_region_noPanic ?_
  refine wp_region_held_drew (S := (fun w' => True)) (by kernel_rfl) (trivial) (fun hHeld => ?_)
  refine' wpAnyH_take (i := 0) (v := ?v0x1) ?hi0x1 ?hs0x1 ?hf0x1 ?hr0x1 ?hQ0x1 ?hy0x1 ?hS0x1 ?rest0x1
  case hi0x1 => (simp only [List.getElem?_toArray, List.getElem?_cons_succ, List.getElem?_cons_zero]; try rfl)
  case hs0x1 => kernel_rfl
  case hf0x1 => kernel_rfl
  case hr0x1 => kernel_rfl
  case hQ0x1 => exact fun _ _ _ h => h
  case hy0x1 => first | exact Or.inl ⟨by rfl, by (intro w hSw; (try dsimp only at hSw); go_simp; try rfl)⟩ | exact Or.inr ⟨by rfl, rfl⟩
  case hS0x1 => assumption
  (try simp only [Act.put, List.setIfInBounds_toArray, List.set_cons_zero, List.set_cons_succ])
  refine' wpAnyH_take (i := 1) (v := .agg #[.int .u16 20]) ?hi1x2 ?hs1x2 ?hf1x2 ?hr1x2 ?hQ1x2 ?hy1x2 ?hS1x2 ?rest1x2
  case hi1x2 => (simp only [List.getElem?_toArray, List.getElem?_cons_succ, List.getElem?_cons_zero]; try rfl)
  case hs1x2 => kernel_rfl
  case hf1x2 => kernel_rfl
  case hr1x2 => kernel_rfl
  case hQ1x2 => exact fun _ _ _ h => h
  case hy1x2 => first | exact Or.inl ⟨by rfl, by (intro w hSw; (try dsimp only at hSw); go_simp; try rfl)⟩ | exact Or.inr ⟨by rfl, rfl⟩
  case hS1x2 => assumption
  (try simp only [Act.put, List.setIfInBounds_toArray, List.set_cons_zero, List.set_cons_succ])
  refine wpAnyH_ready (rs := [2, 3]) (by kernel_rfl) (by simp) ?_
  refine' (AllReadyH.cons (i := 2) ?ho2x3 (fun K hK => ?st2x3) (AllReadyH.cons (i := 3) ?ho3x4 (fun K hK => ?st3x4) AllReadyH.nil))
  case ho2x3 => (simp only [List.getElem?_toArray, List.getElem?_cons_succ, List.getElem?_cons_zero]; try rfl)
  case ho3x4 => (simp only [List.getElem?_toArray, List.getElem?_cons_succ, List.getElem?_cons_zero]; try rfl)
  case st2x3 =>
    go_simp
    refine hK.out _ _ ?_ (fun hHeld => ?_)
    · trivial
    clear hK K
    (try simp only [Act.put, List.setIfInBounds_toArray, List.set_cons_zero, List.set_cons_succ])
    refine wpAnyH_ready (rs := [3]) (by kernel_rfl) (by simp) ?_
    refine' (AllReadyH.cons (i := 3) ?ho3x5 (fun K hK => ?st3x5) AllReadyH.nil)
    case ho3x5 => (simp only [List.getElem?_toArray, List.getElem?_cons_succ, List.getElem?_cons_zero]; try rfl)
    case st3x5 =>
      go_simp
      refine hK.out _ _ ?_ (fun hHeld => ?_)
      · trivial
      clear hK K
      (try simp only [Act.put, List.setIfInBounds_toArray, List.set_cons_zero, List.set_cons_succ])
      refine wpAnyH_ready (rs := [4]) (by kernel_rfl) (by simp) ?_
      refine' (AllReadyH.cons (i := 4) ?ho4x6 (fun K hK => ?st4x6) AllReadyH.nil)
      case ho4x6 => (simp only [List.getElem?_toArray, List.getElem?_cons_succ, List.getElem?_cons_zero]; try rfl)
      case st4x6 =>
        go_simp
        refine hK.out _ _ ?_ (fun hHeld => ?_)
        · trivial
        clear hK K
        (try simp only [Act.put, List.setIfInBounds_toArray, List.set_cons_zero, List.set_cons_succ])
        refine wpAnyH_done (by kernel_rfl) ?_ _
        refine NoPanic.normal ?_
        go_wp2_with fail
        cases c₀
        simp [bodyPostS, results, Tryz.results76]
  case st3x4 =>
    go_simp
    refine hK.out _ _ ?_ (fun hHeld => ?_)
    · trivial
    clear hK K
    (try simp only [Act.put, List.setIfInBounds_toArray, List.set_cons_zero, List.set_cons_succ])
    refine wpAnyH_ready (rs := [2]) (by kernel_rfl) (by simp) ?_
    refine' (AllReadyH.cons (i := 2) ?ho2x7 (fun K hK => ?st2x7) AllReadyH.nil)
    case ho2x7 => (simp only [List.getElem?_toArray, List.getElem?_cons_succ, List.getElem?_cons_zero]; try rfl)
    case st2x7 =>
      go_simp
      refine hK.out _ _ ?_ (fun hHeld => ?_)
      · trivial
      clear hK K
      (try simp only [Act.put, List.setIfInBounds_toArray, List.set_cons_zero, List.set_cons_succ])
      refine wpAnyH_ready (rs := [4]) (by kernel_rfl) (by simp) ?_
      refine' (AllReadyH.cons (i := 4) ?ho4x8 (fun K hK => ?st4x8) AllReadyH.nil)
      case ho4x8 => (simp only [List.getElem?_toArray, List.getElem?_cons_succ, List.getElem?_cons_zero]; try rfl)
      case st4x8 =>
        go_simp
        refine hK.out _ _ ?_ (fun hHeld => ?_)
        · trivial
        clear hK K
        (try simp only [Act.put, List.setIfInBounds_toArray, List.set_cons_zero, List.set_cons_succ])
        refine wpAnyH_done (by kernel_rfl) ?_ _
        refine NoPanic.normal ?_
        go_wp2_with fail
        cases c₀
        simp [bodyPostS, results, Tryz.results76]
theorem catch_idle (b1 b2 : Nat) (w : World) :
    CallsD Tryz.prog 76 #[.pointer (some ⟨b1, 0, none⟩), .pointer (some ⟨b2, 0, none⟩)] .returning w fun e u' w' => e = .returned (.tuple #[]) ∧ u' = .returning ∧ w' = w := by
  refine callsD_of_wpS Tryz.func76 rfl fun c₀ cs hu => ?_
  apply wpS_seq
  apply wpS_region
  simp [wpOpsS, go_sem, recoverD, hu, Tryz.ntmps76, Exit.thenS]
  refine wpS_of_wp ?_
  go_wp2
  cases c₀
  simp_all [bodyPostS, results, Tryz.results76]
theorem leaves_congr {P : Program} {fn : Func} {t t' : Array Value} {R : Ending → World → Prop} (h : results fn t = results fn t') : ∀ (ds : List Deferred) (u : FrameMode) (w : World), Leaves P fn t R ds u w → Leaves P fn t' R ds u w
  | [], u, w, hl => by
    cases u with
    | run => exact hl
    | returning => obtain ⟨v, hr, hR⟩ := hl; exact ⟨v, h ▸ hr, hR⟩
    | panicking c => exact hl
  | d :: ds, u, w, hl => by
    obtain ⟨hu, fv, cap, f, args, ht, hi, hc⟩ := hl
    refine ⟨hu, fv, cap, f, args, ht, hi, hc.mono fun e u' w' hh => ?_⟩
    cases e with
    | returned v => exact leaves_congr h ds _ _ hh
    | panicked c => exact leaves_congr h ds _ _ hh
    | outgrown => exact hh
theorem row_quiet {R : Ending → World → Prop} {c : List PanicEntry} {a : Act} {w : World} {d : Nat} {v : Value} (hd : 3 < d) (h : bodyPostD Tryz.prog Tryz.f46 R (.panic c) (a.put (some d) v) w) : bodyPostD Tryz.prog Tryz.f46 R (.panic c) a w := by
  refine leaves_congr ?_ a.defers _ _ h
  simp [results, Tryz.results46, Act.put]
  rw [Array.getElem?_setIfInBounds_ne (by omega), Array.getElem?_setIfInBounds_ne (by omega)]
/-- What row holds in a round: the data read so far, its two variables, the reader. -/
structure RowIn (W0 w0 : World) (l : List Dat) (M : List UInt8) (v : Value) (w : World) : Prop where
  row : HasV w w0.heap.size [v] 23
  err : HasV w (w0.heap.size + 1) [.int .u16 0] 28
  own : w.ownsRow (w0.heap.size + 2) 60 4 v l.length (l.flatMap cellsD)
  rd : RdS W0 w M
  stay : Stay W0.heap.size w0.heap.size w0 w
  size : w0.heap.size + 2 ≤ w.heap.size
theorem RowIn.drew {W0 w0 w : World} {l : List Dat} {M : List UInt8} {v : Value} (h : RowIn W0 w0 l M v w) : RowIn W0 w0 l M v w.drew :=
  ⟨h.row, h.err, h.own, h.rd.below (B := w.heap.size) (Below.refl _ _).drew h.rd.lt, h.stay.trans (Stay.of (Below.refl _ _).drew), h.size⟩
theorem own_form {B n k : Nat} {e : TypeId} {v : Value} {xs : List Value} {w : World} (h : w.ownsRow B e k v n xs) : ∃ A c, v = .slice A n c := by
  rcases h.2 with ⟨rfl, h0⟩ | ⟨g, cap, cur, rfl, _⟩
  · exact ⟨none, 0, by rw [h0]⟩
  · exact ⟨_, _, rfl⟩
def RelRow (W0 w0 : World) (L : List UInt8) (w : World) : Prop := ∃ l M v, decRow L = (rowS (32 - l.length) M).map (l ++ ·) ∧ l.length ≤ 32 ∧ M.length ≤ L.length ∧ RowIn W0 w0 l M v w
/-- What reading a row answers. -/
def rowOf (L : List UInt8) : List Dat := (decRow L).getD []
def errOf (L : List UInt8) : Int := if (decRow L).isSome then 0 else 20
theorem rowS_step {L M M' : List UInt8} {l : List Dat} {d : Dat} (h : decRow L = (rowS (32 - l.length) M).map (l ++ ·)) (hl : l.length < 32) (hd : datS M = some (d, M')) :
    decRow L = (rowS (32 - (l ++ [d]).length) M').map ((l ++ [d]) ++ ·) := by
  obtain ⟨b, M, rfl⟩ : ∃ b N, M = b :: N := by cases M with
    | nil => cases hd
    | cons b N => exact ⟨b, N, rfl⟩
  obtain ⟨n, hn⟩ : ∃ n, 32 - l.length = n + 1 := ⟨32 - l.length - 1, by omega⟩
  rw [h, hn, rowS, hd, List.length_append, List.length_singleton, show 32 - (l.length + 1) = n by omega]
  simp only [Option.map_map]
  congr 1
  funext x
  simp
theorem rowS_bad {L M : List UInt8} {l : List Dat} (h : decRow L = (rowS (32 - l.length) M).map (l ++ ·)) (hM : M ≠ []) (hd : l.length = 32 ∨ datS M = none) : decRow L = none := by
  obtain ⟨b, M, rfl⟩ : ∃ b N, M = b :: N := by cases M with
    | nil => exact absurd rfl hM
    | cons b N => exact ⟨b, N, rfl⟩
  rcases hd with hd | hd
  · rw [h, hd]; rfl
  · rw [h]
    cases 32 - l.length with
    | zero => rfl
    | succ n => rw [rowS, hd]; rfl
/-- 'r = append(r, d)' of a datum in the block that the statement has just laid. -/
theorem wp_datum {o : Oper} {a : Act} {K : Act → World → Prop} {Q : Exit → Act → World → Prop} (s x : Operand) (T : TypeId) (hT : Tryz.prog.underlying T = some (.slice 60))
    (ho : o.op = .call { callee := .builtin .append, args := #[s, x], argTypes := #[T, T] })
    (B : Nat) (v : Value) (l : List Dat) (w0 : World) (d : Dat) (cs : Array Value) (hcs : cs = (cellsD d).toArray) (hown : w0.ownsRow B 60 4 v l.length (l.flatMap cellsD)) (hs : a.eval s = v)
    (hx : a.eval x = .slice (some ⟨w0.heap.size, 0, none⟩) 1 1) (hlen : l.length ≤ 1099511627775) (hB : B ≤ w0.heap.size)
    (h : ∀ v' w', w'.ownsRow B 60 4 v' (l ++ [d]).length ((l ++ [d]).flatMap cellsD) → w0.grownBy w' v.ownBlock → K (a.put o.dst v') w') : o.wp Tryz.prog a (w0.alloc (.cells cs 60)) K Q := by
  subst hcs
  obtain ⟨i, hi, hz, hsz, hby⟩ := info_datum
  refine wp_append_own _ s x T ho B 60 i _ 4 i.bytes hT hi hz hsz rfl rfl (by decide) v l.length (l.flatMap cellsD) hs (hown.alloc _) ⟨w0.heap.size, 0, none⟩ 1 1 (cellsD d) hx rfl ?_ ?_ (by unfold maxLen; omega) ?_ (by rw [World.size_alloc]; omega) ?_
  · intro j u hj
    have := cell_new w0 (cellsD d).toArray 60 j
    rw [show (⟨w0.heap.size, 0, none⟩ : Addr).add j = ⟨w0.heap.size, j, none⟩ by unfold Addr.add; split <;> simp_all]
    rw [this]
    simpa using hj
  · have := cells_one [d]
    simpa using this
  · have := Nat.mul_le_mul (show l.length + 1 ≤ 1099511627776 by omega) hby
    omega
  · intro v' w' ho' hg _
    refine h v' w' ?_ (grown_trans (World.grownBy_alloc _ _ _) hg)
    rw [List.length_append, List.flatMap_append]
    simpa using ho'
theorem row_below {e : TypeId} {k B n : Nat} {v : Value} {xs : List Value} {w w' : World} (h : w.ownsRow B e k v n xs) (hb : Below w.heap.size w w') : w'.ownsRow B e k v n xs := by
  refine ⟨h.1, ?_⟩
  rcases h.2 with h1 | ⟨g, cap, cur, rfl, h1, h2, h3⟩
  · exact .inl h1
  · exact .inr ⟨g, cap, cur, rfl, h1, (hb.block g (Array.getElem?_eq_some_iff.1 h2).1).trans h2, h3⟩
theorem RowIn.below {W0 w0 w w' : World} {l : List Dat} {M : List UInt8} {v : Value} (h : RowIn W0 w0 l M v w) (hb : Below w.heap.size w w') (hg : W0.heap.size < w0.heap.size) : RowIn W0 w0 l M v w' := by
  have := h.size
  exact ⟨h.row.below hb (by omega), h.err.below hb (by omega), row_below h.own hb, h.rd.below hb (by omega), h.stay.trans (Stay.of (hb.mono (by omega))), Nat.le_trans h.size hb.size⟩
/-- Behind the append and its store. -/
theorem RowIn.put {W0 w0 w w' : World} {l m : List Dat} {M : List UInt8} {v v' : Value} (h : RowIn W0 w0 l M v w) (hg : w.grownBy w' v.ownBlock) (ho : w'.ownsRow (w0.heap.size + 2) 60 4 v' m.length (m.flatMap cellsD)) (hlt : W0.heap.size < w0.heap.size) :
    RowIn W0 w0 m M v' (w'.setCell ⟨w0.heap.size, 0, none⟩ v') := by
  have hb : Below (w0.heap.size + 2) w w' := (Below.refl _ _).grown hg h.size (fun j hj => (own_lt h.own j hj).1)
  have h1 := (h.row.below hb (by omega)).set 0 v'
  have h2 := h.err.below hb (by omega)
  have hs := Below.setCell (Below.refl w0.heap.size w') (p := ⟨w0.heap.size, 0, none⟩) (Nat.le_refl _) v'
  refine ⟨h1, ?_, ownsRow_setCell_below ho (a := ⟨w0.heap.size, 0, none⟩) (by show w0.heap.size < _; omega) v', ?_, (h.stay.trans (Stay.of (hb.mono (by omega)))).own (Nat.le_refl _) 0 v', ?_⟩
  · unfold HasV at h2 ⊢
    rw [Below.heap_setCell _ _ _ _ (by show w0.heap.size + 1 ≠ w0.heap.size; omega)]
    exact h2
  · exact (h.rd.below hb (by omega)).set hlt 0 v'
  · have := hg.size
    have := h.size
    simp [World.setCell]
    omega
theorem intS_len {M : List UInt8} {x : Int × List UInt8} (h : intS M = some x) : x.2.length ≤ M.length := by
  unfold intS at h
  split at h
  · cases h
  · cases h; simp
theorem rawS_len {b : UInt8} {M M' : List UInt8} {d : Dat} (h : rawS b M = some (d, M')) : M'.length ≤ M.length := by
  unfold rawS at h
  split at h
  · cases h; exact Nat.le_refl _
  split at h
  · cases h; exact Nat.le_refl _
  split at h
  · cases h; exact Nat.le_refl _
  split at h
  · cases hx : intS M with
    | none => rw [hx] at h; cases h
    | some x => rw [hx] at h; cases h; exact intS_len hx
  split at h
  · cases hx : textS M with
    | none => rw [hx] at h; cases h
    | some x => rw [hx] at h; cases h; have := textS_len M x hx; omega
  · cases h
theorem datS_len : ∀ (M M' : List UInt8) {d : Dat}, datS M = some (d, M') → M'.length < M.length
  | [], M', d, h => by cases h
  | b :: M, M', d, h => by
    rw [datS] at h
    cases hr : rawS b M with
    | none => rw [hr] at h; cases h
    | some x =>
      rw [hr] at h
      obtain ⟨d', r⟩ := x
      simp only at h
      split at h
      · cases h
        have := rawS_len hr
        rw [List.length_cons]; omega
      · cases h
/-- What row promises. -/
abbrev RowR (W0 w : World) (L : List UInt8) (e : Ending) (w' : World) : Prop :=
  ∃ v, e = .returned (.tuple #[v, .int .u16 (errOf L)]) ∧ Stay W0.heap.size w.heap.size w w' ∧ w'.ownsRow w.heap.size 60 4 v (rowOf L).length ((rowOf L).flatMap cellsD)
theorem door_bad (W0 w wr : World) (L : List UInt8) (t : Array Value) (x y : Value) (h1 : HasV wr w.heap.size [x] 23) (h2 : HasV wr (w.heap.size + 1) [y] 28) (hs : Stay W0.heap.size w.heap.size w wr)
    (hno : decRow L = none) (t2 : t[2]? = some (.pointer (some ⟨w.heap.size, 0, none⟩))) (t3 : t[3]? = some (.pointer (some ⟨w.heap.size + 1, 0, none⟩))) :
    bodyPostD Tryz.prog Tryz.f46 (RowR W0 w L) (.panic mal) { tmps := t, defers := [{ target := .fn (.func 76) #[.pointer (some ⟨w.heap.size, 0, none⟩), .pointer (some ⟨w.heap.size + 1, 0, none⟩)], args := #[] }] } wr := by
  refine leaves_cons (f := 76) (args := #[.pointer (some ⟨w.heap.size, 0, none⟩), .pointer (some ⟨w.heap.size + 1, 0, none⟩)]) (by simp) (by simp [go_sem]) ?_
  refine (catch_panic w.heap.size (w.heap.size + 1) [] wr ⟨_, h1⟩ ⟨_, h2⟩ (by omega)).mono ?_
  rintro e u' w3 ⟨rfl, rfl, rfl⟩
  have r0_ := h1.cell 0 rfl
  have e0_ := h2.cell 0 rfl
  have hst := Lib.hid (show Stay W0.heap.size w.heap.size w _ from ((hs.own (Nat.le_refl _) 0 (.slice none 0 0)).own (Nat.le_succ _) 0 (.int .u16 20)).trans (Stay.of (Below.refl _ _).drew))
  have he : errOf L = 20 := by simp [errOf, hno]
  have hr : rowOf L = [] := by simp [rowOf, hno]
  clear h1 h2 hs
  refine ⟨.tuple #[.slice none 0 0, .int .u16 20], ?_, _, by rw [he], hst.out, by rw [hr]; exact World.ownsRow_nil _ _ _ _⟩
  simp [results, Tryz.results46, go_sem, t2, t3, r0_, e0_]
theorem door_good (W0 w wr : World) (L : List UInt8) (t : Array Value) (l : List Dat) (v : Value) (h1 : RowIn W0 w l [] v wr) (hdec : decRow L = some l)
    (t2 : t[2]? = some (.pointer (some ⟨w.heap.size, 0, none⟩))) (t3 : t[3]? = some (.pointer (some ⟨w.heap.size + 1, 0, none⟩))) :
    bodyPostD Tryz.prog Tryz.f46 (RowR W0 w L) .ret { tmps := t, defers := [{ target := .fn (.func 76) #[.pointer (some ⟨w.heap.size, 0, none⟩), .pointer (some ⟨w.heap.size + 1, 0, none⟩)], args := #[] }] } ((wr.setCell ⟨w.heap.size, 0, none⟩ v).setCell ⟨w.heap.size + 1, 0, none⟩ (.int .u16 0)) := by
  refine leaves_cons (f := 76) (args := #[.pointer (some ⟨w.heap.size, 0, none⟩), .pointer (some ⟨w.heap.size + 1, 0, none⟩)]) (by simp) (by simp [go_sem]) ?_
  refine (catch_idle w.heap.size (w.heap.size + 1) _).mono ?_
  rintro e u' w3 ⟨rfl, rfl, rfl⟩
  have r0_ := h1.row.cell 0 rfl
  have e0_ := h1.err.cell 0 rfl
  have hst := Lib.hid (show Stay W0.heap.size w.heap.size w _ from (h1.stay.own (Nat.le_refl _) 0 v).own (Nat.le_succ _) 0 (.int .u16 0))
  have hown := Lib.hid (ownsRow_setCell_below (ownsRow_setCell_below h1.own (a := ⟨w.heap.size, 0, none⟩) (by show w.heap.size < _; omega) v) (a := ⟨w.heap.size + 1, 0, none⟩) (by show w.heap.size + 1 < _; omega) (.int .u16 0))
  have he : errOf L = 0 := by simp [errOf, hdec]
  have hr : rowOf L = l := by simp [rowOf, hdec]
  have hvs : ∃ A c, v = .slice A l.length c := own_form h1.own
  clear h1
  obtain ⟨A, c, rfl⟩ := hvs
  refine ⟨.tuple #[.slice A l.length c, .int .u16 0], ?_, _, by rw [he], hst.out, by rw [hr]; exact ownsRow_low hown.out (by omega)⟩
  simp [results, Tryz.results46, go_sem, t2, t3, r0_, e0_]
set_option maxHeartbeats 8000000 in
set_option maxRecDepth 100000 in
theorem row_any (W0 w : World) (L : List UInt8) (h : RdS W0 w L) (hT : Tab8 W0) (hl : L.length ≤ 1099511627776) :
    Calls Tryz.prog 46 #[readerP W0] w (RowR W0 w L) := by
  have hH := Lib.hid h; have hTH := Lib.hid hT
  have hlt := h.lt
  clear h hT
  have hmf : ∀ (fn : Fn) (first cap : Array Value) (w : World), (Instr.makeFunc fn first cap).run Tryz.prog w = .ok (.func fn first cap) w := fun _ _ _ _ => rfl
  obtain ⟨w2, hw2⟩ : ∃ w2, (w.alloc (.cells #[.slice none 0 0] 23)).alloc (.cells #[.int .u16 0] 28) = w2 := ⟨_, rfl⟩
  have hb2 := Lib.hid (show Below w.heap.size w w2 from hw2 ▸ (by go_grown))
  have hs2 : w2.heap.size = w.heap.size + 2 := by rw [← hw2]; simp
  have hin := Lib.hid (show RowIn W0 w [] L (.slice none 0 0) w2 from ⟨hw2 ▸ (HasV.new w [.slice none 0 0] 23).below (B := w.heap.size + 1) (by go_grown) (by omega), hw2 ▸ (by have := HasV.new (w.alloc (.cells #[.slice none 0 0] 23)) [.int .u16 0] 28; simpa only [World.size_alloc] using this), World.ownsRow_nil _ _ _ _, hH.out.below hb2.out hlt, Stay.of hb2.out, by omega⟩)
  go_enter_defers Tryz.func46, Tryz.ntmps46
  go_wp2_with fail
  go_loopw [5] (fun s5 wr => RelRow W0 w L wr) (fun _ wr => rdN W0 wr)
  case atStart => exact ⟨[], L, _, by rw [show (32 - ([] : List Dat).length) = 32 from rfl]; unfold decRow; cases rowS 32 L <;> rfl, by simp, Nat.le_refl _, hin.out⟩
  case round =>
    unfold RelRow at hrel
    obtain ⟨l, M, v, hdec, h32, hML, hi⟩ := hrel
    obtain ⟨A0, c0, rfl⟩ := own_form hi.own
    have hiH := Lib.hid hi; have hdH := Lib.hid hdec
    obtain ⟨Ar, cr, hv, hby, hbl⟩ := hi.rd
    have g0_ := hv.cell 0 rfl
    have r0_ := hi.row.cell 0 rfl
    have hn := Lib.hid hi.rd.n
    clear hi hdec hv hby hbl
    cases M with
    | nil =>
      have e0_ := hiH.out.err.cell 0 rfl
      have rf_ := hiH.out.row.free 0; have ef_ := hiH.out.err.free 0
      go_wp2_with fail
      exact door_good W0 w wr L _ l _ hiH.out (by rw [hdH.out]; cases 32 - l.length <;> simp [rowS]) rfl rfl
    | cons b M =>
      have hMz : ((M.length : Int) + 1 > 0) := by omega
      by_cases h31 : l.length = 32
      · have hno := Lib.hid (rowS_bad hdH.out (by simp) (.inl h31))
        go_wp2_with fail
        refine (must_no _ _).mono ?_
        rintro e w3 ⟨rfl, rfl⟩
        go_wp2_with fail
        exact door_bad W0 w w3 L _ _ _ hiH.out.row hiH.out.err hiH.out.stay hno.out rfl rfl
      · have h31i : (l.length : Int) < 32 := by omega
        have h31H := Lib.hid (show l.length < 32 by omega)
        clear h31
        go_wp2_with fail
        refine (must_yes _ _).mono ?_
        rintro e w3 ⟨rfl, rfl⟩
        go_wp2_with fail
        refine wp_region_held_drew (S := (fun w' => True)) (by kernel_rfl) (trivial) (fun hHeld => ?_)
        refine' wpAnyH_take (i := 1) (v := ?v1x9) ?hi1x9 ?hs1x9 ?hf1x9 ?hr1x9 ?hQ1x9 ?hy1x9 ?hS1x9 ?rest1x9
        case hi1x9 => (simp only [List.getElem?_toArray, List.getElem?_cons_succ, List.getElem?_cons_zero]; try rfl)
        case hs1x9 => kernel_rfl
        case hf1x9 => kernel_rfl
        case hr1x9 => kernel_rfl
        case hQ1x9 => exact fun c a w h => row_quiet (by decide) h
        case hy1x9 => first | exact Or.inl ⟨by rfl, by (intro w hSw; (try dsimp only at hSw); go_simp; try rfl)⟩ | exact Or.inr ⟨by rfl, rfl⟩
        case hS1x9 => assumption
        (try simp only [Act.put, List.setIfInBounds_toArray, List.set_cons_zero, List.set_cons_succ])
        refine wpAnyH_ready (rs := [0, 2]) (by kernel_rfl) (by simp) ?_
        refine' (AllReadyH.cons (i := 0) ?ho0x10 (fun K hK => ?st0x10) (AllReadyH.cons (i := 2) ?ho2x11 (fun K hK => ?st2x11) AllReadyH.nil))
        case ho0x10 => (simp only [List.getElem?_toArray, List.getElem?_cons_succ, List.getElem?_cons_zero]; try rfl)
        case ho2x11 => (simp only [List.getElem?_toArray, List.getElem?_cons_succ, List.getElem?_cons_zero]; try rfl)
        case st0x10 =>
          go_simp
          refine hK.out _ _ ?_ (fun hHeld => ?_)
          · trivial
          clear hK K
          (try simp only [Act.put, List.setIfInBounds_toArray, List.set_cons_zero, List.set_cons_succ])
          refine wpAnyH_ready (rs := [2]) (by kernel_rfl) (by simp) ?_
          refine' (AllReadyH.cons (i := 2) ?ho2x12 (fun K hK => ?st2x12) AllReadyH.nil)
          case ho2x12 => (simp only [List.getElem?_toArray, List.getElem?_cons_succ, List.getElem?_cons_zero]; try rfl)
          case st2x12 =>
            go_simp
            refine (rdDatum_any W0 _ (b :: M) (hiH.out.drew).rd hTH.out (by omega)).mono ?_
            rintro e w4 ⟨hs, hcase⟩
            have row4 := Lib.hid ((hiH.out.drew).row.stay hs (by omega))
            have err4 := Lib.hid ((hiH.out.drew).err.stay hs (by omega))
            have own4 := Lib.hid (hs.row (hiH.out.drew).own (by omega))
            have stay4 := Lib.hid ((hiH.out.drew).stay.trans (hs.mono (by have := (hiH.out.drew).size; omega)))
            have size4 := Lib.hid (Nat.le_trans (hiH.out.drew).size hs.size)
            clear hs
            rcases hcase with ⟨hnone, rfl⟩ | ⟨d, M', hsome, rfl, hrd'⟩
            · have hno := Lib.hid (rowS_bad hdH.out (by simp) (.inr hnone))
              clear hnone
              go_wp2_with fail
              exact door_bad W0 w w4 L _ _ _ row4.out err4.out stay4.out hno.out rfl rfl
            have hi4 := Lib.hid (show RowIn W0 w l M' (.slice A0 l.length c0) w4 from ⟨row4.out, err4.out, own4.out, hrd', stay4.out, size4.out⟩)
            have hdec4 := Lib.hid (rowS_step hdH.out h31H.out hsome)
            have hM4 := Lib.hid (datS_len _ _ hsome)
            clear row4 err4 own4 stay4 size4 hsome hrd' r0_ g0_
            have r4_ := hi4.out.row.cell 0 rfl
            obtain ⟨k, bb, n, s⟩ := d
            simp only [valDat]
            refine hK.out _ _ ?_ (fun hHeld => ?_)
            · trivial
            clear hK K
            (try simp only [Act.put, List.setIfInBounds_toArray, List.set_cons_zero, List.set_cons_succ])
            refine wpAnyH_ready (rs := [3]) (by kernel_rfl) (by simp) ?_
            refine' (AllReadyH.cons (i := 3) ?ho3x13 (fun K hK => ?st3x13) AllReadyH.nil)
            case ho3x13 => (simp only [List.getElem?_toArray, List.getElem?_cons_succ, List.getElem?_cons_zero]; try rfl)
            case st3x13 =>
              go_simp
              refine hK.out _ _ ?_ (fun hHeld => ?_)
              · trivial
              clear hK K
              (try simp only [Act.put, List.setIfInBounds_toArray, List.set_cons_zero, List.set_cons_succ])
              have hi5 := Lib.hid (hi4.out.below ((Below.refl _ _).alloc (Nat.le_refl _) (.cells #[.int .u8 k, .bool bb, .int .i64 n, .string s] 60)) hlt)
              have r5_ := hi5.out.row.cell 0 rfl
              refine wpAnyH_ready (rs := [4]) (by kernel_rfl) (by simp) ?_
              refine' (AllReadyH.cons (i := 4) ?ho4x14 (fun K hK => ?st4x14) AllReadyH.nil)
              case ho4x14 => (simp only [List.getElem?_toArray, List.getElem?_cons_succ, List.getElem?_cons_zero]; try rfl)
              case st4x14 =>
                refine wp_datum _ _ 23 Tryz.underlying23 (by rfl) (w.heap.size + 2) _ l w4 ⟨k, bb, n, s⟩ _ (by rfl) hi4.out.own (by rfl) (by rfl) (by omega) hi4.out.size ?_
                intro v6 w6 ho6 hg6
                have hi6 := Lib.hid (hi4.out.put hg6 ho6 hlt)
                have hs6 := Lib.hid (show ∃ x, HasV w6 w.heap.size [x] 23 from ⟨_, hi4.out.row.below ((Below.refl _ _).grown hg6 hi4.out.size (fun j hj => (own_lt hi4.out.own j hj).1)) (by omega)⟩)
                obtain ⟨x6, hx6⟩ := hs6.out
                have q0_ := hx6.cell 0 rfl; have q1_ := hx6.free 0
                obtain ⟨A6, c6, rfl⟩ := own_form ho6
                clear ho6 hg6 hx6 r4_ r5_
                refine hK.out _ _ ?_ (fun hHeld => ?_)
                · trivial
                clear hK K
                (try simp only [Act.put, List.setIfInBounds_toArray, List.set_cons_zero, List.set_cons_succ])
                refine wpAnyH_ready (rs := [5]) (by kernel_rfl) (by simp) ?_
                refine' (AllReadyH.cons (i := 5) ?ho5x15 (fun K hK => ?st5x15) AllReadyH.nil)
                case ho5x15 => (simp only [List.getElem?_toArray, List.getElem?_cons_succ, List.getElem?_cons_zero]; try rfl)
                case st5x15 =>
                  go_simp
                  refine hK.out _ _ ?_ (fun hHeld => ?_)
                  · trivial
                  clear hK K
                  (try simp only [Act.put, List.setIfInBounds_toArray, List.set_cons_zero, List.set_cons_succ])
                  refine wpAnyH_done (by kernel_rfl) ?_ _
                  go_wp2_with fail
                  have hi7 := hi6.out
                  simp only [List.length_append, List.length_singleton] at hi7
                  exact ⟨⟨_, M', _, hdec4.out, by rw [List.length_append, List.length_singleton]; exact h31H.out, by have := hM4.out; simp only [List.length_cons] at this hML; omega, hi7⟩, by rw [hi7.rd.n, hn.out]; exact hM4.out⟩
        case st2x11 =>
          go_simp
          refine (rdDatum_any W0 _ (b :: M) (hiH.out.drew).rd hTH.out (by omega)).mono ?_
          rintro e w4 ⟨hs, hcase⟩
          have row4 := Lib.hid ((hiH.out.drew).row.stay hs (by omega))
          have err4 := Lib.hid ((hiH.out.drew).err.stay hs (by omega))
          have own4 := Lib.hid (hs.row (hiH.out.drew).own (by omega))
          have stay4 := Lib.hid ((hiH.out.drew).stay.trans (hs.mono (by have := (hiH.out.drew).size; omega)))
          have size4 := Lib.hid (Nat.le_trans (hiH.out.drew).size hs.size)
          clear hs
          rcases hcase with ⟨hnone, rfl⟩ | ⟨d, M', hsome, rfl, hrd'⟩
          · have hno := Lib.hid (rowS_bad hdH.out (by simp) (.inr hnone))
            clear hnone
            go_wp2_with fail
            exact door_bad W0 w w4 L _ _ _ row4.out err4.out stay4.out hno.out rfl rfl
          have hi4 := Lib.hid (show RowIn W0 w l M' (.slice A0 l.length c0) w4 from ⟨row4.out, err4.out, own4.out, hrd', stay4.out, size4.out⟩)
          have hdec4 := Lib.hid (rowS_step hdH.out h31H.out hsome)
          have hM4 := Lib.hid (datS_len _ _ hsome)
          clear row4 err4 own4 stay4 size4 hsome hrd' r0_ g0_
          have r4_ := hi4.out.row.cell 0 rfl
          obtain ⟨k, bb, n, s⟩ := d
          simp only [valDat]
          refine hK.out _ _ ?_ (fun hHeld => ?_)
          · trivial
          clear hK K
          (try simp only [Act.put, List.setIfInBounds_toArray, List.set_cons_zero, List.set_cons_succ])
          refine wpAnyH_ready (rs := [0, 3]) (by kernel_rfl) (by simp) ?_
          refine' (AllReadyH.cons (i := 0) ?ho0x16 (fun K hK => ?st0x16) (AllReadyH.cons (i := 3) ?ho3x17 (fun K hK => ?st3x17) AllReadyH.nil))
          case ho0x16 => (simp only [List.getElem?_toArray, List.getElem?_cons_succ, List.getElem?_cons_zero]; try rfl)
          case ho3x17 => (simp only [List.getElem?_toArray, List.getElem?_cons_succ, List.getElem?_cons_zero]; try rfl)
          case st0x16 =>
            go_simp
            refine hK.out _ _ ?_ (fun hHeld => ?_)
            · trivial
            clear hK K
            (try simp only [Act.put, List.setIfInBounds_toArray, List.set_cons_zero, List.set_cons_succ])
            refine wpAnyH_ready (rs := [3]) (by kernel_rfl) (by simp) ?_
            refine' (AllReadyH.cons (i := 3) ?ho3x18 (fun K hK => ?st3x18) AllReadyH.nil)
            case ho3x18 => (simp only [List.getElem?_toArray, List.getElem?_cons_succ, List.getElem?_cons_zero]; try rfl)
            case st3x18 =>
              go_simp
              refine hK.out _ _ ?_ (fun hHeld => ?_)
              · trivial
              clear hK K
              (try simp only [Act.put, List.setIfInBounds_toArray, List.set_cons_zero, List.set_cons_succ])
              have hi5 := Lib.hid (hi4.out.below ((Below.refl _ _).alloc (Nat.le_refl _) (.cells #[.int .u8 k, .bool bb, .int .i64 n, .string s] 60)) hlt)
              have r5_ := hi5.out.row.cell 0 rfl
              refine wpAnyH_ready (rs := [4]) (by kernel_rfl) (by simp) ?_
              refine' (AllReadyH.cons (i := 4) ?ho4x19 (fun K hK => ?st4x19) AllReadyH.nil)
              case ho4x19 => (simp only [List.getElem?_toArray, List.getElem?_cons_succ, List.getElem?_cons_zero]; try rfl)
              case st4x19 =>
                refine wp_datum _ _ 23 Tryz.underlying23 (by rfl) (w.heap.size + 2) _ l w4 ⟨k, bb, n, s⟩ _ (by rfl) hi4.out.own (by rfl) (by rfl) (by omega) hi4.out.size ?_
                intro v6 w6 ho6 hg6
                have hi6 := Lib.hid (hi4.out.put hg6 ho6 hlt)
                have hs6 := Lib.hid (show ∃ x, HasV w6 w.heap.size [x] 23 from ⟨_, hi4.out.row.below ((Below.refl _ _).grown hg6 hi4.out.size (fun j hj => (own_lt hi4.out.own j hj).1)) (by omega)⟩)
                obtain ⟨x6, hx6⟩ := hs6.out
                have q0_ := hx6.cell 0 rfl; have q1_ := hx6.free 0
                obtain ⟨A6, c6, rfl⟩ := own_form ho6
                clear ho6 hg6 hx6 r4_ r5_
                refine hK.out _ _ ?_ (fun hHeld => ?_)
                · trivial
                clear hK K
                (try simp only [Act.put, List.setIfInBounds_toArray, List.set_cons_zero, List.set_cons_succ])
                refine wpAnyH_ready (rs := [5]) (by kernel_rfl) (by simp) ?_
                refine' (AllReadyH.cons (i := 5) ?ho5x20 (fun K hK => ?st5x20) AllReadyH.nil)
                case ho5x20 => (simp only [List.getElem?_toArray, List.getElem?_cons_succ, List.getElem?_cons_zero]; try rfl)
                case st5x20 =>
                  go_simp
                  refine hK.out _ _ ?_ (fun hHeld => ?_)
                  · trivial
                  clear hK K
                  (try simp only [Act.put, List.setIfInBounds_toArray, List.set_cons_zero, List.set_cons_succ])
                  refine wpAnyH_done (by kernel_rfl) ?_ _
                  go_wp2_with fail
                  have hi7 := hi6.out
                  simp only [List.length_append, List.length_singleton] at hi7
                  exact ⟨⟨_, M', _, hdec4.out, by rw [List.length_append, List.length_singleton]; exact h31H.out, by have := hM4.out; simp only [List.length_cons] at this hML; omega, hi7⟩, by rw [hi7.rd.n, hn.out]; exact hM4.out⟩
          case st3x17 =>
            go_simp
            refine hK.out _ _ ?_ (fun hHeld => ?_)
            · trivial
            clear hK K
            (try simp only [Act.put, List.setIfInBounds_toArray, List.set_cons_zero, List.set_cons_succ])
            have hi5 := Lib.hid (hi4.out.below ((Below.refl _ _).alloc (Nat.le_refl _) (.cells #[.int .u8 k, .bool bb, .int .i64 n, .string s] 60)) hlt)
            have r5_ := hi5.out.row.cell 0 rfl
            refine wpAnyH_ready (rs := [0]) (by kernel_rfl) (by simp) ?_
            refine' (AllReadyH.cons (i := 0) ?ho0x21 (fun K hK => ?st0x21) AllReadyH.nil)
            case ho0x21 => (simp only [List.getElem?_toArray, List.getElem?_cons_succ, List.getElem?_cons_zero]; try rfl)
            case st0x21 =>
              go_simp
              refine hK.out _ _ ?_ (fun hHeld => ?_)
              · trivial
              clear hK K
              (try simp only [Act.put, List.setIfInBounds_toArray, List.set_cons_zero, List.set_cons_succ])
              refine wpAnyH_ready (rs := [4]) (by kernel_rfl) (by simp) ?_
              refine' (AllReadyH.cons (i := 4) ?ho4x22 (fun K hK => ?st4x22) AllReadyH.nil)
              case ho4x22 => (simp only [List.getElem?_toArray, List.getElem?_cons_succ, List.getElem?_cons_zero]; try rfl)
              case st4x22 =>
                refine wp_datum _ _ 23 Tryz.underlying23 (by rfl) (w.heap.size + 2) _ l w4 ⟨k, bb, n, s⟩ _ (by rfl) hi4.out.own (by rfl) (by rfl) (by omega) hi4.out.size ?_
                intro v6 w6 ho6 hg6
                have hi6 := Lib.hid (hi4.out.put hg6 ho6 hlt)
                have hs6 := Lib.hid (show ∃ x, HasV w6 w.heap.size [x] 23 from ⟨_, hi4.out.row.below ((Below.refl _ _).grown hg6 hi4.out.size (fun j hj => (own_lt hi4.out.own j hj).1)) (by omega)⟩)
                obtain ⟨x6, hx6⟩ := hs6.out
                have q0_ := hx6.cell 0 rfl; have q1_ := hx6.free 0
                obtain ⟨A6, c6, rfl⟩ := own_form ho6
                clear ho6 hg6 hx6 r4_ r5_
                refine hK.out _ _ ?_ (fun hHeld => ?_)
                · trivial
                clear hK K
                (try simp only [Act.put, List.setIfInBounds_toArray, List.set_cons_zero, List.set_cons_succ])
                refine wpAnyH_ready (rs := [5]) (by kernel_rfl) (by simp) ?_
                refine' (AllReadyH.cons (i := 5) ?ho5x23 (fun K hK => ?st5x23) AllReadyH.nil)
                case ho5x23 => (simp only [List.getElem?_toArray, List.getElem?_cons_succ, List.getElem?_cons_zero]; try rfl)
                case st5x23 =>
                  go_simp
                  refine hK.out _ _ ?_ (fun hHeld => ?_)
                  · trivial
                  clear hK K
                  (try simp only [Act.put, List.setIfInBounds_toArray, List.set_cons_zero, List.set_cons_succ])
                  refine wpAnyH_done (by kernel_rfl) ?_ _
                  go_wp2_with fail
                  have hi7 := hi6.out
                  simp only [List.length_append, List.length_singleton] at hi7
                  exact ⟨⟨_, M', _, hdec4.out, by rw [List.length_append, List.length_singleton]; exact h31H.out, by have := hM4.out; simp only [List.length_cons] at this hML; omega, hi7⟩, by rw [hi7.rd.n, hn.out]; exact hM4.out⟩
open Go.RowKit Go.Lib

set_option maxHeartbeats 2000000 in
theorem decode_any (v : Value) (L : List UInt8) (w : World) (h : BytsV w v L) (hT : Tab8 w) (hl : L.length ≤ 1099511627776) :
    Calls Tryz.prog 26 #[v] w fun e w' => ∃ v', e = .returned (.tuple #[v', .int .u16 (errOf L)]) ∧ Below w.heap.size w w' ∧ w'.ownsRow w.heap.size 60 4 v' (rowOf L).length ((rowOf L).flatMap cellsD) := by
  obtain ⟨A, c, rfl, _⟩ := h.form
  have hTH := Lib.hid hT
  have hrd := Lib.hid (show RdS w (w.alloc (.cells #[.slice A L.length c] 85)) L from ⟨A, c, HasV.new w [.slice A L.length c] 85, h, by go_grown⟩)
  clear h hT
  go_enter Tryz.func26, Tryz.ntmps26
  go_wp2_with fail
  refine (row_any w _ L hrd.out hTH.out hl).mono ?_
  rintro e w2 ⟨v', rfl, hs, ho⟩
  have hb := Lib.hid (hs.mono (B' := w.heap.size + 1) (by simp))
  obtain ⟨A2, c2, rfl⟩ := own_form ho
  have hoH := Lib.hid ho
  clear hs ho
  go_wp2_with fail
  refine bodyPost_ret (v := .tuple #[.slice A2 (rowOf L).length c2, .int .u16 (errOf L)]) (by simp [results, Tryz.results26, go_sem]) rfl ?_
  refine ⟨_, rfl, ?_, ownsRow_low hoH.out (by simp)⟩
  have h1 := hb.out.low (Nat.le_succ _)
  exact (show Below w.heap.size w _ by go_grown).trans h1
end Go.Proofs.YtpmfbmigdpmloaaGreatDoor
end
section
/-
  Bytes that are the same: SameBytes, at this program. Conditions: those written.
-/
set_option linter.unusedVariables false
set_option linter.unusedSimpArgs false
namespace Go.Proofs.YtpmfbmigdpmloaaGreatDoor
open Go.RowKit Go.Lib Go.Proofs

def RelSb (x : List UInt8) (w0 : World) (s5 : Value) (wr : World) : Prop := ∃ p : Nat, p ≤ x.length ∧ s5 = .int .i64 (p : Int) ∧ Below w0.heap.size w0 wr
set_option maxHeartbeats 4000000 in
set_option maxRecDepth 1000000 in
theorem sameBytes_any (va vb : Value) (x : List UInt8) (w : World) (ha : BytsV w va x) (hb : BytsV w vb x) :
    Calls Tryz.prog 20 #[va, vb] w fun e w' => e = .returned (.bool true) ∧ Below w.heap.size w w' := by
  obtain ⟨A, ca, rfl, hla⟩ := ha.form
  obtain ⟨B, cb, rfl, hlb⟩ := hb.form
  have haH := Lib.hid ha; have hbH := Lib.hid hb
  clear ha hb
  go_enter Tryz.func20, Tryz.ntmps20
  go_wp2_with fail
  go_loopw [5] (fun s5 wr => RelSb x w s5 wr) (fun s5 _ => x.length - (Go.RowKit.intOf s5).toNat)
  case atStart => exact ⟨0, by omega, rfl, Below.refl _ _⟩
  case round =>
    unfold RelSb at hrel
    obtain ⟨p, hp, rfl, hbw⟩ := hrel
    have hbwH := Lib.hid hbw
    clear hbw
    by_cases hlt : p < x.length
    · obtain ⟨a, ha⟩ : ∃ a, x[p]? = some a := ⟨_, List.getElem?_eq_getElem hlt⟩
      obtain ⟨ad, rfl, hba, a0_⟩ := (haH.out.below hbwH.out).at ha
      obtain ⟨bd, rfl, hbb, b0_⟩ := (hbH.out.below hbwH.out).at ha
      clear ha
      go_wp2_with fail
      refine wp_region_noPanic ?_
      refine wp_region_held_drew (S := (fun w' => w'.cell? (ad.add p) = some (.int .u8 a.toNat) ∧ w'.cell? (bd.add p) = some (.int .u8 a.toNat))) (by kernel_rfl) (⟨a0_, b0_⟩) (fun hHeld => ?_)
      refine' wpAnyH_take (i := 0) (v := ?v0x1) ?hi0x1 ?hs0x1 ?hf0x1 ?hr0x1 ?hQ0x1 ?hy0x1 ?hS0x1 ?rest0x1
      case hi0x1 => (simp only [List.getElem?_toArray, List.getElem?_cons_succ, List.getElem?_cons_zero]; try rfl)
      case hs0x1 => kernel_rfl
      case hf0x1 => kernel_rfl
      case hr0x1 => kernel_rfl
      case hQ0x1 => exact fun _ _ _ h => h
      case hy0x1 => first | exact Or.inl ⟨by rfl, by (intro w hSw; (try dsimp only at hSw); go_simp; try rfl)⟩ | exact Or.inr ⟨by rfl, rfl⟩
      case hS0x1 => assumption
      (try simp only [Act.put, List.setIfInBounds_toArray, List.set_cons_zero, List.set_cons_succ])
      refine' wpAnyH_take (i := 1) (v := ?v1x2) ?hi1x2 ?hs1x2 ?hf1x2 ?hr1x2 ?hQ1x2 ?hy1x2 ?hS1x2 ?rest1x2
      case hi1x2 => (simp only [List.getElem?_toArray, List.getElem?_cons_succ, List.getElem?_cons_zero]; try rfl)
      case hs1x2 => kernel_rfl
      case hf1x2 => kernel_rfl
      case hr1x2 => kernel_rfl
      case hQ1x2 => exact fun _ _ _ h => h
      case hy1x2 => first | exact Or.inl ⟨by rfl, by (intro w hSw; (try dsimp only at hSw); go_simp; try rfl)⟩ | exact Or.inr ⟨by rfl, rfl⟩
      case hS1x2 => assumption
      (try simp only [Act.put, List.setIfInBounds_toArray, List.set_cons_zero, List.set_cons_succ])
      refine' wpAnyH_take (i := 2) (v := ?v2x3) ?hi2x3 ?hs2x3 ?hf2x3 ?hr2x3 ?hQ2x3 ?hy2x3 ?hS2x3 ?rest2x3
      case hi2x3 => (simp only [List.getElem?_toArray, List.getElem?_cons_succ, List.getElem?_cons_zero]; try rfl)
      case hs2x3 => kernel_rfl
      case hf2x3 => kernel_rfl
      case hr2x3 => kernel_rfl
      case hQ2x3 => exact fun _ _ _ h => h
      case hy2x3 => first | exact Or.inl ⟨by rfl, by (intro w hSw; (try dsimp only at hSw); go_simp; try rfl)⟩ | exact Or.inr ⟨by rfl, rfl⟩
      case hS2x3 => assumption
      (try simp only [Act.put, List.setIfInBounds_toArray, List.set_cons_zero, List.set_cons_succ])
      refine' wpAnyH_take (i := 3) (v := ?v3x4) ?hi3x4 ?hs3x4 ?hf3x4 ?hr3x4 ?hQ3x4 ?hy3x4 ?hS3x4 ?rest3x4
      case hi3x4 => (simp only [List.getElem?_toArray, List.getElem?_cons_succ, List.getElem?_cons_zero]; try rfl)
      case hs3x4 => kernel_rfl
      case hf3x4 => kernel_rfl
      case hr3x4 => kernel_rfl
      case hQ3x4 => exact fun _ _ _ h => h
      case hy3x4 => first | exact Or.inl ⟨by rfl, by (intro w hSw; (try dsimp only at hSw); go_simp; try rfl)⟩ | exact Or.inr ⟨by rfl, rfl⟩
      case hS3x4 => assumption
      (try simp only [Act.put, List.setIfInBounds_toArray, List.set_cons_zero, List.set_cons_succ])
      refine' wpAnyH_take (i := 4) (v := ?v4x5) ?hi4x5 ?hs4x5 ?hf4x5 ?hr4x5 ?hQ4x5 ?hy4x5 ?hS4x5 ?rest4x5
      case hi4x5 => (simp only [List.getElem?_toArray, List.getElem?_cons_succ, List.getElem?_cons_zero]; try rfl)
      case hs4x5 => kernel_rfl
      case hf4x5 => kernel_rfl
      case hr4x5 => kernel_rfl
      case hQ4x5 => exact fun _ _ _ h => h
      case hy4x5 => first | exact Or.inl ⟨by rfl, by (intro w hSw; (try dsimp only at hSw); go_simp; try rfl)⟩ | exact Or.inr ⟨by rfl, rfl⟩
      case hS4x5 => assumption
      (try simp only [Act.put, List.setIfInBounds_toArray, List.set_cons_zero, List.set_cons_succ])
      refine' wpAnyH_take (i := 5) (v := ?v5x6) ?hi5x6 ?hs5x6 ?hf5x6 ?hr5x6 ?hQ5x6 ?hy5x6 ?hS5x6 ?rest5x6
      case hi5x6 => (simp only [List.getElem?_toArray, List.getElem?_cons_succ, List.getElem?_cons_zero]; try rfl)
      case hs5x6 => kernel_rfl
      case hf5x6 => kernel_rfl
      case hr5x6 => kernel_rfl
      case hQ5x6 => exact fun _ _ _ h => h
      case hy5x6 => first | exact Or.inl ⟨by rfl, by (intro w hSw; (try dsimp only at hSw); go_simp; try rfl)⟩ | exact Or.inr ⟨by rfl, rfl⟩
      case hS5x6 => assumption
      (try simp only [Act.put, List.setIfInBounds_toArray, List.set_cons_zero, List.set_cons_succ])
      refine' wpAnyH_take (i := 6) (v := ?v6x7) ?hi6x7 ?hs6x7 ?hf6x7 ?hr6x7 ?hQ6x7 ?hy6x7 ?hS6x7 ?rest6x7
      case hi6x7 => (simp only [List.getElem?_toArray, List.getElem?_cons_succ, List.getElem?_cons_zero]; try rfl)
      case hs6x7 => kernel_rfl
      case hf6x7 => kernel_rfl
      case hr6x7 => kernel_rfl
      case hQ6x7 => exact fun _ _ _ h => h
      case hy6x7 => first | exact Or.inl ⟨by rfl, by (intro w hSw; (try dsimp only at hSw); go_simp; try rfl)⟩ | exact Or.inr ⟨by rfl, rfl⟩
      case hS6x7 => assumption
      (try simp only [Act.put, List.setIfInBounds_toArray, List.set_cons_zero, List.set_cons_succ])
      refine' wpAnyH_take (i := 7) (v := ?v7x8) ?hi7x8 ?hs7x8 ?hf7x8 ?hr7x8 ?hQ7x8 ?hy7x8 ?hS7x8 ?rest7x8
      case hi7x8 => (simp only [List.getElem?_toArray, List.getElem?_cons_succ, List.getElem?_cons_zero]; try rfl)
      case hs7x8 => kernel_rfl
      case hf7x8 => kernel_rfl
      case hr7x8 => kernel_rfl
      case hQ7x8 => exact fun _ _ _ h => h
      case hy7x8 => first | exact Or.inl ⟨by rfl, by (intro w hSw; (try dsimp only at hSw); go_simp; try rfl)⟩ | exact Or.inr ⟨by rfl, rfl⟩
      case hS7x8 => assumption
      (try simp only [Act.put, List.setIfInBounds_toArray, List.set_cons_zero, List.set_cons_succ])
      refine' wpAnyH_take (i := 8) (v := ?v8x9) ?hi8x9 ?hs8x9 ?hf8x9 ?hr8x9 ?hQ8x9 ?hy8x9 ?hS8x9 ?rest8x9
      case hi8x9 => (simp only [List.getElem?_toArray, List.getElem?_cons_succ, List.getElem?_cons_zero]; try rfl)
      case hs8x9 => kernel_rfl
      case hf8x9 => kernel_rfl
      case hr8x9 => kernel_rfl
      case hQ8x9 => exact fun _ _ _ h => h
      case hy8x9 => first | exact Or.inl ⟨by rfl, by (intro w hSw; (try dsimp only at hSw); go_simp; try rfl)⟩ | exact Or.inr ⟨by rfl, rfl⟩
      case hS8x9 => assumption
      (try simp only [Act.put, List.setIfInBounds_toArray, List.set_cons_zero, List.set_cons_succ])
      refine wpAnyH_done (by kernel_rfl) ?_ _
      refine NoPanic.normal ?_
      go_wp2_with fail
      go_roundw
      case rel => exact ⟨p + 1, hlt, by go_num, hbwH.out.drew⟩
      case measure => simp [Go.RowKit.intOf]; omega
    · obtain rfl : p = x.length := by omega
      go_wp2_with fail
      go_ret
      exact ⟨rfl, hbwH.out⟩
end Go.Proofs.YtpmfbmigdpmloaaGreatDoor
end
section
/-
  The law RowBack, walked at this program: of any row and any bytes. Condition: the variables strconv.ErrSyntax and strconv.ErrRange hold errors; the tables of Go's library lie as their initialisers lay them.
-/
set_option linter.unusedVariables false
set_option linter.unusedSimpArgs false
namespace Go.Proofs.YtpmfbmigdpmloaaGreatDoor
open Go.RowKit Go.Lib

theorem own_rowV' {B : Nat} {v : Value} {l : List Dat} {w : World} (h : w.ownsRow B 60 4 v l.length (l.flatMap cellsD)) : RowV w v l := own_slV h
/-- Rows that may be are of datas' kinds. -/
theorem wide_of {l : List Dat} (h : chkR l = 0) (hw : I64d l) : ∀ d ∈ l, Wide d ∧ d.s.size ≤ 9223372036854775807 := by
  intro d hd
  have h1 := (okL h).2 d hd
  have h2 := hw d hd
  have h3 := chk_small (d := d) (by simpa [okD] using h1)
  have h4 := okD_kinded h1
  exact ⟨⟨⟨by have := h4.1; omega, by have := h4.2; omega⟩, h2⟩, by omega⟩
theorem encR_small {l : List Dat} (h : chkR l = 0) : (encR l).length ≤ 1000000 := by
  obtain ⟨h1, h2⟩ := chkR_all h
  have h3 := szR_small h2
  have h4 := encR_le l
  omega
set_option maxHeartbeats 16000000 in
set_option maxRecDepth 100000 in
theorem rowBack_any (va vb : Value) (l : List Dat) (L : List UInt8) (w : World) (hT : Tabs w) (hV : VarsE w) (ha : RowV w va l) (hb : BytsV w vb L) (wl : ∀ d ∈ l, Wide d ∧ d.s.size ≤ 9223372036854775807) (_ : True) :
    Calls Tryz.prog 5 #[va, vb] w fun e w' => e = .returned (.bool true) ∧ Below w.heap.size w w' := by
  obtain ⟨A, c, rfl, _⟩ := ha.form
  obtain ⟨B, c', rfl, _⟩ := hb.form
  have hTH := Lib.hid hT; have hVH := Lib.hid hV; have haH := Lib.hid ha; have hBH := Lib.hid hb; have wlH := Lib.hid wl
  clear hT hV ha hb wl
  by_cases hbig : l.length > 4000
  · have hb : (l.length : Int) > 4000 := by omega
    clear hbig
    go_enter Tryz.func5, Tryz.ntmps5
    go_wp2_with fail
    go_ret
    exact ⟨rfl, by go_grown⟩
  have hb : ¬ (l.length : Int) > 4000 := by omega
  have hl := Lib.hid (show l.length ≤ 4000 by omega)
  clear hbig
  by_cases hbig : L.length > 1048576
  · have hb2 : (L.length : Int) > 1048576 := by omega
    clear hbig
    go_enter Tryz.func5, Tryz.ntmps5
    go_wp2_with fail
    go_ret
    exact ⟨rfl, by go_grown⟩
  have hb2 : ¬ (L.length : Int) > 1048576 := by omega
  have hLs := Lib.hid (show L.length ≤ 1099511627776 by omega)
  clear hbig
  obtain ⟨S, hS⟩ : ∃ S, strR l = S := ⟨_, rfl⟩
  obtain ⟨x, hx⟩ : ∃ x, chkR l = x := ⟨_, rfl⟩
  have hSH := Lib.hid hS; have hxH := Lib.hid hx
  have hSe := Lib.hid (show x ≠ 0 → S = ⟨#[]⟩ from fun h => by rw [← hS]; unfold strR; rw [if_neg (by rw [hx]; exact h)])
  clear hS hx
  go_enter Tryz.func5, Tryz.ntmps5
  go_wp2_with fail
  refine (encode_any _ l w haH.out hTH.out.tab8 wlH.out).mono ?_
  rw [hxH.out]
  rintro e w1 ⟨v1, rfl, hv1, hb1⟩
  have hb1H := Lib.hid hb1; have hv1H := Lib.hid hv1
  clear hb1 hv1
  go_wp2_with fail
  refine (printRow_any _ l w1 (haH.out.below hb1H.out) (hTH.out.below hb1H.out) wlH.out).mono ?_
  rw [hSH.out, hxH.out]
  rintro e w2 ⟨rfl, hb2'⟩
  have hb2H := Lib.hid (hb1H.out.trans (hb2'.mono hb1H.out.size))
  have hk2 := Lib.hid hb2'
  clear hb2'
  go_wp2_with fail
  refine (rowCheck_any _ l w2 (haH.out.below hb2H.out) (hTH.out.below hb2H.out).tab8 (fun d hd => (wlH.out d hd).2)).mono ?_
  rw [hxH.out]
  rintro e w3 ⟨rfl, hb3⟩
  have hb3H := Lib.hid (hb2H.out.trans (hb3.mono hb2H.out.size))
  have hk3 := Lib.hid (hk2.out.trans (hb3.mono hk2.out.size))
  clear hb3 hk2
  by_cases hx0 : x = 0
  case neg =>
    have hSn := hSe.out hx0
    subst hSn
    obtain ⟨_, rfl⟩ := hv1H.out.elim (fun h => absurd h.1 hx0) id
    have nx : (x != 0) = true := by simpa using hx0
    have mx : (x == 0) = false := by simpa using hx0
    clear hx0
    obtain ⟨q, hq⟩ : ∃ q, errOf L = q := ⟨_, rfl⟩
    obtain ⟨ld, hld⟩ : ∃ ld, rowOf L = ld := ⟨_, rfl⟩
    have hqH := Lib.hid hq; have hldH := Lib.hid hld
    clear hq hld
    go_wp2_with fail
    refine (decode_any _ L w3 (hBH.out.below hb3H.out) (hTH.out.below hb3H.out).tab8 hLs.out).mono ?_
    rw [hqH.out, hldH.out]
    rintro e w10 ⟨v10, rfl, hb10, ho10⟩
    obtain ⟨A10, c10, rfl⟩ := own_form ho10
    have hr10 := Lib.hid (own_rowV' ho10)
    have hb10H := Lib.hid (hb3H.out.trans (hb10.mono hb3H.out.size))
    clear hb10 ho10
    cases hdec : decRow L with
    | none =>
      obtain rfl : q = 20 := by rw [← hqH.out]; simp [errOf, hdec]
      obtain rfl : ld = [] := by rw [← hldH.out]; simp [rowOf, hdec]
      clear hdec
      go_wp2_with fail
      refine (known_any _).mono ?_
      rintro e w11 ⟨rfl, hb11⟩
      have hb11H := Lib.hid (hb10H.out.trans (hb11.mono hb10H.out.size))
      clear hb11
      go_wp2_with fail
      go_ret
      exact ⟨rfl, hb11H.out⟩
    | some l' =>
      obtain rfl : q = 0 := by rw [← hqH.out]; simp [errOf, hdec]
      obtain rfl : ld = l' := by rw [← hldH.out]; simp [rowOf, hdec]
      obtain ⟨hLe, hck, hwd⟩ := decRow_back hdec
      have hLeH := Lib.hid hLe; have hckH := Lib.hid hck
      have hwid := Lib.hid (wide_of hck hwd)
      clear hdec hLe hck hwd
      go_wp2_with fail
      refine (encode_any _ ld w10 hr10.out (hTH.out.below hb10H.out).tab8 hwid.out).mono ?_
      rw [hckH.out]
      rintro e w11 ⟨v11, rfl, hv11, hb11⟩
      obtain ⟨_, ho11⟩ := hv11.elim id (fun h => absurd rfl h.1)
      have hby11 := Lib.hid (show BytsV w11 v11 L by rw [hLeH.out]; exact ho11.byts)
      obtain ⟨A11, c11, rfl, _⟩ := hby11.out.form
      have hb11H := Lib.hid (hb10H.out.trans (hb11.mono hb10H.out.size))
      clear hv11 hb11 ho11
      go_wp2_with fail
      refine (known_any _).mono ?_
      rintro e w12 ⟨rfl, hb12⟩
      have hb12H := Lib.hid (hb11H.out.trans (hb12.mono hb11H.out.size))
      have hby12 := Lib.hid (hby11.out.below hb12)
      clear hb12
      go_wp2_with fail
      refine (sameBytes_any _ _ L w12 hby12.out (hBH.out.below hb12H.out)).mono ?_
      rintro e w13 ⟨rfl, hb13⟩
      have hb13H := Lib.hid (hb12H.out.trans (hb13.mono hb12H.out.size))
      clear hb13
      go_wp2_with fail
      go_ret
      exact ⟨rfl, hb13H.out⟩
  subst hx0
  obtain ⟨_, ho1⟩ := hv1H.out.elim id (fun h => absurd rfl h.1)
  have hby3 := Lib.hid (show BytsV w3 v1 (encR l) from ho1.byts.below hk3.out)
  obtain ⟨A1, c1, rfl, _⟩ := hby3.out.form
  have hEl := Lib.hid (encR_small hxH.out)
  have hSl := Lib.hid (show S.data.toList = printR l by rw [← hSH.out]; exact strR_list hxH.out)
  have hSs := Lib.hid (show S.size ≤ 1099511627776 by rw [size_eq, hSl.out]; have := printR_len hxH.out (wide_i64 wlH.out); omega)
  have hdec := decRow_enc hxH.out (wide_i64 wlH.out)
  have hok := Lib.hid (show errOf (encR l) = 0 ∧ rowOf (encR l) = l by simp [errOf, rowOf, hdec])
  clear hSe hv1H ho1 hk3 hdec
  obtain ⟨E, hE⟩ : ∃ E, encR l = E := ⟨_, rfl⟩
  rw [hE] at hby3 hEl hok ⊢
  have hEH := Lib.hid hE
  clear hE
  go_wp2_with fail
  refine (decode_any _ E w3 hby3.out (hTH.out.below hb3H.out).tab8 (by have := hEl.out; omega)).mono ?_
  rw [hok.out.1, hok.out.2]
  rintro e w4 ⟨v4, rfl, hb4, ho4⟩
  obtain ⟨A4, c4, rfl⟩ := own_form ho4
  have hr4 := Lib.hid (own_rowV' ho4)
  have hb4H := Lib.hid (hb3H.out.trans (hb4.mono hb3H.out.size))
  clear hb4 ho4
  go_wp2_with fail
  refine (parseRow_any S w4 (hTH.out.below hb4H.out) (hVH.out.below hb4H.out) hSs.out).mono ?_
  rintro e w5 ⟨v5, l5, z5, rfl, hz5, ho5⟩
  obtain ⟨rfl, rfl⟩ := hz5.one (.inl ⟨hxH.out, wide_i64 wlH.out, hSl.out.symm, rfl⟩)
  obtain ⟨A5, c5, rfl⟩ := ho5.form
  have hr5 := Lib.hid ho5.rowV
  have hr45 := Lib.hid (hr4.out.below ho5.2.1)
  have hb5H := Lib.hid (hb4H.out.trans (ho5.2.1.mono hb4H.out.size))
  clear hz5 ho5
  go_wp2_with fail
  refine (sameRow_any _ _ l5 w5 hr45.out (haH.out.below hb5H.out)).mono ?_
  rintro e w6 ⟨rfl, hb6⟩
  have hb6H := Lib.hid (hb5H.out.trans (hb6.mono hb5H.out.size))
  have hr6 := Lib.hid (hr5.out.below hb6)
  clear hb6
  go_wp2_with fail
  refine (sameRow_any _ _ l5 w6 hr6.out (haH.out.below hb6H.out)).mono ?_
  rintro e w9 ⟨rfl, hb9⟩
  have hb9H := Lib.hid (hb6H.out.trans (hb9.mono hb6H.out.size))
  clear hb9
  obtain ⟨q, hq⟩ : ∃ q, errOf L = q := ⟨_, rfl⟩
  obtain ⟨ld, hld⟩ : ∃ ld, rowOf L = ld := ⟨_, rfl⟩
  have hqH := Lib.hid hq; have hldH := Lib.hid hld
  clear hq hld
  go_wp2_with fail
  refine (decode_any _ L w9 (hBH.out.below hb9H.out) (hTH.out.below hb9H.out).tab8 hLs.out).mono ?_
  rw [hqH.out, hldH.out]
  rintro e w10 ⟨v10, rfl, hb10, ho10⟩
  obtain ⟨A10, c10, rfl⟩ := own_form ho10
  have hr10 := Lib.hid (own_rowV' ho10)
  have hb10H := Lib.hid (hb9H.out.trans (hb10.mono hb9H.out.size))
  clear hb10 ho10
  cases hdec : decRow L with
  | none =>
    obtain rfl : q = 20 := by rw [← hqH.out]; simp [errOf, hdec]
    obtain rfl : ld = [] := by rw [← hldH.out]; simp [rowOf, hdec]
    clear hdec
    go_wp2_with fail
    refine (known_any _).mono ?_
    rintro e w11 ⟨rfl, hb11⟩
    have hb11H := Lib.hid (hb10H.out.trans (hb11.mono hb10H.out.size))
    clear hb11
    go_wp2_with fail
    go_ret
    exact ⟨rfl, hb11H.out⟩
  | some l' =>
    obtain rfl : q = 0 := by rw [← hqH.out]; simp [errOf, hdec]
    obtain rfl : ld = l' := by rw [← hldH.out]; simp [rowOf, hdec]
    obtain ⟨hLe, hck, hwd⟩ := decRow_back hdec
    have hLeH := Lib.hid hLe; have hckH := Lib.hid hck
    have hwid := Lib.hid (wide_of hck hwd)
    clear hdec hLe hck hwd
    go_wp2_with fail
    refine (encode_any _ ld w10 hr10.out (hTH.out.below hb10H.out).tab8 hwid.out).mono ?_
    rw [hckH.out]
    rintro e w11 ⟨v11, rfl, hv11, hb11⟩
    obtain ⟨_, ho11⟩ := hv11.elim id (fun h => absurd rfl h.1)
    have hby11 := Lib.hid (show BytsV w11 v11 L by rw [hLeH.out]; exact ho11.byts)
    obtain ⟨A11, c11, rfl, _⟩ := hby11.out.form
    have hb11H := Lib.hid (hb10H.out.trans (hb11.mono hb10H.out.size))
    clear hv11 hb11 ho11
    go_wp2_with fail
    refine (known_any _).mono ?_
    rintro e w12 ⟨rfl, hb12⟩
    have hb12H := Lib.hid (hb11H.out.trans (hb12.mono hb11H.out.size))
    have hby12 := Lib.hid (hby11.out.below hb12)
    clear hb12
    go_wp2_with fail
    refine (sameBytes_any _ _ L w12 hby12.out (hBH.out.below hb12H.out)).mono ?_
    rintro e w13 ⟨rfl, hb13⟩
    have hb13H := Lib.hid (hb12H.out.trans (hb13.mono hb12H.out.size))
    clear hb13
    go_wp2_with fail
    go_ret
    exact ⟨rfl, hb13H.out⟩
end Go.Proofs.YtpmfbmigdpmloaaGreatDoor
end
section
/-
  From what the statements of layer 2 say of an argument that is bytes (it reads as a datum) to the words of the walks. No condition but those written.
-/
set_option linter.unusedVariables false
set_option linter.unusedSimpArgs false
namespace Go.Proofs.YtpmfbmigdpmloaaGreatDoor
open Go.ChangeShapes Go.WideShapes Go.ChangeAt Go.RowKit Go.Joins Go.Lib Go.Deep

section
variable {H : Type} {enc : TypeId × Value → H} {W : World}
/-- What a slice of bytes reads as. -/
def DatB (x : DataW H) (l : List UInt8) : Prop := (x = .nil ∧ l = []) ∨ ∃ r, x = .slice (l.map (fun z => .lit (.int .u8 z.toNat))) r
set_option maxRecDepth 100000 in
theorem arg_bytes {b : Nat} {v : Value} {d : DataW H} {p : List MemPlace} (hv : Value.okWide Tryz.prog W .any b 31 v) (h : DataW.Trod enc Tryz.prog W 0 (fun _ => true) true 31 v d p) : ∃ l, BytsV W v l ∧ True ∧ DatB d l := by
  obtain ⟨a', len', cap', rfl⟩ := okWide_slice Tryz.underlying31 hv
  obtain ⟨fuel, hf⟩ := h
  rcases open_slice1 Tryz.underlying31 (by kernel_rfl) hf with ⟨h1, h2⟩ | ⟨a, len, cap, m, n, V, D, Pl, h1, _, hlc, hcm, hm, hx, hc⟩
  · simp [Value.cells] at h1
    obtain ⟨rfl, rfl, rfl⟩ := h1
    cases h2
    exact ⟨[], ⟨rfl, none, 0, rfl, Nat.le_refl _, by decide, fun _ => rfl, fun q => absurd q (by simp)⟩, trivial, .inl ⟨rfl, rfl⟩⟩
  · simp [Value.cells] at h1
    obtain ⟨rfl, rfl, rfl⟩ := h1
    cases hx
    have hlm : len' ≤ m := by rw [hm]; simpa using hlc
    have each : ∀ i, i < len' → ∃ z : UInt8, W.cell? (a.add i) = some (.int .u8 z.toNat) ∧ D i = .lit (.int .u8 z.toNat) := by
      intro i hi
      obtain ⟨g1, g2⟩ := hc i (by omega)
      obtain ⟨z, e, hz, wz⟩ := DataW.trod_int Tryz.underlying5 g2
      simp only [List.cons.injEq, and_true] at e
      rw [e] at g1
      have h0 : 0 ≤ z ∧ z ≤ 255 := by simpa [Lit.wf, IntKind.min, IntKind.max, IntKind.signed, IntKind.bits] using wz
      have hzz : ((UInt8.ofNat z.toNat).toNat : Int) = z := by
        rw [UInt8.toNat_ofNat']
        omega
      exact ⟨UInt8.ofNat z.toNat, by rw [hzz]; exact g1, by rw [hzz]; exact congrArg (·.1) hz⟩
    obtain ⟨f, hf'⟩ := choose_lt each
    have hl : ((List.range len').map f).length = len' := by simp
    refine ⟨(List.range len').map f, ⟨by rw [Lib.byteCells_length]; omega, some a, cap', by rw [hl], by rw [hl]; exact hlc, by unfold maxLen at hcm; exact hcm, fun q => (by cases q), fun hp => ⟨a, rfl, ?_, fun j u hj => ?_⟩⟩, trivial, .inr ⟨(List.range (m - len')).map fun j => D (len' + j), ?_⟩⟩
    · rw [hl] at hp
      have := cell_lt (hf' 0 hp).1
      rwa [add_block] at this
    · have hj' : j < len' := by
        have := (List.getElem?_eq_some_iff.1 hj).1
        rw [Lib.byteCells_length, hl] at this
        exact this
      rw [(hf' j hj').1]
      simp [hj', Lib.byteCells] at hj
      rw [hj]
    · congr 1
      rw [List.map_map]
      exact List.map_congr_left fun i hi => (hf' i (List.mem_range.1 hi)).2
end
end Go.Proofs.YtpmfbmigdpmloaaGreatDoor
end
