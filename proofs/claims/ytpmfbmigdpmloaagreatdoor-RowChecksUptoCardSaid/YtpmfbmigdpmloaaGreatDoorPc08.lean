/-
  Texts that belong together: RwP, RwL7, RowU, RwFr, Tabs. What each one says stands ahead of it.
-/
import Derived.Test.YtpmfbmigdpmloaaGreatDoorRwSPc
import Derived.Test.YtpmfbmigdpmloaaGreatDoorRwCkPc
import Derived.Test.YtpmfbmigdpmloaaGreatDoorPc07
import Derived.Test.YtpmfbmigdpmloaaGreatDoorPc02
import Derived.Test.YtpmfbmigdpmloaaGreatDoorPc06
import Derived.Test.YtpmfbmigdpmloaaGreatDoorRows
import Derived.ProofKit
import Derived.Lib.SmallJoins
import Derived.ChangeSlices
import Derived.Deep.Slices
import Derived.Carry
import Derived.Test.YtpmfbmigdpmloaaGreatDoorPc03
import Derived.Lib.LaidU8T
import Derived.PinnedBridge
section
/-
  The chapter's example 2, as the laws of layer 2 ask it (known), at this program: it holds. No condition.
-/
set_option linter.unusedVariables false
set_option linter.unusedSimpArgs false
namespace Go.Proofs.YtpmfbmigdpmloaaGreatDoor
open Go.RowKit Go.Lib Go.Proofs

def iD (n : Int) : Dat := ⟨3, false, n, ⟨#[]⟩⟩
set_option maxHeartbeats 2000000 in
theorem int_any (n : Int) (w : World) :
    Calls Tryz.prog 37 #[.int .i64 n] w fun e w' => e = .returned (dv 3 false n ⟨#[]⟩) ∧ Below w.heap.size w w' := by
  go_enter Tryz.func37, Tryz.ntmps37
  go_wp2_with fail
  have c_ := (Has.new w (.int .u8 3) (.bool false) (.int .i64 n) (.string ⟨#[]⟩))
  refine bodyPost_ret (v := dv 3 false n ⟨#[]⟩) (by simp [results, Tryz.results37, go_sem]) rfl ?_
  exact ⟨rfl, by go_grown⟩
/-- A row of one datum, just laid. -/
theorem one_row (w : World) (d : Dat) : RowV (w.alloc (.cells #[.int .u8 d.k, .bool d.b, .int .i64 d.n, .string d.s] 60)) (.slice (some ⟨w.heap.size, 0, none⟩) 1 1) [d] := by
  have h : OwnL 60 4 w.heap.size 1 ([d].map cellsD) (w.alloc (.cells #[.int .u8 d.k, .bool d.b, .int .i64 d.n, .string d.s] 60)) :=
    ⟨fun y hy => by simp at hy; subst hy; rfl, by simp, by decide, _, heap_alloc_new w _, rfl, rfl⟩
  exact h.rowV
def knownL (a b : Addr) : List Cd := [(⟨some a, 1, 1, 2⟩, [iD 1]), (⟨some b, 1, 1, 1⟩, [iD 2]), (⟨some a, 1, 1, -1⟩, [iD 1]), (⟨some b, 1, 1, -1⟩, [iD 2])]
theorem known_sum (a b : Addr) : (sumN ((knownL a b).map cnD)).filter (fun x => x.2 != 0) = [([iD 1], 1)] := by kernel_rfl
theorem known_rows (w : World) (a b : Addr) (ha : RowV w (.slice (some a) 1 1) [iD 1]) (hb : RowV w (.slice (some b) 1 1) [iD 2]) :
    CtsV (w.alloc (.cells #[.slice (some a) 1 1, .int .i64 2, .slice (some b) 1 1, .int .i64 1, .slice (some a) 1 1, .int .i64 (-1), .slice (some b) 1 1, .int .i64 (-1)] 74)) (.slice (some ⟨w.heap.size, 0, none⟩) 4 4) (knownL a b) := by
  have h : OwnL 74 2 w.heap.size 4 ((knownL a b).map (fun d => cellsV d.1)) (w.alloc (.cells #[.slice (some a) 1 1, .int .i64 2, .slice (some b) 1 1, .int .i64 1, .slice (some a) 1 1, .int .i64 (-1), .slice (some b) 1 1, .int .i64 (-1)] 74)) :=
    ⟨fun y hy => by obtain ⟨x, _, rfl⟩ := List.mem_map.1 hy; rfl, by simp [knownL], by decide, _, heap_alloc_new w _, rfl, rfl⟩
  refine ⟨h.slV, fun d hd => ?_⟩
  have hb' : Below w.heap.size w (w.alloc (.cells #[.slice (some a) 1 1, .int .i64 2, .slice (some b) 1 1, .int .i64 1, .slice (some a) 1 1, .int .i64 (-1), .slice (some b) 1 1, .int .i64 (-1)] 74)) := (Below.refl _ w).alloc (Nat.le_refl _) _
  simp [knownL] at hd
  rcases hd with rfl | rfl | rfl | rfl
  · exact ha.below hb'
  · exact hb.below hb'
  · exact ha.below hb'
  · exact hb.below hb'
theorem known_call (a b : Addr) (v : Value) (w : World) (hc : CtsV w v (knownL a b)) :
    Calls Tryz.prog 38 #[v] w fun e w' => ∃ v' r, e = .returned v' ∧ SumOf ((knownL a b).map cnD) (r.map cnD) ∧ OwnCs w.heap.size v' r w' ∧ FreshL w.heap.size w' r ∧ Below w.heap.size w w' := by
  refine sum_any _ (knownL a b) w hc (by simp [knownL]) (by simp [knownL]) ?_ ?_ ?_
  · intro d hd; simp [knownL] at hd; rcases hd with rfl | rfl | rfl | rfl <;> simp
  · intro d hd x hx; simp [knownL] at hd; rcases hd with rfl | rfl | rfl | rfl <;> (simp at hx; subst hx; unfold Wide iD; simp)
  · intro d hd; simp [knownL] at hd; rcases hd with rfl | rfl | rfl | rfl <;> simp [szR, szD, iD, ByteArray.size]
set_option maxHeartbeats 8000000 in
set_option maxRecDepth 1000000 in
theorem known_any (w : World) : Calls Tryz.prog 21 #[] w fun e w' => e = .returned (.bool true) ∧ Below w.heap.size w w' := by
  go_enter Tryz.func21, Tryz.ntmps21
  go_wp2_with fail
  refine (int_any 1 _).mono ?_
  rintro e w1 ⟨rfl, hb1⟩
  have hb1H := Lib.hid hb1
  obtain ⟨W1, hW1⟩ : ∃ W1, w1.alloc (.cells #[.int .u8 3, .bool false, .int .i64 1, .string ⟨#[]⟩] 60) = W1 := ⟨_, rfl⟩
  have ha := Lib.hid (show RowV W1 (.slice (some ⟨w1.heap.size, 0, none⟩) 1 1) [iD 1] from hW1 ▸ one_row w1 (iD 1))
  have hB1 := Lib.hid (show Below w.heap.size w W1 from hW1 ▸ hb1.alloc hb1.size _)
  clear hb1
  go_wp2_with fail
  refine (int_any 2 _).mono ?_
  rintro e w2 ⟨rfl, hb2⟩
  obtain ⟨W2, hW2⟩ : ∃ W2, w2.alloc (.cells #[.int .u8 3, .bool false, .int .i64 2, .string ⟨#[]⟩] 60) = W2 := ⟨_, rfl⟩
  have hb := Lib.hid (show RowV W2 (.slice (some ⟨w2.heap.size, 0, none⟩) 1 1) [iD 2] from hW2 ▸ one_row w2 (iD 2))
  have h12 := Lib.hid (show Below W1.heap.size W1 W2 from hW2 ▸ hb2.alloc hb2.size _)
  have ha2 := Lib.hid (ha.out.below h12.out)
  have hB2 := Lib.hid (hB1.out.trans (h12.out.mono hB1.out.size))
  clear hb2
  obtain ⟨W3, hW3⟩ : ∃ W3, W2.alloc (.cells #[.slice (some ⟨w1.heap.size, 0, none⟩) 1 1, .int .i64 2, .slice (some ⟨w2.heap.size, 0, none⟩) 1 1, .int .i64 1, .slice (some ⟨w1.heap.size, 0, none⟩) 1 1, .int .i64 (-1), .slice (some ⟨w2.heap.size, 0, none⟩) 1 1, .int .i64 (-1)] 74) = W3 := ⟨_, rfl⟩
  have hc := Lib.hid (show CtsV W3 (.slice (some ⟨W2.heap.size, 0, none⟩) 4 4) (knownL ⟨w1.heap.size, 0, none⟩ ⟨w2.heap.size, 0, none⟩) from hW3 ▸ known_rows W2 _ _ ha2.out hb.out)
  have h23 := Lib.hid (show Below W2.heap.size W2 W3 from hW3 ▸ (Below.refl _ W2).alloc (Nat.le_refl _) _)
  go_wp2_with fail
  refine (known_call ⟨w1.heap.size, 0, none⟩ ⟨w2.heap.size, 0, none⟩ _ _ hc.out).mono ?_
  rintro e w4 ⟨v, r, rfl, ⟨hp, -⟩, ho, hf, hb4⟩
  rw [known_sum] at hp
  have hr := List.perm_singleton.1 hp
  obtain ⟨d, rfl, hd⟩ : ∃ d, r = [d] ∧ cnD d = ([iD 1], 1) := by
    match r, hr with
    | [], h => simp at h
    | [d], h => simp at h; exact ⟨d, rfl, h⟩
    | _ :: _ :: _, h => simp at h
  obtain ⟨⟨dA, dk, dc, dn⟩, dl⟩ := d
  obtain ⟨rfl, rfl⟩ := Prod.mk.inj hd
  obtain ⟨A, c, N, hN, rfl⟩ := ho.lenN (n := 1) rfl
  subst hN
  obtain ⟨g, rfl, -, hgB, hoC⟩ := OwnCs.row ho (by simp)
  obtain ⟨y0_, y1_⟩ := OwnC.two hoC (i := 0) rfl
  simp only [Nat.zero_mul, Nat.zero_add] at y0_ y1_
  have hrow := Lib.hid (hf.1 _ (List.mem_singleton.2 rfl)).rowV
  have h24 := Lib.hid (h23.out.trans (hb4.mono h23.out.size))
  have ha4 := Lib.hid (ha2.out.below h24.out)
  have hb4H := Lib.hid (hb.out.below h24.out)
  have hB4 := Lib.hid (hB2.out.trans (h24.out.mono hB2.out.size))
  have hgl := hoC.lt
  have hdl := hB4.out.size
  have e1 : cmpR [iD 1] [iD 1] = 0 := by kernel_rfl
  have e2 : cmpR [iD 1] [iD 2] = -1 := by kernel_rfl
  clear hp hr hd ho hf hb4 hoC
  go_wp2_with fail
  refine (rowCmp_any _ _ [iD 1] [iD 1] _ hrow.out ha4.out).mono ?_
  rw [e1]
  rintro e w5 ⟨rfl, hb5⟩
  have hb5H := Lib.hid hb5
  clear hb5
  go_wp2_with fail
  refine (rowCmp_any _ _ [iD 1] [iD 2] _ (ha4.out.below hb5H.out) (hb4H.out.below hb5H.out)).mono ?_
  rw [e2]
  rintro e w6 ⟨rfl, hb6⟩
  have hB6 := Lib.hid (hB4.out.trans ((hb5H.out.trans (hb6.mono hb5H.out.size)).mono hB4.out.size))
  clear hb6
  go_wp2_with fail
  go_ret
  exact ⟨rfl, hB6.out⟩
end Go.Proofs.YtpmfbmigdpmloaaGreatDoor
end
section
/-
  The law RowChecks, walked at this program: of any row and any columns. Conditions: the tables of Go's library lie as their initialisers lay them; the bounds that are written.
-/
set_option linter.unusedVariables false
set_option linter.unusedSimpArgs false
namespace Go.Proofs.YtpmfbmigdpmloaaGreatDoor
open Go.RowKit Go.Lib Go.Proofs

theorem chk_few (d : Dat) : 0 ≤ chk d ∧ chk d ≤ 20 := by
  unfold chk
  split
  · split <;> decide
  · decide
theorem chkL_few : ∀ l : List Dat, 0 ≤ chkL l ∧ chkL l ≤ 20
  | [] => by simp [chkL]
  | d :: l => by
    rw [chkL]
    split
    · exact chkL_few l
    · exact chk_few d
theorem chkR_few (l : List Dat) : 0 ≤ chkR l ∧ chkR l ≤ 20 := by
  unfold chkR
  split
  · omega
  · exact chkL_few l
theorem rowV_nothing (w : World) : RowV w (.slice none 0 0) [] := ⟨rfl, none, 0, rfl, Nat.le_refl _, by decide, fun _ => rfl, fun q => absurd q (by simp)⟩
theorem bytsV_nothing (w : World) : BytsV w (.slice none 0 0) [] := ⟨rfl, none, 0, rfl, Nat.le_refl _, by decide, fun _ => rfl, fun q => absurd q (by simp)⟩
/-- The data of these columns, or none; and the number of what is wrong. -/
def pkD (l : List Dat) (cols : List Int) : List Dat := (pickR l cols).getD []
def pkN (l : List Dat) (cols : List Int) : Int := if (pickR l cols).isSome then 0 else 20
theorem pkN_few (l : List Dat) (cols : List Int) : 0 ≤ pkN l cols ∧ pkN l cols ≤ 20 := by unfold pkN; split <;> omega
theorem picked_any (v vc : Value) (l : List Dat) (cols : List Int) (w : World) (h : RowV w v l) (hc : IntsV w vc cols) (hs : ∀ d ∈ l, d.s.size ≤ 281474976710656) :
    Calls Tryz.prog 9 #[v, vc] w fun e w' => ∃ v', e = .returned (.tuple #[v', .int .u16 (pkN l cols)]) ∧ RowV w' v' (pkD l cols) ∧ Below w.heap.size w w' := by
  refine (pick_any v vc l cols w h hc hs).mono ?_
  rintro e w1 ⟨v1, k1, rfl, hp, hb⟩
  unfold pkN pkD
  rcases hp with ⟨h0, rfl, rfl⟩ | ⟨q, g, h0, rfl, rfl, hg, ho⟩
  · rw [h0]
    exact ⟨_, rfl, rowV_nothing _, hb⟩
  · rw [h0]
    exact ⟨_, rfl, ho.rowV, hb⟩
theorem ref02Picked_any (v vc : Value) (l : List Dat) (cols : List Int) (w : World) (h : RowV w v l) (hc : IntsV w vc cols) :
    Calls Tryz.prog 13 #[v, vc] w fun e w' => ∃ v', e = .returned (.tuple #[v', .int .i64 (pkN l cols)]) ∧ RowV w' v' (pkD l cols) ∧ Below w.heap.size w w' := by
  refine (ref02Pick_any v vc l cols w h hc).mono ?_
  rintro e w1 ⟨v1, k1, rfl, hp, hb⟩
  unfold pkN pkD
  rcases hp with ⟨h0, rfl, rfl⟩ | ⟨q, h0, rfl, ho⟩
  · rw [h0]
    exact ⟨_, rfl, rowV_nothing _, hb⟩
  · rw [h0]
    exact ⟨_, rfl, ho, hb⟩
def enD (l : List Dat) : List UInt8 := if chkR l = 0 then encR l else []
theorem encoded_any (v : Value) (l : List Dat) (w : World) (h : RowV w v l) (hT : Tab8 w) (hw : ∀ d ∈ l, Wide d ∧ d.s.size ≤ 9223372036854775807) :
    Calls Tryz.prog 10 #[v] w fun e w' => ∃ v', e = .returned (.tuple #[v', .int .u16 (chkR l)]) ∧ BytsV w' v' (enD l) ∧ Below w.heap.size w w' := by
  refine (encode_any v l w h hT hw).mono ?_
  rintro e w1 ⟨v1, rfl, hp, hb⟩
  unfold enD
  rcases hp with ⟨h0, ho⟩ | ⟨h0, rfl⟩
  · rw [if_pos h0]
    exact ⟨_, rfl, own_slV ho, hb⟩
  · rw [if_neg h0]
    exact ⟨_, rfl, bytsV_nothing _, hb⟩
theorem ref02Encoded_any (v : Value) (l : List Dat) (w : World) (h : RowV w v l) (hw : ∀ d ∈ l, Wide d ∧ d.s.size ≤ 140737488355328) :
    Calls Tryz.prog 14 #[v] w fun e w' => ∃ v', e = .returned (.tuple #[v', .int .i64 (chkR l)]) ∧ BytsV w' v' (enD l) ∧ Below w.heap.size w w' := by
  refine (ref02Encode_any v l w h hw).mono ?_
  rintro e w1 ⟨v1, rfl, hp, hb⟩
  unfold enD
  rcases hp with ⟨h0, ho⟩ | ⟨h0, rfl⟩
  · rw [if_pos h0]
    exact ⟨_, rfl, ho, hb⟩
  · rw [if_neg h0]
    exact ⟨_, rfl, bytsV_nothing _, hb⟩
set_option maxHeartbeats 8000000 in
set_option maxRecDepth 1000000 in
theorem rowChecks_any (va vb : Value) (l : List Dat) (cols : List Int) (w : World) (hT : Tabs w) (ha : RowV w va l) (hb : IntsV w vb cols) (wl : ∀ d ∈ l, Wide d ∧ d.s.size ≤ 9223372036854775807) (_ : True) (zl : szR l ≤ 4194304) (zc : cols.length ≤ 1048576) :
    Calls Tryz.prog 3 #[va, vb] w fun e w' => e = .returned (.bool true) ∧ Below w.heap.size w w' := by
  obtain ⟨A, ca, rfl, hla⟩ := ha.form
  obtain ⟨C, cc, rfl, hlc⟩ := hb.form
  have haH := Lib.hid ha; have hcH := Lib.hid hb; have hTH := Lib.hid hT
  have w1 := Lib.hid wl
  have w2 := Lib.hid (show ∀ d ∈ l, Wide d ∧ szD d.s ≤ 70368744177664 from fun d hd => ⟨(wl d hd).1, by have := szR_mem hd; omega⟩)
  have w3 := Lib.hid (show ∀ d ∈ l, Wide d ∧ d.s.size ≤ 140737488355328 from fun d hd => ⟨(wl d hd).1, by have := szR_mem hd; unfold szD at this; omega⟩)
  have w4 := Lib.hid (show ∀ d ∈ l, d.s.size ≤ 281474976710656 from fun d hd => by have := szR_mem hd; unfold szD at this; omega)
  have hls := szR_len l
  clear ha hb hT wl
  by_cases hbig : (4000 : Int) < (l.length : Int) + (cols.length : Int)
  · go_enter Tryz.func3, Tryz.ntmps3
    go_wp2_with fail
    go_ret
    exact ⟨rfl, by go_grown⟩
  have hll : l.length ≤ 1099511627776 := by omega
  have hlH := Lib.hid hll
  have hcl := Lib.hid (show cols.length ≤ 1099511627776 by omega)
  clear hll zc zl hls
  go_enter Tryz.func3, Tryz.ntmps3
  go_wp2_with fail
  refine (lentRow_any _ l _ haH.out hlH.out).mono ?_
  rintro e x1 ⟨u1, rfl, hx, hb1⟩
  obtain ⟨A5, c5, rfl, _⟩ := hx.rowV.form
  have hb1H := Lib.hid hb1; have hxH := Lib.hid hx
  clear hx hb1
  go_wp2_with fail
  refine (lentInts_any _ cols _ (hcH.out.below hb1H.out) hcl.out).mono ?_
  rintro e x2 ⟨u2, rfl, hx, hb2⟩
  obtain ⟨A6, c6, rfl, _⟩ := hx.ints.form
  have hyH := Lib.hid hx
  replace hxH := Lib.hid (hxH.out.below hb2)
  have hb2H := Lib.hid (hb1H.out.trans (hb2.mono hb1H.out.size))
  clear hx hb2 hb1H
  go_wp2_with fail
  refine (picked_any _ _ l cols _ hxH.out.rowV hyH.out.ints w4.out).mono ?_
  rintro e x3 ⟨v3, rfl, hp, hb3⟩
  obtain ⟨q, hq⟩ : ∃ q, pkD l cols = q := ⟨_, rfl⟩
  obtain ⟨z, hz⟩ : ∃ z, pkN l cols = z := ⟨_, rfl⟩
  rw [hq] at hp
  rw [hz]
  have hqH := Lib.hid hq; have hzH := Lib.hid hz
  obtain ⟨A7, c7, rfl, _⟩ := hp.form
  replace hxH := Lib.hid (hxH.out.below hb3)
  replace hyH := Lib.hid (hyH.out.below hb3)
  have hpH := Lib.hid hp
  have hb3H := Lib.hid (hb2H.out.trans (hb3.mono hb2H.out.size))
  clear hp hb3 hb2H hq hz
  go_wp2_with fail
  refine (encoded_any _ l _ hxH.out.rowV (hTH.out.below hb3H.out).tab8 w1.out).mono ?_
  rintro e x4 ⟨v4, rfl, hp, hb4⟩
  obtain ⟨r, hr⟩ : ∃ r, chkR l = r := ⟨_, rfl⟩
  obtain ⟨E, hE⟩ : ∃ E, enD l = E := ⟨_, rfl⟩
  rw [hE] at hp
  rw [hr]
  have hrH := Lib.hid hr; have hEH := Lib.hid hE
  obtain ⟨A9, c9, rfl, _⟩ := hp.form
  replace hxH := Lib.hid (hxH.out.below hb4)
  replace hyH := Lib.hid (hyH.out.below hb4)
  replace hpH := Lib.hid (hpH.out.below hb4)
  have heH := Lib.hid hp
  have hb4H := Lib.hid (hb3H.out.trans (hb4.mono hb3H.out.size))
  clear hp hb4 hb3H hr hE
  go_wp2_with fail
  refine (printRow_any _ l _ hxH.out.rowV (hTH.out.below hb4H.out) w1.out).mono ?_
  obtain ⟨t, ht⟩ : ∃ t, strR l = t := ⟨_, rfl⟩
  rw [ht, hrH.out]
  rintro e x5 ⟨rfl, hb5⟩
  have htH := Lib.hid ht
  replace hxH := Lib.hid (hxH.out.below hb5)
  replace hyH := Lib.hid (hyH.out.below hb5)
  replace hpH := Lib.hid (hpH.out.below hb5)
  replace heH := Lib.hid (heH.out.below hb5)
  have hb5H := Lib.hid (hb4H.out.trans (hb5.mono hb4H.out.size))
  clear hb5 hb4H ht
  go_wp2_with fail
  refine (hash_any _ _ l cols _ hxH.out.rowV hyH.out.ints w2.out).mono ?_
  obtain ⟨H, hH⟩ : ∃ H, hashR l cols = H := ⟨_, rfl⟩
  rw [hH]
  rintro e x6 ⟨rfl, hb6⟩
  have hHH := Lib.hid hH
  replace hxH := Lib.hid (hxH.out.below hb6)
  replace hyH := Lib.hid (hyH.out.below hb6)
  replace hpH := Lib.hid (hpH.out.below hb6)
  replace heH := Lib.hid (heH.out.below hb6)
  have hb6H := Lib.hid (hb5H.out.trans (hb6.mono hb5H.out.size))
  clear hb6 hb5H hH
  go_wp2_with fail
  refine (ref02Picked_any _ _ l cols _ (haH.out.below hb6H.out) (hcH.out.below hb6H.out)).mono ?_
  rintro e x7 ⟨v7, rfl, hp, hb7⟩
  rw [hqH.out] at hp
  rw [hzH.out]
  obtain ⟨A14, c14, rfl, _⟩ := hp.form
  replace hxH := Lib.hid (hxH.out.below hb7)
  replace hyH := Lib.hid (hyH.out.below hb7)
  replace hpH := Lib.hid (hpH.out.below hb7)
  replace heH := Lib.hid (heH.out.below hb7)
  have hqqH := Lib.hid hp
  have hb7H := Lib.hid (hb6H.out.trans (hb7.mono hb6H.out.size))
  clear hp hb7 hb6H
  go_wp2_with fail
  refine (ref02Encoded_any _ l _ (haH.out.below hb7H.out) w3.out).mono ?_
  rintro e x8 ⟨v8, rfl, hp, hb8⟩
  rw [hEH.out] at hp
  rw [hrH.out]
  obtain ⟨A16, c16, rfl, _⟩ := hp.form
  replace hxH := Lib.hid (hxH.out.below hb8)
  replace hyH := Lib.hid (hyH.out.below hb8)
  replace hpH := Lib.hid (hpH.out.below hb8)
  replace heH := Lib.hid (heH.out.below hb8)
  replace hqqH := Lib.hid (hqqH.out.below hb8)
  have heeH := Lib.hid hp
  have hb8H := Lib.hid (hb7H.out.trans (hb8.mono hb7H.out.size))
  clear hp hb8 hb7H
  go_wp2_with fail
  refine (ref02Print_any _ l _ (haH.out.below hb8H.out) w3.out).mono ?_
  rw [htH.out, hrH.out]
  rintro e x9 ⟨rfl, hb9⟩
  replace hxH := Lib.hid (hxH.out.below hb9)
  replace hyH := Lib.hid (hyH.out.below hb9)
  replace hpH := Lib.hid (hpH.out.below hb9)
  replace heH := Lib.hid (heH.out.below hb9)
  replace hqqH := Lib.hid (hqqH.out.below hb9)
  replace heeH := Lib.hid (heeH.out.below hb9)
  have hb9H := Lib.hid (hb8H.out.trans (hb9.mono hb8H.out.size))
  clear hb9 hb8H
  go_wp2_with fail
  refine (rowCheck_any _ l _ hxH.out.rowV (hTH.out.below hb9H.out).tab8 (fun d hd => (w1.out d hd).2)).mono ?_
  rw [hrH.out]
  rintro e xa ⟨rfl, hba⟩
  replace hxH := Lib.hid (hxH.out.below hba)
  replace hyH := Lib.hid (hyH.out.below hba)
  replace hpH := Lib.hid (hpH.out.below hba)
  replace heH := Lib.hid (heH.out.below hba)
  replace hqqH := Lib.hid (hqqH.out.below hba)
  replace heeH := Lib.hid (heeH.out.below hba)
  have hbaH := Lib.hid (hb9H.out.trans (hba.mono hb9H.out.size))
  clear hba hb9H
  have hwr : wrap64 r = r := by
    have h := chkR_few l
    rw [hrH.out] at h
    unfold wrap64
    omega
  have hwz : wrap64 z = z := by
    have h := pkN_few l cols
    rw [hzH.out] at h
    unfold wrap64
    omega
  go_wp2_with fail
  refine (ref02Check_any _ l _ (haH.out.below hbaH.out) (fun d hd => (w3.out d hd).2)).mono ?_
  rw [hrH.out]
  rintro e xb ⟨rfl, hbb⟩
  replace hxH := Lib.hid (hxH.out.below hbb)
  replace hyH := Lib.hid (hyH.out.below hbb)
  replace hpH := Lib.hid (hpH.out.below hbb)
  replace heH := Lib.hid (heH.out.below hbb)
  replace hqqH := Lib.hid (hqqH.out.below hbb)
  replace heeH := Lib.hid (heeH.out.below hbb)
  have hbbH := Lib.hid (hbaH.out.trans (hbb.mono hbaH.out.size))
  clear hbb hbaH
  go_wp2_with fail
  refine (ref02Hash_any _ _ l cols _ (haH.out.below hbbH.out) (hcH.out.below hbbH.out) w2.out).mono ?_
  rw [hHH.out]
  rintro e xc ⟨rfl, hbc⟩
  replace hxH := Lib.hid (hxH.out.below hbc)
  replace hyH := Lib.hid (hyH.out.below hbc)
  replace hpH := Lib.hid (hpH.out.below hbc)
  replace heH := Lib.hid (heH.out.below hbc)
  replace hqqH := Lib.hid (hqqH.out.below hbc)
  replace heeH := Lib.hid (heeH.out.below hbc)
  have hbcH := Lib.hid (hbbH.out.trans (hbc.mono hbbH.out.size))
  clear hbc hbbH
  go_wp2_with fail
  refine (sameRow_any _ _ q _ hpH.out hqqH.out).mono ?_
  rintro e xd ⟨rfl, hbd⟩
  replace hxH := Lib.hid (hxH.out.below hbd)
  replace hyH := Lib.hid (hyH.out.below hbd)
  replace heH := Lib.hid (heH.out.below hbd)
  replace heeH := Lib.hid (heeH.out.below hbd)
  have hbdH := Lib.hid (hbcH.out.trans (hbd.mono hbcH.out.size))
  clear hbd hbcH
  go_wp2_with fail
  refine (sameBytes_any _ _ E _ heH.out heeH.out).mono ?_
  rintro e xe ⟨rfl, hbe⟩
  replace hxH := Lib.hid (hxH.out.below hbe)
  replace hyH := Lib.hid (hyH.out.below hbe)
  have hbeH := Lib.hid (hbdH.out.trans (hbe.mono hbdH.out.size))
  clear hbe hbdH
  go_wp2_with fail
  refine (known_any _).mono ?_
  rintro e xf ⟨rfl, hbf⟩
  replace hxH := Lib.hid (hxH.out.below hbf)
  replace hyH := Lib.hid (hyH.out.below hbf)
  have hbfH := Lib.hid (hbeH.out.trans (hbf.mono hbeH.out.size))
  clear hbf hbeH
  go_wp2_with fail
  refine (wholeRow_any _ _ _ l _ hxH.out (haH.out.below hbfH.out) hlH.out).mono ?_
  rintro e xg ⟨rfl, hbg⟩
  replace hyH := Lib.hid (hyH.out.below hbg)
  have hbgH := Lib.hid (hbfH.out.trans (hbg.mono hbfH.out.size))
  clear hbg hbfH
  go_wp2_with fail
  refine (wholeInts_any _ _ _ cols _ hyH.out (hcH.out.below hbgH.out) hcl.out).mono ?_
  rintro e xh ⟨rfl, hbh⟩
  have hbhH := Lib.hid (hbgH.out.trans (hbh.mono hbgH.out.size))
  clear hbh hbgH
  go_wp2_with fail
  go_ret
  exact ⟨rfl, hbhH.out⟩
end Go.Proofs.YtpmfbmigdpmloaaGreatDoor
end
section
/-
  Plain mathematics of bags of rows: the document's own sum (each row to its place in order) is what Sum tells, and there is one such list. No condition but those written.
-/
set_option linter.unusedVariables false
set_option linter.unusedSimpArgs false
namespace Go.Proofs.YtpmfbmigdpmloaaGreatDoor
open Go.RowKit Go.Lib

def S64 (n : Int) : Prop := -9223372036854775808 ≤ n ∧ n ≤ 9223372036854775807
/-- With a row more, so many times: to its place. -/
def addI : List Cn → Cn → List Cn
  | [], x => [x]
  | y :: r, x => if cmpR y.1 x.1 < 0 then y :: addI r x else if cmpR y.1 x.1 = 0 then (y.1, wrap64 (y.2 + x.2)) :: r else x :: y :: r
def sumI (l : List Cn) : List Cn := l.foldl addI []
def Inc (l : List Cn) : Prop := l.Pairwise (fun a b => cmpR a.1 b.1 = -1)
theorem cmpR_lt_trans {a b c : List Dat} (h1 : cmpR a b = -1) (h2 : cmpR b c = -1) : cmpR a c = -1 := by
  have h3 := cmpR_trans (l := a) (m := b) (n := c) (by omega) (by omega)
  have h4 := cmpR_range a c
  have h5 : cmpR a c ≠ 0 := by
    intro q
    have t1 := cmpR_turn c a
    have h6 := cmpR_trans (l := c) (m := a) (n := b) (by omega) (by omega)
    have t2 := cmpR_turn b c
    omega
  omega
theorem cmpR_zero_left {a b c : List Dat} (h1 : cmpR a b = 0) (h2 : cmpR b c = -1) : cmpR a c = -1 := by
  have h3 := cmpR_trans (l := a) (m := b) (n := c) (by omega) (by omega)
  have h4 := cmpR_range a c
  have h5 : cmpR a c ≠ 0 := by
    intro q
    have t1 := cmpR_turn c a
    have h6 := cmpR_trans (l := c) (m := a) (n := b) (by omega) (by omega)
    have t2 := cmpR_turn b c
    omega
  omega
theorem addI_mem : ∀ (l : List Cn) (x b : Cn), b ∈ addI l x → b.1 = x.1 ∨ ∃ y ∈ l, b.1 = y.1
  | [], x, b, h => by simp [addI] at h; subst h; exact .inl rfl
  | y :: r, x, b, h => by
    unfold addI at h
    split at h
    · rcases List.mem_cons.1 h with rfl | h
      · exact .inr ⟨_, by simp, rfl⟩
      · rcases addI_mem r x b h with h | ⟨z, hz, e⟩
        · exact .inl h
        · exact .inr ⟨z, by simp [hz], e⟩
    · split at h
      · rcases List.mem_cons.1 h with rfl | h
        · exact .inr ⟨y, by simp, rfl⟩
        · exact .inr ⟨b, by simp [h], rfl⟩
      · rcases List.mem_cons.1 h with rfl | h
        · exact .inl rfl
        · exact .inr ⟨b, h, rfl⟩
theorem addI_inc : ∀ (l : List Cn) (x : Cn), Inc l → Inc (addI l x)
  | [], x, _ => by simp [addI, Inc]
  | y :: r, x, h => by
    obtain ⟨h1, h2⟩ := List.pairwise_cons.1 h
    have hr := cmpR_range y.1 x.1
    have ht := cmpR_turn x.1 y.1
    unfold addI
    split
    · refine List.pairwise_cons.2 ⟨fun b hb => ?_, addI_inc r x h2⟩
      rcases addI_mem r x b hb with e | ⟨z, hz, e⟩
      · rw [e]; omega
      · rw [e]; exact h1 z hz
    · split
      · exact List.pairwise_cons.2 ⟨h1, h2⟩
      · refine List.pairwise_cons.2 ⟨fun b hb => ?_, h⟩
        rcases List.mem_cons.1 hb with rfl | hb
        · omega
        · exact cmpR_lt_trans (b := y.1) (by omega) (h1 b hb)
theorem addI_map : ∀ (l : List Cn) (x : Cn), Inc l → (∃ y ∈ l, cmpR y.1 x.1 = 0) → addI l x = l.map (fun y => if cmpR y.1 x.1 = 0 then (y.1, wrap64 (y.2 + x.2)) else y)
  | [], x, _, h => by obtain ⟨y, hy, _⟩ := h; cases hy
  | y :: r, x, h, hex => by
    obtain ⟨h1, h2⟩ := List.pairwise_cons.1 h
    unfold addI
    rw [List.map_cons]
    split
    · rename_i hlt
      rw [if_neg (by omega), addI_map r x h2]
      obtain ⟨z, hz, e⟩ := hex
      rcases List.mem_cons.1 hz with rfl | hz
      · omega
      · exact ⟨z, hz, e⟩
    · split
      · rename_i h0
        congr 1
        symm
        rw [List.map_congr_left (g := id), List.map_id]
        intro z hz
        rw [if_neg]
        · rfl
        · intro q
          have t := cmpR_turn z.1 x.1
          have t2 := h1 z hz
          have t3 := cmpR_turn y.1 z.1
          have t4 := cmpR_turn x.1 y.1
          have := cmpR_trans (l := z.1) (m := x.1) (n := y.1) (by omega) (by omega)
          omega
      · rename_i hlt h0
        obtain ⟨z, hz, e⟩ := hex
        exfalso
        rcases List.mem_cons.1 hz with rfl | hz
        · exact h0 e
        · have t := h1 z hz
          have t2 := cmpR_trans (l := y.1) (m := z.1) (n := x.1) (by omega) (by omega)
          omega
theorem addI_new : ∀ (l : List Cn) (x : Cn), (∀ y ∈ l, cmpR y.1 x.1 ≠ 0) → (addI l x).Perm (x :: l)
  | [], x, _ => List.Perm.refl _
  | y :: r, x, h => by
    unfold addI
    split
    · exact ((addI_new r x (fun z hz => h z (by simp [hz]))).cons y).trans (List.Perm.swap x y r)
    · rw [if_neg (h y (by simp))]
theorem addN_map {l : List Cn} {x : Cn} (hn : (l.map keyN).Nodup) (h : keyR x.1 ∈ l.map keyN) : addN l x = l.map (fun y => if keyR y.1 = keyR x.1 then (y.1, wrap64 (y.2 + x.2)) else y) := by
  unfold addN
  have hw : withN l x.1 = l := if_pos h
  have hp : placeN (l.map keyN) (keyN x) = (l.map keyN).idxOf (keyR x.1) := if_pos h
  rw [hw, hp]
  have hi := List.idxOf_lt_length_of_mem h
  have hg : (l.map keyN)[(l.map keyN).idxOf (keyR x.1)] = keyR x.1 := List.getElem_idxOf hi
  apply List.ext_getElem?
  intro j
  rw [List.getElem?_modify, List.getElem?_map]
  cases hj : l[j]? with
  | none => simp
  | some y =>
    obtain ⟨hj', rfl⟩ := List.getElem?_eq_some_iff.1 hj
    have hk : (l.map keyN)[j]'(by simpa using hj') = keyR l[j].1 := by rw [List.getElem_map]; rfl
    by_cases c : (l.map keyN).idxOf (keyR x.1) = j
    · have hq : keyR l[j].1 = keyR x.1 := by
        subst c
        rw [← hk]
        exact hg
      simp only [Option.map_eq_map, Option.map_some, if_pos c, if_pos hq]
    · have hq : ¬ keyR l[j].1 = keyR x.1 := by
        intro q
        apply c
        have hj2 : j < (l.map keyN).length := by simpa using hj'
        have hp := List.pairwise_iff_getElem.1 hn
        rcases Nat.lt_trichotomy ((l.map keyN).idxOf (keyR x.1)) j with h1 | h1 | h1
        · exact absurd (by rw [hg, hk]; exact q.symm) (hp _ j hi hj2 h1)
        · exact h1
        · exact absurd (by rw [hg, hk]; exact q) (hp j _ hj2 hi h1)
      simp only [Option.map_eq_map, Option.map_some, if_neg c, if_neg hq]
theorem wrap_id {n : Int} (h : S64 n) : wrap64 n = n := by
  unfold S64 at h
  unfold wrap64
  omega
theorem addN_new {l : List Cn} {x : Cn} (h : keyR x.1 ∉ l.map keyN) (hx : S64 x.2) : addN l x = l ++ [x] := by
  unfold addN
  have hw : withN l x.1 = l ++ [(x.1, 0)] := if_neg h
  have hp : placeN (l.map keyN) (keyN x) = l.length := by unfold placeN; rw [if_neg (show keyN x ∉ _ from h), List.length_map]
  rw [hw, hp]
  apply List.ext_getElem?
  intro j
  rw [List.getElem?_modify]
  by_cases c : l.length = j
  · subst c
    simp [wrap_id hx]
  · by_cases c2 : j < l.length
    · simp [List.getElem?_append_left c2, c]
    · rw [List.getElem?_eq_none (l := l ++ [(x.1, 0)]) (by simp; omega), List.getElem?_eq_none (l := l ++ [x]) (by simp; omega)]
      rfl
theorem sumI_perm : ∀ (l acc acc' : List Cn), WideN l → (∀ x ∈ l, S64 x.2) → WideN acc → acc'.Perm acc → Inc acc' → (acc.map keyN).Nodup → (l.foldl addI acc').Perm (l.foldl addN acc) ∧ Inc (l.foldl addI acc')
  | [], _, _, _, _, _, h, hi, _ => ⟨h, hi⟩
  | x :: l, acc, acc', hw, hs, ha, hp, hi, hn => by
    have hw' : WideN l := fun y hy => hw y (by simp [hy])
    have hs' : ∀ y ∈ l, S64 y.2 := fun y hy => hs y (by simp [hy])
    have hwx := hw x (by simp)
    have haN : WideN (addN acc x) := by
      intro y hy
      by_cases hk : keyR x.1 ∈ acc.map keyN
      · rw [addN_map hn hk] at hy
        obtain ⟨z, hz, rfl⟩ := List.mem_map.1 hy
        have := ha z hz
        split <;> exact this
      · rw [addN_new hk (hs x (by simp))] at hy
        rcases List.mem_append.1 hy with hy | hy
        · exact ha y hy
        · simp at hy; subst hy; exact hwx
    have hnN : ((addN acc x).map keyN).Nodup := keys_apart [x] acc hn
    refine sumI_perm l (addN acc x) (addI acc' x) hw' hs' haN ?_ (addI_inc acc' x hi) hnN
    by_cases hk : keyR x.1 ∈ acc.map keyN
    · obtain ⟨y, hy, e⟩ := List.mem_map.1 hk
      have h0 := (keyR_same y.1 x.1 (ha y hy) hwx).1 e
      rw [addI_map acc' x hi ⟨y, hp.mem_iff.2 hy, h0⟩, addN_map hn hk]
      have hmap : acc'.map (fun y => if cmpR y.1 x.1 = 0 then (y.1, wrap64 (y.2 + x.2)) else y) = acc'.map (fun y => if keyR y.1 = keyR x.1 then (y.1, wrap64 (y.2 + x.2)) else y) := by
        apply List.map_congr_left
        intro z hz
        have := keyR_same z.1 x.1 (ha z (hp.mem_iff.1 hz)) hwx
        by_cases c : cmpR z.1 x.1 = 0
        · rw [if_pos c, if_pos (this.2 c)]
        · rw [if_neg c, if_neg (fun q => c (this.1 q))]
      rw [hmap]
      exact hp.map _
    · rw [addN_new hk (hs x (by simp))]
      refine (addI_new acc' x (fun y hy q => hk ?_)).trans ((hp.cons x).trans (List.perm_append_singleton x acc).symm)
      exact List.mem_map.2 ⟨y, hp.mem_iff.1 hy, (keyR_same y.1 x.1 (ha y (hp.mem_iff.1 hy)) hwx).2 q⟩
/-- The document's sum. -/
def refSum (l : List Cn) : List Cn := (sumI l).filter (fun x => x.2 != 0)
theorem refSum_of {l : List Cn} (hw : WideN l) (hs : ∀ x ∈ l, S64 x.2) : SumOf l (refSum l) := by
  obtain ⟨h1, h2⟩ := sumI_perm l [] [] hw hs (fun x hx => by cases hx) (List.Perm.refl _) List.Pairwise.nil (by simp)
  exact ⟨h1.filter _, h2.filter _⟩
theorem inc_one : ∀ {r r' : List Cn}, r.Perm r' → Inc r → Inc r' → r = r'
  | [], r', h, _, _ => h.nil_eq
  | a :: r, [], h, _, _ => absurd h.eq_nil (by simp)
  | a :: r, b :: r', h, h1, h2 => by
    obtain ⟨u1, u2⟩ := List.pairwise_cons.1 h1
    obtain ⟨v1, v2⟩ := List.pairwise_cons.1 h2
    have hab : a = b := by
      have ha : a ∈ b :: r' := h.mem_iff.1 (by simp)
      have hb : b ∈ a :: r := h.mem_iff.2 (by simp)
      rcases List.mem_cons.1 ha with e | ha
      · exact e
      · rcases List.mem_cons.1 hb with e | hb
        · exact e.symm
        · have t1 := v1 a ha
          have t2 := u1 b hb
          have t3 := cmpR_turn a.1 b.1
          omega
    subst hab
    rw [inc_one (List.perm_cons a |>.1 h) u2 v2]
theorem sum_one {l r r' : List Cn} (h : SumOf l r) (h' : SumOf l r') : r = r' := inc_one (h.1.trans h'.1.symm) h.2 h'.2
/-- .. where it stands. -/
theorem addI_at : ∀ (l : List Cn) (x : Cn) (k : Nat), k ≤ l.length → (∀ i y, i < k → l[i]? = some y → cmpR y.1 x.1 < 0) → (∀ y, l[k]? = some y → ¬ cmpR y.1 x.1 < 0) →
    addI l x = match l[k]? with
      | some y => if cmpR y.1 x.1 = 0 then l.take k ++ (y.1, wrap64 (y.2 + x.2)) :: l.drop (k + 1) else l.take k ++ x :: l.drop k
      | none => l.take k ++ [x]
  | [], x, 0, _, _, _ => rfl
  | [], x, k + 1, h, _, _ => by simp at h
  | y :: r, x, 0, _, _, h2 => by
    have := h2 y rfl
    unfold addI
    rw [if_neg this]
    simp
  | y :: r, x, k + 1, h, h1, h2 => by
    have h0 := h1 0 y (by omega) rfl
    have ih := addI_at r x k (by simpa using h) (fun i z hi hz => h1 (i + 1) z (by omega) (by simpa using hz)) (fun z hz => h2 z (by simpa using hz))
    unfold addI
    rw [if_pos h0, ih]
    simp only [List.getElem?_cons_succ, List.take_succ_cons, List.drop_succ_cons]
    cases r[k]? with
    | none => simp
    | some z => simp only; split <;> simp
end Go.Proofs.YtpmfbmigdpmloaaGreatDoor
end
section
/-
  From what the statements of layer 2 say of an argument (it reads as a datum) to the words of the walks: a row, counted rows, integers. Conditions: those written.
-/
set_option linter.unusedVariables false
set_option linter.unusedSimpArgs false
namespace Go.Proofs.YtpmfbmigdpmloaaGreatDoor
open Go.ChangeShapes Go.WideShapes Go.ChangeAt Go.RowKit Go.Joins Go.Lib Go.Deep

theorem cell_lt {W : World} {a : Addr} {u : Value} (h : W.cell? a = some u) : a.block < W.heap.size := by
  rcases Nat.lt_or_ge a.block W.heap.size with h1 | h1
  · exact h1
  · simp [World.cell?, Array.getElem?_eq_none h1] at h
theorem cellsDat : Tryz.prog.cellsOf 60 = 4 := by kernel_rfl
section
variable {H : Type} {enc : TypeId × Value → H} {W : World}
/-- What a datum reads as. -/
def datD (d : Dat) : DataW H := .agg [.lit (.int .u8 d.k), .lit (.bool d.b), .lit (.int .i64 d.n), .lit (.string d.s.data.toList)]
/-- What a row reads as: its data, and what stands in its room behind. -/
def DatR (x : DataW H) (l : List Dat) : Prop := (x = .nil ∧ l = []) ∨ ∃ r, x = .slice (l.map datD) r
theorem open_cells4 {P : Program} {base : Nat} {spare : Nat → Bool} {held : Bool} {t : TypeId} {f0 f1 f2 f3 : Field} {fuel : Nat} {cs : List Value} {x : DataW H × List MemPlace} (hs : P.underlying t = some (.struct #[f0, f1, f2, f3])) (hone : oneCellFields P #[f0, f1, f2, f3] = true) (hC : P.cellsOf t = 4)
    (h : DataW.trod enc P W base spare held fuel t cs = some x) :
    ∃ (v0 v1 v2 v3 : Value) (y0 y1 y2 y3 : DataW H × List MemPlace) (n : Nat), cs = [v0, v1, v2, v3] ∧ x.1 = .agg [y0.1, y1.1, y2.1, y3.1] ∧
      DataW.trod enc P W base spare held n f0.type [v0] = some y0 ∧ DataW.trod enc P W base spare held n f1.type [v1] = some y1 ∧ DataW.trod enc P W base spare held n f2.type [v2] = some y2 ∧ DataW.trod enc P W base spare held n f3.type [v3] = some y3 := by
  obtain ⟨y0, y1, y2, y3, n, rfl, hl, h0, h1, h2, h3⟩ := trod_struct4 hs h
  rw [hC] at hl
  obtain ⟨o0, k0⟩ := hone_of hone 0 f0 rfl
  obtain ⟨o1, k1⟩ := hone_of hone 1 f1 rfl
  obtain ⟨o2, k2⟩ := hone_of hone 2 f2 rfl
  obtain ⟨o3, k3⟩ := hone_of hone 3 f3 rfl
  match cs, hl with
  | [v0, v1, v2, v3], _ => exact ⟨v0, v1, v2, v3, y0, y1, y2, y3, n, rfl, rfl, by simpa [o0, k0] using h0, by simpa [o1, k1] using h1, by simpa [o2, k2] using h2, by simpa [o3, k3] using h3⟩
theorem open_cells2 {P : Program} {base : Nat} {spare : Nat → Bool} {held : Bool} {t : TypeId} {f0 f1 : Field} {fuel : Nat} {cs : List Value} {x : DataW H × List MemPlace} (hs : P.underlying t = some (.struct #[f0, f1])) (hone : oneCellFields P #[f0, f1] = true) (hC : P.cellsOf t = 2)
    (h : DataW.trod enc P W base spare held fuel t cs = some x) :
    ∃ (v0 v1 : Value) (y0 y1 : DataW H × List MemPlace) (n : Nat), cs = [v0, v1] ∧ x.1 = .agg [y0.1, y1.1] ∧
      DataW.trod enc P W base spare held n f0.type [v0] = some y0 ∧ DataW.trod enc P W base spare held n f1.type [v1] = some y1 := by
  obtain ⟨y0, y1, n, rfl, hl, h0, h1⟩ := trod_struct2 hs h
  rw [hC] at hl
  obtain ⟨o0, k0⟩ := hone_of hone 0 f0 rfl
  obtain ⟨o1, k1⟩ := hone_of hone 1 f1 rfl
  match cs, hl with
  | [v0, v1], _ => exact ⟨v0, v1, y0, y1, n, rfl, rfl, by simpa [o0, k0] using h0, by simpa [o1, k1] using h1⟩
set_option maxRecDepth 100000 in
theorem open_datum {fuel : Nat} {cs : List Value} {x : DataW H × List MemPlace} (h : DataW.trod enc Tryz.prog W 0 (fun _ => true) true fuel 60 cs = some x) : ∃ d : Dat, cs = cellsD d ∧ x.1 = datD d ∧ Wide d ∧ d.s.size ≤ 9223372036854775807 := by
  obtain ⟨v0, v1, v2, v3, y0, y1, y2, y3, n, rfl, hx, h0, h1, h2, h3⟩ := open_cells4 Tryz.underlying60 (by kernel_rfl) cellsDat h
  obtain ⟨k0, e0, rfl, w0⟩ := DataW.trod_int Tryz.underlying58 h0
  obtain ⟨b0, e1, rfl⟩ := DataW.trod_bool Tryz.underlying4 h1
  obtain ⟨n0, e2, rfl, w2⟩ := DataW.trod_int Tryz.underlying2 h2
  obtain ⟨s0, e3, rfl, w3⟩ := DataW.trod_string Tryz.underlying9 h3
  simp only [List.cons.injEq, and_true] at e0 e1 e2 e3
  subst e0 e1 e2 e3
  refine ⟨⟨k0, b0, n0, s0⟩, rfl, hx, ⟨?_, ?_⟩, ?_⟩
  · simpa [Lit.wf, IntKind.min, IntKind.max, IntKind.signed, IntKind.bits] using w0
  · simpa [Lit.wf, IntKind.min, IntKind.max, IntKind.signed, IntKind.bits] using w2
  · unfold maxLen at w3; exact w3
theorem map_range {n : Nat} {f : Nat → Dat} {D : Nat → DataW H} (h : ∀ i, i < n → D i = datD (f i)) : (List.range n).map D = ((List.range n).map f).map datD := by
  rw [List.map_map]
  exact List.map_congr_left fun i hi => h i (List.mem_range.1 hi)
/-- Cells that lie so make a row. -/
theorem rowV_of {a : Addr} {len cap : Nat} {f : Nat → Dat} (hlc : len ≤ cap) (hcm : cap ≤ 9223372036854775807) (hc : ∀ i, i < len → ∀ j u, (cellsD (f i))[j]? = some u → W.cell? (a.add (i * 4 + j)) = some u) :
    RowV W (.slice (some a) len cap) ((List.range len).map f) := by
  have hl : ((List.range len).map f).length = len := by simp
  refine ⟨cells_len _, some a, cap, by rw [hl], by rw [hl]; exact hlc, hcm, fun q => (by cases q), fun hp => ⟨a, rfl, ?_, fun j u hj => ?_⟩⟩
  · rw [hl] at hp
    have := cell_lt (hc 0 hp 0 _ rfl)
    rwa [add_block] at this
  · have e : j = j / 4 * 4 + j % 4 := by omega
    have hm : j % 4 < 4 := Nat.mod_lt _ (by omega)
    have hj2 : j < ((List.range len).map f).length * 4 := by
      rw [← cells_len]
      exact (List.getElem?_eq_some_iff.1 hj).1
    rw [hl] at hj2
    have hi : j / 4 < len := by omega
    rw [e, cells_get _ (j / 4) (by rw [hl]; exact hi) (j % 4) hm] at hj
    rw [e]
    exact hc (j / 4) hi (j % 4) u (by simpa using hj)
set_option maxRecDepth 100000 in
theorem open_row {fuel : Nat} {v : Value} {x : DataW H × List MemPlace} (h : DataW.trod enc Tryz.prog W 0 (fun _ => true) true fuel 23 [v] = some x) : ∃ l, RowV W v l ∧ (∀ d ∈ l, Wide d ∧ d.s.size ≤ 9223372036854775807) ∧ DatR x.1 l := by
  rcases open_slice Tryz.underlying23 h with ⟨h1, rfl⟩ | ⟨a, len, cap, m, n, D, Pl, h1, _, hlc, hcm, hm, rfl, hx⟩
  · obtain rfl : v = .slice none 0 0 := by simpa using h1
    exact ⟨[], RowV.nil W, by simp, .inl ⟨rfl, rfl⟩⟩
  · obtain rfl : v = .slice (some a) len cap := by simpa using h1
    have hlm : len ≤ m := by rw [hm]; simpa using hlc
    have each : ∀ i, i < len → ∃ d : Dat, (∀ j u, (cellsD d)[j]? = some u → W.cell? (a.add (i * 4 + j)) = some u) ∧ D i = datD d ∧ Wide d ∧ d.s.size ≤ 9223372036854775807 := by
      intro i hi
      obtain ⟨cs, g1, g2⟩ := hx i (by omega)
      obtain ⟨d, rfl, e, hw, hs⟩ := open_datum g2
      rw [cellsDat] at g1
      obtain ⟨_, hlen, hcell⟩ := World.cells?_some g1
      refine ⟨d, fun j u hj => ?_, e, hw, hs⟩
      have hj4 : j < 4 := (List.getElem?_eq_some_iff.1 hj).1
      have := hcell j hj4
      rw [add_twice] at this
      rw [this]
      first | exact hj | simpa using hj
    obtain ⟨f, hf⟩ := choose_lt each
    refine ⟨(List.range len).map f, rowV_of hlc (by unfold maxLen at hcm; exact hcm) (fun i hi => (hf i hi).1), fun d hd => ?_, .inr ⟨_, by rw [map_range (fun i hi => (hf i hi).2.1)]⟩⟩
    obtain ⟨i, hi, rfl⟩ := List.mem_map.1 hd
    exact (hf i (List.mem_range.1 hi)).2.2
set_option maxRecDepth 100000 in
theorem arg_row {b : Nat} {v : Value} {d : DataW H} {p : List MemPlace} (hv : Value.okWide Tryz.prog W .any b 23 v) (h : DataW.Trod enc Tryz.prog W 0 (fun _ => true) true 23 v d p) : ∃ l, RowV W v l ∧ (∀ d ∈ l, Wide d ∧ d.s.size ≤ 9223372036854775807) ∧ DatR d l := by
  obtain ⟨a, len, cap, rfl⟩ := okWide_slice Tryz.underlying23 hv
  obtain ⟨fuel, hf⟩ := h
  exact open_row hf
/-- What a slice of integers reads as. -/
def DatI (x : DataW H) (l : List Int) : Prop := (x = .nil ∧ l = []) ∨ ∃ r, x = .slice (l.map (fun z => .lit (.int .i64 z))) r
set_option maxRecDepth 100000 in
theorem arg_ints {b : Nat} {v : Value} {d : DataW H} {p : List MemPlace} (hv : Value.okWide Tryz.prog W .any b 24 v) (h : DataW.Trod enc Tryz.prog W 0 (fun _ => true) true 24 v d p) : ∃ l, IntsV W v l ∧ True ∧ DatI d l := by
  obtain ⟨a', len', cap', rfl⟩ := okWide_slice Tryz.underlying24 hv
  obtain ⟨fuel, hf⟩ := h
  rcases open_slice1 Tryz.underlying24 (by kernel_rfl) hf with ⟨h1, h2⟩ | ⟨a, len, cap, m, n, V, D, Pl, h1, _, hlc, hcm, hm, hx, hc⟩
  · simp [Value.cells] at h1
    obtain ⟨rfl, rfl, rfl⟩ := h1
    cases h2
    exact ⟨[], ⟨rfl, none, 0, rfl, Nat.le_refl _, by decide, fun _ => rfl, fun q => absurd q (by simp)⟩, trivial, .inl ⟨rfl, rfl⟩⟩
  · simp [Value.cells] at h1
    obtain ⟨rfl, rfl, rfl⟩ := h1
    cases hx
    have hlm : len' ≤ m := by rw [hm]; simpa using hlc
    have each : ∀ i, i < len' → ∃ z : Int, W.cell? (a.add i) = some (.int .i64 z) ∧ D i = .lit (.int .i64 z) := by
      intro i hi
      obtain ⟨g1, g2⟩ := hc i (by omega)
      obtain ⟨z, e, hz, _⟩ := DataW.trod_int Tryz.underlying3 g2
      simp only [List.cons.injEq, and_true] at e
      rw [e] at g1
      exact ⟨z, g1, congrArg (·.1) hz⟩
    obtain ⟨f, hf'⟩ := choose_lt each
    have hl : ((List.range len').map f).length = len' := by simp
    refine ⟨(List.range len').map f, ⟨by rw [List.length_map, hl]; omega, some a, cap', by rw [hl], by rw [hl]; exact hlc, by unfold maxLen at hcm; exact hcm, fun q => (by cases q), fun hp => ⟨a, rfl, ?_, fun j u hj => ?_⟩⟩, trivial, .inr ⟨(List.range (m - len')).map fun j => D (len' + j), ?_⟩⟩
    · rw [hl] at hp
      have := cell_lt (hf' 0 hp).1
      rwa [add_block] at this
    · have hj' : j < len' := by
        have := (List.getElem?_eq_some_iff.1 hj).1
        simpa using this
      rw [(hf' j hj').1]
      simp [hj', intV] at hj
      rw [hj]
    · congr 1
      rw [List.map_map]
      exact List.map_congr_left fun i hi => (hf' i (List.mem_range.1 hi)).2
/-- What counted rows read as. -/
def DatC (x : DataW H) (ds : List Cd) : Prop := (x = .nil ∧ ds = []) ∨ ∃ es r, x = .slice es r ∧ es.length = ds.length ∧ ∀ d ∈ ds, ∃ y, .agg [y, .lit (.int .i64 d.1.n)] ∈ es ∧ DatR y d.2
theorem cellsCt : Tryz.prog.cellsOf 74 = 2 := by kernel_rfl
instance : Inhabited Cd := ⟨(⟨none, 0, 0, 0⟩, [])⟩
theorem cells_get2 : ∀ (l : List Cd) (i : Nat) (h : i < l.length) (j : Nat), j < 2 → (cellsC l)[i * 2 + j]? = (cellsV l[i].1)[j]? := by
  intro l i h j hj
  unfold cellsC
  rw [flat_get _ (fun x hx => by obtain ⟨y, _, rfl⟩ := List.mem_map.1 hx; rfl) i j hj, List.getElem?_map, List.getElem?_eq_getElem h]
  rfl
set_option maxRecDepth 100000 in
theorem arg_counted {b : Nat} {v : Value} {d : DataW H} {p : List MemPlace} (hv : Value.okWide Tryz.prog W .any b 71 v) (h : DataW.Trod enc Tryz.prog W 0 (fun _ => true) true 71 v d p) :
    ∃ ds, CtsV W v ds ∧ (∀ d ∈ ds, (∀ x ∈ d.2, Wide x ∧ x.s.size ≤ 9223372036854775807) ∧ S64 d.1.n) ∧ DatC d ds := by
  obtain ⟨a', len', cap', rfl⟩ := okWide_slice Tryz.underlying71 hv
  obtain ⟨fuel, hf⟩ := h
  rcases open_slice Tryz.underlying71 hf with ⟨h1, h2⟩ | ⟨a, len, cap, m, n, D, Pl, h1, _, hlc, hcm, hm, hx, hc⟩
  · simp [Value.cells] at h1
    obtain ⟨rfl, rfl, rfl⟩ := h1
    cases h2
    exact ⟨[], ⟨⟨rfl, none, 0, rfl, Nat.le_refl _, by decide, fun _ => rfl, fun q => absurd q (by simp)⟩, by simp⟩, by simp, .inl ⟨rfl, rfl⟩⟩
  · simp [Value.cells] at h1
    obtain ⟨rfl, rfl, rfl⟩ := h1
    cases hx
    have hlm : len' ≤ m := by rw [hm]; simpa using hlc
    have each : ∀ i, i < len' → ∃ d : Cd, (∀ j u, (cellsV d.1)[j]? = some u → W.cell? (a.add (i * 2 + j)) = some u) ∧ RowV W (valD d) d.2 ∧ ((∀ x ∈ d.2, Wide x ∧ x.s.size ≤ 9223372036854775807) ∧ S64 d.1.n) ∧ ∃ y, D i = .agg [y, .lit (.int .i64 d.1.n)] ∧ DatR y d.2 := by
      intro i hi
      obtain ⟨cs, g1, g2⟩ := hc i (by omega)
      obtain ⟨v0, v1, y0, y1, k, rfl, e, t0, t1⟩ := open_cells2 Tryz.underlying74 (by kernel_rfl) cellsCt g2
      obtain ⟨A0, l0, c0, e0⟩ := slice_form Tryz.underlying23 t0
      simp only [List.cons.injEq, and_true] at e0
      subst e0
      obtain ⟨l, hl, hw, hd⟩ := open_row t0
      obtain ⟨z, e1, rfl, w1⟩ := DataW.trod_int Tryz.underlying2 t1
      simp only [List.cons.injEq, and_true] at e1
      subst e1
      rw [cellsCt] at g1
      obtain ⟨_, hlen, hcell⟩ := World.cells?_some g1
      refine ⟨(⟨A0, l0, c0, z⟩, l), fun j u hj => ?_, hl, ⟨hw, ?_⟩, y0.1, e, hd⟩
      · have hj2 : j < 2 := (List.getElem?_eq_some_iff.1 hj).1
        have := hcell j hj2
        rw [add_twice] at this
        rw [this]
        exact hj
      · simpa [S64, Lit.wf, IntKind.min, IntKind.max, IntKind.signed, IntKind.bits] using w1
    obtain ⟨f, hf'⟩ := choose_lt each
    have hl : ((List.range len').map f).length = len' := by simp
    refine ⟨(List.range len').map f, ⟨⟨cellsC_len _, some a, cap', by rw [hl], by rw [hl]; exact hlc, by unfold maxLen at hcm; exact hcm, fun q => (by cases q), fun hp => ⟨a, rfl, ?_, fun j u hj => ?_⟩⟩, ?_⟩, ?_, .inr ⟨_, (List.range (m - len')).map fun j => D (len' + j), rfl, by simp, ?_⟩⟩
    · rw [hl] at hp
      have := cell_lt ((hf' 0 hp).1 0 _ rfl)
      rwa [add_block] at this
    · have e : j = j / 2 * 2 + j % 2 := by omega
      have hj2 : j < len' * 2 := by
        have := (List.getElem?_eq_some_iff.1 hj).1
        rw [cellsC_len, hl] at this
        exact this
      have hi : j / 2 < len' := by omega
      rw [e, cells_get2 _ (j / 2) (by rw [hl]; exact hi) (j % 2) (Nat.mod_lt _ (by omega))] at hj
      rw [e]
      exact (hf' (j / 2) hi).1 (j % 2) u (by simpa using hj)
    · intro d hd
      obtain ⟨i, hi, rfl⟩ := List.mem_map.1 hd
      exact (hf' i (List.mem_range.1 hi)).2.1
    · intro d hd
      obtain ⟨i, hi, rfl⟩ := List.mem_map.1 hd
      exact (hf' i (List.mem_range.1 hi)).2.2.1
    · intro d hd
      obtain ⟨i, hi, rfl⟩ := List.mem_map.1 hd
      obtain ⟨y, hy, hdr⟩ := (hf' i (List.mem_range.1 hi)).2.2.2
      exact ⟨y, hy ▸ List.mem_map.2 ⟨i, hi, rfl⟩, hdr⟩
/-! ### what the bound gives -/
theorem bulk_all {l : List (DataW H)} : l.length ≤ Rows.uptoBulkAll l := by
  induction l with
  | nil => simp [Rows.uptoBulkAll]
  | cons x r ih =>
    have : 1 ≤ Rows.uptoBulk x := by
      cases x with
      | lit l => cases l <;> simp [Rows.uptoBulk]
      | nil => simp [Rows.uptoBulk]
      | ptr d => simp [Rows.uptoBulk]
      | slice elems spare => simp [Rows.uptoBulk]
      | agg parts => simp [Rows.uptoBulk]
      | iface t d => simp [Rows.uptoBulk]
      | map entries => simp [Rows.uptoBulk]
      | held h => simp [Rows.uptoBulk]
    simp only [Rows.uptoBulkAll, List.length_cons]
    omega
theorem bulk_mem {l : List (DataW H)} {d : DataW H} (h : d ∈ l) : Rows.uptoBulk d ≤ Rows.uptoBulkAll l := by
  induction l with
  | nil => cases h
  | cons x r ih =>
    simp only [Rows.uptoBulkAll]
    rcases List.mem_cons.1 h with rfl | h
    · omega
    · have := ih h; omega
theorem bulk_le {l : List (DataW H)} (h : Rows.uptoSmall H l = true) : Rows.uptoBulkAll l ≤ 1048576 := of_decide_eq_true h
theorem bulk_row : ∀ l : List Dat, szR l ≤ 4 * Rows.uptoBulkAll (H := H) (l.map datD)
  | [] => by simp [szR]
  | d :: l => by
    have h := bulk_row l
    have e : d.s.data.toList.length = d.s.size := by rw [Array.length_toList]; rfl
    simp only [List.map_cons, Rows.uptoBulkAll, szR, datD, Rows.uptoBulk, szD] at h ⊢
    omega
theorem bulkR {x : DataW H} {l : List Dat} (h : DatR x l) (hb : Rows.uptoBulk x ≤ 1048576) : szR l ≤ 4194304 := by
  rcases h with ⟨rfl, rfl⟩ | ⟨r, rfl⟩
  · simp [szR]
  · have := bulk_row (H := H) l
    simp only [Rows.uptoBulk] at hb
    omega
theorem bulkI {x : DataW H} {l : List Int} (h : DatI x l) (hb : Rows.uptoBulk x ≤ 1048576) : l.length ≤ 1048576 := by
  rcases h with ⟨rfl, rfl⟩ | ⟨r, rfl⟩
  · simp
  · have := bulk_all (l := (l.map (fun z => (DataW.lit (.int .i64 z) : DataW H))))
    simp only [Rows.uptoBulk] at hb
    rw [List.length_map] at this
    omega
theorem bulkC {x : DataW H} {ds : List Cd} (h : DatC x ds) (hb : Rows.uptoBulk x ≤ 1048576) : ds.length ≤ 1048576 ∧ ∀ d ∈ ds, szR d.2 ≤ 4194304 := by
  rcases h with ⟨rfl, rfl⟩ | ⟨es, r, rfl, hl, he⟩
  · simp
  · simp only [Rows.uptoBulk] at hb
    refine ⟨by have := bulk_all (l := es); omega, fun d hd => ?_⟩
    obtain ⟨y, hy, hr⟩ := he d hd
    have h1 := bulk_mem hy
    simp only [Rows.uptoBulk, Rows.uptoBulkAll] at h1
    exact bulkR hr (by omega)
end
end Go.Proofs.YtpmfbmigdpmloaaGreatDoor
end
section
/-
  From what a row lists of the library's tables to what the walks ask. Condition: the listed variables read as listed.
-/
set_option linter.unusedVariables false
set_option linter.unusedSimpArgs false
namespace Go.Proofs.YtpmfbmigdpmloaaGreatDoor
open Go.RowKit Go.Lib Go.Shelf

theorem tabs_pow {W : World} (h : VarReads Tryz.prog W "internal/strconv.uint64pow10" Rows.laid_internal_strconv_uint64pow10) :
    Lib.TabIs Tryz.prog W "internal/strconv.uint64pow10" .u64 Lib.pow10Tab ∧ 3 < W.heap.size := by
  obtain ⟨g, t, cs, fuel, p, hg, hty, hvar, hd⟩ := h
  obtain rfl := Option.some.inj ((show Tryz.prog.globalNamed "internal/strconv.uint64pow10" = some 3 by kernel_rfl).symm.trans hg)
  obtain rfl := Option.some.inj ((show (Tryz.prog.globals[3]?).map (·.type) = some 173 by kernel_rfl).symm.trans hty)
  constructor
  · unfold Lib.TabIs
    rw [hvar]
    have e : (Rows.laid_internal_strconv_uint64pow10 : DataW Unit) = Lib.tabData .u64 Lib.pow10Tab := by kernel_rfl
    rw [e] at hd
    have := Lib.cells_of_tab Tryz.underlying173 Tryz.underlying36 (by kernel_rfl) (by kernel_rfl) hd
    rw [← this]
  · unfold World.var? at hvar
    rw [show Tryz.prog.globalNamed "internal/strconv.uint64pow10" = some 3 by kernel_rfl] at hvar
    simp only [Option.bind_some] at hvar
    rcases Nat.lt_or_ge 3 W.heap.size with h | h
    · exact h
    · rw [Array.getElem?_eq_none h] at hvar
      cases hvar

theorem tabs_of {W : World} (h1 : VarReads Tryz.prog W "unicode/utf8.first" Rows.laid_unicode_utf8_first) (h2 : VarReads Tryz.prog W "unicode/utf8.acceptRanges" Rows.laid_unicode_utf8_acceptRanges)
    (h3 : VarReads Tryz.prog W "internal/strconv.uint64pow10" Rows.laid_internal_strconv_uint64pow10) : Tabs W := by
  refine ⟨?_, (tabs_pow h3).1, (tabs_pow h3).2⟩
  have e2 : (Rows.laid_unicode_utf8_acceptRanges : DataW Unit) = acceptData := by kernel_rfl
  have e1 : Rows.laid_unicode_utf8_first = firstData := Pinned.utf8First_eq
  rw [e2] at h2
  rw [e1] at h1
  exact utf8Tabs_of_readsT (U8Types.of196 Tryz.lays196) ⟨by kernel_rfl, by kernel_rfl, by kernel_rfl, by kernel_rfl, by kernel_rfl, by kernel_rfl, by kernel_rfl⟩ h1 h2
end Go.Proofs.YtpmfbmigdpmloaaGreatDoor
end
