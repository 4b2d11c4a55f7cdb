/-
  How the program reads one datum of a row's bytes, at this program. Condition: unicode/utf8's tables lie as their initialisers lay them.
-/
import Derived.Test.YtfkimemagbkcoaaDoorRwRa
set_option linter.unusedVariables false
set_option linter.unusedSimpArgs false
namespace Go.Proofs.YtfkimemagbkcoaaDoor
open Go.RowKit Go.Lib

theorem HasV.has {w : World} {b : Nat} {c0 c1 c2 c3 : Value} (h : HasV w b [c0, c1, c2, c3] 79) : Has w b c0 c1 c2 c3 := h
def valDat (d : Dat) : Value := .agg #[.int .u8 d.k, .bool d.b, .int .i64 d.n, .string d.s]
theorem Stay.own {g B : Nat} {a w : World} (h : Stay g B a w) {b : Nat} (hb : B ≤ b) (o : Nat) (u : Value) : Stay g B a (w.setCell ⟨b, o, none⟩ u) :=
  h.trans (Stay.of ((Below.refl _ _).setCell hb u))
theorem RdS.set {W0 w : World} {L : List UInt8} (h : RdS W0 w L) {b : Nat} (hb : W0.heap.size < b) (o : Nat) (u : Value) : RdS W0 (w.setCell ⟨b, o, none⟩ u) L :=
  h.below (B := b) ((Below.refl _ _).setCell (p := ⟨b, o, none⟩) (Nat.le_refl _) u) hb
theorem HasV.setO {w : World} {b b' : Nat} {cs : List Value} {t : TypeId} (h : HasV w b cs t) (hb : b < b') (o : Nat) (u : Value) : HasV (w.setCell ⟨b', o, none⟩ u) b cs t :=
  h.below (B := b') ((Below.refl _ _).setCell (p := ⟨b', o, none⟩) (Nat.le_refl _) u) hb
theorem datS_raw {b : UInt8} {L L' : List UInt8} {d : Dat} (h : rawS b L = some (d, L')) : datS (b :: L) = if chk d = 0 then some (d, L') else none := by
  rw [datS, h]
theorem datS_none {b : UInt8} {L : List UInt8} (h : rawS b L = none) : datS (b :: L) = none := by
  rw [datS, h]
theorem RdS.old {W0 w : World} {L : List UInt8} (h : RdS W0 w L) : Below W0.heap.size W0 w := by
  obtain ⟨A, c, h1, h2, h3⟩ := h
  exact h3
abbrev zD : List Value := [.int .u8 0, .bool false, .int .i64 0, .string ⟨#[]⟩]
set_option maxHeartbeats 8000000 in
theorem datum_any (W0 w : World) (L : List UInt8) (h : RdS W0 w L) (hT : Tab8 W0) (hl : L.length ≤ 1099511627776) :
    Calls Tryd.prog 65 #[readerP W0] w fun e w' => OutRd W0 valDat (datS L) w e w' := by
  have hH := Lib.hid h; have hTH := Lib.hid hT
  have hlt := h.lt
  clear h hT
  obtain ⟨w2, hw2⟩ : ∃ w2, (w.alloc (.cells #[.int .u8 0, .bool false, .int .i64 0, .string ⟨#[]⟩] 79)).alloc (.cells #[.int .u8 0, .bool false, .int .i64 0, .string ⟨#[]⟩] 79) = w2 := ⟨_, rfl⟩
  have hb2 := Lib.hid (show Below w.heap.size w w2 from hw2 ▸ (by go_grown))
  have hs2 : w2.heap.size = w.heap.size + 2 := by rw [← hw2]; simp
  have hrd := Lib.hid (hH.out.below hb2.out hlt)
  have hR := Lib.hid (show HasV w2 w.heap.size zD 79 from hw2 ▸ (HasV.new w zD 79).below (B := w.heap.size + 1) (by go_grown) (by omega))
  have hD := Lib.hid (show HasV w2 (w.heap.size + 1) zD 79 from hw2 ▸ (by have := HasV.new (w.alloc (.cells #[.int .u8 0, .bool false, .int .i64 0, .string ⟨#[]⟩] 79)) zD 79; simpa only [World.size_alloc] using this))
  go_enter Tryd.func65, Tryd.ntmps65
  go_wp2_with fail
  refine (next_any W0 _ L hrd.out).mono ?_
  rintro e w3 ⟨hs, hcase⟩
  have hR3 := Lib.hid (hR.out.stay hs (by omega))
  have hD3 := Lib.hid (hD.out.stay hs (by omega))
  have hs3 := Lib.hid ((Stay.of (g := W0.heap.size) hb2.out).trans (hs.mono hb2.out.size))
  have hz3 : w.heap.size + 2 ≤ w3.heap.size := by have := hs.size; omega
  clear hs
  rcases hcase with ⟨hnone, rfl⟩ | ⟨b, M, hsome, rfl, hrd'⟩
  · have hno : Hid (datS L = none) := by
      cases L with
      | nil => rfl
      | cons c M => cases hnone
    clear hnone
    go_wp2_with fail
    exact ⟨rfl, hs3.out, .inl ⟨hno.out, rfl⟩⟩
  · have hrd3 := Lib.hid hrd'
    obtain rfl : L = b :: M := by
      cases L with
      | nil => cases hsome
      | cons c M => cases hsome; rfl
    clear hsome hrd'
    have hMl : M.length ≤ 1099511627776 := by simp only [List.length_cons] at hl; omega
    clear hl
    have c0_ := hD3.out.cell 0 rfl; have c1_ := hD3.out.cell 1 rfl; have c2_ := hD3.out.cell 2 rfl; have c3_ := hD3.out.cell 3 rfl
    have f0_ := hD3.out.free 0; have f1_ := hD3.out.free 1; have f2_ := hD3.out.free 2; have f3_ := hD3.out.free 3
    by_cases b16 : b = 16
    · subst b16
      obtain ⟨w4, hw4⟩ : ∃ w4, (w3).setCell ⟨w.heap.size + 1, 0, none⟩ (Value.int .u8 1) = w4 := ⟨_, rfl⟩
      have hR4 := Lib.hid (show HasV w4 w.heap.size zD 79 from hw4 ▸ (hR3.out.setO (by omega) _ _))
      have hD4 := Lib.hid (show HasV w4 (w.heap.size + 1) [Value.int .u8 1, Value.bool false, Value.int .i64 0, Value.string ⟨#[]⟩] 79 from hw4 ▸ (hD3.out.set 0 _))
      have hrd4 := Lib.hid (show RdS W0 w4 M from hw4 ▸ (hrd3.out.set (by omega) _ _))
      have hs4 := Lib.hid (show Stay W0.heap.size w.heap.size w w4 from hw4 ▸ (hs3.out.own (by omega) _ _))
      have d0_ := hD4.out.cell 0 rfl; have d1_ := hD4.out.cell 1 rfl; have d2_ := hD4.out.cell 2 rfl; have d3_ := hD4.out.cell 3 rfl
      have hraw := Lib.hid (datS_raw (show rawS 16 M = some (⟨1, false, 0, ⟨#[]⟩⟩, M) from rfl))
      obtain ⟨q, hq⟩ : ∃ q, chk ⟨1, false, 0, ⟨#[]⟩⟩ = q := ⟨_, rfl⟩
      have hqH := Lib.hid hq
      clear hq
      go_wp2_with fail
      refine (check8_any 1 false 0 ⟨#[]⟩ w4 (hTH.out.below (hrd4.out.old)) (by decide)).mono ?_
      rw [hqH.out]
      rintro e w5 ⟨rfl, hb5⟩
      have hR5 := Lib.hid (hR4.out.below hb5 hR4.out.lt)
      have hD5 := Lib.hid (hD4.out.below hb5 hD4.out.lt)
      have hrd5 := Lib.hid (hrd4.out.below hb5 hrd4.out.lt)
      have hs5 := Lib.hid (hs4.out.trans (Stay.of (hb5.mono hs4.out.size)))
      clear hb5 hw4 c0_ c1_ c2_ c3_ f0_ f1_ f2_ f3_ d0_ d1_ d2_ d3_
      by_cases hz : q = 0
      · subst hz
        have hyes := Lib.hid (show datS (16 :: M) = some (⟨1, false, 0, ⟨#[]⟩⟩, M) by rw [hraw.out, hqH.out, if_pos rfl])
        have e0_ := hD5.out.cell 0 rfl; have e1_ := hD5.out.cell 1 rfl; have e2_ := hD5.out.cell 2 rfl; have e3_ := hD5.out.cell 3 rfl
        have r0_ := hR5.out.cell 0 rfl; have r1_ := hR5.out.cell 1 rfl; have r2_ := hR5.out.cell 2 rfl; have r3_ := hR5.out.cell 3 rfl
        have f0_ := hR5.out.free 0; have f1_ := hR5.out.free 1; have f2_ := hR5.out.free 2; have f3_ := hR5.out.free 3
        go_wp2_with fail
        refine (must_yes _ _).mono ?_
        rintro e w6 ⟨rfl, rfl⟩
        go_wp2_with fail
        refine bodyPost_ret (v := valDat ⟨1, false, 0, ⟨#[]⟩⟩) (by simp [results, Tryd.results65, go_sem, valDat, *]) rfl ?_
        exact ⟨(((hs5.out.own (Nat.le_refl _) _ _).own (Nat.le_refl _) _ _).own (Nat.le_refl _) _ _).own (Nat.le_refl _) _ _, .inr ⟨_, M, hyes.out, rfl, (((hrd5.out.set hlt _ _).set hlt _ _).set hlt _ _).set hlt _ _⟩⟩
      · have hno := Lib.hid (show datS (16 :: M) = none by rw [hraw.out, hqH.out, if_neg hz])
        have hne : (q == 0) = false := by rw [beq_eq_false_iff_ne]; exact hz
        clear hz
        go_wp2_with fail
        refine (must_no _ _).mono ?_
        rintro e w6 ⟨rfl, rfl⟩
        go_wp2_with fail
        exact ⟨rfl, hs5.out, .inl ⟨hno.out, rfl⟩⟩
    have n16 : ((b.toNat : Int) == 16) = false := u8_ne b16
    by_cases b32 : b = 32
    · subst b32
      obtain ⟨w4, hw4⟩ : ∃ w4, (w3).setCell ⟨w.heap.size + 1, 0, none⟩ (Value.int .u8 2) = w4 := ⟨_, rfl⟩
      have hR4 := Lib.hid (show HasV w4 w.heap.size zD 79 from hw4 ▸ (hR3.out.setO (by omega) _ _))
      have hD4 := Lib.hid (show HasV w4 (w.heap.size + 1) [Value.int .u8 2, Value.bool false, Value.int .i64 0, Value.string ⟨#[]⟩] 79 from hw4 ▸ (hD3.out.set 0 _))
      have hrd4 := Lib.hid (show RdS W0 w4 M from hw4 ▸ (hrd3.out.set (by omega) _ _))
      have hs4 := Lib.hid (show Stay W0.heap.size w.heap.size w w4 from hw4 ▸ (hs3.out.own (by omega) _ _))
      have d0_ := hD4.out.cell 0 rfl; have d1_ := hD4.out.cell 1 rfl; have d2_ := hD4.out.cell 2 rfl; have d3_ := hD4.out.cell 3 rfl
      have hraw := Lib.hid (datS_raw (show rawS 32 M = some (⟨2, false, 0, ⟨#[]⟩⟩, M) from rfl))
      obtain ⟨q, hq⟩ : ∃ q, chk ⟨2, false, 0, ⟨#[]⟩⟩ = q := ⟨_, rfl⟩
      have hqH := Lib.hid hq
      clear hq
      go_wp2_with fail
      refine (check8_any 2 false 0 ⟨#[]⟩ w4 (hTH.out.below (hrd4.out.old)) (by decide)).mono ?_
      rw [hqH.out]
      rintro e w5 ⟨rfl, hb5⟩
      have hR5 := Lib.hid (hR4.out.below hb5 hR4.out.lt)
      have hD5 := Lib.hid (hD4.out.below hb5 hD4.out.lt)
      have hrd5 := Lib.hid (hrd4.out.below hb5 hrd4.out.lt)
      have hs5 := Lib.hid (hs4.out.trans (Stay.of (hb5.mono hs4.out.size)))
      clear hb5 hw4 c0_ c1_ c2_ c3_ f0_ f1_ f2_ f3_ d0_ d1_ d2_ d3_
      by_cases hz : q = 0
      · subst hz
        have hyes := Lib.hid (show datS (32 :: M) = some (⟨2, false, 0, ⟨#[]⟩⟩, M) by rw [hraw.out, hqH.out, if_pos rfl])
        have e0_ := hD5.out.cell 0 rfl; have e1_ := hD5.out.cell 1 rfl; have e2_ := hD5.out.cell 2 rfl; have e3_ := hD5.out.cell 3 rfl
        have r0_ := hR5.out.cell 0 rfl; have r1_ := hR5.out.cell 1 rfl; have r2_ := hR5.out.cell 2 rfl; have r3_ := hR5.out.cell 3 rfl
        have f0_ := hR5.out.free 0; have f1_ := hR5.out.free 1; have f2_ := hR5.out.free 2; have f3_ := hR5.out.free 3
        go_wp2_with fail
        refine (must_yes _ _).mono ?_
        rintro e w6 ⟨rfl, rfl⟩
        go_wp2_with fail
        refine bodyPost_ret (v := valDat ⟨2, false, 0, ⟨#[]⟩⟩) (by simp [results, Tryd.results65, go_sem, valDat, *]) rfl ?_
        exact ⟨(((hs5.out.own (Nat.le_refl _) _ _).own (Nat.le_refl _) _ _).own (Nat.le_refl _) _ _).own (Nat.le_refl _) _ _, .inr ⟨_, M, hyes.out, rfl, (((hrd5.out.set hlt _ _).set hlt _ _).set hlt _ _).set hlt _ _⟩⟩
      · have hno := Lib.hid (show datS (32 :: M) = none by rw [hraw.out, hqH.out, if_neg hz])
        have hne : (q == 0) = false := by rw [beq_eq_false_iff_ne]; exact hz
        clear hz
        go_wp2_with fail
        refine (must_no _ _).mono ?_
        rintro e w6 ⟨rfl, rfl⟩
        go_wp2_with fail
        exact ⟨rfl, hs5.out, .inl ⟨hno.out, rfl⟩⟩
    have n32 : ((b.toNat : Int) == 32) = false := u8_ne b32
    by_cases b33 : b = 33
    · subst b33
      obtain ⟨w4, hw4⟩ : ∃ w4, ((w3).setCell ⟨w.heap.size + 1, 0, none⟩ (Value.int .u8 2)).setCell ⟨w.heap.size + 1, 1, none⟩ (Value.bool true) = w4 := ⟨_, rfl⟩
      have hR4 := Lib.hid (show HasV w4 w.heap.size zD 79 from hw4 ▸ ((hR3.out.setO (by omega) _ _).setO (by omega) _ _))
      have hD4 := Lib.hid (show HasV w4 (w.heap.size + 1) [Value.int .u8 2, Value.bool true, Value.int .i64 0, Value.string ⟨#[]⟩] 79 from hw4 ▸ ((hD3.out.set 0 _).set 1 _))
      have hrd4 := Lib.hid (show RdS W0 w4 M from hw4 ▸ ((hrd3.out.set (by omega) _ _).set (by omega) _ _))
      have hs4 := Lib.hid (show Stay W0.heap.size w.heap.size w w4 from hw4 ▸ ((hs3.out.own (by omega) _ _).own (by omega) _ _))
      have d0_ := hD4.out.cell 0 rfl; have d1_ := hD4.out.cell 1 rfl; have d2_ := hD4.out.cell 2 rfl; have d3_ := hD4.out.cell 3 rfl
      have hraw := Lib.hid (datS_raw (show rawS 33 M = some (⟨2, true, 0, ⟨#[]⟩⟩, M) from rfl))
      obtain ⟨q, hq⟩ : ∃ q, chk ⟨2, true, 0, ⟨#[]⟩⟩ = q := ⟨_, rfl⟩
      have hqH := Lib.hid hq
      clear hq
      go_wp2_with fail
      refine (check8_any 2 true 0 ⟨#[]⟩ w4 (hTH.out.below (hrd4.out.old)) (by decide)).mono ?_
      rw [hqH.out]
      rintro e w5 ⟨rfl, hb5⟩
      have hR5 := Lib.hid (hR4.out.below hb5 hR4.out.lt)
      have hD5 := Lib.hid (hD4.out.below hb5 hD4.out.lt)
      have hrd5 := Lib.hid (hrd4.out.below hb5 hrd4.out.lt)
      have hs5 := Lib.hid (hs4.out.trans (Stay.of (hb5.mono hs4.out.size)))
      clear hb5 hw4 c0_ c1_ c2_ c3_ f0_ f1_ f2_ f3_ d0_ d1_ d2_ d3_
      by_cases hz : q = 0
      · subst hz
        have hyes := Lib.hid (show datS (33 :: M) = some (⟨2, true, 0, ⟨#[]⟩⟩, M) by rw [hraw.out, hqH.out, if_pos rfl])
        have e0_ := hD5.out.cell 0 rfl; have e1_ := hD5.out.cell 1 rfl; have e2_ := hD5.out.cell 2 rfl; have e3_ := hD5.out.cell 3 rfl
        have r0_ := hR5.out.cell 0 rfl; have r1_ := hR5.out.cell 1 rfl; have r2_ := hR5.out.cell 2 rfl; have r3_ := hR5.out.cell 3 rfl
        have f0_ := hR5.out.free 0; have f1_ := hR5.out.free 1; have f2_ := hR5.out.free 2; have f3_ := hR5.out.free 3
        go_wp2_with fail
        refine (must_yes _ _).mono ?_
        rintro e w6 ⟨rfl, rfl⟩
        go_wp2_with fail
        refine bodyPost_ret (v := valDat ⟨2, true, 0, ⟨#[]⟩⟩) (by simp [results, Tryd.results65, go_sem, valDat, *]) rfl ?_
        exact ⟨(((hs5.out.own (Nat.le_refl _) _ _).own (Nat.le_refl _) _ _).own (Nat.le_refl _) _ _).own (Nat.le_refl _) _ _, .inr ⟨_, M, hyes.out, rfl, (((hrd5.out.set hlt _ _).set hlt _ _).set hlt _ _).set hlt _ _⟩⟩
      · have hno := Lib.hid (show datS (33 :: M) = none by rw [hraw.out, hqH.out, if_neg hz])
        have hne : (q == 0) = false := by rw [beq_eq_false_iff_ne]; exact hz
        clear hz
        go_wp2_with fail
        refine (must_no _ _).mono ?_
        rintro e w6 ⟨rfl, rfl⟩
        go_wp2_with fail
        exact ⟨rfl, hs5.out, .inl ⟨hno.out, rfl⟩⟩
    have n33 : ((b.toNat : Int) == 33) = false := u8_ne b33
    by_cases b48 : b = 48
    · subst b48
      clear c0_ c1_ c2_ c3_ f0_ f1_ f2_ f3_
      go_wp2_with fail
      refine (integer_any W0 _ M hrd3.out).mono ?_
      rintro e w3b ⟨hsb, hcase⟩
      have hz3b : w.heap.size + 2 ≤ w3b.heap.size := by have := hsb.size; omega
      replace hR3 := Lib.hid (hR3.out.stay hsb (by omega))
      replace hD3 := Lib.hid (hD3.out.stay hsb (by omega))
      replace hs3 := Lib.hid (hs3.out.trans (hsb.mono hs3.out.size))
      clear hsb
      rcases hcase with ⟨hnone, rfl⟩ | ⟨x, M2, hsome, rfl, hrd'⟩
      · have hno := Lib.hid (datS_none (show rawS 48 M = none by rw [show rawS 48 M = (intS M).map _ from rfl, hnone]; rfl))
        clear hnone
        go_wp2_with fail
        exact ⟨rfl, hs3.out, .inl ⟨hno.out, rfl⟩⟩
      · replace hrd3 := Lib.hid hrd'
        have hraw0 := Lib.hid (show rawS 48 M = _ by rw [show rawS 48 M = (intS M).map _ from rfl, hsome])
        clear hsome hrd'
        have c0_ := hD3.out.cell 0 rfl; have c1_ := hD3.out.cell 1 rfl; have c2_ := hD3.out.cell 2 rfl; have c3_ := hD3.out.cell 3 rfl
        have f0_ := hD3.out.free 0; have f1_ := hD3.out.free 1; have f2_ := hD3.out.free 2; have f3_ := hD3.out.free 3
        obtain ⟨w4, hw4⟩ : ∃ w4, ((w3b).setCell ⟨w.heap.size + 1, 0, none⟩ (Value.int .u8 3)).setCell ⟨w.heap.size + 1, 2, none⟩ (Value.int .i64 x) = w4 := ⟨_, rfl⟩
        have hR4 := Lib.hid (show HasV w4 w.heap.size zD 79 from hw4 ▸ ((hR3.out.setO (by omega) _ _).setO (by omega) _ _))
        have hD4 := Lib.hid (show HasV w4 (w.heap.size + 1) [Value.int .u8 3, Value.bool false, Value.int .i64 x, Value.string ⟨#[]⟩] 79 from hw4 ▸ ((hD3.out.set 0 _).set 2 _))
        have hrd4 := Lib.hid (show RdS W0 w4 M2 from hw4 ▸ ((hrd3.out.set (by omega) _ _).set (by omega) _ _))
        have hs4 := Lib.hid (show Stay W0.heap.size w.heap.size w w4 from hw4 ▸ ((hs3.out.own (by omega) _ _).own (by omega) _ _))
        have d0_ := hD4.out.cell 0 rfl; have d1_ := hD4.out.cell 1 rfl; have d2_ := hD4.out.cell 2 rfl; have d3_ := hD4.out.cell 3 rfl
        have hraw := Lib.hid (datS_raw (show rawS 48 M = some (⟨3, false, x, ⟨#[]⟩⟩, M2) from hraw0.out))
        obtain ⟨q, hq⟩ : ∃ q, chk ⟨3, false, x, ⟨#[]⟩⟩ = q := ⟨_, rfl⟩
        have hqH := Lib.hid hq
        clear hq
        go_wp2_with fail
        refine (check8_any 3 false x ⟨#[]⟩ w4 (hTH.out.below (hrd4.out.old)) (by decide)).mono ?_
        rw [hqH.out]
        rintro e w5 ⟨rfl, hb5⟩
        have hR5 := Lib.hid (hR4.out.below hb5 hR4.out.lt)
        have hD5 := Lib.hid (hD4.out.below hb5 hD4.out.lt)
        have hrd5 := Lib.hid (hrd4.out.below hb5 hrd4.out.lt)
        have hs5 := Lib.hid (hs4.out.trans (Stay.of (hb5.mono hs4.out.size)))
        clear hb5 hw4 c0_ c1_ c2_ c3_ f0_ f1_ f2_ f3_ d0_ d1_ d2_ d3_
        by_cases hz : q = 0
        · subst hz
          have hyes := Lib.hid (show datS (48 :: M) = some (⟨3, false, x, ⟨#[]⟩⟩, M2) by rw [hraw.out, hqH.out, if_pos rfl])
          have e0_ := hD5.out.cell 0 rfl; have e1_ := hD5.out.cell 1 rfl; have e2_ := hD5.out.cell 2 rfl; have e3_ := hD5.out.cell 3 rfl
          have r0_ := hR5.out.cell 0 rfl; have r1_ := hR5.out.cell 1 rfl; have r2_ := hR5.out.cell 2 rfl; have r3_ := hR5.out.cell 3 rfl
          have f0_ := hR5.out.free 0; have f1_ := hR5.out.free 1; have f2_ := hR5.out.free 2; have f3_ := hR5.out.free 3
          go_wp2_with fail
          refine (must_yes _ _).mono ?_
          rintro e w6 ⟨rfl, rfl⟩
          go_wp2_with fail
          refine bodyPost_ret (v := valDat ⟨3, false, x, ⟨#[]⟩⟩) (by simp [results, Tryd.results65, go_sem, valDat, *]) rfl ?_
          exact ⟨(((hs5.out.own (Nat.le_refl _) _ _).own (Nat.le_refl _) _ _).own (Nat.le_refl _) _ _).own (Nat.le_refl _) _ _, .inr ⟨_, M2, hyes.out, rfl, (((hrd5.out.set hlt _ _).set hlt _ _).set hlt _ _).set hlt _ _⟩⟩
        · have hno := Lib.hid (show datS (48 :: M) = none by rw [hraw.out, hqH.out, if_neg hz])
          have hne : (q == 0) = false := by rw [beq_eq_false_iff_ne]; exact hz
          clear hz
          go_wp2_with fail
          refine (must_no _ _).mono ?_
          rintro e w6 ⟨rfl, rfl⟩
          go_wp2_with fail
          exact ⟨rfl, hs5.out, .inl ⟨hno.out, rfl⟩⟩
    have n48 : ((b.toNat : Int) == 48) = false := u8_ne b48
    by_cases b64 : b = 64
    · subst b64
      clear c0_ c1_ c2_ c3_ f0_ f1_ f2_ f3_
      go_wp2_with fail
      refine (text_any W0 _ M hrd3.out hMl).mono ?_
      rintro e w3b ⟨hsb, hcase⟩
      have hz3b : w.heap.size + 2 ≤ w3b.heap.size := by have := hsb.size; omega
      replace hR3 := Lib.hid (hR3.out.stay hsb (by omega))
      replace hD3 := Lib.hid (hD3.out.stay hsb (by omega))
      replace hs3 := Lib.hid (hs3.out.trans (hsb.mono hs3.out.size))
      clear hsb
      rcases hcase with ⟨hnone, rfl⟩ | ⟨x, M2, hsome, rfl, hrd'⟩
      · have hno := Lib.hid (datS_none (show rawS 64 M = none by rw [show rawS 64 M = (textS M).map _ from rfl, hnone]; rfl))
        clear hnone
        go_wp2_with fail
        exact ⟨rfl, hs3.out, .inl ⟨hno.out, rfl⟩⟩
      · replace hrd3 := Lib.hid hrd'
        have hraw0 := Lib.hid (show rawS 64 M = _ by rw [show rawS 64 M = (textS M).map _ from rfl, hsome])
        have hxs := Lib.hid (show (⟨x.toArray⟩ : ByteArray).size ≤ 9223372036854775807 by have := textS_len M _ hsome; show x.toArray.size ≤ _; rw [List.size_toArray]; simp only at this; omega)
        clear hsome hrd'
        have c0_ := hD3.out.cell 0 rfl; have c1_ := hD3.out.cell 1 rfl; have c2_ := hD3.out.cell 2 rfl; have c3_ := hD3.out.cell 3 rfl
        have f0_ := hD3.out.free 0; have f1_ := hD3.out.free 1; have f2_ := hD3.out.free 2; have f3_ := hD3.out.free 3
        obtain ⟨w4, hw4⟩ : ∃ w4, ((w3b).setCell ⟨w.heap.size + 1, 0, none⟩ (Value.int .u8 4)).setCell ⟨w.heap.size + 1, 3, none⟩ (Value.string ⟨x.toArray⟩) = w4 := ⟨_, rfl⟩
        have hR4 := Lib.hid (show HasV w4 w.heap.size zD 79 from hw4 ▸ ((hR3.out.setO (by omega) _ _).setO (by omega) _ _))
        have hD4 := Lib.hid (show HasV w4 (w.heap.size + 1) [Value.int .u8 4, Value.bool false, Value.int .i64 0, Value.string ⟨x.toArray⟩] 79 from hw4 ▸ ((hD3.out.set 0 _).set 3 _))
        have hrd4 := Lib.hid (show RdS W0 w4 M2 from hw4 ▸ ((hrd3.out.set (by omega) _ _).set (by omega) _ _))
        have hs4 := Lib.hid (show Stay W0.heap.size w.heap.size w w4 from hw4 ▸ ((hs3.out.own (by omega) _ _).own (by omega) _ _))
        have d0_ := hD4.out.cell 0 rfl; have d1_ := hD4.out.cell 1 rfl; have d2_ := hD4.out.cell 2 rfl; have d3_ := hD4.out.cell 3 rfl
        have hraw := Lib.hid (datS_raw (show rawS 64 M = some (⟨4, false, 0, ⟨x.toArray⟩⟩, M2) from hraw0.out))
        obtain ⟨q, hq⟩ : ∃ q, chk ⟨4, false, 0, ⟨x.toArray⟩⟩ = q := ⟨_, rfl⟩
        have hqH := Lib.hid hq
        clear hq
        go_wp2_with fail
        refine (check8_any 4 false 0 ⟨x.toArray⟩ w4 (hTH.out.below (hrd4.out.old)) hxs.out).mono ?_
        rw [hqH.out]
        rintro e w5 ⟨rfl, hb5⟩
        have hR5 := Lib.hid (hR4.out.below hb5 hR4.out.lt)
        have hD5 := Lib.hid (hD4.out.below hb5 hD4.out.lt)
        have hrd5 := Lib.hid (hrd4.out.below hb5 hrd4.out.lt)
        have hs5 := Lib.hid (hs4.out.trans (Stay.of (hb5.mono hs4.out.size)))
        clear hb5 hw4 c0_ c1_ c2_ c3_ f0_ f1_ f2_ f3_ d0_ d1_ d2_ d3_
        by_cases hz : q = 0
        · subst hz
          have hyes := Lib.hid (show datS (64 :: M) = some (⟨4, false, 0, ⟨x.toArray⟩⟩, M2) by rw [hraw.out, hqH.out, if_pos rfl])
          have e0_ := hD5.out.cell 0 rfl; have e1_ := hD5.out.cell 1 rfl; have e2_ := hD5.out.cell 2 rfl; have e3_ := hD5.out.cell 3 rfl
          have r0_ := hR5.out.cell 0 rfl; have r1_ := hR5.out.cell 1 rfl; have r2_ := hR5.out.cell 2 rfl; have r3_ := hR5.out.cell 3 rfl
          have f0_ := hR5.out.free 0; have f1_ := hR5.out.free 1; have f2_ := hR5.out.free 2; have f3_ := hR5.out.free 3
          go_wp2_with fail
          refine (must_yes _ _).mono ?_
          rintro e w6 ⟨rfl, rfl⟩
          go_wp2_with fail
          refine bodyPost_ret (v := valDat ⟨4, false, 0, ⟨x.toArray⟩⟩) (by simp [results, Tryd.results65, go_sem, valDat, *]) rfl ?_
          exact ⟨(((hs5.out.own (Nat.le_refl _) _ _).own (Nat.le_refl _) _ _).own (Nat.le_refl _) _ _).own (Nat.le_refl _) _ _, .inr ⟨_, M2, hyes.out, rfl, (((hrd5.out.set hlt _ _).set hlt _ _).set hlt _ _).set hlt _ _⟩⟩
        · have hno := Lib.hid (show datS (64 :: M) = none by rw [hraw.out, hqH.out, if_neg hz])
          have hne : (q == 0) = false := by rw [beq_eq_false_iff_ne]; exact hz
          clear hz
          go_wp2_with fail
          refine (must_no _ _).mono ?_
          rintro e w6 ⟨rfl, rfl⟩
          go_wp2_with fail
          exact ⟨rfl, hs5.out, .inl ⟨hno.out, rfl⟩⟩
    have n64 : ((b.toNat : Int) == 64) = false := u8_ne b64
    have hno := Lib.hid (datS_none (show rawS b M = none by unfold rawS; rw [if_neg b16, if_neg b32, if_neg b33, if_neg b48, if_neg b64]))
    obtain ⟨q, hq⟩ : ∃ q, chk ⟨0, false, 0, ⟨#[]⟩⟩ = q := ⟨_, rfl⟩
    have hqn : (q == 0) = false := by rw [← hq]; decide
    have hqH := Lib.hid hq
    clear hq b16 b32 b33 b48 b64
    go_wp2_with fail
    refine (check8_any 0 false 0 ⟨#[]⟩ w3 (hTH.out.below (hrd3.out.old)) (by decide)).mono ?_
    rw [hqH.out]
    rintro e w5 ⟨rfl, hb5⟩
    have hs5 := Lib.hid (hs3.out.trans (Stay.of (hb5.mono hs3.out.size)))
    clear hb5
    go_wp2_with fail
    refine (must_no _ _).mono ?_
    rintro e w6 ⟨rfl, rfl⟩
    go_wp2_with fail
    exact ⟨rfl, hs5.out, .inl ⟨hno.out, rfl⟩⟩
end Go.Proofs.YtfkimemagbkcoaaDoor

