/-
  Texts that belong together: RwKr, RwRd2. What each one says stands ahead of it.
-/
import Derived.Test.YtpmfbmigdpmloaaGreatDoorPk04
import Derived.Test.YtpmfbmigdpmloaaGreatDoorPk05
section
/-
  Rows and bytes cut in front; appended to those that the call owns. Nothing is walked here. Conditions: those written.
-/
set_option linter.unusedVariables false
set_option linter.unusedSimpArgs false
namespace Go.Proofs.YtpmfbmigdpmloaaGreatDoor
open Go.RowKit Go.Lib Go.Proofs

/-- A row of the call's own. -/
abbrev OwnKR (B : Nat) (v : Value) (l : List Dat) (W0 w : World) : Prop := OwnK 60 4 B v l.length (l.flatMap cellsD) W0 w
theorem OwnKR.rowV {B : Nat} {v : Value} {l : List Dat} {W0 w : World} (h : OwnKR B v l W0 w) : RowV w v l := own_slV h.1
theorem OwnKR.form {B : Nat} {v : Value} {l : List Dat} {W0 w : World} (h : OwnKR B v l W0 w) : ∃ A c, v = .slice A l.length c := by
  obtain ⟨A, c, h1, _⟩ := h.rowV.form
  exact ⟨A, c, h1⟩
theorem RowV.front {w : World} {A : Option Addr} {n c m : Nat} {l : List Dat} (h : RowV w (.slice A n c) l) (hm : m ≤ l.length) : RowV w (.slice A m c) (l.take m) := by
  obtain ⟨A', c', e, _⟩ := h.form
  obtain ⟨rfl, rfl, rfl⟩ := Value.slice.inj e
  have h1 := SlV.front (m := m) h hm
  have e : (l.flatMap cellsD).take (m * 4) = (l.take m).flatMap cellsD := by
    have e2 : l.flatMap cellsD = (l.take m).flatMap cellsD ++ (l.drop m).flatMap cellsD := by rw [← List.flatMap_append, List.take_append_drop]
    rw [e2]
    exact List.take_left' (by rw [cells_len, List.length_take]; congr 1; omega)
  rw [e] at h1
  unfold RowV
  rw [List.length_take, Nat.min_eq_left hm]
  exact h1
theorem BytsV.front {w : World} {A : Option Addr} {n c m : Nat} {l : List UInt8} (h : BytsV w (.slice A n c) l) (hm : m ≤ l.length) : BytsV w (.slice A m c) (l.take m) := by
  obtain ⟨A', c', e, _⟩ := h.form
  obtain ⟨rfl, rfl, rfl⟩ := Value.slice.inj e
  have h1 := SlV.front (m := m) h hm
  have e : (Lib.byteCells l).take (m * 1) = Lib.byteCells (l.take m) := by simp [Lib.byteCells, List.map_take]
  rw [e] at h1
  unfold BytsV
  rw [List.length_take, Nat.min_eq_left hm]
  exact h1
theorem RowV.cap {w : World} {A : Option Addr} {n c : Nat} {l : List Dat} (h : RowV w (.slice A n c) l) : l.length ≤ c := by
  obtain ⟨_, A', c', e, h2, _⟩ := h
  obtain ⟨_, rfl, rfl⟩ := Value.slice.inj e
  exact h2
theorem BytsV.cap {w : World} {A : Option Addr} {n c : Nat} {l : List UInt8} (h : BytsV w (.slice A n c) l) : l.length ≤ c := by
  obtain ⟨_, A', c', e, h2, _⟩ := h
  obtain ⟨_, rfl, rfl⟩ := Value.slice.inj e
  exact h2
section
/-- 'v = append(v, l...)' of data. -/
theorem wpList_rowK {ops : Array Oper} {rest : List Oper} {o : Oper} {a : Act} {Q : Exit → Act → World → Prop} (hgd : o.guard = none) (s x : Operand) (T : TypeId) (hT : Tryz.prog.underlying T = some (.slice 60))
    (ho : o.op = .call { callee := .builtin .append, args := #[s, x], argTypes := #[T, T] })
    (B : Nat) (v : Value) (l : List Dat) (W0 w : World) (sv : Value) (m : List Dat) (hb : OwnKR B v l W0 w) (hs : a.eval s = v) (hsv : RowV w sv m) (hx : a.eval x = sv) (hlen : l.length + m.length ≤ 1099511627776)
    (h : ∀ v' w', OwnKR B v' (l ++ m) W0 w' → wpList Tryz.prog ops Q rest (a.put o.dst v') w') : wpList Tryz.prog ops Q (o :: rest) a w := by
  obtain ⟨i, hi, hz, hsz, hby⟩ := info_datum
  refine wpList_append_sl hgd s x T ho B 60 i _ 4 i.bytes hT hi hz hsz rfl rfl (by decide) v l.length (l.flatMap cellsD) w sv m.length (m.flatMap cellsD) hb.1 hs hsv hx (cells_one m) (by unfold maxLen; omega) ?_ hb.2.2.1 ?_
  · have := Nat.mul_le_mul hlen hby
    omega
  · intro v' w' ho' hg
    refine h v' w' ?_
    have := hb.grown ho' hg
    unfold OwnKR
    rw [List.length_append, List.flatMap_append]
    exact this
/-- 'v = append(v, l...)' of bytes. -/
theorem wpList_bytesK {ops : Array Oper} {rest : List Oper} {o : Oper} {a : Act} {Q : Exit → Act → World → Prop} (hgd : o.guard = none) (s x : Operand)
    (ho : o.op = .call { callee := .builtin .append, args := #[s, x], argTypes := #[31, 31] })
    (B : Nat) (v : Value) (l : List UInt8) (W0 w : World) (sv : Value) (m : List UInt8) (hb : OwnB B v l W0 w) (hs : a.eval s = v) (hsv : BytsV w sv m) (hx : a.eval x = sv) (hlen : l.length + m.length ≤ 140737488355328)
    (h : ∀ v' w', OwnB B v' (l ++ m) W0 w' → wpList Tryz.prog ops Q rest (a.put o.dst v') w') : wpList Tryz.prog ops Q (o :: rest) a w := by
  obtain ⟨i, hi, hz, hsz, hby⟩ := info_u8
  refine wpList_append_sl hgd s x 31 ho B 5 i _ 1 1 Tryz.underlying31 hi hz hsz hby rfl (by decide) v l.length (Lib.byteCells l) w sv m.length (Lib.byteCells m) hb.1 hs hsv hx (bytes_one m) (by unfold maxLen; omega) (by omega) hb.2.2.1 ?_
  · intro v' w' ho' hg
    refine h v' w' ?_
    have := hb.grown ho' hg
    unfold OwnB
    rw [List.length_append, Lib.byteCells_append]
    exact this
end
theorem one_datum (w : World) (k : Int) (b : Bool) (n : Int) (s : ByteArray) : RowV (w.alloc (.cells #[.int .u8 k, .bool b, .int .i64 n, .string s] 60)) (.slice (some ⟨w.heap.size, 0, none⟩) 1 1) [⟨k, b, n, s⟩] := by
  have h : OwnL 60 4 w.heap.size 1 ([(⟨k, b, n, s⟩ : Dat)].map cellsD) (w.alloc (.cells #[.int .u8 k, .bool b, .int .i64 n, .string s] 60)) :=
    ⟨fun y hy => by obtain ⟨x, _, rfl⟩ := List.mem_map.1 hy; rfl, by simp, by decide, _, heap_alloc_new w _, rfl, rfl⟩
  exact h.rowV
theorem OwnK.nothing {e : TypeId} {k B n : Nat} {v : Value} {xs : List Value} {W0 w : World} (h : OwnK e k B v n xs W0 w) : OwnK e k B (.slice none 0 0) 0 [] W0 w := ⟨World.ownsRow_nil _ _ _ _, h.2.1, h.2.2.1, h.2.2.2⟩
end Go.Proofs.YtpmfbmigdpmloaaGreatDoor
end
section
/-
  How the program reads one datum of a row's bytes, at this program. Condition: unicode/utf8's tables lie as their initialisers lay them.
-/
set_option linter.unusedVariables false
set_option linter.unusedSimpArgs false
namespace Go.Proofs.YtpmfbmigdpmloaaGreatDoor
open Go.RowKit Go.Lib

theorem HasV.has {w : World} {b : Nat} {c0 c1 c2 c3 : Value} (h : HasV w b [c0, c1, c2, c3] 60) : Has w b c0 c1 c2 c3 := h
def valDat (d : Dat) : Value := .agg #[.int .u8 d.k, .bool d.b, .int .i64 d.n, .string d.s]
theorem Stay.own {g B : Nat} {a w : World} (h : Stay g B a w) {b : Nat} (hb : B ≤ b) (o : Nat) (u : Value) : Stay g B a (w.setCell ⟨b, o, none⟩ u) :=
  h.trans (Stay.of ((Below.refl _ _).setCell hb u))
theorem RdS.set {W0 w : World} {L : List UInt8} (h : RdS W0 w L) {b : Nat} (hb : W0.heap.size < b) (o : Nat) (u : Value) : RdS W0 (w.setCell ⟨b, o, none⟩ u) L :=
  h.below (B := b) ((Below.refl _ _).setCell (p := ⟨b, o, none⟩) (Nat.le_refl _) u) hb
theorem HasV.setO {w : World} {b b' : Nat} {cs : List Value} {t : TypeId} (h : HasV w b cs t) (hb : b < b') (o : Nat) (u : Value) : HasV (w.setCell ⟨b', o, none⟩ u) b cs t :=
  h.below (B := b') ((Below.refl _ _).setCell (p := ⟨b', o, none⟩) (Nat.le_refl _) u) hb
theorem datS_raw {b : UInt8} {L L' : List UInt8} {d : Dat} (h : rawS b L = some (d, L')) : datS (b :: L) = if chk d = 0 then some (d, L') else none := by
  rw [datS, h]
theorem datS_none {b : UInt8} {L : List UInt8} (h : rawS b L = none) : datS (b :: L) = none := by
  rw [datS, h]
theorem RdS.old {W0 w : World} {L : List UInt8} (h : RdS W0 w L) : Below W0.heap.size W0 w := by
  obtain ⟨A, c, h1, h2, h3⟩ := h
  exact h3
abbrev zD : List Value := [.int .u8 0, .bool false, .int .i64 0, .string ⟨#[]⟩]
set_option maxHeartbeats 8000000 in
theorem rdDatum_any (W0 w : World) (L : List UInt8) (h : RdS W0 w L) (hT : Tab8 W0) (hl : L.length ≤ 1099511627776) :
    Calls Tryz.prog 78 #[readerP W0] w fun e w' => OutRd W0 valDat (datS L) w e w' := by
  have hH := Lib.hid h; have hTH := Lib.hid hT
  have hlt := h.lt
  clear h hT
  obtain ⟨w2, hw2⟩ : ∃ w2, (w.alloc (.cells #[.int .u8 0, .bool false, .int .i64 0, .string ⟨#[]⟩] 60)).alloc (.cells #[.int .u8 0, .bool false, .int .i64 0, .string ⟨#[]⟩] 60) = w2 := ⟨_, rfl⟩
  have hb2 := Lib.hid (show Below w.heap.size w w2 from hw2 ▸ (by go_grown))
  have hs2 : w2.heap.size = w.heap.size + 2 := by rw [← hw2]; simp
  have hrd := Lib.hid (hH.out.below hb2.out hlt)
  have hR := Lib.hid (show HasV w2 w.heap.size zD 60 from hw2 ▸ (HasV.new w zD 60).below (B := w.heap.size + 1) (by go_grown) (by omega))
  have hD := Lib.hid (show HasV w2 (w.heap.size + 1) zD 60 from hw2 ▸ (by have := HasV.new (w.alloc (.cells #[.int .u8 0, .bool false, .int .i64 0, .string ⟨#[]⟩] 60)) zD 60; simpa only [World.size_alloc] using this))
  go_enter Tryz.func78, Tryz.ntmps78
  go_wp2_with fail
  refine (next_any W0 _ L hrd.out).mono ?_
  rintro e w3 ⟨hs, hcase⟩
  have hR3 := Lib.hid (hR.out.stay hs (by omega))
  have hD3 := Lib.hid (hD.out.stay hs (by omega))
  have hs3 := Lib.hid ((Stay.of (g := W0.heap.size) hb2.out).trans (hs.mono hb2.out.size))
  have hz3 : w.heap.size + 2 ≤ w3.heap.size := by have := hs.size; omega
  clear hs
  rcases hcase with ⟨hnone, rfl⟩ | ⟨b, M, hsome, rfl, hrd'⟩
  · have hno : Hid (datS L = none) := by
      cases L with
      | nil => rfl
      | cons c M => cases hnone
    clear hnone
    go_wp2_with fail
    exact ⟨rfl, hs3.out, .inl ⟨hno.out, rfl⟩⟩
  · have hrd3 := Lib.hid hrd'
    obtain rfl : L = b :: M := by
      cases L with
      | nil => cases hsome
      | cons c M => cases hsome; rfl
    clear hsome hrd'
    have hMl : M.length ≤ 1099511627776 := by simp only [List.length_cons] at hl; omega
    clear hl
    have c0_ := hD3.out.cell 0 rfl; have c1_ := hD3.out.cell 1 rfl; have c2_ := hD3.out.cell 2 rfl; have c3_ := hD3.out.cell 3 rfl
    have f0_ := hD3.out.free 0; have f1_ := hD3.out.free 1; have f2_ := hD3.out.free 2; have f3_ := hD3.out.free 3
    by_cases b16 : b = 16
    · subst b16
      obtain ⟨w4, hw4⟩ : ∃ w4, (w3).setCell ⟨w.heap.size + 1, 0, none⟩ (Value.int .u8 1) = w4 := ⟨_, rfl⟩
      have hR4 := Lib.hid (show HasV w4 w.heap.size zD 60 from hw4 ▸ (hR3.out.setO (by omega) _ _))
      have hD4 := Lib.hid (show HasV w4 (w.heap.size + 1) [Value.int .u8 1, Value.bool false, Value.int .i64 0, Value.string ⟨#[]⟩] 60 from hw4 ▸ (hD3.out.set 0 _))
      have hrd4 := Lib.hid (show RdS W0 w4 M from hw4 ▸ (hrd3.out.set (by omega) _ _))
      have hs4 := Lib.hid (show Stay W0.heap.size w.heap.size w w4 from hw4 ▸ (hs3.out.own (by omega) _ _))
      have d0_ := hD4.out.cell 0 rfl; have d1_ := hD4.out.cell 1 rfl; have d2_ := hD4.out.cell 2 rfl; have d3_ := hD4.out.cell 3 rfl
      have hraw := Lib.hid (datS_raw (show rawS 16 M = some (⟨1, false, 0, ⟨#[]⟩⟩, M) from rfl))
      obtain ⟨q, hq⟩ : ∃ q, chk ⟨1, false, 0, ⟨#[]⟩⟩ = q := ⟨_, rfl⟩
      have hqH := Lib.hid hq
      clear hq
      go_wp2_with fail
      refine (check8_any 1 false 0 ⟨#[]⟩ w4 (hTH.out.below (hrd4.out.old)) (by decide)).mono ?_
      rw [hqH.out]
      rintro e w5 ⟨rfl, hb5⟩
      have hR5 := Lib.hid (hR4.out.below hb5 hR4.out.lt)
      have hD5 := Lib.hid (hD4.out.below hb5 hD4.out.lt)
      have hrd5 := Lib.hid (hrd4.out.below hb5 hrd4.out.lt)
      have hs5 := Lib.hid (hs4.out.trans (Stay.of (hb5.mono hs4.out.size)))
      clear hb5 hw4 c0_ c1_ c2_ c3_ f0_ f1_ f2_ f3_ d0_ d1_ d2_ d3_
      by_cases hz : q = 0
      · subst hz
        have hyes := Lib.hid (show datS (16 :: M) = some (⟨1, false, 0, ⟨#[]⟩⟩, M) by rw [hraw.out, hqH.out, if_pos rfl])
        have e0_ := hD5.out.cell 0 rfl; have e1_ := hD5.out.cell 1 rfl; have e2_ := hD5.out.cell 2 rfl; have e3_ := hD5.out.cell 3 rfl
        have r0_ := hR5.out.cell 0 rfl; have r1_ := hR5.out.cell 1 rfl; have r2_ := hR5.out.cell 2 rfl; have r3_ := hR5.out.cell 3 rfl
        have f0_ := hR5.out.free 0; have f1_ := hR5.out.free 1; have f2_ := hR5.out.free 2; have f3_ := hR5.out.free 3
        go_wp2_with fail
        refine (must_yes _ _).mono ?_
        rintro e w6 ⟨rfl, rfl⟩
        go_wp2_with fail
        refine bodyPost_ret (v := valDat ⟨1, false, 0, ⟨#[]⟩⟩) (by simp [results, Tryz.results78, go_sem, valDat, *]) rfl ?_
        exact ⟨(((hs5.out.own (Nat.le_refl _) _ _).own (Nat.le_refl _) _ _).own (Nat.le_refl _) _ _).own (Nat.le_refl _) _ _, .inr ⟨_, M, hyes.out, rfl, (((hrd5.out.set hlt _ _).set hlt _ _).set hlt _ _).set hlt _ _⟩⟩
      · have hno := Lib.hid (show datS (16 :: M) = none by rw [hraw.out, hqH.out, if_neg hz])
        have hne : (q == 0) = false := by rw [beq_eq_false_iff_ne]; exact hz
        clear hz
        go_wp2_with fail
        refine (must_no _ _).mono ?_
        rintro e w6 ⟨rfl, rfl⟩
        go_wp2_with fail
        exact ⟨rfl, hs5.out, .inl ⟨hno.out, rfl⟩⟩
    have n16 : ((b.toNat : Int) == 16) = false := u8_ne b16
    by_cases b32 : b = 32
    · subst b32
      obtain ⟨w4, hw4⟩ : ∃ w4, (w3).setCell ⟨w.heap.size + 1, 0, none⟩ (Value.int .u8 2) = w4 := ⟨_, rfl⟩
      have hR4 := Lib.hid (show HasV w4 w.heap.size zD 60 from hw4 ▸ (hR3.out.setO (by omega) _ _))
      have hD4 := Lib.hid (show HasV w4 (w.heap.size + 1) [Value.int .u8 2, Value.bool false, Value.int .i64 0, Value.string ⟨#[]⟩] 60 from hw4 ▸ (hD3.out.set 0 _))
      have hrd4 := Lib.hid (show RdS W0 w4 M from hw4 ▸ (hrd3.out.set (by omega) _ _))
      have hs4 := Lib.hid (show Stay W0.heap.size w.heap.size w w4 from hw4 ▸ (hs3.out.own (by omega) _ _))
      have d0_ := hD4.out.cell 0 rfl; have d1_ := hD4.out.cell 1 rfl; have d2_ := hD4.out.cell 2 rfl; have d3_ := hD4.out.cell 3 rfl
      have hraw := Lib.hid (datS_raw (show rawS 32 M = some (⟨2, false, 0, ⟨#[]⟩⟩, M) from rfl))
      obtain ⟨q, hq⟩ : ∃ q, chk ⟨2, false, 0, ⟨#[]⟩⟩ = q := ⟨_, rfl⟩
      have hqH := Lib.hid hq
      clear hq
      go_wp2_with fail
      refine (check8_any 2 false 0 ⟨#[]⟩ w4 (hTH.out.below (hrd4.out.old)) (by decide)).mono ?_
      rw [hqH.out]
      rintro e w5 ⟨rfl, hb5⟩
      have hR5 := Lib.hid (hR4.out.below hb5 hR4.out.lt)
      have hD5 := Lib.hid (hD4.out.below hb5 hD4.out.lt)
      have hrd5 := Lib.hid (hrd4.out.below hb5 hrd4.out.lt)
      have hs5 := Lib.hid (hs4.out.trans (Stay.of (hb5.mono hs4.out.size)))
      clear hb5 hw4 c0_ c1_ c2_ c3_ f0_ f1_ f2_ f3_ d0_ d1_ d2_ d3_
      by_cases hz : q = 0
      · subst hz
        have hyes := Lib.hid (show datS (32 :: M) = some (⟨2, false, 0, ⟨#[]⟩⟩, M) by rw [hraw.out, hqH.out, if_pos rfl])
        have e0_ := hD5.out.cell 0 rfl; have e1_ := hD5.out.cell 1 rfl; have e2_ := hD5.out.cell 2 rfl; have e3_ := hD5.out.cell 3 rfl
        have r0_ := hR5.out.cell 0 rfl; have r1_ := hR5.out.cell 1 rfl; have r2_ := hR5.out.cell 2 rfl; have r3_ := hR5.out.cell 3 rfl
        have f0_ := hR5.out.free 0; have f1_ := hR5.out.free 1; have f2_ := hR5.out.free 2; have f3_ := hR5.out.free 3
        go_wp2_with fail
        refine (must_yes _ _).mono ?_
        rintro e w6 ⟨rfl, rfl⟩
        go_wp2_with fail
        refine bodyPost_ret (v := valDat ⟨2, false, 0, ⟨#[]⟩⟩) (by simp [results, Tryz.results78, go_sem, valDat, *]) rfl ?_
        exact ⟨(((hs5.out.own (Nat.le_refl _) _ _).own (Nat.le_refl _) _ _).own (Nat.le_refl _) _ _).own (Nat.le_refl _) _ _, .inr ⟨_, M, hyes.out, rfl, (((hrd5.out.set hlt _ _).set hlt _ _).set hlt _ _).set hlt _ _⟩⟩
      · have hno := Lib.hid (show datS (32 :: M) = none by rw [hraw.out, hqH.out, if_neg hz])
        have hne : (q == 0) = false := by rw [beq_eq_false_iff_ne]; exact hz
        clear hz
        go_wp2_with fail
        refine (must_no _ _).mono ?_
        rintro e w6 ⟨rfl, rfl⟩
        go_wp2_with fail
        exact ⟨rfl, hs5.out, .inl ⟨hno.out, rfl⟩⟩
    have n32 : ((b.toNat : Int) == 32) = false := u8_ne b32
    by_cases b33 : b = 33
    · subst b33
      obtain ⟨w4, hw4⟩ : ∃ w4, ((w3).setCell ⟨w.heap.size + 1, 0, none⟩ (Value.int .u8 2)).setCell ⟨w.heap.size + 1, 1, none⟩ (Value.bool true) = w4 := ⟨_, rfl⟩
      have hR4 := Lib.hid (show HasV w4 w.heap.size zD 60 from hw4 ▸ ((hR3.out.setO (by omega) _ _).setO (by omega) _ _))
      have hD4 := Lib.hid (show HasV w4 (w.heap.size + 1) [Value.int .u8 2, Value.bool true, Value.int .i64 0, Value.string ⟨#[]⟩] 60 from hw4 ▸ ((hD3.out.set 0 _).set 1 _))
      have hrd4 := Lib.hid (show RdS W0 w4 M from hw4 ▸ ((hrd3.out.set (by omega) _ _).set (by omega) _ _))
      have hs4 := Lib.hid (show Stay W0.heap.size w.heap.size w w4 from hw4 ▸ ((hs3.out.own (by omega) _ _).own (by omega) _ _))
      have d0_ := hD4.out.cell 0 rfl; have d1_ := hD4.out.cell 1 rfl; have d2_ := hD4.out.cell 2 rfl; have d3_ := hD4.out.cell 3 rfl
      have hraw := Lib.hid (datS_raw (show rawS 33 M = some (⟨2, true, 0, ⟨#[]⟩⟩, M) from rfl))
      obtain ⟨q, hq⟩ : ∃ q, chk ⟨2, true, 0, ⟨#[]⟩⟩ = q := ⟨_, rfl⟩
      have hqH := Lib.hid hq
      clear hq
      go_wp2_with fail
      refine (check8_any 2 true 0 ⟨#[]⟩ w4 (hTH.out.below (hrd4.out.old)) (by decide)).mono ?_
      rw [hqH.out]
      rintro e w5 ⟨rfl, hb5⟩
      have hR5 := Lib.hid (hR4.out.below hb5 hR4.out.lt)
      have hD5 := Lib.hid (hD4.out.below hb5 hD4.out.lt)
      have hrd5 := Lib.hid (hrd4.out.below hb5 hrd4.out.lt)
      have hs5 := Lib.hid (hs4.out.trans (Stay.of (hb5.mono hs4.out.size)))
      clear hb5 hw4 c0_ c1_ c2_ c3_ f0_ f1_ f2_ f3_ d0_ d1_ d2_ d3_
      by_cases hz : q = 0
      · subst hz
        have hyes := Lib.hid (show datS (33 :: M) = some (⟨2, true, 0, ⟨#[]⟩⟩, M) by rw [hraw.out, hqH.out, if_pos rfl])
        have e0_ := hD5.out.cell 0 rfl; have e1_ := hD5.out.cell 1 rfl; have e2_ := hD5.out.cell 2 rfl; have e3_ := hD5.out.cell 3 rfl
        have r0_ := hR5.out.cell 0 rfl; have r1_ := hR5.out.cell 1 rfl; have r2_ := hR5.out.cell 2 rfl; have r3_ := hR5.out.cell 3 rfl
        have f0_ := hR5.out.free 0; have f1_ := hR5.out.free 1; have f2_ := hR5.out.free 2; have f3_ := hR5.out.free 3
        go_wp2_with fail
        refine (must_yes _ _).mono ?_
        rintro e w6 ⟨rfl, rfl⟩
        go_wp2_with fail
        refine bodyPost_ret (v := valDat ⟨2, true, 0, ⟨#[]⟩⟩) (by simp [results, Tryz.results78, go_sem, valDat, *]) rfl ?_
        exact ⟨(((hs5.out.own (Nat.le_refl _) _ _).own (Nat.le_refl _) _ _).own (Nat.le_refl _) _ _).own (Nat.le_refl _) _ _, .inr ⟨_, M, hyes.out, rfl, (((hrd5.out.set hlt _ _).set hlt _ _).set hlt _ _).set hlt _ _⟩⟩
      · have hno := Lib.hid (show datS (33 :: M) = none by rw [hraw.out, hqH.out, if_neg hz])
        have hne : (q == 0) = false := by rw [beq_eq_false_iff_ne]; exact hz
        clear hz
        go_wp2_with fail
        refine (must_no _ _).mono ?_
        rintro e w6 ⟨rfl, rfl⟩
        go_wp2_with fail
        exact ⟨rfl, hs5.out, .inl ⟨hno.out, rfl⟩⟩
    have n33 : ((b.toNat : Int) == 33) = false := u8_ne b33
    by_cases b48 : b = 48
    · subst b48
      clear c0_ c1_ c2_ c3_ f0_ f1_ f2_ f3_
      go_wp2_with fail
      refine (rdInteger_any W0 _ M hrd3.out).mono ?_
      rintro e w3b ⟨hsb, hcase⟩
      have hz3b : w.heap.size + 2 ≤ w3b.heap.size := by have := hsb.size; omega
      replace hR3 := Lib.hid (hR3.out.stay hsb (by omega))
      replace hD3 := Lib.hid (hD3.out.stay hsb (by omega))
      replace hs3 := Lib.hid (hs3.out.trans (hsb.mono hs3.out.size))
      clear hsb
      rcases hcase with ⟨hnone, rfl⟩ | ⟨x, M2, hsome, rfl, hrd'⟩
      · have hno := Lib.hid (datS_none (show rawS 48 M = none by rw [show rawS 48 M = (intS M).map _ from rfl, hnone]; rfl))
        clear hnone
        go_wp2_with fail
        exact ⟨rfl, hs3.out, .inl ⟨hno.out, rfl⟩⟩
      · replace hrd3 := Lib.hid hrd'
        have hraw0 := Lib.hid (show rawS 48 M = _ by rw [show rawS 48 M = (intS M).map _ from rfl, hsome])
        clear hsome hrd'
        have c0_ := hD3.out.cell 0 rfl; have c1_ := hD3.out.cell 1 rfl; have c2_ := hD3.out.cell 2 rfl; have c3_ := hD3.out.cell 3 rfl
        have f0_ := hD3.out.free 0; have f1_ := hD3.out.free 1; have f2_ := hD3.out.free 2; have f3_ := hD3.out.free 3
        obtain ⟨w4, hw4⟩ : ∃ w4, ((w3b).setCell ⟨w.heap.size + 1, 0, none⟩ (Value.int .u8 3)).setCell ⟨w.heap.size + 1, 2, none⟩ (Value.int .i64 x) = w4 := ⟨_, rfl⟩
        have hR4 := Lib.hid (show HasV w4 w.heap.size zD 60 from hw4 ▸ ((hR3.out.setO (by omega) _ _).setO (by omega) _ _))
        have hD4 := Lib.hid (show HasV w4 (w.heap.size + 1) [Value.int .u8 3, Value.bool false, Value.int .i64 x, Value.string ⟨#[]⟩] 60 from hw4 ▸ ((hD3.out.set 0 _).set 2 _))
        have hrd4 := Lib.hid (show RdS W0 w4 M2 from hw4 ▸ ((hrd3.out.set (by omega) _ _).set (by omega) _ _))
        have hs4 := Lib.hid (show Stay W0.heap.size w.heap.size w w4 from hw4 ▸ ((hs3.out.own (by omega) _ _).own (by omega) _ _))
        have d0_ := hD4.out.cell 0 rfl; have d1_ := hD4.out.cell 1 rfl; have d2_ := hD4.out.cell 2 rfl; have d3_ := hD4.out.cell 3 rfl
        have hraw := Lib.hid (datS_raw (show rawS 48 M = some (⟨3, false, x, ⟨#[]⟩⟩, M2) from hraw0.out))
        obtain ⟨q, hq⟩ : ∃ q, chk ⟨3, false, x, ⟨#[]⟩⟩ = q := ⟨_, rfl⟩
        have hqH := Lib.hid hq
        clear hq
        go_wp2_with fail
        refine (check8_any 3 false x ⟨#[]⟩ w4 (hTH.out.below (hrd4.out.old)) (by decide)).mono ?_
        rw [hqH.out]
        rintro e w5 ⟨rfl, hb5⟩
        have hR5 := Lib.hid (hR4.out.below hb5 hR4.out.lt)
        have hD5 := Lib.hid (hD4.out.below hb5 hD4.out.lt)
        have hrd5 := Lib.hid (hrd4.out.below hb5 hrd4.out.lt)
        have hs5 := Lib.hid (hs4.out.trans (Stay.of (hb5.mono hs4.out.size)))
        clear hb5 hw4 c0_ c1_ c2_ c3_ f0_ f1_ f2_ f3_ d0_ d1_ d2_ d3_
        by_cases hz : q = 0
        · subst hz
          have hyes := Lib.hid (show datS (48 :: M) = some (⟨3, false, x, ⟨#[]⟩⟩, M2) by rw [hraw.out, hqH.out, if_pos rfl])
          have e0_ := hD5.out.cell 0 rfl; have e1_ := hD5.out.cell 1 rfl; have e2_ := hD5.out.cell 2 rfl; have e3_ := hD5.out.cell 3 rfl
          have r0_ := hR5.out.cell 0 rfl; have r1_ := hR5.out.cell 1 rfl; have r2_ := hR5.out.cell 2 rfl; have r3_ := hR5.out.cell 3 rfl
          have f0_ := hR5.out.free 0; have f1_ := hR5.out.free 1; have f2_ := hR5.out.free 2; have f3_ := hR5.out.free 3
          go_wp2_with fail
          refine (must_yes _ _).mono ?_
          rintro e w6 ⟨rfl, rfl⟩
          go_wp2_with fail
          refine bodyPost_ret (v := valDat ⟨3, false, x, ⟨#[]⟩⟩) (by simp [results, Tryz.results78, go_sem, valDat, *]) rfl ?_
          exact ⟨(((hs5.out.own (Nat.le_refl _) _ _).own (Nat.le_refl _) _ _).own (Nat.le_refl _) _ _).own (Nat.le_refl _) _ _, .inr ⟨_, M2, hyes.out, rfl, (((hrd5.out.set hlt _ _).set hlt _ _).set hlt _ _).set hlt _ _⟩⟩
        · have hno := Lib.hid (show datS (48 :: M) = none by rw [hraw.out, hqH.out, if_neg hz])
          have hne : (q == 0) = false := by rw [beq_eq_false_iff_ne]; exact hz
          clear hz
          go_wp2_with fail
          refine (must_no _ _).mono ?_
          rintro e w6 ⟨rfl, rfl⟩
          go_wp2_with fail
          exact ⟨rfl, hs5.out, .inl ⟨hno.out, rfl⟩⟩
    have n48 : ((b.toNat : Int) == 48) = false := u8_ne b48
    by_cases b64 : b = 64
    · subst b64
      clear c0_ c1_ c2_ c3_ f0_ f1_ f2_ f3_
      go_wp2_with fail
      refine (rdText_any W0 _ M hrd3.out hMl).mono ?_
      rintro e w3b ⟨hsb, hcase⟩
      have hz3b : w.heap.size + 2 ≤ w3b.heap.size := by have := hsb.size; omega
      replace hR3 := Lib.hid (hR3.out.stay hsb (by omega))
      replace hD3 := Lib.hid (hD3.out.stay hsb (by omega))
      replace hs3 := Lib.hid (hs3.out.trans (hsb.mono hs3.out.size))
      clear hsb
      rcases hcase with ⟨hnone, rfl⟩ | ⟨x, M2, hsome, rfl, hrd'⟩
      · have hno := Lib.hid (datS_none (show rawS 64 M = none by rw [show rawS 64 M = (textS M).map _ from rfl, hnone]; rfl))
        clear hnone
        go_wp2_with fail
        exact ⟨rfl, hs3.out, .inl ⟨hno.out, rfl⟩⟩
      · replace hrd3 := Lib.hid hrd'
        have hraw0 := Lib.hid (show rawS 64 M = _ by rw [show rawS 64 M = (textS M).map _ from rfl, hsome])
        have hxs := Lib.hid (show (⟨x.toArray⟩ : ByteArray).size ≤ 9223372036854775807 by have := textS_len M _ hsome; show x.toArray.size ≤ _; rw [List.size_toArray]; simp only at this; omega)
        clear hsome hrd'
        have c0_ := hD3.out.cell 0 rfl; have c1_ := hD3.out.cell 1 rfl; have c2_ := hD3.out.cell 2 rfl; have c3_ := hD3.out.cell 3 rfl
        have f0_ := hD3.out.free 0; have f1_ := hD3.out.free 1; have f2_ := hD3.out.free 2; have f3_ := hD3.out.free 3
        obtain ⟨w4, hw4⟩ : ∃ w4, ((w3b).setCell ⟨w.heap.size + 1, 0, none⟩ (Value.int .u8 4)).setCell ⟨w.heap.size + 1, 3, none⟩ (Value.string ⟨x.toArray⟩) = w4 := ⟨_, rfl⟩
        have hR4 := Lib.hid (show HasV w4 w.heap.size zD 60 from hw4 ▸ ((hR3.out.setO (by omega) _ _).setO (by omega) _ _))
        have hD4 := Lib.hid (show HasV w4 (w.heap.size + 1) [Value.int .u8 4, Value.bool false, Value.int .i64 0, Value.string ⟨x.toArray⟩] 60 from hw4 ▸ ((hD3.out.set 0 _).set 3 _))
        have hrd4 := Lib.hid (show RdS W0 w4 M2 from hw4 ▸ ((hrd3.out.set (by omega) _ _).set (by omega) _ _))
        have hs4 := Lib.hid (show Stay W0.heap.size w.heap.size w w4 from hw4 ▸ ((hs3.out.own (by omega) _ _).own (by omega) _ _))
        have d0_ := hD4.out.cell 0 rfl; have d1_ := hD4.out.cell 1 rfl; have d2_ := hD4.out.cell 2 rfl; have d3_ := hD4.out.cell 3 rfl
        have hraw := Lib.hid (datS_raw (show rawS 64 M = some (⟨4, false, 0, ⟨x.toArray⟩⟩, M2) from hraw0.out))
        obtain ⟨q, hq⟩ : ∃ q, chk ⟨4, false, 0, ⟨x.toArray⟩⟩ = q := ⟨_, rfl⟩
        have hqH := Lib.hid hq
        clear hq
        go_wp2_with fail
        refine (check8_any 4 false 0 ⟨x.toArray⟩ w4 (hTH.out.below (hrd4.out.old)) hxs.out).mono ?_
        rw [hqH.out]
        rintro e w5 ⟨rfl, hb5⟩
        have hR5 := Lib.hid (hR4.out.below hb5 hR4.out.lt)
        have hD5 := Lib.hid (hD4.out.below hb5 hD4.out.lt)
        have hrd5 := Lib.hid (hrd4.out.below hb5 hrd4.out.lt)
        have hs5 := Lib.hid (hs4.out.trans (Stay.of (hb5.mono hs4.out.size)))
        clear hb5 hw4 c0_ c1_ c2_ c3_ f0_ f1_ f2_ f3_ d0_ d1_ d2_ d3_
        by_cases hz : q = 0
        · subst hz
          have hyes := Lib.hid (show datS (64 :: M) = some (⟨4, false, 0, ⟨x.toArray⟩⟩, M2) by rw [hraw.out, hqH.out, if_pos rfl])
          have e0_ := hD5.out.cell 0 rfl; have e1_ := hD5.out.cell 1 rfl; have e2_ := hD5.out.cell 2 rfl; have e3_ := hD5.out.cell 3 rfl
          have r0_ := hR5.out.cell 0 rfl; have r1_ := hR5.out.cell 1 rfl; have r2_ := hR5.out.cell 2 rfl; have r3_ := hR5.out.cell 3 rfl
          have f0_ := hR5.out.free 0; have f1_ := hR5.out.free 1; have f2_ := hR5.out.free 2; have f3_ := hR5.out.free 3
          go_wp2_with fail
          refine (must_yes _ _).mono ?_
          rintro e w6 ⟨rfl, rfl⟩
          go_wp2_with fail
          refine bodyPost_ret (v := valDat ⟨4, false, 0, ⟨x.toArray⟩⟩) (by simp [results, Tryz.results78, go_sem, valDat, *]) rfl ?_
          exact ⟨(((hs5.out.own (Nat.le_refl _) _ _).own (Nat.le_refl _) _ _).own (Nat.le_refl _) _ _).own (Nat.le_refl _) _ _, .inr ⟨_, M2, hyes.out, rfl, (((hrd5.out.set hlt _ _).set hlt _ _).set hlt _ _).set hlt _ _⟩⟩
        · have hno := Lib.hid (show datS (64 :: M) = none by rw [hraw.out, hqH.out, if_neg hz])
          have hne : (q == 0) = false := by rw [beq_eq_false_iff_ne]; exact hz
          clear hz
          go_wp2_with fail
          refine (must_no _ _).mono ?_
          rintro e w6 ⟨rfl, rfl⟩
          go_wp2_with fail
          exact ⟨rfl, hs5.out, .inl ⟨hno.out, rfl⟩⟩
    have n64 : ((b.toNat : Int) == 64) = false := u8_ne b64
    have hno := Lib.hid (datS_none (show rawS b M = none by unfold rawS; rw [if_neg b16, if_neg b32, if_neg b33, if_neg b48, if_neg b64]))
    obtain ⟨q, hq⟩ : ∃ q, chk ⟨0, false, 0, ⟨#[]⟩⟩ = q := ⟨_, rfl⟩
    have hqn : (q == 0) = false := by rw [← hq]; decide
    have hqH := Lib.hid hq
    clear hq b16 b32 b33 b48 b64
    go_wp2_with fail
    refine (check8_any 0 false 0 ⟨#[]⟩ w3 (hTH.out.below (hrd3.out.old)) (by decide)).mono ?_
    rw [hqH.out]
    rintro e w5 ⟨rfl, hb5⟩
    have hs5 := Lib.hid (hs3.out.trans (Stay.of (hb5.mono hs3.out.size)))
    clear hb5
    go_wp2_with fail
    refine (must_no _ _).mono ?_
    rintro e w6 ⟨rfl, rfl⟩
    go_wp2_with fail
    exact ⟨rfl, hs5.out, .inl ⟨hno.out, rfl⟩⟩
end Go.Proofs.YtpmfbmigdpmloaaGreatDoor
end
