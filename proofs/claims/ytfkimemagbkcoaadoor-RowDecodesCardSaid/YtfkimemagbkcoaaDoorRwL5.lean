/-
  The law RowBeginnings, walked at this program: of any two rows. Condition: unicode/utf8's two tables lie as their initialisers lay them.
-/
import Derived.Test.YtfkimemagbkcoaaDoorRwB9
import Derived.Test.YtfkimemagbkcoaaDoorRwP
import Derived.Test.YtfkimemagbkcoaaDoorRowP
import Derived.Test.YtfkimemagbkcoaaDoorRwX
set_option linter.unusedVariables false
set_option linter.unusedSimpArgs false
namespace Go.Proofs.YtfkimemagbkcoaaDoor
open Go.RowKit Go.Lib Go.Proofs

/-- A row of the call's own. -/
abbrev OwnKR (B : Nat) (v : Value) (l : List Dat) (W0 w : World) : Prop := OwnK 79 4 B v l.length (l.flatMap cellsD) W0 w
theorem OwnKR.rowV {B : Nat} {v : Value} {l : List Dat} {W0 w : World} (h : OwnKR B v l W0 w) : RowV w v l := own_slV h.1
theorem OwnKR.form {B : Nat} {v : Value} {l : List Dat} {W0 w : World} (h : OwnKR B v l W0 w) : ∃ A c, v = .slice A l.length c := by
  obtain ⟨A, c, h1, _⟩ := h.rowV.form
  exact ⟨A, c, h1⟩
theorem RowV.front {w : World} {A : Option Addr} {n c m : Nat} {l : List Dat} (h : RowV w (.slice A n c) l) (hm : m ≤ l.length) : RowV w (.slice A m c) (l.take m) := by
  obtain ⟨A', c', e, _⟩ := h.form
  obtain ⟨rfl, rfl, rfl⟩ := Value.slice.inj e
  have h1 := SlV.front (m := m) h hm
  have e : (l.flatMap cellsD).take (m * 4) = (l.take m).flatMap cellsD := by
    have e2 : l.flatMap cellsD = (l.take m).flatMap cellsD ++ (l.drop m).flatMap cellsD := by rw [← List.flatMap_append, List.take_append_drop]
    rw [e2]
    exact List.take_left' (by rw [cells_len, List.length_take]; congr 1; omega)
  rw [e] at h1
  unfold RowV
  rw [List.length_take, Nat.min_eq_left hm]
  exact h1
theorem BytsV.front {w : World} {A : Option Addr} {n c m : Nat} {l : List UInt8} (h : BytsV w (.slice A n c) l) (hm : m ≤ l.length) : BytsV w (.slice A m c) (l.take m) := by
  obtain ⟨A', c', e, _⟩ := h.form
  obtain ⟨rfl, rfl, rfl⟩ := Value.slice.inj e
  have h1 := SlV.front (m := m) h hm
  have e : (Lib.byteCells l).take (m * 1) = Lib.byteCells (l.take m) := by simp [Lib.byteCells, List.map_take]
  rw [e] at h1
  unfold BytsV
  rw [List.length_take, Nat.min_eq_left hm]
  exact h1
theorem RowV.cap {w : World} {A : Option Addr} {n c : Nat} {l : List Dat} (h : RowV w (.slice A n c) l) : l.length ≤ c := by
  obtain ⟨_, A', c', e, h2, _⟩ := h
  obtain ⟨_, rfl, rfl⟩ := Value.slice.inj e
  exact h2
theorem BytsV.cap {w : World} {A : Option Addr} {n c : Nat} {l : List UInt8} (h : BytsV w (.slice A n c) l) : l.length ≤ c := by
  obtain ⟨_, A', c', e, h2, _⟩ := h
  obtain ⟨_, rfl, rfl⟩ := Value.slice.inj e
  exact h2
section
/-- 'v = append(v, l...)' of data. -/
theorem wpList_rowK {ops : Array Oper} {rest : List Oper} {o : Oper} {a : Act} {Q : Exit → Act → World → Prop} (hgd : o.guard = none) (s x : Operand) (T : TypeId) (hT : Tryd.prog.underlying T = some (.slice 79))
    (ho : o.op = .call { callee := .builtin .append, args := #[s, x], argTypes := #[T, T] })
    (B : Nat) (v : Value) (l : List Dat) (W0 w : World) (sv : Value) (m : List Dat) (hb : OwnKR B v l W0 w) (hs : a.eval s = v) (hsv : RowV w sv m) (hx : a.eval x = sv) (hlen : l.length + m.length ≤ 1099511627776)
    (h : ∀ v' w', OwnKR B v' (l ++ m) W0 w' → wpList Tryd.prog ops Q rest (a.put o.dst v') w') : wpList Tryd.prog ops Q (o :: rest) a w := by
  obtain ⟨i, hi, hz, hsz, hby⟩ := info_datum
  refine wpList_append_sl hgd s x T ho B 79 i _ 4 i.bytes hT hi hz hsz rfl rfl (by decide) v l.length (l.flatMap cellsD) w sv m.length (m.flatMap cellsD) hb.1 hs hsv hx (cells_one m) (by unfold maxLen; omega) ?_ hb.2.2.1 ?_
  · have := Nat.mul_le_mul hlen hby
    omega
  · intro v' w' ho' hg
    refine h v' w' ?_
    have := hb.grown ho' hg
    unfold OwnKR
    rw [List.length_append, List.flatMap_append]
    exact this
/-- 'v = append(v, l...)' of bytes. -/
theorem wpList_bytesK {ops : Array Oper} {rest : List Oper} {o : Oper} {a : Act} {Q : Exit → Act → World → Prop} (hgd : o.guard = none) (s x : Operand)
    (ho : o.op = .call { callee := .builtin .append, args := #[s, x], argTypes := #[22, 22] })
    (B : Nat) (v : Value) (l : List UInt8) (W0 w : World) (sv : Value) (m : List UInt8) (hb : OwnB B v l W0 w) (hs : a.eval s = v) (hsv : BytsV w sv m) (hx : a.eval x = sv) (hlen : l.length + m.length ≤ 140737488355328)
    (h : ∀ v' w', OwnB B v' (l ++ m) W0 w' → wpList Tryd.prog ops Q rest (a.put o.dst v') w') : wpList Tryd.prog ops Q (o :: rest) a w := by
  obtain ⟨i, hi, hz, hsz, hby⟩ := info_u8
  refine wpList_append_sl hgd s x 22 ho B 5 i _ 1 1 Tryd.underlying22 hi hz hsz hby rfl (by decide) v l.length (Lib.byteCells l) w sv m.length (Lib.byteCells m) hb.1 hs hsv hx (bytes_one m) (by unfold maxLen; omega) (by omega) hb.2.2.1 ?_
  · intro v' w' ho' hg
    refine h v' w' ?_
    have := hb.grown ho' hg
    unfold OwnB
    rw [List.length_append, Lib.byteCells_append]
    exact this
end
theorem chkL_app : ∀ {l m : List Dat}, chkL l = 0 → chkL m = 0 → chkL (l ++ m) = 0
  | [], m, _, h => h
  | d :: l, m, h, h' => by
    unfold chkL at h
    by_cases h0 : chk d = 0
    · rw [if_pos h0] at h
      rw [List.cons_append, chkL, if_pos h0]
      exact chkL_app h h'
    · rw [if_neg h0] at h
      exact absurd h h0
theorem chkR_app {l m : List Dat} (h : chkR l = 0) (h' : chkR m = 0) (hn : l.length + m.length ≤ 32) : chkR (l ++ m) = 0 := by
  unfold chkR at h h' ⊢
  rw [if_neg (by omega)] at h h'
  rw [if_neg (by rw [List.length_append]; omega)]
  exact chkL_app h h'
set_option maxHeartbeats 8000000 in
set_option maxRecDepth 1000000 in
theorem rowBeginnings_any (va vb : Value) (l m : List Dat) (w : World) (hT : Tab8 w) (ha : RowV w va l) (hb : RowV w vb m) (wa : ∀ d ∈ l, Wide d ∧ d.s.size ≤ 9223372036854775807) (wb : ∀ d ∈ m, Wide d ∧ d.s.size ≤ 9223372036854775807) :
    Calls Tryd.prog 7 #[va, vb] w fun e w' => e = .returned (.bool true) ∧ Below w.heap.size w w' := by
  obtain ⟨A, ca, rfl, hla⟩ := ha.form
  obtain ⟨B, cb, rfl, hlb⟩ := hb.form
  have haH := Lib.hid ha; have hbH := Lib.hid hb; have hTH := Lib.hid hT; have waH := Lib.hid wa; have wbH := Lib.hid wb
  clear ha hb hT wa wb
  go_enter Tryd.func7, Tryd.ntmps7
  go_wp2_with fail
  refine (rowCheck_any _ l w haH.out hTH.out (fun d hd => (waH.out d hd).2)).mono ?_
  obtain ⟨ka, hka⟩ : ∃ k, chkR l = k := ⟨_, rfl⟩
  rw [hka]
  rintro e w1 ⟨rfl, hb1⟩
  have hb1H := Lib.hid hb1; have hkaH := Lib.hid hka
  clear hb1 hka
  by_cases hza : ¬ ka = 0
  · go_wp2_with fail
    refine (known_any _).mono ?_
    rintro e w2 ⟨rfl, hb2⟩
    have hb2H := Lib.hid (hb1H.out.trans (hb2.mono hb1H.out.size))
    clear hb2
    go_wp2_with fail
    go_ret
    exact ⟨rfl, hb2H.out⟩
  obtain rfl : ka = 0 := by omega
  go_wp2_with fail
  refine (rowCheck_any _ m w1 (hbH.out.below hb1H.out) (hTH.out.below hb1H.out) (fun d hd => (wbH.out d hd).2)).mono ?_
  obtain ⟨kb, hkb⟩ : ∃ k, chkR m = k := ⟨_, rfl⟩
  rw [hkb]
  rintro e w2 ⟨rfl, hb2⟩
  have hb2H := Lib.hid (hb1H.out.trans (hb2.mono hb1H.out.size)); have hkbH := Lib.hid hkb
  clear hb2 hkb
  by_cases hzb : ¬ kb = 0
  · go_wp2_with fail
    refine (known_any _).mono ?_
    rintro e w3 ⟨rfl, hb3⟩
    have hb3H := Lib.hid (hb2H.out.trans (hb3.mono hb2H.out.size))
    clear hb3
    go_wp2_with fail
    go_ret
    exact ⟨rfl, hb3H.out⟩
  obtain rfl : kb = 0 := by omega
  obtain ⟨hl32, hal⟩ := chkR_all hkaH.out
  obtain ⟨hm32, ham⟩ := chkR_all hkbH.out
  by_cases hbig : 32 < l.length + m.length
  · have hbigI : (32 : Int) < (l.length : Int) + (m.length : Int) := by omega
    clear hal ham
    go_wp2_with fail
    refine (known_any _).mono ?_
    rintro e w3 ⟨rfl, hb3⟩
    have hb3H := Lib.hid (hb2H.out.trans (hb3.mono hb2H.out.size))
    clear hb3
    go_wp2_with fail
    go_ret
    exact ⟨rfl, hb3H.out⟩
  have hbigI : ¬ (32 : Int) < (l.length : Int) + (m.length : Int) := by omega
  have hkl := Lib.hid (show ∀ d ∈ l, Kinded d ∧ Wide d from fun d hd => ⟨chk_kinded (hal d hd), (waH.out d hd).1⟩)
  have hkm := Lib.hid (show ∀ d ∈ m, Kinded d ∧ Wide d from fun d hd => ⟨chk_kinded (ham d hd), (wbH.out d hd).1⟩)
  have hks := Lib.hid (chkR_app hkaH.out hkbH.out (by omega))
  have hxl := Lib.hid (show (encR l).length ≤ 1048576 from Nat.le_trans (encR_le l) (by have := szR_small hal; omega))
  have hyl := Lib.hid (show (encR m).length ≤ 1048576 from Nat.le_trans (encR_le m) (by have := szR_small ham; omega))
  have hll : l.length + m.length ≤ 32 := by omega
  clear hal ham
  go_wp2_with fail
  refine (encode_any _ l _ (haH.out.below hb2H.out) (hTH.out.below hb2H.out) waH.out).mono ?_
  rw [hkaH.out]
  rintro e w3 ⟨v3, rfl, h3, hb3⟩
  obtain ⟨x, hx⟩ : ∃ x, encR l = x := ⟨_, rfl⟩
  have hx3 := Lib.hid (h3.elim (fun h => h.2) (fun h => absurd rfl h.1))
  have hb3H := Lib.hid (hb2H.out.trans (hb3.mono hb2H.out.size))
  clear h3 hb3
  go_wp2_with fail
  refine (encode_any _ m _ (hbH.out.below hb3H.out) (hTH.out.below hb3H.out) wbH.out).mono ?_
  rw [hkbH.out]
  rintro e w4 ⟨v4, rfl, h4, hb4⟩
  obtain ⟨y, hy⟩ : ∃ y, encR m = y := ⟨_, rfl⟩
  have hx4 := Lib.hid (ownsRow_below' hx3.out hb4)
  have hy4 := Lib.hid (h4.elim (fun h => h.2) (fun h => absurd rfl h.1))
  have hb4H := Lib.hid (hb3H.out.trans (hb4.mono hb3H.out.size))
  clear h4 hb4
  rw [hx] at hx4 hxl
  rw [hy] at hy4 hyl
  replace hx4 := Lib.hid (show OwnU _ v3 x w4 from hx4.out)
  replace hy4 := Lib.hid (show OwnU _ v4 y w4 from hy4.out)
  have hxH := Lib.hid hx; have hyH := Lib.hid hy
  clear hx hy hx3
  obtain ⟨X, cx, rfl⟩ := OwnU.form hx4.out
  obtain ⟨Y, cy, rfl⟩ := OwnU.form hy4.out
  have ho0 := Lib.hid (show OwnKR w.heap.size (.slice none 0 0) [] w4 w4 from OwnK.start (World.ownsRow_nil _ _ _ _) hb4H.out.size)
  have ha4 := Lib.hid (haH.out.below hb4H.out)
  go_upto_region 7 with (at_builtin; refine wpList_rowK rfl _ _ 25 Tryd.underlying25 rfl w.heap.size _ [] w4 w4 _ l ho0.out rfl ha4.out rfl (by simp; omega) ?_; intro v5 w5 hq5; have ho5 := Lib.hid (show OwnKR w.heap.size v5 l w4 w5 from hq5); clear hq5)
  obtain ⟨A5, c5, rfl⟩ := ho5.out.form
  have hbm5 := Lib.hid (hbH.out.below (hb4H.out.trans ho5.out.2.1))
  go_upto_region 8 with (at_builtin; refine wpList_rowK rfl _ _ 25 Tryd.underlying25 rfl w.heap.size _ l w4 w5 _ m ho5.out rfl hbm5.out rfl (by omega) ?_; intro v6 w6 hq6; have ho6 := Lib.hid hq6; clear hq6)
  obtain ⟨S, hS⟩ : ∃ S, l ++ m = S := ⟨_, rfl⟩
  have hwS := Lib.hid (show ∀ d ∈ S, Wide d ∧ d.s.size ≤ 9223372036854775807 from fun d hd => (List.mem_append.1 (hS.symm ▸ hd)).elim (waH.out d) (wbH.out d))
  have heS := Lib.hid (show encR S = x ++ y by rw [← hS, encR_app, hxH.out, hyH.out])
  rw [hS] at ho6 hks
  clear hS
  obtain ⟨A6, c6, rfl⟩ := ho6.out.form
  have hb6H := Lib.hid (hb4H.out.trans ho6.out.2.1)
  have hx6 := Lib.hid (ownsRow_others hx4.out ho6.out.2.2.2 (by decide))
  have hy6 := Lib.hid (ownsRow_others hy4.out ho6.out.2.2.2 (by decide))
  go_wp2_with fail
  refine (encode_any _ S _ ho6.out.rowV (hTH.out.below hb6H.out) hwS.out).mono ?_
  rw [hks.out, heS.out]
  rintro e w7 ⟨v7, rfl, h7, hb7⟩
  have hz7' := Lib.hid (h7.elim (fun h => h.2) (fun h => absurd rfl h.1))
  have hx7 := Lib.hid (OwnU.byts (ownsRow_below' hx6.out hb7))
  have hy7 := Lib.hid (OwnU.byts (ownsRow_below' hy6.out hb7))
  obtain ⟨z, hz⟩ : ∃ z, x ++ y = z := ⟨_, rfl⟩
  rw [hz] at hz7'
  have hz7 := Lib.hid (show BytsV w7 v7 z from OwnU.byts hz7'.out)
  have hzH := Lib.hid hz
  have hb7H := Lib.hid (hb6H.out.trans (hb7.mono hb6H.out.size))
  obtain ⟨Z, cz, rfl, _⟩ := hz7.out.form
  have hcb := hbH.out.cap
  have hcy := hy7.out.cap
  have hPr := Lib.hid (show x <+: y ↔ Begins l m by
    rw [← hxH.out, ← hyH.out]
    exact ⟨enc_begins hkl.out hkm.out, begins_enc⟩)
  clear h7 hb7 hz hz7' hx6 hy6 hx4 hy4 ho5 ho6 hks heS hwS ha4 hbm5 ho0
  by_cases hP : Begins l m
  · obtain ⟨hle, hc0⟩ := id hP
    obtain ⟨hxy, hd0⟩ := pre_take.1 (hPr.out.2 hP)
    have hc0H := Lib.hid hc0; have hd0H := Lib.hid hd0
    have hmin : min (l.length : Int) (m.length : Int) = (l.length : Int) := by omega
    have hmin2 : (if (l.length : Int) ≤ (m.length : Int) then (l.length : Int) else (m.length : Int)) = (l.length : Int) := by split <;> omega
    have hmin3 : min (x.length : Int) (y.length : Int) = (x.length : Int) := by omega
    have hmin4 : (if (x.length : Int) ≤ (y.length : Int) then (x.length : Int) else (y.length : Int)) = (x.length : Int) := by split <;> omega
    have hlcb : l.length ≤ cb := by omega
    have hxcy : x.length ≤ cy := by omega
    clear hc0 hd0 hP
    go_wp2_with fail
    refine (rowCmp_any _ _ l (m.take l.length) _ (haH.out.below hb7H.out) ((hbH.out.below hb7H.out).front hle)).mono ?_
    rw [hc0H.out]
    rintro e w8 ⟨rfl, hb8⟩
    have hx8 := Lib.hid (hx7.out.below hb8); have hy8 := Lib.hid (hy7.out.below hb8); have hz8 := Lib.hid (hz7.out.below hb8)
    have hb8H := Lib.hid (hb7H.out.trans (hb8.mono hb7H.out.size))
    clear hb8
    go_wp2_with fail
    refine (bytes_any _ _ x (y.take x.length) _ hx8.out (hy8.out.front hxy)).mono ?_
    rw [hd0H.out]
    rintro e w9 ⟨rfl, hb9⟩
    have hxf := Lib.hid (hx8.out.below hb9); have hyf := Lib.hid (hy8.out.below hb9); have hzf := Lib.hid (hz8.out.below hb9)
    have hbf := Lib.hid (hb8H.out.trans (hb9.mono hb8H.out.size))
    clear hb9
    have hou := Lib.hid (show OwnB w9.heap.size (.slice none 0 0) [] w9 w9 from OwnK.start (World.ownsRow_nil _ _ _ _) (Nat.le_refl _))
    have hxyz := Lib.hid (show z.length = x.length + y.length by rw [← hzH.out, List.length_append])
    go_upto_region 15 with (at_builtin; refine wpList_bytesK rfl _ _ rfl w9.heap.size _ [] w9 w9 _ x hou.out rfl hxf.out rfl (by have := hxl.out; simp; omega) ?_; intro va wa hqa; have hoa := Lib.hid (show OwnB w9.heap.size va x w9 wa from hqa); clear hqa)
    obtain ⟨AA, ac, rfl⟩ := hoa.out.form
    have hya := Lib.hid (hyf.out.below hoa.out.2.1)
    go_upto_region 16 with (at_builtin; refine wpList_bytesK rfl _ _ rfl w9.heap.size _ x w9 wa _ y hoa.out rfl hya.out rfl (by have := hxl.out; have := hyl.out; omega) ?_; intro vd wd hqd; have hod := Lib.hid (show OwnB w9.heap.size vd z w9 wd from hzH.out ▸ hqd); clear hqd)
    obtain ⟨AD, ad, rfl⟩ := hod.out.form
    have hzd := Lib.hid (hzf.out.below hod.out.2.1)
    have hbd := Lib.hid (hbf.out.trans (hod.out.2.1.mono hbf.out.size))
    have hall := Lib.hid (OwnU.byts hod.out.1)
    go_wp2_with fail
    refine (known_any _).mono ?_
    rintro e we ⟨rfl, hbe⟩
    have hze := Lib.hid (hzd.out.below hbe); have halle := Lib.hid (hall.out.below hbe)
    have hbeH := Lib.hid (hbd.out.trans (hbe.mono hbd.out.size))
    clear hbe
    go_wp2_with fail
    refine (bytes_any _ _ z z _ hze.out halle.out).mono ?_
    rw [show compareBytes z z = 0 from compare_iff.2 rfl]
    rintro e wf ⟨rfl, hbf2⟩
    have hbfH := Lib.hid (hbeH.out.trans (hbf2.mono hbeH.out.size))
    clear hbf2
    go_wp2_with fail
    go_ret
    exact ⟨rfl, hbfH.out⟩
  · by_cases hle : l.length ≤ m.length
    · have hc0 : cmpR l (m.take l.length) ≠ 0 := fun q => hP ⟨hle, q⟩
      obtain ⟨r, hr⟩ : ∃ r, cmpR l (m.take l.length) = r := ⟨_, rfl⟩
      rw [hr] at hc0
      have hr0 : (r == 0) = false := by simpa using hc0
      have hrH := Lib.hid hr
      have hmin : min (l.length : Int) (m.length : Int) = (l.length : Int) := by omega
      have hmin2 : (if (l.length : Int) ≤ (m.length : Int) then (l.length : Int) else (m.length : Int)) = (l.length : Int) := by split <;> omega
      have hlcb : l.length ≤ cb := by omega
      clear hr
      go_wp2_with fail
      refine (rowCmp_any _ _ l (m.take l.length) _ (haH.out.below hb7H.out) ((hbH.out.below hb7H.out).front hle)).mono ?_
      rw [hrH.out]
      rintro e w8 ⟨rfl, hb8⟩
      have hx8 := Lib.hid (hx7.out.below hb8); have hy8 := Lib.hid (hy7.out.below hb8); have hz8 := Lib.hid (hz7.out.below hb8)
      have hb8H := Lib.hid (hb7H.out.trans (hb8.mono hb7H.out.size))
      clear hb8
      by_cases hxy : x.length ≤ y.length
      · have hd0 : compareBytes x (y.take x.length) ≠ 0 := fun q => hP (hPr.out.1 (pre_take.2 ⟨hxy, q⟩))
        obtain ⟨q, hq⟩ : ∃ q, compareBytes x (y.take x.length) = q := ⟨_, rfl⟩
        rw [hq] at hd0
        have hq0 : (q == 0) = false := by simpa using hd0
        have hqH := Lib.hid hq
        have hmin3 : min (x.length : Int) (y.length : Int) = (x.length : Int) := by omega
        have hmin4 : (if (x.length : Int) ≤ (y.length : Int) then (x.length : Int) else (y.length : Int)) = (x.length : Int) := by split <;> omega
        have hxcy : x.length ≤ cy := by omega
        clear hq
        go_wp2_with fail
        refine (bytes_any _ _ x (y.take x.length) _ hx8.out (hy8.out.front hxy)).mono ?_
        rw [hqH.out]
        rintro e w9 ⟨rfl, hb9⟩
        have hxf := Lib.hid (hx8.out.below hb9); have hyf := Lib.hid (hy8.out.below hb9); have hzf := Lib.hid (hz8.out.below hb9)
        have hbf := Lib.hid (hb8H.out.trans (hb9.mono hb8H.out.size))
        clear hb9
        have hou := Lib.hid (show OwnB w9.heap.size (.slice none 0 0) [] w9 w9 from OwnK.start (World.ownsRow_nil _ _ _ _) (Nat.le_refl _))
        have hxyz := Lib.hid (show z.length = x.length + y.length by rw [← hzH.out, List.length_append])
        go_upto_region 15 with (at_builtin; refine wpList_bytesK rfl _ _ rfl w9.heap.size _ [] w9 w9 _ x hou.out rfl hxf.out rfl (by have := hxl.out; simp; omega) ?_; intro va wa hqa; have hoa := Lib.hid (show OwnB w9.heap.size va x w9 wa from hqa); clear hqa)
        obtain ⟨AA, ac, rfl⟩ := hoa.out.form
        have hya := Lib.hid (hyf.out.below hoa.out.2.1)
        go_upto_region 16 with (at_builtin; refine wpList_bytesK rfl _ _ rfl w9.heap.size _ x w9 wa _ y hoa.out rfl hya.out rfl (by have := hxl.out; have := hyl.out; omega) ?_; intro vd wd hqd; have hod := Lib.hid (show OwnB w9.heap.size vd z w9 wd from hzH.out ▸ hqd); clear hqd)
        obtain ⟨AD, ad, rfl⟩ := hod.out.form
        have hzd := Lib.hid (hzf.out.below hod.out.2.1)
        have hbd := Lib.hid (hbf.out.trans (hod.out.2.1.mono hbf.out.size))
        have hall := Lib.hid (OwnU.byts hod.out.1)
        go_wp2_with fail
        refine (known_any _).mono ?_
        rintro e we ⟨rfl, hbe⟩
        have hze := Lib.hid (hzd.out.below hbe); have halle := Lib.hid (hall.out.below hbe)
        have hbeH := Lib.hid (hbd.out.trans (hbe.mono hbd.out.size))
        clear hbe
        go_wp2_with fail
        refine (bytes_any _ _ z z _ hze.out halle.out).mono ?_
        rw [show compareBytes z z = 0 from compare_iff.2 rfl]
        rintro e wf ⟨rfl, hbf2⟩
        have hbfH := Lib.hid (hbeH.out.trans (hbf2.mono hbeH.out.size))
        clear hbf2
        go_wp2_with fail
        go_ret
        exact ⟨rfl, hbfH.out⟩
      · have hxf := hx8; have hyf := hy8; have hzf := hz8; have hbf := hb8H
        have hou := Lib.hid (show OwnB w8.heap.size (.slice none 0 0) [] w8 w8 from OwnK.start (World.ownsRow_nil _ _ _ _) (Nat.le_refl _))
        have hxyz := Lib.hid (show z.length = x.length + y.length by rw [← hzH.out, List.length_append])
        go_upto_region 15 with (at_builtin; refine wpList_bytesK rfl _ _ rfl w8.heap.size _ [] w8 w8 _ x hou.out rfl hxf.out rfl (by have := hxl.out; simp; omega) ?_; intro va wa hqa; have hoa := Lib.hid (show OwnB w8.heap.size va x w8 wa from hqa); clear hqa)
        obtain ⟨AA, ac, rfl⟩ := hoa.out.form
        have hya := Lib.hid (hyf.out.below hoa.out.2.1)
        go_upto_region 16 with (at_builtin; refine wpList_bytesK rfl _ _ rfl w8.heap.size _ x w8 wa _ y hoa.out rfl hya.out rfl (by have := hxl.out; have := hyl.out; omega) ?_; intro vd wd hqd; have hod := Lib.hid (show OwnB w8.heap.size vd z w8 wd from hzH.out ▸ hqd); clear hqd)
        obtain ⟨AD, ad, rfl⟩ := hod.out.form
        have hzd := Lib.hid (hzf.out.below hod.out.2.1)
        have hbd := Lib.hid (hbf.out.trans (hod.out.2.1.mono hbf.out.size))
        have hall := Lib.hid (OwnU.byts hod.out.1)
        go_wp2_with fail
        refine (known_any _).mono ?_
        rintro e we ⟨rfl, hbe⟩
        have hze := Lib.hid (hzd.out.below hbe); have halle := Lib.hid (hall.out.below hbe)
        have hbeH := Lib.hid (hbd.out.trans (hbe.mono hbd.out.size))
        clear hbe
        go_wp2_with fail
        refine (bytes_any _ _ z z _ hze.out halle.out).mono ?_
        rw [show compareBytes z z = 0 from compare_iff.2 rfl]
        rintro e wf ⟨rfl, hbf2⟩
        have hbfH := Lib.hid (hbeH.out.trans (hbf2.mono hbeH.out.size))
        clear hbf2
        go_wp2_with fail
        go_ret
        exact ⟨rfl, hbfH.out⟩
    · have hx8 := hx7; have hy8 := hy7; have hz8 := hz7; have hb8H := hb7H
      by_cases hxy : x.length ≤ y.length
      · have hd0 : compareBytes x (y.take x.length) ≠ 0 := fun q => hP (hPr.out.1 (pre_take.2 ⟨hxy, q⟩))
        obtain ⟨q, hq⟩ : ∃ q, compareBytes x (y.take x.length) = q := ⟨_, rfl⟩
        rw [hq] at hd0
        have hq0 : (q == 0) = false := by simpa using hd0
        have hqH := Lib.hid hq
        have hmin3 : min (x.length : Int) (y.length : Int) = (x.length : Int) := by omega
        have hmin4 : (if (x.length : Int) ≤ (y.length : Int) then (x.length : Int) else (y.length : Int)) = (x.length : Int) := by split <;> omega
        have hxcy : x.length ≤ cy := by omega
        clear hq
        go_wp2_with fail
        refine (bytes_any _ _ x (y.take x.length) _ hx8.out (hy8.out.front hxy)).mono ?_
        rw [hqH.out]
        rintro e w9 ⟨rfl, hb9⟩
        have hxf := Lib.hid (hx8.out.below hb9); have hyf := Lib.hid (hy8.out.below hb9); have hzf := Lib.hid (hz8.out.below hb9)
        have hbf := Lib.hid (hb8H.out.trans (hb9.mono hb8H.out.size))
        clear hb9
        have hou := Lib.hid (show OwnB w9.heap.size (.slice none 0 0) [] w9 w9 from OwnK.start (World.ownsRow_nil _ _ _ _) (Nat.le_refl _))
        have hxyz := Lib.hid (show z.length = x.length + y.length by rw [← hzH.out, List.length_append])
        go_upto_region 15 with (at_builtin; refine wpList_bytesK rfl _ _ rfl w9.heap.size _ [] w9 w9 _ x hou.out rfl hxf.out rfl (by have := hxl.out; simp; omega) ?_; intro va wa hqa; have hoa := Lib.hid (show OwnB w9.heap.size va x w9 wa from hqa); clear hqa)
        obtain ⟨AA, ac, rfl⟩ := hoa.out.form
        have hya := Lib.hid (hyf.out.below hoa.out.2.1)
        go_upto_region 16 with (at_builtin; refine wpList_bytesK rfl _ _ rfl w9.heap.size _ x w9 wa _ y hoa.out rfl hya.out rfl (by have := hxl.out; have := hyl.out; omega) ?_; intro vd wd hqd; have hod := Lib.hid (show OwnB w9.heap.size vd z w9 wd from hzH.out ▸ hqd); clear hqd)
        obtain ⟨AD, ad, rfl⟩ := hod.out.form
        have hzd := Lib.hid (hzf.out.below hod.out.2.1)
        have hbd := Lib.hid (hbf.out.trans (hod.out.2.1.mono hbf.out.size))
        have hall := Lib.hid (OwnU.byts hod.out.1)
        go_wp2_with fail
        refine (known_any _).mono ?_
        rintro e we ⟨rfl, hbe⟩
        have hze := Lib.hid (hzd.out.below hbe); have halle := Lib.hid (hall.out.below hbe)
        have hbeH := Lib.hid (hbd.out.trans (hbe.mono hbd.out.size))
        clear hbe
        go_wp2_with fail
        refine (bytes_any _ _ z z _ hze.out halle.out).mono ?_
        rw [show compareBytes z z = 0 from compare_iff.2 rfl]
        rintro e wf ⟨rfl, hbf2⟩
        have hbfH := Lib.hid (hbeH.out.trans (hbf2.mono hbeH.out.size))
        clear hbf2
        go_wp2_with fail
        go_ret
        exact ⟨rfl, hbfH.out⟩
      · have hxf := hx8; have hyf := hy8; have hzf := hz8; have hbf := hb8H
        have hou := Lib.hid (show OwnB w7.heap.size (.slice none 0 0) [] w7 w7 from OwnK.start (World.ownsRow_nil _ _ _ _) (Nat.le_refl _))
        have hxyz := Lib.hid (show z.length = x.length + y.length by rw [← hzH.out, List.length_append])
        go_upto_region 15 with (at_builtin; refine wpList_bytesK rfl _ _ rfl w7.heap.size _ [] w7 w7 _ x hou.out rfl hxf.out rfl (by have := hxl.out; simp; omega) ?_; intro va wa hqa; have hoa := Lib.hid (show OwnB w7.heap.size va x w7 wa from hqa); clear hqa)
        obtain ⟨AA, ac, rfl⟩ := hoa.out.form
        have hya := Lib.hid (hyf.out.below hoa.out.2.1)
        go_upto_region 16 with (at_builtin; refine wpList_bytesK rfl _ _ rfl w7.heap.size _ x w7 wa _ y hoa.out rfl hya.out rfl (by have := hxl.out; have := hyl.out; omega) ?_; intro vd wd hqd; have hod := Lib.hid (show OwnB w7.heap.size vd z w7 wd from hzH.out ▸ hqd); clear hqd)
        obtain ⟨AD, ad, rfl⟩ := hod.out.form
        have hzd := Lib.hid (hzf.out.below hod.out.2.1)
        have hbd := Lib.hid (hbf.out.trans (hod.out.2.1.mono hbf.out.size))
        have hall := Lib.hid (OwnU.byts hod.out.1)
        go_wp2_with fail
        refine (known_any _).mono ?_
        rintro e we ⟨rfl, hbe⟩
        have hze := Lib.hid (hzd.out.below hbe); have halle := Lib.hid (hall.out.below hbe)
        have hbeH := Lib.hid (hbd.out.trans (hbe.mono hbd.out.size))
        clear hbe
        go_wp2_with fail
        refine (bytes_any _ _ z z _ hze.out halle.out).mono ?_
        rw [show compareBytes z z = 0 from compare_iff.2 rfl]
        rintro e wf ⟨rfl, hbf2⟩
        have hbfH := Lib.hid (hbeH.out.trans (hbf2.mono hbeH.out.size))
        clear hbf2
        go_wp2_with fail
        go_ret
        exact ⟨rfl, hbfH.out⟩
end Go.Proofs.YtfkimemagbkcoaaDoor
