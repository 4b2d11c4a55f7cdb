/-
  What the document reads as a text of a row's bytes, at this program. No condition but those written.
  What the document reads as a datum at the beginning of a row's bytes, at this program. No condition but those written.
  What the document reads as a row, at this program: Decode. No condition but those written.
-/
import Derived.Test.YtfkimemagbkcoaaDoorRwRb
import Derived.Test.YtfkimemagbkcoaaDoorRwL5
import Derived.Test.YtfkimemagbkcoaaDoorRefCheck
set_option linter.unusedVariables false
set_option linter.unusedSimpArgs false
namespace Go.Proofs.YtfkimemagbkcoaaDoor
open Go.RowKit Go.Lib

theorem drop_at {L : List UInt8} {p : Nat} {b : UInt8} (h : L[p]? = some b) : L.drop p = b :: L.drop (p + 1) := by
  obtain ⟨hp, rfl⟩ := List.getElem?_eq_some_iff.1 h
  exact List.drop_eq_getElem_cons hp
/-- How far a text goes, as the document tells it: 0 where there is none. -/
def txtN (L : List UInt8) : Int := match textS L with
  | none => 0
  | some (_, r) => (L.length : Int) - r.length
def txtB (L : List UInt8) : ByteArray := match textS L with
  | none => ⟨#[]⟩
  | some (x, _) => ⟨x.toArray⟩
def RelRt (L : List UInt8) (w : World) (s4 s5 : Value) (wr : World) : Prop :=
  ∃ (p : Nat) (acc : List UInt8), p ≤ L.length ∧ s5 = .int .i64 (p : Int) ∧ acc.length ≤ p ∧ textS L = (textS (L.drop p)).map (fun x => (acc ++ x.1, x.2)) ∧ OwnB w.heap.size s4 acc w wr
theorem txt_none {L : List UInt8} (h : textS L = none) : txtN L = 0 ∧ txtB L = ⟨#[]⟩ := by unfold txtN txtB; rw [h]; exact ⟨rfl, rfl⟩
set_option maxHeartbeats 4000000 in
set_option maxRecDepth 100000 in
theorem refText_any (v : Value) (L : List UInt8) (w : World) (h : BytsV w v L) (hl : L.length ≤ 1099511627776) :
    Calls Tryd.prog 68 #[v] w fun e w' => e = .returned (.tuple #[.string (txtB L), .int .i64 (txtN L)]) ∧ Below w.heap.size w w' := by
  obtain ⟨A, c, rfl, _⟩ := h.form
  have hH := Lib.hid h
  clear h
  go_enter Tryd.func68, Tryd.ntmps68
  go_wp2_with fail
  go_loopw [4, 5] (fun s4 s5 wr => RelRt L w s4 s5 wr) (fun _ s5 _ => L.length - (Go.RowKit.intOf s5).toNat)
  case atStart => exact ⟨0, [], by omega, rfl, by simp, by rw [List.drop_zero]; cases textS L <;> simp, OwnK.start (World.ownsRow_nil _ _ _ _) (Nat.le_refl _)⟩
  case round =>
    unfold RelRt at hrel
    obtain ⟨p, acc, hp, rfl, hap, htx, hown⟩ := hrel
    obtain ⟨A0, c0, rfl⟩ := hown.form
    have hownH := Lib.hid hown; have htxH := Lib.hid htx
    clear hown htx
    by_cases hlt : p < L.length
    · obtain ⟨b, hb⟩ : ∃ b, L[p]? = some b := ⟨_, List.getElem?_eq_getElem hlt⟩
      obtain ⟨ad, rfl, hba, a0_⟩ := (hH.out.below hownH.out.2.1).at hb
      have hdr := Lib.hid (drop_at hb)
      clear hb
      by_cases hz : b = 0
      · subst hz
        by_cases h2 : p + 1 < L.length
        · obtain ⟨m, hm⟩ : ∃ m, L[p + 1]? = some m := ⟨_, List.getElem?_eq_getElem h2⟩
          obtain ⟨ad', hq, hba', b0_⟩ := (hH.out.below hownH.out.2.1).at hm
          cases hq
          have hdr2 := Lib.hid (drop_at hm)
          clear hm
          replace b0_ : wr.cell? ⟨ad.block, ad.off + (p + 1), none⟩ = some (.int .u8 m.toNat) := b0_
          have h2i : ¬ (L.length : Int) ≤ (p : Int) + 1 := by omega
          have h2H := Lib.hid h2
          clear h2
          by_cases m1 : m = 1
          · subst m1
            have hcv := conv_key hownH.out.1
            have hfin := Lib.hid (show textS L = some (acc, L.drop (p + 1 + 1)) by rw [htxH.out, hdr.out, hdr2.out, textS_end]; simp)
            go_wp2_with fail
            refine bodyPost_ret (v := .tuple #[.string ⟨acc.toArray⟩, .int .i64 ((p : Int) + 2)]) (by simp [results, Tryd.results68, go_sem]) rfl ?_
            refine ⟨?_, hownH.out.2.1⟩
            unfold txtB txtN
            rw [hfin.out]
            simp only [List.length_drop]
            have := h2H.out
            rw [show (L.length : Int) - ((L.length - (p + 1 + 1) : Nat) : Int) = (p : Int) + 2 by omega]
          · have n1 : ((m.toNat : Int) == 1) = false := u8_ne m1
            by_cases m2 : m = 255
            · subst m2
              have htx2 := Lib.hid (textS_on htxH.out (by rw [hdr.out, hdr2.out]; exact textS_zero (L.drop (p + 1 + 1))))
              clear m1
              go_wp2_with (at_builtin; refine wpList_bytes rfl _ _ rfl w.heap.size _ _ w _ 1 [0] _ (by rfl) hownH.out rfl rfl rfl (by omega) ?_; intro v' w' hq; have hown2 := Lib.hid hq; clear hq)
              have := h2H.out
              exact ⟨⟨p + 1 + 1, acc ++ [0], by omega, by go_num, by rw [List.length_append, List.length_singleton]; omega, htx2.out, hown2.out⟩, by simp [Go.RowKit.intOf]; omega⟩
            · have n2 : ((m.toNat : Int) != 255) = true := by rw [bne, show ((m.toNat : Int) == 255) = false from u8_ne m2]; rfl
              have hno := Lib.hid (txt_none (show textS L = none by rw [htxH.out, hdr.out, hdr2.out, textS_bad _ m1 m2]; rfl))
              clear m1 m2
              go_wp2_with fail
              refine bodyPost_ret (v := .tuple #[.string ⟨#[]⟩, .int .i64 0]) (by simp [results, Tryd.results68, go_sem]) rfl ?_
              exact ⟨by rw [hno.out.1, hno.out.2], hownH.out.2.1⟩
        · have hno := Lib.hid (txt_none (show textS L = none by rw [htxH.out, hdr.out, List.drop_eq_nil_iff.2 (by omega)]; rfl))
          have h2i : (L.length : Int) ≤ (p : Int) + 1 := by omega
          clear h2
          go_wp2_with fail
          refine bodyPost_ret (v := .tuple #[.string ⟨#[]⟩, .int .i64 0]) (by simp [results, Tryd.results68, go_sem]) rfl ?_
          exact ⟨by rw [hno.out.1, hno.out.2], hownH.out.2.1⟩
      · have hne : ((b.toNat : Int) != 0) = true := by rw [bne, show ((b.toNat : Int) == 0) = false from u8_ne hz]; rfl
        have hcs : Hid ((#[Value.int .u8 (b.toNat : Int)] : Array Value) = (Lib.byteCells [b]).toArray) := by exact (show _ = _ by simp [Lib.byteCells])
        have htx2 := Lib.hid (textS_on htxH.out (by rw [hdr.out]; exact textS_other (L := L.drop (p + 1)) hz))
        clear hz
        go_wp2_with (at_builtin; refine wpList_bytes rfl _ _ rfl w.heap.size _ _ w _ 1 [b] _ hcs.out hownH.out rfl rfl rfl (by omega) ?_; intro v' w' hq; have hown2 := Lib.hid hq; clear hq)
        exact ⟨⟨p + 1, acc ++ [b], by omega, by go_num, by rw [List.length_append, List.length_singleton]; omega, htx2.out, hown2.out⟩, by simp [Go.RowKit.intOf]; omega⟩
    · obtain rfl : p = L.length := by omega
      have hno := Lib.hid (txt_none (show textS L = none by rw [htxH.out, List.drop_length]; rfl))
      go_wp2_with fail
      refine bodyPost_ret (v := .tuple #[.string ⟨#[]⟩, .int .i64 0]) (by simp [results, Tryd.results68, go_sem]) rfl ?_
      exact ⟨by rw [hno.out.1, hno.out.2], hownH.out.2.1⟩
open Go.RowKit Go.Lib

theorem ref01Null_any (w : World) : Calls Tryd.prog 66 #[] w fun e w' => e = .returned (valDat ⟨1, false, 0, ⟨#[]⟩⟩) ∧ Below w.heap.size w w' := by
  go_enter Tryd.func66, Tryd.ntmps66
  go_wp2
  refine bodyPost_ret (v := valDat ⟨1, false, 0, ⟨#[]⟩⟩) (by simp [results, Tryd.results66, go_sem, valDat]) rfl ?_
  exact ⟨rfl, by go_grown⟩
theorem ref01Bool_any (b : Bool) (w : World) : Calls Tryd.prog 67 #[.bool b] w fun e w' => e = .returned (valDat ⟨2, b, 0, ⟨#[]⟩⟩) ∧ Below w.heap.size w w' := by
  go_enter Tryd.func67, Tryd.ntmps67
  go_wp2
  refine bodyPost_ret (v := valDat ⟨2, b, 0, ⟨#[]⟩⟩) (by simp [results, Tryd.results67, go_sem, valDat]) rfl ?_
  exact ⟨rfl, by go_grown⟩
theorem ref01Int_any (n : Int) (w : World) : Calls Tryd.prog 36 #[.int .i64 n] w fun e w' => e = .returned (valDat ⟨3, false, n, ⟨#[]⟩⟩) ∧ Below w.heap.size w w' := by
  go_enter Tryd.func36, Tryd.ntmps36
  go_wp2
  refine bodyPost_ret (v := valDat ⟨3, false, n, ⟨#[]⟩⟩) (by simp [results, Tryd.results36, go_sem, valDat]) rfl ?_
  exact ⟨rfl, by go_grown⟩
theorem ref01Text_any (s : ByteArray) (w : World) : Calls Tryd.prog 69 #[.string s] w fun e w' => e = .returned (valDat ⟨4, false, 0, s⟩) ∧ Below w.heap.size w w' := by
  go_enter Tryd.func69, Tryd.ntmps69
  go_wp2
  refine bodyPost_ret (v := valDat ⟨4, false, 0, s⟩) (by simp [results, Tryd.results69, go_sem, valDat]) rfl ?_
  exact ⟨rfl, by go_grown⟩
/-- A datum at the beginning, and how many bytes it has; 0: none. -/
def oneD (b : UInt8) (L : List UInt8) : Dat := match rawS b L with
  | none => ⟨0, false, 0, ⟨#[]⟩⟩
  | some (d, _) => d
def oneN (b : UInt8) (L : List UInt8) : Int := match rawS b L with
  | none => 0
  | some (_, r) => (L.length : Int) + 1 - r.length
theorem one_none {b : UInt8} {L : List UInt8} (h : rawS b L = none) : oneD b L = ⟨0, false, 0, ⟨#[]⟩⟩ ∧ oneN b L = 0 := by unfold oneD oneN; rw [h]; exact ⟨rfl, rfl⟩
theorem one_some {b : UInt8} {L r : List UInt8} {d : Dat} (h : rawS b L = some (d, r)) : oneD b L = d ∧ oneN b L = (L.length : Int) + 1 - r.length := by unfold oneD oneN; rw [h]; exact ⟨rfl, rfl⟩
def RelOn (L : List UInt8) (w : World) (s4 s5 : Value) (wr : World) : Prop := ∃ p : Nat, p ≤ 8 ∧ s4 = .int .u64 (beV (L.take p) : Int) ∧ s5 = .int .i64 ((p : Int) + 1) ∧ Below w.heap.size w wr ∧ HasV wr w.heap.size zD 79
theorem add_byte {n : Nat} {b : UInt8} (h : n * 256 + b.toNat ≤ 18446744073709551615) :
    IntKind.u64.wrap (IntKind.u64.wrap (256 * (n : Int)) + IntKind.u64.wrap (b.toNat : Int)) = ((n * 256 + b.toNat : Nat) : Int) := by
  rw [IntKind.wrap_u64, IntKind.wrap_u64, IntKind.wrap_u64]
  omega
set_option maxHeartbeats 8000000 in
set_option maxRecDepth 100000 in
theorem refOne_any (v : Value) (b : UInt8) (L : List UInt8) (w : World) (h : BytsV w v (b :: L)) (hl : L.length ≤ 1099511627775) :
    Calls Tryd.prog 34 #[v] w fun e w' => e = .returned (.tuple #[valDat (oneD b L), .int .i64 (oneN b L)]) ∧ Below w.heap.size w w' := by
  obtain ⟨A, c, rfl, _⟩ := h.form
  obtain ⟨w2, hw2⟩ : ∃ w2, w.alloc (.cells #[.int .u8 0, .bool false, .int .i64 0, .string ⟨#[]⟩] 79) = w2 := ⟨_, rfl⟩
  have hb2 := Lib.hid (show Below w.heap.size w w2 from hw2 ▸ (by go_grown))
  have hH := Lib.hid (h.below hb2.out)
  have hR := Lib.hid (show HasV w2 w.heap.size zD 79 from hw2 ▸ HasV.new w zD 79)
  have c0_ := hR.out.cell 0 rfl; have c1_ := hR.out.cell 1 rfl; have c2_ := hR.out.cell 2 rfl; have c3_ := hR.out.cell 3 rfl
  have f0_ := hR.out.free 0; have f1_ := hR.out.free 1; have f2_ := hR.out.free 2; have f3_ := hR.out.free 3
  obtain ⟨ad, rfl, hba, a0_⟩ := hH.out.at (i := 0) rfl
  rw [add_zero] at hba a0_
  have hH0 := Lib.hid h
  clear h
  go_enter Tryd.func34, Tryd.ntmps34
  by_cases b16 : b = 16
  · subst b16
    go_wp2_with fail
    refine (ref01Null_any _).mono ?_
    rintro e w3 ⟨rfl, hb3⟩
    have hR3 := Lib.hid (hR.out.below hb3 hR.out.lt)
    have hbb := Lib.hid (hb2.out.trans (hb3.mono hb2.out.size))
    clear hb3 c0_ c1_ c2_ c3_ f0_ f1_ f2_ f3_
    have c0_ := hR3.out.cell 0 rfl; have c1_ := hR3.out.cell 1 rfl; have c2_ := hR3.out.cell 2 rfl; have c3_ := hR3.out.cell 3 rfl
    have f0_ := hR3.out.free 0; have f1_ := hR3.out.free 1; have f2_ := hR3.out.free 2; have f3_ := hR3.out.free 3
    have hone := Lib.hid (one_some (show rawS 16 L = some (⟨1, false, 0, ⟨#[]⟩⟩, L) from rfl))
    simp only [valDat]
    go_wp2_with fail
    refine bodyPost_ret (v := .tuple #[valDat ⟨1, false, 0, ⟨#[]⟩⟩, .int .i64 (1)]) (by simp [results, Tryd.results34, go_sem, valDat, *]) rfl ?_
    exact ⟨by rw [hone.out.1, hone.out.2]; rw [show (L.length : Int) + 1 - (L.length : Int) = 1 by omega], ((((hbb.out.setCell (p := ⟨w.heap.size, 0, none⟩) (Nat.le_refl _) _).setCell (p := ⟨w.heap.size, 1, none⟩) (Nat.le_refl _) _).setCell (p := ⟨w.heap.size, 2, none⟩) (Nat.le_refl _) _).setCell (p := ⟨w.heap.size, 3, none⟩) (Nat.le_refl _) _)⟩
  have n16 : ((b.toNat : Int) == 16) = false := u8_ne b16
  by_cases b32 : b = 32
  · subst b32
    go_wp2_with fail
    refine (ref01Bool_any false _).mono ?_
    rintro e w3 ⟨rfl, hb3⟩
    have hR3 := Lib.hid (hR.out.below hb3 hR.out.lt)
    have hbb := Lib.hid (hb2.out.trans (hb3.mono hb2.out.size))
    clear hb3 c0_ c1_ c2_ c3_ f0_ f1_ f2_ f3_
    have c0_ := hR3.out.cell 0 rfl; have c1_ := hR3.out.cell 1 rfl; have c2_ := hR3.out.cell 2 rfl; have c3_ := hR3.out.cell 3 rfl
    have f0_ := hR3.out.free 0; have f1_ := hR3.out.free 1; have f2_ := hR3.out.free 2; have f3_ := hR3.out.free 3
    have hone := Lib.hid (one_some (show rawS 32 L = some (⟨2, false, 0, ⟨#[]⟩⟩, L) from rfl))
    simp only [valDat]
    go_wp2_with fail
    refine bodyPost_ret (v := .tuple #[valDat ⟨2, false, 0, ⟨#[]⟩⟩, .int .i64 (1)]) (by simp [results, Tryd.results34, go_sem, valDat, *]) rfl ?_
    exact ⟨by rw [hone.out.1, hone.out.2]; rw [show (L.length : Int) + 1 - (L.length : Int) = 1 by omega], ((((hbb.out.setCell (p := ⟨w.heap.size, 0, none⟩) (Nat.le_refl _) _).setCell (p := ⟨w.heap.size, 1, none⟩) (Nat.le_refl _) _).setCell (p := ⟨w.heap.size, 2, none⟩) (Nat.le_refl _) _).setCell (p := ⟨w.heap.size, 3, none⟩) (Nat.le_refl _) _)⟩
  have n32 : ((b.toNat : Int) == 32) = false := u8_ne b32
  by_cases b33 : b = 33
  · subst b33
    go_wp2_with fail
    refine (ref01Bool_any true _).mono ?_
    rintro e w3 ⟨rfl, hb3⟩
    have hR3 := Lib.hid (hR.out.below hb3 hR.out.lt)
    have hbb := Lib.hid (hb2.out.trans (hb3.mono hb2.out.size))
    clear hb3 c0_ c1_ c2_ c3_ f0_ f1_ f2_ f3_
    have c0_ := hR3.out.cell 0 rfl; have c1_ := hR3.out.cell 1 rfl; have c2_ := hR3.out.cell 2 rfl; have c3_ := hR3.out.cell 3 rfl
    have f0_ := hR3.out.free 0; have f1_ := hR3.out.free 1; have f2_ := hR3.out.free 2; have f3_ := hR3.out.free 3
    have hone := Lib.hid (one_some (show rawS 33 L = some (⟨2, true, 0, ⟨#[]⟩⟩, L) from rfl))
    simp only [valDat]
    go_wp2_with fail
    refine bodyPost_ret (v := .tuple #[valDat ⟨2, true, 0, ⟨#[]⟩⟩, .int .i64 (1)]) (by simp [results, Tryd.results34, go_sem, valDat, *]) rfl ?_
    exact ⟨by rw [hone.out.1, hone.out.2]; rw [show (L.length : Int) + 1 - (L.length : Int) = 1 by omega], ((((hbb.out.setCell (p := ⟨w.heap.size, 0, none⟩) (Nat.le_refl _) _).setCell (p := ⟨w.heap.size, 1, none⟩) (Nat.le_refl _) _).setCell (p := ⟨w.heap.size, 2, none⟩) (Nat.le_refl _) _).setCell (p := ⟨w.heap.size, 3, none⟩) (Nat.le_refl _) _)⟩
  have n33 : ((b.toNat : Int) == 33) = false := u8_ne b33
  by_cases b48 : b = 48
  · subst b48
    by_cases h8 : L.length < 8
    · have hno := Lib.hid (one_none (show rawS 48 L = none by rw [show rawS 48 L = (intS L).map _ from rfl, intS_short h8]; rfl))
      have h8i : (L.length : Int) + 1 < 9 := by omega
      clear h8
      go_wp2_with fail
      refine bodyPost_ret (v := .tuple #[valDat ⟨0, false, 0, ⟨#[]⟩⟩, .int .i64 0]) (by simp [results, Tryd.results34, go_sem, valDat, *]) rfl ?_
      exact ⟨by rw [hno.out.1, hno.out.2], ((((hb2.out.setCell (p := ⟨w.heap.size, 0, none⟩) (Nat.le_refl _) _).setCell (p := ⟨w.heap.size, 1, none⟩) (Nat.le_refl _) _).setCell (p := ⟨w.heap.size, 2, none⟩) (Nat.le_refl _) _).setCell (p := ⟨w.heap.size, 3, none⟩) (Nat.le_refl _) _)⟩
    · have h8i : ¬ (L.length : Int) + 1 < 9 := by omega
      have h8H := Lib.hid (show 8 ≤ L.length by omega)
      clear h8
      go_wp2_with fail
      go_loopw [4, 5] (fun s4 s5 wr => RelOn L w s4 s5 wr) (fun _ s5 _ => 9 - (Go.RowKit.intOf s5).toNat)
      case atStart => exact ⟨0, by omega, rfl, rfl, hb2.out, hR.out⟩
      case round =>
        unfold RelOn at hrel
        obtain ⟨p, hp, rfl, rfl, hbr, hRr⟩ := hrel
        have hbrH := Lib.hid hbr; have hRrH := Lib.hid hRr
        have hBy := Lib.hid (hH0.out.below hbr)
        clear hbr hRr c0_ c1_ c2_ c3_ f0_ f1_ f2_ f3_ a0_
        by_cases hlt : p < 8
        · obtain ⟨x, hx⟩ : ∃ x, L[p]? = some x := ⟨_, List.getElem?_eq_getElem (by have := h8H.out; omega)⟩
          obtain ⟨ad', hq, hba', b0_⟩ := hBy.out.at (i := p + 1) (b := x) (by simpa using hx)
          cases hq
          replace b0_ : wr.cell? ⟨ad.block, ad.off + (p + 1), none⟩ = some (.int .u8 x.toNat) := b0_
          obtain ⟨h1, h2, _⟩ := beV_take (drop_at hx)
          have hbt := Lib.hid h1
          have hsm := Lib.hid (beV_small L (p := p + 1) (by omega))
          obtain ⟨n, hn⟩ : ∃ n, beV (L.take p) = n := ⟨_, rfl⟩
          rw [hn] at hbt
          rw [hn]
          clear hn hx h1
          go_wp2_with fail
          have h4 := hsm.out
          rw [hbt.out] at h4
          refine ⟨⟨p + 1, by omega, ?_, by go_num, hbrH.out, hRrH.out⟩, by simp [Go.RowKit.intOf]; omega⟩
          rw [hbt.out, add_byte h4]
        · obtain rfl : p = 8 := by omega
          have hraw := Lib.hid (show rawS 48 L = some (⟨3, false, (beV (L.take 8) : Int) - 9223372036854775808, ⟨#[]⟩⟩, L.drop 8) by
            rw [show rawS 48 L = (intS L).map _ from rfl, show intS L = _ from if_neg (by have := h8H.out; omega)]; rfl)
          have h2 := beV_small L (p := 8) (by omega)
          obtain ⟨n, hn⟩ : ∃ n, beV (L.take 8) = n := ⟨_, rfl⟩
          rw [hn] at h2 hraw
          rw [hn]
          clear hn
          have hcv : wrap64 (IntKind.u64.wrap ((n : Int) - 9223372036854775808)) = (n : Int) - 9223372036854775808 := by
            rw [IntKind.wrap_u64]
            unfold wrap64
            omega
          have hnn := Lib.hid (show (L.length : Int) + 1 - ((L.drop 8).length : Int) = 9 by rw [List.length_drop]; have := h8H.out; omega)
          have c0_ := hRrH.out.cell 0 rfl; have c1_ := hRrH.out.cell 1 rfl; have c2_ := hRrH.out.cell 2 rfl; have c3_ := hRrH.out.cell 3 rfl
          have f0_ := hRrH.out.free 0; have f1_ := hRrH.out.free 1; have f2_ := hRrH.out.free 2; have f3_ := hRrH.out.free 3
          go_wp2_with fail
          rw [hcv]
          refine (ref01Int_any _ _).mono ?_
          rintro e w3 ⟨rfl, hb3⟩
          have hR3 := Lib.hid (hRrH.out.below hb3 hRrH.out.lt)
          have hbb := Lib.hid (hbrH.out.trans (hb3.mono hbrH.out.size))
          clear hb3 c0_ c1_ c2_ c3_ f0_ f1_ f2_ f3_
          have c0_ := hR3.out.cell 0 rfl; have c1_ := hR3.out.cell 1 rfl; have c2_ := hR3.out.cell 2 rfl; have c3_ := hR3.out.cell 3 rfl
          have f0_ := hR3.out.free 0; have f1_ := hR3.out.free 1; have f2_ := hR3.out.free 2; have f3_ := hR3.out.free 3
          have hone := Lib.hid (one_some (show rawS 48 L = some (⟨3, false, (n : Int) - 9223372036854775808, ⟨#[]⟩⟩, L.drop 8) from hraw.out))
          simp only [valDat]
          go_wp2_with fail
          refine bodyPost_ret (v := .tuple #[valDat ⟨3, false, (n : Int) - 9223372036854775808, ⟨#[]⟩⟩, .int .i64 (9)]) (by simp [results, Tryd.results34, go_sem, valDat, *]) rfl ?_
          exact ⟨by rw [hone.out.1, hone.out.2]; rw [hnn.out], ((((hbb.out.setCell (p := ⟨w.heap.size, 0, none⟩) (Nat.le_refl _) _).setCell (p := ⟨w.heap.size, 1, none⟩) (Nat.le_refl _) _).setCell (p := ⟨w.heap.size, 2, none⟩) (Nat.le_refl _) _).setCell (p := ⟨w.heap.size, 3, none⟩) (Nat.le_refl _) _)⟩
  have n48 : ((b.toNat : Int) == 48) = false := u8_ne b48
  by_cases b64 : b = 64
  · subst b64
    have hc1 : (1 : Int) ≤ (L.length : Int) + 1 := by omega
    have htl := Lib.hid (BytsV.tail hH.out rfl)
    obtain ⟨A1, c1, hA1⟩ : ∃ A1 c1, (Value.slice (if c = 1 then some ad else some (ad.add 1)) L.length (c - 1)) = .slice A1 L.length c1 := ⟨_, _, rfl⟩
    obtain ⟨x, hx⟩ : ∃ x, textS L = x := ⟨_, rfl⟩
    have hxH := Lib.hid hx
    clear hx
    have hgo : ∀ (A1 : Option Addr) (c1 : Nat), BytsV w2 (.slice A1 L.length c1) L → Calls Tryd.prog 68 #[.slice A1 L.length c1] w2 fun e w' => e = .returned (.tuple #[.string (txtB L), .int .i64 (txtN L)]) ∧ Below w2.heap.size w2 w' := fun A1 c1 hb => refText_any _ L w2 hb (by omega)
    obtain ⟨n, hn⟩ : ∃ n, txtN L = n := ⟨_, rfl⟩
    obtain ⟨s, hs⟩ : ∃ s, txtB L = s := ⟨_, rfl⟩
    rw [hn, hs] at hgo
    have hnH := Lib.hid hn; have hsH := Lib.hid hs
    clear hn hs hA1
    by_cases c1 : c = 1
    · subst c1
      rw [if_pos rfl] at htl
      go_wp2_with fail
      refine (hgo _ _ htl.out).mono ?_
      rintro e w4 ⟨rfl, hb4⟩
      have hR4 := Lib.hid (hR.out.below hb4 hR.out.lt)
      have hbb4 := Lib.hid (hb2.out.trans (hb4.mono hb2.out.size))
      clear hb4 c0_ c1_ c2_ c3_ f0_ f1_ f2_ f3_
      have c0_ := hR4.out.cell 0 rfl; have c1_ := hR4.out.cell 1 rfl; have c2_ := hR4.out.cell 2 rfl; have c3_ := hR4.out.cell 3 rfl
      have f0_ := hR4.out.free 0; have f1_ := hR4.out.free 1; have f2_ := hR4.out.free 2; have f3_ := hR4.out.free 3
      cases x with
      | none =>
        have hno := Lib.hid (one_none (show rawS 64 L = none by rw [show rawS 64 L = (textS L).map _ from rfl, hxH.out]; rfl))
        obtain rfl : n = 0 := by
          rw [← hnH.out]
          exact (txt_none hxH.out).1
        go_wp2_with fail
        refine bodyPost_ret (v := .tuple #[valDat ⟨0, false, 0, ⟨#[]⟩⟩, .int .i64 0]) (by simp [results, Tryd.results34, go_sem, valDat, *]) rfl ?_
        exact ⟨by rw [hno.out.1, hno.out.2], ((((hbb4.out.setCell (p := ⟨w.heap.size, 0, none⟩) (Nat.le_refl _) _).setCell (p := ⟨w.heap.size, 1, none⟩) (Nat.le_refl _) _).setCell (p := ⟨w.heap.size, 2, none⟩) (Nat.le_refl _) _).setCell (p := ⟨w.heap.size, 3, none⟩) (Nat.le_refl _) _)⟩
      | some y =>
        obtain ⟨y, r⟩ := y
        have hlen := textS_len _ _ hxH.out
        have hnv : n = (L.length : Int) - r.length := by
          rw [← hnH.out]
          unfold txtN
          rw [hxH.out]
        have hraw := Lib.hid (show rawS 64 L = some (⟨4, false, 0, s⟩, r) by
          rw [show rawS 64 L = (textS L).map _ from rfl, hxH.out, ← hsH.out]
          unfold txtB
          rw [hxH.out]
          rfl)
        have hne : (n == 0) = false := by
          rw [beq_eq_false_iff_ne]
          simp only at hlen
          omega
        have hnn := Lib.hid (show (L.length : Int) + 1 - (r.length : Int) = n + 1 by omega)
        have hwr : wrap64 (n + 1) = n + 1 := by
          unfold wrap64
          simp only at hlen
          omega
        clear hlen hnv
        go_wp2_with fail
        refine (ref01Text_any _ _).mono ?_
        rintro e w3 ⟨rfl, hb3⟩
        have hR3 := Lib.hid (hR4.out.below hb3 hR4.out.lt)
        have hbb := Lib.hid (hbb4.out.trans (hb3.mono hbb4.out.size))
        clear hb3 c0_ c1_ c2_ c3_ f0_ f1_ f2_ f3_
        have c0_ := hR3.out.cell 0 rfl; have c1_ := hR3.out.cell 1 rfl; have c2_ := hR3.out.cell 2 rfl; have c3_ := hR3.out.cell 3 rfl
        have f0_ := hR3.out.free 0; have f1_ := hR3.out.free 1; have f2_ := hR3.out.free 2; have f3_ := hR3.out.free 3
        have hone := Lib.hid (one_some (show rawS 64 L = some (⟨4, false, 0, s⟩, r) from hraw.out))
        simp only [valDat]
        go_wp2_with fail
        refine bodyPost_ret (v := .tuple #[valDat ⟨4, false, 0, s⟩, .int .i64 (n + 1)]) (by simp [results, Tryd.results34, go_sem, valDat, *]) rfl ?_
        exact ⟨by rw [hone.out.1, hone.out.2]; rw [hnn.out], ((((hbb.out.setCell (p := ⟨w.heap.size, 0, none⟩) (Nat.le_refl _) _).setCell (p := ⟨w.heap.size, 1, none⟩) (Nat.le_refl _) _).setCell (p := ⟨w.heap.size, 2, none⟩) (Nat.le_refl _) _).setCell (p := ⟨w.heap.size, 3, none⟩) (Nat.le_refl _) _)⟩
    · rw [if_neg c1] at htl
      go_wp2_with fail
      refine (hgo _ _ htl.out).mono ?_
      rintro e w4 ⟨rfl, hb4⟩
      have hR4 := Lib.hid (hR.out.below hb4 hR.out.lt)
      have hbb4 := Lib.hid (hb2.out.trans (hb4.mono hb2.out.size))
      clear hb4 c0_ c1_ c2_ c3_ f0_ f1_ f2_ f3_
      have c0_ := hR4.out.cell 0 rfl; have c1_ := hR4.out.cell 1 rfl; have c2_ := hR4.out.cell 2 rfl; have c3_ := hR4.out.cell 3 rfl
      have f0_ := hR4.out.free 0; have f1_ := hR4.out.free 1; have f2_ := hR4.out.free 2; have f3_ := hR4.out.free 3
      cases x with
      | none =>
        have hno := Lib.hid (one_none (show rawS 64 L = none by rw [show rawS 64 L = (textS L).map _ from rfl, hxH.out]; rfl))
        obtain rfl : n = 0 := by
          rw [← hnH.out]
          exact (txt_none hxH.out).1
        go_wp2_with fail
        refine bodyPost_ret (v := .tuple #[valDat ⟨0, false, 0, ⟨#[]⟩⟩, .int .i64 0]) (by simp [results, Tryd.results34, go_sem, valDat, *]) rfl ?_
        exact ⟨by rw [hno.out.1, hno.out.2], ((((hbb4.out.setCell (p := ⟨w.heap.size, 0, none⟩) (Nat.le_refl _) _).setCell (p := ⟨w.heap.size, 1, none⟩) (Nat.le_refl _) _).setCell (p := ⟨w.heap.size, 2, none⟩) (Nat.le_refl _) _).setCell (p := ⟨w.heap.size, 3, none⟩) (Nat.le_refl _) _)⟩
      | some y =>
        obtain ⟨y, r⟩ := y
        have hlen := textS_len _ _ hxH.out
        have hnv : n = (L.length : Int) - r.length := by
          rw [← hnH.out]
          unfold txtN
          rw [hxH.out]
        have hraw := Lib.hid (show rawS 64 L = some (⟨4, false, 0, s⟩, r) by
          rw [show rawS 64 L = (textS L).map _ from rfl, hxH.out, ← hsH.out]
          unfold txtB
          rw [hxH.out]
          rfl)
        have hne : (n == 0) = false := by
          rw [beq_eq_false_iff_ne]
          simp only at hlen
          omega
        have hnn := Lib.hid (show (L.length : Int) + 1 - (r.length : Int) = n + 1 by omega)
        have hwr : wrap64 (n + 1) = n + 1 := by
          unfold wrap64
          simp only at hlen
          omega
        clear hlen hnv
        go_wp2_with fail
        refine (ref01Text_any _ _).mono ?_
        rintro e w3 ⟨rfl, hb3⟩
        have hR3 := Lib.hid (hR4.out.below hb3 hR4.out.lt)
        have hbb := Lib.hid (hbb4.out.trans (hb3.mono hbb4.out.size))
        clear hb3 c0_ c1_ c2_ c3_ f0_ f1_ f2_ f3_
        have c0_ := hR3.out.cell 0 rfl; have c1_ := hR3.out.cell 1 rfl; have c2_ := hR3.out.cell 2 rfl; have c3_ := hR3.out.cell 3 rfl
        have f0_ := hR3.out.free 0; have f1_ := hR3.out.free 1; have f2_ := hR3.out.free 2; have f3_ := hR3.out.free 3
        have hone := Lib.hid (one_some (show rawS 64 L = some (⟨4, false, 0, s⟩, r) from hraw.out))
        simp only [valDat]
        go_wp2_with fail
        refine bodyPost_ret (v := .tuple #[valDat ⟨4, false, 0, s⟩, .int .i64 (n + 1)]) (by simp [results, Tryd.results34, go_sem, valDat, *]) rfl ?_
        exact ⟨by rw [hone.out.1, hone.out.2]; rw [hnn.out], ((((hbb.out.setCell (p := ⟨w.heap.size, 0, none⟩) (Nat.le_refl _) _).setCell (p := ⟨w.heap.size, 1, none⟩) (Nat.le_refl _) _).setCell (p := ⟨w.heap.size, 2, none⟩) (Nat.le_refl _) _).setCell (p := ⟨w.heap.size, 3, none⟩) (Nat.le_refl _) _)⟩
  have n64 : ((b.toNat : Int) == 64) = false := u8_ne b64
  have hno := Lib.hid (one_none (show rawS b L = none by unfold rawS; rw [if_neg b16, if_neg b32, if_neg b33, if_neg b48, if_neg b64]))
  clear b16 b32 b33 b48 b64
  go_wp2_with fail
  refine bodyPost_ret (v := .tuple #[valDat ⟨0, false, 0, ⟨#[]⟩⟩, .int .i64 0]) (by simp [results, Tryd.results34, go_sem, valDat, *]) rfl ?_
  exact ⟨by rw [hno.out.1, hno.out.2], ((((hb2.out.setCell (p := ⟨w.heap.size, 0, none⟩) (Nat.le_refl _) _).setCell (p := ⟨w.heap.size, 1, none⟩) (Nat.le_refl _) _).setCell (p := ⟨w.heap.size, 2, none⟩) (Nat.le_refl _) _).setCell (p := ⟨w.heap.size, 3, none⟩) (Nat.le_refl _) _)⟩
open Go.RowKit Go.Lib

theorem BytsV.back_ {w : World} {ad : Addr} {n c m j : Nat} {L : List UInt8} (h : BytsV w (.slice (some ad) n c) L) (hm : m ≤ L.length) (hj : L.length - m = j) : BytsV w (.slice (if c = m then some ad else some (ad.add m)) j (c - m)) (L.drop m) := by
  subst hj
  obtain ⟨A', c', e, _⟩ := h.form
  obtain ⟨_, hn, _⟩ := Value.slice.inj e
  subst hn
  obtain ⟨h1, A1, c1, e1, h2, h3, h0, h4⟩ := h
  obtain ⟨rfl, _, rfl⟩ := Value.slice.inj e1
  refine ⟨by rw [Lib.byteCells_length, List.length_drop, Nat.mul_one], _, _, by rw [List.length_drop], by rw [List.length_drop]; omega, by omega, (fun q => by (split at q <;> cases q)), fun hp => ?_⟩
  rw [List.length_drop] at hp
  obtain ⟨ad', e', h5, h6⟩ := h4 (by omega)
  cases e'
  rw [if_neg (by omega)]
  refine ⟨_, rfl, by rw [add_block]; exact h5, fun j u hj => ?_⟩
  rw [add_twice]
  refine h6 (m + j) u ?_
  simpa [Lib.byteCells, List.getElem?_drop] using hj
theorem intS_suf {M r : List UInt8} {x : Int} (h : intS M = some (x, r)) : ∃ y, M = y ++ r := by
  unfold intS at h
  split at h
  · cases h
  · cases h; exact ⟨M.take 8, (List.take_append_drop 8 M).symm⟩
theorem textS_suf : ∀ (M : List UInt8) {x r : List UInt8}, textS M = some (x, r) → ∃ y, M = y ++ r
  | [], x, r, h => by simp [textS] at h
  | [_], x, r, h => by simp [textS] at h
  | b :: m :: s, x, r, h => by
    rw [textS] at h
    split at h
    · split at h
      · cases h; exact ⟨[b, m], rfl⟩
      · split at h
        · cases hr : textS s with
          | none => rw [hr] at h; cases h
          | some z =>
            obtain ⟨z1, z2⟩ := z
            rw [hr] at h; cases h
            obtain ⟨y, e⟩ := textS_suf s hr
            exact ⟨b :: m :: y, by rw [e]; simp⟩
        · cases h
    · cases hr : textS (m :: s) with
      | none => rw [hr] at h; cases h
      | some z =>
        obtain ⟨z1, z2⟩ := z
        rw [hr] at h; cases h
        obtain ⟨y, e⟩ := textS_suf (m :: s) hr
        exact ⟨b :: y, by rw [e]; simp⟩
theorem rawS_suf {b : UInt8} {M r : List UInt8} {d : Dat} (h : rawS b M = some (d, r)) : ∃ y, M = y ++ r := by
  unfold rawS at h
  split at h
  · cases h; exact ⟨[], rfl⟩
  split at h
  · cases h; exact ⟨[], rfl⟩
  split at h
  · cases h; exact ⟨[], rfl⟩
  split at h
  · cases hx : intS M with
    | none => rw [hx] at h; cases h
    | some x => obtain ⟨x1, x2⟩ := x; rw [hx] at h; cases h; exact intS_suf hx
  split at h
  · cases hx : textS M with
    | none => rw [hx] at h; cases h
    | some x => obtain ⟨x1, x2⟩ := x; rw [hx] at h; cases h; exact textS_suf M hx
  · cases h
theorem rawS_txt {b : UInt8} {M r : List UInt8} {d : Dat} (h : rawS b M = some (d, r)) : d.s.size ≤ M.length := by
  unfold rawS at h
  split at h
  · cases h; exact Nat.zero_le _
  split at h
  · cases h; exact Nat.zero_le _
  split at h
  · cases h; exact Nat.zero_le _
  split at h
  · cases hx : intS M with
    | none => rw [hx] at h; cases h
    | some x => rw [hx] at h; cases h; exact Nat.zero_le _
  split at h
  · cases hx : textS M with
    | none => rw [hx] at h; cases h
    | some x =>
      rw [hx] at h; cases h
      have := textS_len M x hx
      show x.1.toArray.size ≤ _
      rw [List.size_toArray]
      omega
  · cases h
/-- A datum, just laid, as a row. -/
theorem one_datum (w : World) (k : Int) (b : Bool) (n : Int) (s : ByteArray) : RowV (w.alloc (.cells #[.int .u8 k, .bool b, .int .i64 n, .string s] 79)) (.slice (some ⟨w.heap.size, 0, none⟩) 1 1) [⟨k, b, n, s⟩] := by
  have h : OwnL 79 4 w.heap.size 1 ([(⟨k, b, n, s⟩ : Dat)].map cellsD) (w.alloc (.cells #[.int .u8 k, .bool b, .int .i64 n, .string s] 79)) :=
    ⟨fun y hy => by obtain ⟨x, _, rfl⟩ := List.mem_map.1 hy; rfl, by simp, by decide, _, heap_alloc_new w _, rfl, rfl⟩
  exact h.rowV
def RelDe (L : List UInt8) (w : World) (s4 s5 : Value) (wr : World) : Prop :=
  ∃ (p : Nat) (l : List Dat), p ≤ L.length ∧ s5 = .int .i64 (p : Int) ∧ l.length ≤ 32 ∧ decS L = (rowS (32 - l.length) (L.drop p)).map (l ++ ·) ∧ OwnKR w.heap.size s4 l w wr
set_option maxHeartbeats 8000000 in
set_option maxRecDepth 100000 in
theorem refDecode_any (v : Value) (L : List UInt8) (w : World) (h : BytsV w v L) (hl : L.length ≤ 1099511627775) :
    Calls Tryd.prog 10 #[v] w fun e w' => ∃ v', e = .returned (.tuple #[v', .int .i64 (errOf L)]) ∧ Below w.heap.size w w' ∧ w'.ownsRow w.heap.size 79 4 v' (rowOf L).length ((rowOf L).flatMap cellsD) := by
  obtain ⟨A, c, rfl, _⟩ := h.form
  have hH := Lib.hid h
  clear h
  have hbad : ∀ w', decS L = none → Below w.heap.size w w' → ∃ v', Ending.returned (.tuple #[.slice none 0 0, .int .i64 20]) = .returned (.tuple #[v', .int .i64 (errOf L)]) ∧ Below w.heap.size w w' ∧ w'.ownsRow w.heap.size 79 4 v' (rowOf L).length ((rowOf L).flatMap cellsD) := by
    intro w' hno hb
    have he : errOf L = 20 := by simp [errOf, hno]
    have hr : rowOf L = [] := by simp [rowOf, hno]
    exact ⟨_, by rw [he], hb, by rw [hr]; exact World.ownsRow_nil _ _ _ _⟩
  have hbadH := Lib.hid hbad
  clear hbad
  go_enter Tryd.func10, Tryd.ntmps10
  go_wp2_with fail
  go_loopw [4, 5] (fun s4 s5 wr => RelDe L w s4 s5 wr) (fun _ s5 _ => L.length - (Go.RowKit.intOf s5).toNat)
  case atStart => exact ⟨0, [], by omega, rfl, by simp, by rw [List.drop_zero, show (32 - ([] : List Dat).length) = 32 from rfl]; unfold decS; cases rowS 32 L <;> rfl, OwnK.start (World.ownsRow_nil _ _ _ _) (Nat.le_refl _)⟩
  case round =>
    unfold RelDe at hrel
    obtain ⟨p, l, hp, rfl, h32, hdec, hown⟩ := hrel
    obtain ⟨A0, c0, rfl⟩ := hown.form
    have hownH := Lib.hid hown; have hdH := Lib.hid hdec
    clear hown hdec
    by_cases hlt : p < L.length
    · obtain ⟨b, hb⟩ : ∃ b, L[p]? = some b := ⟨_, List.getElem?_eq_getElem hlt⟩
      obtain ⟨ad, rfl, hba, a0_⟩ := (hH.out.below hownH.out.2.1).at hb
      have hdr := drop_at hb
      obtain ⟨M, hM⟩ : ∃ M, L.drop (p + 1) = M := ⟨_, rfl⟩
      have hbk := (hH.out.below hownH.out.2.1).back_ (m := p) (by omega) rfl
      have hcp : ¬ c = p := by have := hH.out.cap; omega
      rw [hdr, hM, if_neg hcp] at hbk
      have hbkH := Lib.hid hbk
      have hdrH := Lib.hid hdr; have hMH := Lib.hid hM
      clear hb hdr hM hbk a0_
      obtain ⟨n, hn⟩ : ∃ n, oneN b M = n := ⟨_, rfl⟩
      obtain ⟨d, hd⟩ : ∃ d, oneD b M = d := ⟨_, rfl⟩
      have hone := refOne_any _ b M wr hbkH.out (by have := hdrH.out; have h1 := congrArg List.length this; rw [List.length_drop, List.length_cons, hMH.out] at h1; omega)
      rw [hn, hd] at hone
      have honeH := Lib.hid hone
      have hnH := Lib.hid hn; have hdH2 := Lib.hid hd
      clear hone hn hd
      obtain ⟨k, bb, m, s⟩ := d
      go_wp2_with fail
      refine honeH.out.mono ?_
      rintro e w2 ⟨rfl, hb2⟩
      have hown2 := Lib.hid (OwnK.below hownH.out hb2)
      clear hb2
      simp only [valDat]
      cases hraw : rawS b M with
      | none =>
        have hno := Lib.hid (rowS_bad hdH.out (by rw [hdrH.out]; simp) (.inr (by rw [hdrH.out, hMH.out]; exact datS_none hraw)))
        obtain rfl : n = 0 := by rw [← hnH.out]; exact (one_none hraw).2
        clear hraw
        go_wp2_with fail
        exact bodyPost_ret (v := .tuple #[.slice none 0 0, .int .i64 20]) (by simp [results, Tryd.results10, go_sem]) rfl (hbadH.out _ hno.out (hown2.out.2.1.alloc hown2.out.2.2.1 _))
      | some x =>
        obtain ⟨d', r⟩ := x
        obtain rfl : d' = ⟨k, bb, m, s⟩ := by rw [← hdH2.out]; exact (one_some hraw).1.symm
        obtain ⟨y, hy⟩ := rawS_suf hraw
        have hnv : n = (y.length : Int) + 1 := by
          rw [← hnH.out, (one_some hraw).2]
          have := congrArg List.length hy
          rw [List.length_append] at this
          omega
        have hne : (n == 0) = false := by rw [beq_eq_false_iff_ne]; omega
        have htxt := Lib.hid (show s.size ≤ 140737488355328 by
          have h1 := rawS_txt hraw
          simp only at h1
          have h2 := congrArg List.length hdrH.out
          rw [List.length_drop, List.length_cons, hMH.out] at h2
          omega)
        have hdat := Lib.hid (show datS (L.drop p) = if chk ⟨k, bb, m, s⟩ = 0 then some (⟨k, bb, m, s⟩, r) else none by rw [hdrH.out, hMH.out]; exact datS_raw hraw)
        have hnvH := Lib.hid hnv; have hyH := Lib.hid hy
        clear hnv hy hraw
        obtain ⟨q, hq⟩ : ∃ q, chk ⟨k, bb, m, s⟩ = q := ⟨_, rfl⟩
        have hqH := Lib.hid hq
        clear hq
        go_wp2_with fail
        refine (refCheck_any k bb m s _ htxt.out).mono ?_
        rw [hqH.out]
        rintro e w3 ⟨rfl, hb3⟩
        have hown3 := Lib.hid (OwnK.below (OwnK.alloc hown2.out _) hb3)
        have hV := Lib.hid ((HasV.new w2 [.int .u8 k, .bool bb, .int .i64 m, .string s] 79).below hb3 (by simp))
        clear hb3
        by_cases hz : q = 0
        · have hdat2 := Lib.hid (hdat.out.trans (by rw [hqH.out, if_pos hz]))
          subst hz
          by_cases h31 : l.length = 32
          · have hno := Lib.hid (rowS_bad hdH.out (by rw [hdrH.out]; simp) (.inl h31))
            have h31i : ((l.length : Int) == 32) = true := by rw [h31]; rfl
            clear h31
            go_wp2_with fail
            exact bodyPost_ret (v := .tuple #[.slice none 0 0, .int .i64 20]) (by simp [results, Tryd.results10, go_sem]) rfl (hbadH.out _ hno.out hown3.out.2.1)
          · have h31i : ((l.length : Int) == 32) = false := by rw [beq_eq_false_iff_ne]; omega
            have hstep := Lib.hid (rowS_step hdH.out (by omega) hdat2.out)
            have h31H := Lib.hid (show l.length < 32 by omega)
            have hpn := Lib.hid (show p + (y.length + 1) ≤ L.length ∧ L.drop (p + (y.length + 1)) = r by
              have h1 : L.drop p = b :: (y ++ r) := by rw [hdrH.out, hMH.out, hyH.out]
              have h2 := congrArg List.length h1
              simp only [List.length_drop, List.length_cons, List.length_append] at h2
              refine ⟨by omega, ?_⟩
              rw [← List.drop_drop, h1, List.drop_succ_cons, List.drop_left])
            have hwr : wrap64 ((p : Int) + n) = (p : Int) + n := by
              have h1 := hpn.out.1
              have h2 := hnvH.out
              unfold wrap64
              omega
            have v0_ := hV.out.cell 0 rfl; have v1_ := hV.out.cell 1 rfl; have v2_ := hV.out.cell 2 rfl; have v3_ := hV.out.cell 3 rfl
            clear h31
            go_wp2_with (at_builtin; refine wpList_rowK rfl _ _ 25 Tryd.underlying25 rfl w.heap.size _ l w _ _ [⟨k, bb, m, s⟩] (OwnK.alloc hown3.out _) rfl (one_datum w3 k bb m s) rfl (by have := h31H.out; simp; omega) ?_; intro v4 w4 hq4; have hown4 := Lib.hid hq4; clear hq4)
            have h1 := hpn.out.1
            have h2 := hnvH.out
            have h3 : Value.int .i64 (wrap64 ((p : Int) + n)) = .int .i64 ((p + (y.length + 1) : Nat) : Int) := by rw [hwr, h2]; congr 1
            rw [h3]
            exact ⟨⟨p + (y.length + 1), _, h1, rfl, by rw [List.length_append, List.length_singleton]; exact h31H.out, by rw [hpn.out.2]; exact hstep.out, hown4.out⟩, by simp [Go.RowKit.intOf]; omega⟩
        · have hno := Lib.hid (rowS_bad hdH.out (by rw [hdrH.out]; simp) (.inr (by rw [hdat.out, hqH.out, if_neg hz])))
          have hqn : (q != 0) = true := by simpa using hz
          clear hz
          go_wp2_with fail
          exact bodyPost_ret (v := .tuple #[.slice none 0 0, .int .i64 20]) (by simp [results, Tryd.results10, go_sem]) rfl (hbadH.out _ hno.out hown3.out.2.1)
    · obtain rfl : p = L.length := by omega
      have hfin : decS L = some l := by
        rw [hdH.out, List.drop_length]
        cases 32 - l.length <;> simp [rowS]
      have he := Lib.hid (show errOf L = 0 by simp [errOf, hfin])
      have hr := Lib.hid (show rowOf L = l by simp [rowOf, hfin])
      clear hfin
      go_wp2_with fail
      refine bodyPost_ret (v := .tuple #[.slice A0 l.length c0, .int .i64 0]) (by simp [results, Tryd.results10, go_sem]) rfl ?_
      exact ⟨_, by rw [he.out], hownH.out.2.1, by rw [hr.out]; exact hownH.out.1⟩
end Go.Proofs.YtfkimemagbkcoaaDoor
