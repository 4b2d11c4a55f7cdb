/-
  What datum.Compare answers, at this program: of all data, by every operator. Condition: the tables of Go's library lie as their initialisers lay them.
-/
import Derived.Test.YtoolojfbjpnllaaDoorCompare
set_option linter.unusedVariables false
set_option linter.unusedSimpArgs false
namespace Go.Proofs.YtoolojfbjpnllaaDoor
open Go.RowKit Go.Lib

/-- Compare. -/
def compareS (op : Int) (a b : Dat) : Dat × Int :=
  if op < 11 ∨ 16 < op then (zeroD, 13) else if okD a = false ∨ okD b = false then (zeroD, 13)
  else if a.k = 1 ∨ b.k = 1 then (nullD, 0) else if a.k ≠ b.k then (zeroD, 13) else (boolD (holdsS op (cmpS a b)), 0)
/-- The kind that Compare asks of both. -/
def kindS (a b : Dat) : Int := if a.k = 1 then b.k else a.k
theorem fitsD_ok {kk : Int} {d : Dat} : fitsD kk d = true ↔ okD d = true ∧ (d.k = kk ∨ d.k = 1) := by unfold fitsD; simp
theorem fitsD_no {kk : Int} {d : Dat} (h : ¬ fitsD kk d = true) : fitsD kk d = false := by simpa using h

set_option maxHeartbeats 2000000 in
theorem strict_cmp (ka : Int) (ba : Bool) (na : Int) (sa : ByteArray) (kb : Int) (bb : Bool) (nb : Int) (sb : ByteArray) (op : Int) (pb : Nat) (w : World) (hT : Tabs w) (ha : sa.size ≤ 9223372036854775807) (hb : sb.size ≤ 9223372036854775807)
    (ho1 : 11 ≤ op) (ho2 : op ≤ 16) (hp : ∀ W, Below w.heap.size w W → W.cell? ⟨pb, 0, none⟩ = some (.int .u8 op)) :
    Calls Tryd.prog 78 #[.int .u8 (kindS ⟨ka, ba, na, sa⟩ ⟨kb, bb, nb, sb⟩), .agg #[.int .u8 ka, .bool ba, .int .i64 na, .string sa], .agg #[.int .u8 kb, .bool bb, .int .i64 nb, .string sb], .func (.func 85) #[] #[.pointer (some ⟨pb, 0, none⟩)]] w
      fun e w' => e = .returned (resV (compareS op ⟨ka, ba, na, sa⟩ ⟨kb, bb, nb, sb⟩)) ∧ Below w.heap.size w w' := by
  have hop : ¬ (op < 11 ∨ 16 < op) := by omega
  have hcS : compareS op ⟨ka, ba, na, sa⟩ ⟨kb, bb, nb, sb⟩ = if okD ⟨ka, ba, na, sa⟩ = false ∨ okD ⟨kb, bb, nb, sb⟩ = false then (zeroD, 13) else if ka = 1 ∨ kb = 1 then (nullD, 0) else if ka ≠ kb then (zeroD, 13) else (boolD (holdsS op (cmpS ⟨ka, ba, na, sa⟩ ⟨kb, bb, nb, sb⟩)), 0) := by
    unfold compareS; rw [if_neg hop]
  rw [hcS]
  by_cases f1 : fitsD (kindS ⟨ka, ba, na, sa⟩ ⟨kb, bb, nb, sb⟩) ⟨ka, ba, na, sa⟩ = true
  · have o1 : okD ⟨ka, ba, na, sa⟩ = true := (fitsD_ok.1 f1).1
    by_cases f2 : fitsD (kindS ⟨ka, ba, na, sa⟩ ⟨kb, bb, nb, sb⟩) ⟨kb, bb, nb, sb⟩ = true
    · have o2 : okD ⟨kb, bb, nb, sb⟩ = true := (fitsD_ok.1 f2).1
      rw [if_neg (by simp [o1, o2])]
      by_cases k1 : ka = 1
      · rw [if_pos (.inl k1)]
        exact strict_null1 _ ka ba na sa kb bb nb sb _ w hT ha hb f1 f2 k1
      by_cases k2 : kb = 1
      · rw [if_pos (.inr k2)]
        exact strict_null2 _ ka ba na sa kb bb nb sb _ w hT ha hb f1 f2 (by simpa using k1) k2
      have hk : kindS ⟨ka, ba, na, sa⟩ ⟨kb, bb, nb, sb⟩ = ka := by unfold kindS; rw [if_neg (show ¬ ka = 1 from k1)]
      have hkk : kb = ka := by
        rcases (fitsD_ok.1 f2).2 with h | h
        · rw [hk] at h; exact h
        · exact absurd h k2
      rw [if_neg (by simp [k1, k2]), if_neg (by simp [hkk])]
      exact strict_go _ ka ba na sa kb bb nb sb _ w hT ha hb f1 f2 (by simpa using k1) (by simpa using k2) 85 _ (enters_of Tryd.func85 (by kernel_rfl) rfl) 2 (holdsS op (cmpS ⟨ka, ba, na, sa⟩ ⟨kb, bb, nb, sb⟩)) 0 ⟨#[]⟩ 0 rfl
        (fun W hW => by rw [app1]; exact cmpClos ka ba na sa kb bb nb sb op pb W (hp W hW))
    · have g2 := fitsD_no f2
      have hres : (if okD ⟨ka, ba, na, sa⟩ = false ∨ okD ⟨kb, bb, nb, sb⟩ = false then (zeroD, (13 : Int)) else if ka = 1 ∨ kb = 1 then (nullD, 0) else if ka ≠ kb then (zeroD, 13) else (boolD (holdsS op (cmpS ⟨ka, ba, na, sa⟩ ⟨kb, bb, nb, sb⟩)), 0)) = (zeroD, 13) := by
        by_cases o2 : okD ⟨kb, bb, nb, sb⟩ = true
        · have hn : ¬ (kb = kindS ⟨ka, ba, na, sa⟩ ⟨kb, bb, nb, sb⟩ ∨ kb = 1) := fun h => f2 (fitsD_ok.2 ⟨o2, h⟩)
          have h1 : ¬ ka = 1 := fun h => hn (.inl (by unfold kindS; rw [if_pos (show ka = 1 from h)]))
          have h2 : ¬ kb = 1 := fun h => hn (.inr h)
          have h3 : ka ≠ kb := fun h => hn (.inl (by unfold kindS; rw [if_neg (show ¬ ka = 1 from h1)]; exact h.symm))
          rw [if_neg (by simp [o1, o2]), if_neg (by simp [h1, h2]), if_pos h3]
        · rw [if_pos (.inr (by simpa using o2))]
      rw [hres]
      exact strict_bad2 _ ka ba na sa kb bb nb sb _ w hT ha hb f1 g2
  · have g1 := fitsD_no f1
    have hres : (if okD ⟨ka, ba, na, sa⟩ = false ∨ okD ⟨kb, bb, nb, sb⟩ = false then (zeroD, (13 : Int)) else if ka = 1 ∨ kb = 1 then (nullD, 0) else if ka ≠ kb then (zeroD, 13) else (boolD (holdsS op (cmpS ⟨ka, ba, na, sa⟩ ⟨kb, bb, nb, sb⟩)), 0)) = (zeroD, 13) := by
      by_cases o1 : okD ⟨ka, ba, na, sa⟩ = true
      · exfalso
        refine f1 (fitsD_ok.2 ⟨o1, ?_⟩)
        by_cases h1 : ka = 1
        · exact .inr h1
        · left; unfold kindS; rw [if_neg (show ¬ ka = 1 from h1)]
      · rw [if_pos (.inl (by simpa using o1))]
    rw [hres]
    exact strict_bad1 _ ka ba na sa kb bb nb sb _ w hT ha hb g1

theorem resV_eq' (k : Int) (b : Bool) (n : Int) (s : ByteArray) (x : Int) : resV (⟨k, b, n, s⟩, x) = .tuple #[.agg #[.int .u8 k, .bool b, .int .i64 n, .string s], .int .u16 x] := rfl
set_option maxHeartbeats 4000000 in
theorem compare_k (ka : Int) (ba : Bool) (na : Int) (sa : ByteArray) (kb : Int) (bb : Bool) (nb : Int) (sb : ByteArray) (op : Int) (w : World) (hT : Tabs w) (ha : sa.size ≤ 9223372036854775807) (hb : sb.size ≤ 9223372036854775807)
    (ho1 : 11 ≤ op) (ho2 : op ≤ 16) (hk : ¬ ka = 1) :
    Calls Tryd.prog 41 #[.int .u8 op, .agg #[.int .u8 ka, .bool ba, .int .i64 na, .string sa], .agg #[.int .u8 kb, .bool bb, .int .i64 nb, .string sb]] w
      fun e w' => e = .returned (resV (compareS op ⟨ka, ba, na, sa⟩ ⟨kb, bb, nb, sb⟩)) ∧ Below w.heap.size w w' := by
  obtain ⟨r, hr⟩ : ∃ r, compareS op ⟨ka, ba, na, sa⟩ ⟨kb, bb, nb, sb⟩ = r := ⟨_, rfl⟩
  rw [hr]
  obtain ⟨⟨k', b', n', s'⟩, x⟩ := r
  have hxH := Lib.hid hr
  clear hr
  have hk0 : kindS ⟨ka, ba, na, sa⟩ ⟨kb, bb, nb, sb⟩ = ka := by unfold kindS; rw [if_neg (show ¬ ka = 1 from hk)]
  have hkH := Lib.hid hk0
  have hk1 : (ka == 1) = false := by simpa using hk
  clear hk hk0
  have h1 : ¬ op < 11 := by omega
  have h2 : ¬ 16 < op := by omega
  have haH := Lib.hid ha; have hbbH := Lib.hid hb; have ho1H := Lib.hid ho1; have ho2H := Lib.hid ho2
  clear ha hb ho1 ho2
  obtain ⟨W0, hW0, hwW, hA, hB, hR, hzz⟩ := boxes2 (w.alloc (.cells #[.int .u8 op] 5)) ka ba na sa kb bb nb sb
  have hP : W0.cell? ⟨w.heap.size, 0, none⟩ = some (.int .u8 op) := by
    rw [hwW.cell (p := ⟨w.heap.size, 0, none⟩) (by simp)]; exact cell_new w #[.int .u8 op] 5 0
  have hwW2 : Below w.heap.size w W0 := by rw [← hW0]; go_grown
  have hpl : w.heap.size < W0.heap.size := by have := hwW.size; simp at this; omega
  have hPH : Hid (∀ w', Below W0.heap.size W0 w' → w'.cell? ⟨w.heap.size, 0, none⟩ = some (.int .u8 op)) := Lib.hid (fun w' hb => by
    rw [hb.cell (p := ⟨w.heap.size, 0, none⟩) hpl]; exact hP)
  simp only [World.size_alloc] at hA hB hR hzz
  have hTH := Lib.hid (hT.below hwW2)
  have hAH := Lib.hid hA; have hBH := Lib.hid hB; have hRH := Lib.hid hR; have hz0 := Lib.hid hzz; have hwWH := Lib.hid hwW2
  clear hA hB hR hzz hwW hwW2 hP hpl hT
  have hb := Below.refl W0.heap.size W0
  obtain ⟨a0, a1, a2, a3⟩ := (hAH.out.below hb).cells; obtain ⟨b0, b1, b2, b3⟩ := (hBH.out.below hb).cells; obtain ⟨r0, r1, r2, r3⟩ := (hRH.out.below hb).cells; obtain ⟨f0, f1, f2, f3⟩ := (hRH.out.below hb).free; have p0 := hPH.out _ hb; have hz := Nat.lt_of_lt_of_le hz0.out hb.size
  go_enter Tryd.func41, Tryd.ntmps41
  go_wp2_with (first
    | (go_at_call 84; go_must (refine (isNull_any ka ba na sa _).mono ?_; rintro e w' ⟨rfl, hb'⟩; replace hb := chainB (B := W0.heap.size) (a := W0) (by go_grown) hb' (by have := hb.size; first | omega | (simp; done) | (simp; omega)); clear hb' a0 a1 a2 a3 b0 b1 b2 b3 r0 r1 r2 r3 f0 f1 f2 f3 p0 hz; obtain ⟨a0, a1, a2, a3⟩ := (hAH.out.below hb).cells; obtain ⟨b0, b1, b2, b3⟩ := (hBH.out.below hb).cells; obtain ⟨r0, r1, r2, r3⟩ := (hRH.out.below hb).cells; obtain ⟨f0, f1, f2, f3⟩ := (hRH.out.below hb).free; have p0 := hPH.out _ hb; have hz := Nat.lt_of_lt_of_le hz0.out hb.size))
    | (go_at_call 78; go_must (refine (hkH.out ▸ strict_cmp ka ba na sa kb bb nb sb op w.heap.size _ (by exact hTH.out.below (by go_grown)) haH.out hbbH.out ho1H.out ho2H.out (fun W hW => hPH.out W (chainB (B := W0.heap.size) (a := W0) (by go_grown) hW (by have := hb.size; first | omega | (simp; done) | (simp; omega))))).mono ?_; rw [hxH.out, resV_eq']; rintro e w' ⟨rfl, hb'⟩; replace hb := chainB (B := W0.heap.size) (a := W0) (by go_grown) hb' (by have := hb.size; first | omega | (simp; done) | (simp; omega)); clear hb' a0 a1 a2 a3 b0 b1 b2 b3 r0 r1 r2 r3 f0 f1 f2 f3 p0 hz; obtain ⟨a0, a1, a2, a3⟩ := (hAH.out.below hb).cells; obtain ⟨b0, b1, b2, b3⟩ := (hBH.out.below hb).cells; obtain ⟨r0, r1, r2, r3⟩ := (hRH.out.below hb).cells; obtain ⟨f0, f1, f2, f3⟩ := (hRH.out.below hb).free; have p0 := hPH.out _ hb; have hz := Nat.lt_of_lt_of_le hz0.out hb.size)))
  refine bodyPost_ret (v := .tuple #[.agg #[.int .u8 k', .bool b', .int .i64 n', .string s'], .int .u16 x]) (by simp [results, Tryd.results41, go_sem, r0, r1, r2, r3, hz]) rfl ⟨rfl, ?_⟩
  have hbw := hwWH.out.trans (hb.mono hwWH.out.size)
  clear hb
  go_grown

set_option maxHeartbeats 4000000 in
theorem compare_n (ka : Int) (ba : Bool) (na : Int) (sa : ByteArray) (kb : Int) (bb : Bool) (nb : Int) (sb : ByteArray) (op : Int) (w : World) (hT : Tabs w) (ha : sa.size ≤ 9223372036854775807) (hb : sb.size ≤ 9223372036854775807)
    (ho1 : 11 ≤ op) (ho2 : op ≤ 16) (hk : ka = 1) :
    Calls Tryd.prog 41 #[.int .u8 op, .agg #[.int .u8 ka, .bool ba, .int .i64 na, .string sa], .agg #[.int .u8 kb, .bool bb, .int .i64 nb, .string sb]] w
      fun e w' => e = .returned (resV (compareS op ⟨ka, ba, na, sa⟩ ⟨kb, bb, nb, sb⟩)) ∧ Below w.heap.size w w' := by
  obtain ⟨r, hr⟩ : ∃ r, compareS op ⟨ka, ba, na, sa⟩ ⟨kb, bb, nb, sb⟩ = r := ⟨_, rfl⟩
  rw [hr]
  obtain ⟨⟨k', b', n', s'⟩, x⟩ := r
  have hxH := Lib.hid hr
  clear hr
  have hk0 : kindS ⟨ka, ba, na, sa⟩ ⟨kb, bb, nb, sb⟩ = kb := by unfold kindS; rw [if_pos (show ka = 1 from hk)]
  have hkH := Lib.hid hk0
  have hk1 : (ka == 1) = true := by simpa using hk
  clear hk hk0
  have h1 : ¬ op < 11 := by omega
  have h2 : ¬ 16 < op := by omega
  have haH := Lib.hid ha; have hbbH := Lib.hid hb; have ho1H := Lib.hid ho1; have ho2H := Lib.hid ho2
  clear ha hb ho1 ho2
  obtain ⟨W0, hW0, hwW, hA, hB, hR, hzz⟩ := boxes2 (w.alloc (.cells #[.int .u8 op] 5)) ka ba na sa kb bb nb sb
  have hP : W0.cell? ⟨w.heap.size, 0, none⟩ = some (.int .u8 op) := by
    rw [hwW.cell (p := ⟨w.heap.size, 0, none⟩) (by simp)]; exact cell_new w #[.int .u8 op] 5 0
  have hwW2 : Below w.heap.size w W0 := by rw [← hW0]; go_grown
  have hpl : w.heap.size < W0.heap.size := by have := hwW.size; simp at this; omega
  have hPH : Hid (∀ w', Below W0.heap.size W0 w' → w'.cell? ⟨w.heap.size, 0, none⟩ = some (.int .u8 op)) := Lib.hid (fun w' hb => by
    rw [hb.cell (p := ⟨w.heap.size, 0, none⟩) hpl]; exact hP)
  simp only [World.size_alloc] at hA hB hR hzz
  have hTH := Lib.hid (hT.below hwW2)
  have hAH := Lib.hid hA; have hBH := Lib.hid hB; have hRH := Lib.hid hR; have hz0 := Lib.hid hzz; have hwWH := Lib.hid hwW2
  clear hA hB hR hzz hwW hwW2 hP hpl hT
  have hb := Below.refl W0.heap.size W0
  obtain ⟨a0, a1, a2, a3⟩ := (hAH.out.below hb).cells; obtain ⟨b0, b1, b2, b3⟩ := (hBH.out.below hb).cells; obtain ⟨r0, r1, r2, r3⟩ := (hRH.out.below hb).cells; obtain ⟨f0, f1, f2, f3⟩ := (hRH.out.below hb).free; have p0 := hPH.out _ hb; have hz := Nat.lt_of_lt_of_le hz0.out hb.size
  go_enter Tryd.func41, Tryd.ntmps41
  go_wp2_with (first
    | (go_at_call 84; go_must (refine (isNull_any ka ba na sa _).mono ?_; rintro e w' ⟨rfl, hb'⟩; replace hb := chainB (B := W0.heap.size) (a := W0) (by go_grown) hb' (by have := hb.size; first | omega | (simp; done) | (simp; omega)); clear hb' a0 a1 a2 a3 b0 b1 b2 b3 r0 r1 r2 r3 f0 f1 f2 f3 p0 hz; obtain ⟨a0, a1, a2, a3⟩ := (hAH.out.below hb).cells; obtain ⟨b0, b1, b2, b3⟩ := (hBH.out.below hb).cells; obtain ⟨r0, r1, r2, r3⟩ := (hRH.out.below hb).cells; obtain ⟨f0, f1, f2, f3⟩ := (hRH.out.below hb).free; have p0 := hPH.out _ hb; have hz := Nat.lt_of_lt_of_le hz0.out hb.size))
    | (go_at_call 78; go_must (refine (hkH.out ▸ strict_cmp ka ba na sa kb bb nb sb op w.heap.size _ (by exact hTH.out.below (by go_grown)) haH.out hbbH.out ho1H.out ho2H.out (fun W hW => hPH.out W (chainB (B := W0.heap.size) (a := W0) (by go_grown) hW (by have := hb.size; first | omega | (simp; done) | (simp; omega))))).mono ?_; rw [hxH.out, resV_eq']; rintro e w' ⟨rfl, hb'⟩; replace hb := chainB (B := W0.heap.size) (a := W0) (by go_grown) hb' (by have := hb.size; first | omega | (simp; done) | (simp; omega)); clear hb' a0 a1 a2 a3 b0 b1 b2 b3 r0 r1 r2 r3 f0 f1 f2 f3 p0 hz; obtain ⟨a0, a1, a2, a3⟩ := (hAH.out.below hb).cells; obtain ⟨b0, b1, b2, b3⟩ := (hBH.out.below hb).cells; obtain ⟨r0, r1, r2, r3⟩ := (hRH.out.below hb).cells; obtain ⟨f0, f1, f2, f3⟩ := (hRH.out.below hb).free; have p0 := hPH.out _ hb; have hz := Nat.lt_of_lt_of_le hz0.out hb.size)))
  refine bodyPost_ret (v := .tuple #[.agg #[.int .u8 k', .bool b', .int .i64 n', .string s'], .int .u16 x]) (by simp [results, Tryd.results41, go_sem, r0, r1, r2, r3, hz]) rfl ⟨rfl, ?_⟩
  have hbw := hwWH.out.trans (hb.mono hwWH.out.size)
  clear hb
  go_grown

set_option maxHeartbeats 2000000 in
theorem compare_op (ka : Int) (ba : Bool) (na : Int) (sa : ByteArray) (kb : Int) (bb : Bool) (nb : Int) (sb : ByteArray) (op : Int) (w : World) (h : op < 11 ∨ 16 < op) :
    Calls Tryd.prog 41 #[.int .u8 op, .agg #[.int .u8 ka, .bool ba, .int .i64 na, .string sa], .agg #[.int .u8 kb, .bool bb, .int .i64 nb, .string sb]] w
      fun e w' => e = .returned (resV (compareS op ⟨ka, ba, na, sa⟩ ⟨kb, bb, nb, sb⟩)) ∧ Below w.heap.size w w' := by
  rw [show compareS op ⟨ka, ba, na, sa⟩ ⟨kb, bb, nb, sb⟩ = (⟨0, false, 0, ⟨#[]⟩⟩, 13) by unfold compareS; rw [if_pos h]; rfl, resV_eq']
  rcases h with h | h
  · go_enter Tryd.func41, Tryd.ntmps41
    go_wp2
    refine bodyPost_ret (v := .tuple #[.agg #[.int .u8 0, .bool false, .int .i64 0, .string ⟨#[]⟩], .int .u16 13]) (by simp [results, Tryd.results41, go_sem]) rfl ⟨rfl, by go_grown⟩
  · have h1 : ¬ op < 11 := by omega
    go_enter Tryd.func41, Tryd.ntmps41
    go_wp2
    refine bodyPost_ret (v := .tuple #[.agg #[.int .u8 0, .bool false, .int .i64 0, .string ⟨#[]⟩], .int .u16 13]) (by simp [results, Tryd.results41, go_sem]) rfl ⟨rfl, by go_grown⟩
/-- Compare, of all data, by every operator. -/
theorem compare_any (op : Int) (ka : Int) (ba : Bool) (na : Int) (sa : ByteArray) (kb : Int) (bb : Bool) (nb : Int) (sb : ByteArray) (w : World) (hT : Tabs w) (ha : sa.size ≤ 9223372036854775807) (hb : sb.size ≤ 9223372036854775807) :
    Calls Tryd.prog 41 #[.int .u8 op, .agg #[.int .u8 ka, .bool ba, .int .i64 na, .string sa], .agg #[.int .u8 kb, .bool bb, .int .i64 nb, .string sb]] w
      fun e w' => e = .returned (resV (compareS op ⟨ka, ba, na, sa⟩ ⟨kb, bb, nb, sb⟩)) ∧ Below w.heap.size w w' := by
  by_cases h : op < 11 ∨ 16 < op
  · exact compare_op ka ba na sa kb bb nb sb op w h
  by_cases h1 : ka = 1
  · exact compare_n ka ba na sa kb bb nb sb op w hT ha hb (by omega) (by omega) h1
  · exact compare_k ka ba na sa kb bb nb sb op w hT ha hb (by omega) (by omega) h1
end Go.Proofs.YtoolojfbjpnllaaDoor
