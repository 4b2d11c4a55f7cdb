/-
  The box of layer 9: isWorker, between, Len, Send, Take, at channels that are there. Conditions: those written.
-/
import Derived.Test.YtpghndmfdmimmaaMlB
set_option linter.unusedVariables false
set_option linter.unusedSimpArgs false
namespace Go.Proofs.Ytpghndmfdmimmaa
open Go.RowKit Go.Lib

theorem is_any (b R W W' : Nat) (w : World) (h0 : w.cell? ⟨b, 0, none⟩ = some (.slice (some ⟨R, 0, none⟩) W W')) (k : Nat) (hk : k < W) (hw : W ≤ 8) :
    Calls Try.prog 58 #[.pointer (some ⟨b, 0, none⟩), .int .i64 k] w fun e w' => e = .returned (.bool true) ∧ w = w' := by
  go_enter Try.func58, Try.ntmps58
  go_wp2
  go_ret
  exact ⟨rfl, rfl⟩
theorem between_any (b R W W' S t c : Nat) (w : World) (h0 : w.cell? ⟨b, 0, none⟩ = some (.slice (some ⟨R, 0, none⟩) W W')) (k : Nat) (hk : k < W) (ht : t < W) (hw : W ≤ 8) (h1 : w.cell? ⟨R, k, none⟩ = some (.slice (some ⟨S, 0, none⟩) W c)) :
    Calls Try.prog 29 #[.pointer (some ⟨b, 0, none⟩), .int .i64 k, .int .i64 t] w fun e w' => e = .returned (.pointer (some ⟨S, t * 3, none⟩)) ∧ w = w' := by
  go_enter Try.func29, Try.ntmps29
  go_wp2_with (go_at_call 58; refine (is_any b R W W' _ h0 _ (by omega) hw).mono ?_; rintro e w' ⟨rfl, rfl⟩)
  go_ret
  exact ⟨rfl, rfl⟩
theorem BoxI.between {w : World} {B b W n : Nat} {S : Nat → Nat} {st : Nat → Nat → Ch} (h : BoxI w B b W n S st) {f t : Nat} (hf : f < W) (ht : t < W) :
    Calls Try.prog 29 #[.pointer (some ⟨b, 0, none⟩), .int .i64 f, .int .i64 t] w fun e w' => e = .returned (.pointer (some ⟨S f, t * 3, none⟩)) ∧ w = w' := by
  obtain ⟨Rb, rs, h3, h4, h5⟩ := h.head
  obtain ⟨c, -, -, hc⟩ := h5 f hf
  exact between_any b Rb W W (S f) t c w (h3.cell 0 rfl) f hf ht h.w8.2 (h4.cell f hc)
theorem BoxI.len {w : World} {B b W n : Nat} {S : Nat → Nat} {st : Nat → Nat → Ch} (h : BoxI w B b W n S st) {f t : Nat} (hf : f < W) (ht : t < W) (l : Nat) (hl : (st f t).q.length = l) :
    Calls Try.prog 24 #[.pointer (some ⟨b, 0, none⟩), .int .i64 f, .int .i64 t] w fun e w' => e = .returned (.int .i64 (l : Nat)) ∧ w = w' := by
  obtain ⟨cs, hcs, hra⟩ := h.rows f hf
  have hB := Lib.hid (h.between hf ht)
  have c2 := hcs.cell _ (hra t ht).2.2
  rw [hl] at c2
  clear h hcs hra
  go_enter Try.func24, Try.ntmps24
  go_wp2_with (go_at_call 29; refine hB.out.mono ?_; rintro e w' ⟨rfl, rfl⟩)
  go_ret
  exact ⟨rfl, rfl⟩
set_option maxHeartbeats 1000000 in
theorem BoxI.sendFull {w : World} {B b W n : Nat} {S : Nat → Nat} {st : Nat → Nat → Ch} (h : BoxI w B b W n S st) {f t : Nat} (hf : f < W) (ht : t < W) (hl : (st f t).q.length = n) (v : Value) :
    Calls Try.prog 16 #[.pointer (some ⟨b, 0, none⟩), .int .i64 f, .int .i64 t, .agg (msgC v).toArray] w fun e w' => e = .returned (.int .u16 5) ∧ Below w.heap.size w w' := by
  have hb0 : Below w.heap.size w (w.alloc (.cells (msgC v).toArray 31)) := by go_grown
  have hH := Lib.hid (h.below hb0)
  obtain ⟨cs, hcs, hra⟩ := hH.out.rows f hf
  have hB := Lib.hid (hH.out.between hf ht)
  obtain ⟨r0, r1, r2⟩ := hra t ht
  rw [hl] at r2
  have hF := Lib.hid (full_any (S f) (t * 3) _ n n _ _ (hcs.cell _ r0) (hcs.cell _ r2))
  clear h hcs hra hb0 r0 r1 r2
  have hnn : ((n : Int) == (n : Int)) = true := by simp
  go_enter Try.func16, Try.ntmps16
  go_wp2_with (first | (go_at_call 29; refine hB.out.mono ?_; rintro e w' ⟨rfl, rfl⟩) | (go_at_call 38; refine hF.out.mono ?_; rintro e w' ⟨rfl, nq, rfl⟩))
  go_ret
  exact ⟨rfl, (by go_grown : Below w.heap.size w (w.alloc (.cells (msgC v).toArray 31))).trans ⟨rfl, rfl, rfl, Nat.le_refl _, fun _ _ => rfl⟩⟩
set_option maxHeartbeats 1000000 in
theorem BoxI.send {w : World} {B b W n : Nat} {S : Nat → Nat} {st : Nat → Nat → Ch} (h : BoxI w B b W n S st) {f t : Nat} (hf : f < W) (ht : t < W) (hl : (st f t).q.length < n) (v : Value) (z : Int) (hv : UpdV w v z) :
    Calls Try.prog 16 #[.pointer (some ⟨b, 0, none⟩), .int .i64 f, .int .i64 t, .agg (msgC v).toArray] w fun e w' =>
      e = .returned (.int .u16 0) ∧ BoxI w' B b W n S (Go.Proofs.Ytpghndmfdmimmaa.upd st f t ⟨(st f t).T, (st f t).f, (st f t).q ++ [z]⟩) ∧ Two w w' (S f) (st f t).T := by
  obtain ⟨W0, hW0, hwW, hA, hzz⟩ := boxes1 w (msgC v) 31
  have hH := Lib.hid (h.below hwW)
  have hvH := Lib.hid (hv.below hwW)
  obtain ⟨cs, hcs, hra⟩ := hH.out.rows f hf
  obtain ⟨ds, hds, hdl, hdm⟩ := hH.out.slots f t hf ht
  have hB := Lib.hid (hH.out.between hf ht)
  have hF := Lib.hid (full_any (S f) (t * 3) _ n n _ _ (hcs.cell _ (hra t ht).1) (hcs.cell _ (hra t ht).2.2))
  have hraH := Lib.hid hra; have hcsH := Lib.hid hcs; have hdsH := Lib.hid hds; have hdlH := Lib.hid hdl; have hdmH := Lib.hid hdm; have hlH := Lib.hid hl
  have hAH := Lib.hid hA; have hwH := Lib.hid hwW
  obtain ⟨Av, cv, rfl, -, -⟩ := hv.form
  have a0 := hA.cell 0 rfl; have a1 := hA.cell 1 rfl; have a2 := hA.cell 2 rfl; have a3 := hA.cell 3 rfl; have a4 := hA.cell 4 rfl; have a5 := hA.cell 5 rfl; have a6 := hA.cell 6 rfl
  have hnn : (((st f t).q.length : Int) == (n : Int)) = false := by simpa using (show ((st f t).q.length : Int) ≠ (n : Int) by omega)
  clear h hv hcs hra hds hdl hdm hwW hA hzz hl
  go_enter Try.func16, Try.ntmps16
  go_wp2_with (first | (go_at_call 29; refine hB.out.mono ?_; rintro e w' ⟨rfl, rfl⟩) | (go_at_call 38; refine hF.out.mono ?_; rintro e w' ⟨rfl, nq, rfl⟩))
  refine (own_any _ z (W0.drewN nq) (hvH.out.below ⟨rfl, rfl, rfl, Nat.le_refl _, fun _ _ => rfl⟩)).mono ?_
  rintro e w2 ⟨u, rfl, hu, hb2_⟩
  obtain ⟨Au, cu, rfl, -, -⟩ := hu.form
  have hb2 := Lib.hid (show Below W0.heap.size W0 w2 from chainB (b := W0.drewN nq) ⟨rfl, rfl, rfl, Nat.le_refl _, fun _ _ => rfl⟩ hb2_ (Nat.le_refl _))
  have huH := Lib.hid hu
  clear hb2_ hu a0 a1 a2 a3 a4 a5 a6 hB hF hnn
  have hP := Lib.hid (put_any (S f) (t * 3) (st f t).T n (st f t).f (st f t).q.length _ cs ds (.int .i64 0) (.bool false) (.int .i64 0) (.int .u64 0) (.slice none 0 0) (.slice (some Au) 1 cu) (.slice none 0 0) w2
    (hcsH.out.below hb2.out) (hdsH.out.below hb2.out) (hraH.out t ht).1 (hraH.out t ht).2.1 (hraH.out t ht).2.2 hdlH.out hH.out.n64.1 hH.out.n64.2 (by have := (hH.out.small f t hf ht).1; have := hH.out.n64.2; omega) (by have := hlH.out; have := hH.out.n64.2; omega) rfl (by simp [Value.oneCell']))
  go_wp2_with fail
  refine hP.out.mono ?_
  rintro e w3 ⟨rfl, hcs3, hds3, htwo⟩
  have h1H := Lib.hid hcs3; have h2H := Lib.hid hds3; have h3H := Lib.hid htwo
  clear hcs3 hds3 htwo hP
  go_wp2_with fail
  go_ret
  have hlen : t * 3 + 2 < cs.length := (List.getElem?_eq_some_iff.1 (hraH.out t ht).2.2).1
  refine ⟨rfl, (hH.out.below hb2.out).upd hf ht (hcsH.out.below hb2.out) hraH.out h3H.out h1H.out _ rfl ⟨?_, ?_, ?_⟩ (fun i hi => List.getElem?_set_ne (by omega)) ?_ ⟨(hH.out.small f t hf ht).1, by have := hlH.out; simp; omega⟩, Two.after (chainB hwH.out hb2.out hwH.out.size) h3H.out⟩
  · rw [List.getElem?_set_ne (by omega)]
    exact (hraH.out t ht).1
  · rw [List.getElem?_set_ne (by omega)]
    exact (hraH.out t ht).2.1
  · rw [List.getElem?_set_self hlen]
    simp
  · exact Slots.put (hdsH.out.below hb2.out) hdlH.out (fun j z hj => (hdmH.out j z hj).below hb2.out) h3H.out (hcsH.out.below hb2.out) hlH.out Au cu z (huH.out.two h3H.out (hcsH.out.below hb2.out) (hdsH.out.below hb2.out)) h2H.out
set_option maxHeartbeats 1000000 in
theorem BoxI.takeNone {w : World} {B b W n : Nat} {S : Nat → Nat} {st : Nat → Nat → Ch} (h : BoxI w B b W n S st) {f t : Nat} (hf : f < W) (ht : t < W) (hl : (st f t).q = []) :
    Calls Try.prog 9 #[.pointer (some ⟨b, 0, none⟩), .int .i64 f, .int .i64 t] w fun e w' => e = .returned (.tuple #[.agg (msgC (.slice none 0 0)).toArray, .int .u16 91]) ∧ Below w.heap.size w w' := by
  obtain ⟨W0, hW0, hwW, hR, hzz⟩ := boxes1 w (msgC (.slice none 0 0)) 31
  have hH := Lib.hid (h.below hwW)
  obtain ⟨cs, hcs, hra⟩ := hH.out.rows f hf
  have hB := Lib.hid (hH.out.between hf ht)
  obtain ⟨r0, r1, r2⟩ := hra t ht
  rw [hl] at r2
  have hE := Lib.hid (empty_any (S f) (t * 3) _ _ (hcs.cell _ r2))
  have hwH := Lib.hid hwW
  clear h hcs hra r0 r1 r2 hwW
  have r0_ := hR.cell 0 rfl; have r1_ := hR.cell 1 rfl; have r2_ := hR.cell 2 rfl; have r3_ := hR.cell 3 rfl; have r4_ := hR.cell 4 rfl; have r5_ := hR.cell 5 rfl; have r6_ := hR.cell 6 rfl
  have q0_ := hR.free 0; have q1_ := hR.free 1; have q2_ := hR.free 2; have q3_ := hR.free 3; have q4_ := hR.free 4; have q5_ := hR.free 5; have q6_ := hR.free 6
  have hl_ := hR.lt
  have e0 : (((([] : List Int).length : Nat) : Int) == 0) = true := rfl
  go_enter Try.func9, Try.ntmps9
  go_wp2_with (first | (go_at_call 29; refine hB.out.mono ?_; rintro e w' ⟨rfl, rfl⟩) | (go_at_call 30; refine hE.out.mono ?_; rintro e w' ⟨rfl, rfl⟩))
  refine bodyPost_ret (v := .tuple #[.agg (msgC (.slice none 0 0)).toArray, .int .u16 91]) (by simp [results, Try.results9, go_sem, r0_, r1_, r2_, r3_, r4_, r5_, r6_, hl_]) rfl ⟨rfl, ?_⟩
  have hb := hwH.out
  clear hB hE hH hwH
  go_grown
set_option maxHeartbeats 1000000 in
theorem BoxI.take {w : World} {B b W n : Nat} {S : Nat → Nat} {st : Nat → Nat → Ch} (h : BoxI w B b W n S st) {f t : Nat} (hf : f < W) (ht : t < W) (z : Int) (q : List Int) (hl : (st f t).q = z :: q) :
    Calls Try.prog 9 #[.pointer (some ⟨b, 0, none⟩), .int .i64 f, .int .i64 t] w fun e w' =>
      ∃ v, e = .returned (.tuple #[.agg (msgC v).toArray, .int .u16 0]) ∧ UpdV w' v z ∧ BoxI w' B b W n S (Go.Proofs.Ytpghndmfdmimmaa.upd st f t ⟨(st f t).T, ((st f t).f + 1) % n, q⟩) ∧ Two w w' (S f) (st f t).T := by
  obtain ⟨W0, hW0, hwW, hR, hzz⟩ := boxes1 w (msgC (.slice none 0 0)) 31
  have hH := Lib.hid (h.below hwW)
  have hh := Lib.hid h
  obtain ⟨cs, hcs0, hra⟩ := h.rows f hf
  obtain ⟨ds, hds0, hdl, hdm0⟩ := h.slots f t hf ht
  have hcs := hcs0.below hwW
  have hds := hds0.below hwW
  have hdm := fun j z hj => (hdm0 j z hj).below hwW
  have hcs0H := Lib.hid hcs0; have hds0H := Lib.hid hds0; have hdm0H := Lib.hid hdm0
  have hB := Lib.hid (hH.out.between hf ht)
  have hE := Lib.hid (empty_any (S f) (t * 3) _ _ (hcs.cell _ (hra t ht).2.2))
  have hfn := (hH.out.small f t hf ht).1
  have hqn := Lib.hid (hH.out.small f t hf ht).2
  have h0 := hdm 0 z (by rw [hl]; rfl)
  rw [Nat.add_zero, Nat.mod_eq_of_lt hfn] at h0
  obtain ⟨A, cu, hm, hu⟩ := h0
  have hT := Lib.hid (take_any (S f) (t * 3) (st f t).T n (st f t).f (st f t).q.length _ cs ds A cu W0 hcs hds (hra t ht).1 (hra t ht).2.1 (hra t ht).2.2 hdl hH.out.n64.1 hH.out.n64.2 hfn (by have := hqn.out; have := hH.out.n64.2; omega) rfl
    (hm 0 _ rfl) (hm 1 _ rfl) (hm 2 _ rfl) (hm 3 _ rfl) (hm 4 _ rfl) (hm 5 _ rfl) (hm 6 _ rfl))
  have hraH := Lib.hid hra; have hcsH := Lib.hid hcs; have hdsH := Lib.hid hds; have hdlH := Lib.hid hdl; have hdmH := Lib.hid hdm; have hlH := Lib.hid hl; have hfH := Lib.hid hfn; have huH := Lib.hid hu
  have hRH := Lib.hid hR; have hwH := Lib.hid hwW
  have e0 : (((st f t).q.length : Int) == 0) = false := by rw [hl]; simp; omega
  have nS := Lib.hid (show w.heap.size ≠ S f from fun e => by obtain ⟨cs', h1, -⟩ := h.rows f hf; have := h1.lt; omega)
  have nT := Lib.hid (show w.heap.size ≠ (st f t).T from fun e => by obtain ⟨cs', h1, -⟩ := h.slots f t hf ht; have := h1.lt; omega)
  clear h hcs hra hds hdl hdm hwW hR hzz hl hfn hm hu hcs0 hds0 hdm0
  go_enter Try.func9, Try.ntmps9
  go_wp2_with (first | (go_at_call 29; refine hB.out.mono ?_; rintro e w' ⟨rfl, rfl⟩) | (go_at_call 30; refine hE.out.mono ?_; rintro e w' ⟨rfl, rfl⟩))
  refine hT.out.mono ?_
  rintro e w3 ⟨rfl, hcs3, hds3, htwo⟩
  have h1H := Lib.hid hcs3; have h2H := Lib.hid hds3; have h3H := Lib.hid htwo
  have hR := htwo.has hRH.out nS.out nT.out
  clear hcs3 hds3 htwo hT hB hE e0
  have r0_ := hR.cell 0 rfl; have r1_ := hR.cell 1 rfl; have r2_ := hR.cell 2 rfl; have r3_ := hR.cell 3 rfl; have r4_ := hR.cell 4 rfl; have r5_ := hR.cell 5 rfl; have r6_ := hR.cell 6 rfl
  have q0_ := hR.free 0; have q1_ := hR.free 1; have q2_ := hR.free 2; have q3_ := hR.free 3; have q4_ := hR.free 4; have q5_ := hR.free 5; have q6_ := hR.free 6
  have hl_ := hR.lt
  have hR3 := Lib.hid hR
  clear hR
  go_wp2_with fail
  have htw := Lib.hid ((Two.after hwH.out h3H.out).new7 (Nat.le_refl _) (.int .i64 0) (.bool false) (.int .i64 0) (.int .u64 0) (.slice none 0 0) (.slice (some A) 1 cu) (.slice none 0 0))
  have hlen : t * 3 + 2 < cs.length := (List.getElem?_eq_some_iff.1 (hraH.out t ht).2.2).1
  refine bodyPost_ret (v := .tuple #[.agg (msgC (.slice (some A) 1 cu)).toArray, .int .u16 0]) (by simp [results, Try.results9, go_sem, r0_, r1_, r2_, r3_, r4_, r5_, r6_, hl_]) rfl
    ⟨_, rfl, (huH.out.two h3H.out hcsH.out hdsH.out).put7 hR3.out (by decide) (by decide) _ _ _ _ _ _ _,
      hh.out.upd hf ht hcs0H.out hraH.out htw.out (h1H.out.far7 (Ne.symm nS.out) _ _ _ _ _ _ _) _ rfl ⟨?_, ?_, ?_⟩ (fun i hi => ?_) ?_ ⟨Nat.mod_lt _ hh.out.n64.1, by have := hqn.out; rw [hlH.out] at this; simp at this; simp; omega⟩, htw.out⟩
  · rw [List.getElem?_set_ne (by omega), List.getElem?_set_ne (by omega)]
    exact (hraH.out t ht).1
  · rw [List.getElem?_set_ne (by omega), List.getElem?_set_self (by omega)]
  · rw [List.getElem?_set_self (by rw [List.length_set]; exact hlen), hlH.out]
    simp
  · rw [List.getElem?_set_ne (by omega), List.getElem?_set_ne (by omega)]
  · exact Slots.take hds0H.out hdlH.out hdm0H.out htw.out hcs0H.out hfH.out z q hlH.out hqn.out rfl (h2H.out.far7 (Ne.symm nT.out) _ _ _ _ _ _ _)
end Go.Proofs.Ytpghndmfdmimmaa
