/-
  known of layer 9's statements answers true, at this program. No condition.
-/
import Derived.Test.YtpghndmfdmimmaaMlR
set_option linter.unusedVariables false
set_option linter.unusedSimpArgs false
namespace Go.Proofs.Ytpghndmfdmimmaa
open Go.RowKit Go.Lib

theorem Two.low {w w' : World} {B S T : Nat} (k : Two w w' S T) (hS : B ≤ S) (hT : B ≤ T) (hB : B ≤ w.heap.size) : Below B w w' :=
  ⟨k.os, k.tape, k.output, k.size, fun i hi => k.block i (Nat.lt_of_lt_of_le hi hB) (by omega) (by omega)⟩
theorem BoxI.low2 {w w' : World} {B b W n : Nat} {S : Nat → Nat} {st : Nat → Nat → Ch} (h : BoxI w B b W n S st) {f t : Nat} (hf : f < W) (ht : t < W) (k : Two w w' (S f) (st f t).T) (hB : B ≤ w.heap.size) : Below B w w' :=
  k.low (h.low f hf).1 ((h.low f hf).2 t ht) hB
/-- The number that a message holds, cell by cell. -/
theorem UpdV.cells {w : World} {v : Value} {z : Int} (h : UpdV w v z) : ∃ X c Y d, v = .slice (some ⟨X, 0, none⟩) 1 c ∧ w.cell? ⟨X, 0, none⟩ = some (.slice (some ⟨Y, 0, none⟩) 1 d) ∧ w.cell? ⟨Y, 2, none⟩ = some (.int .i64 z) := by
  obtain ⟨X, c, xs, r, rfl, h2, h3, h4, Y, d, ys, rfl, h5, h6, h7⟩ := h
  exact ⟨X, c, Y, d, rfl, h4.cell 0 rfl, h7.cell 2 rfl⟩
theorem name_st {w : World} {B b W n : Nat} {S : Nat → Nat} {st : Nat → Nat → Ch} (h : BoxI w B b W n S st) : ∃ s, s = st ∧ BoxI w B b W n S s := ⟨_, rfl, h⟩
theorem BoxI.keeps {w w' : World} {B b W n : Nat} {S : Nat → Nat} {st : Nat → Nat → Ch} (h : BoxI w B b W n S st) {f t : Nat} (hf : f < W) (ht : t < W) (k : Two w w' (S f) (st f t).T) {g : Nat} {cs : List Value} {T : TypeId}
    (hg : HasC w g cs T) (h1 : T ≠ 98) (h2 : T ≠ 31) : HasC w' g cs T := by
  obtain ⟨es, hes, -⟩ := h.rows f hf
  obtain ⟨ds, hds, -⟩ := h.slots f t hf ht
  exact k.has hg (hg.types hes h1) (hg.types hds h2)
def KnownPost (w : World) (e : Ending) (w' : World) : Prop := e = .returned (.bool true) ∧ Below w.heap.size w w'
set_option maxRecDepth 100000 in
set_option maxHeartbeats 8000000 in
theorem known_any (w : World) : Calls Try.prog 8 #[] w (KnownPost w) := by
  go_enter Try.func8, Try.ntmps8
  go_wp2_with fail
  refine (new_any 2 1 _ (by decide) (by decide) (by decide) (by decide)).mono ?_
  rintro e w1 ⟨b, S, T, rfl, hI_, hb_⟩
  have h1 := Lib.hid hI_; have hb1 := Lib.hid hb_
  clear hI_ hb_
  go_wp2_with fail
  refine (message_any 1 _).mono ?_
  rintro e w2 ⟨u1, rfl, hu_, hb_⟩
  have h2 := Lib.hid (h1.out.below hb_); have hb2 := Lib.hid (chainB hb1.out hb_ hb1.out.size); have hu1 := Lib.hid hu_
  obtain ⟨A1, c1, rfl, -, -⟩ := hu_.form
  clear hu_ hb_ h1 hb1
  go_wp2_with fail
  refine (h2.out.send (f := 0) (t := 1) (by decide) (by decide) (by simp) _ 1 hu1.out).mono ?_
  rintro e w3 ⟨rfl, hI_, ht_⟩
  replace hI_ := name_st hI_
  obtain ⟨st3, hst, hI_⟩ := hI_
  have q00_3 := Lib.hid (show (st3 0 0).q = [] by rw [hst]; simp [upd])
  have q01_3 := Lib.hid (show (st3 0 1).q = [1] by rw [hst]; simp [upd])
  have q10_3 := Lib.hid (show (st3 1 0).q = [] by rw [hst]; simp [upd])
  have q11_3 := Lib.hid (show (st3 1 1).q = [] by rw [hst]; simp [upd])
  clear hst
  have h3 := Lib.hid hI_; have hb3 := Lib.hid (hb2.out.trans (h2.out.low2 (by decide) (by decide) ht_ hb2.out.size))
  clear hI_ ht_ h2 hb2 hu1
  go_wp2_with fail
  refine (message_any 2 _).mono ?_
  rintro e w4 ⟨u2, rfl, hu_, hb_⟩
  have h4 := Lib.hid (h3.out.below hb_); have hb4 := Lib.hid (chainB hb3.out hb_ hb3.out.size)
  obtain ⟨A2, c2, rfl, -, -⟩ := hu_.form
  clear hu_ hb_ h3 hb3
  go_wp2_with fail
  refine (h4.out.sendFull (f := 0) (t := 1) (by decide) (by decide) (by rw [q01_3.out]; rfl) _).mono ?_
  rintro e w5 ⟨rfl, hb_⟩
  have h5 := Lib.hid (h4.out.below hb_); have hb5 := Lib.hid (chainB hb4.out hb_ hb4.out.size)
  clear hb_ h4 hb4
  go_wp2_with fail
  refine (message_any 2 _).mono ?_
  rintro e w6 ⟨u3, rfl, hu_, hb_⟩
  have h6 := Lib.hid (h5.out.below hb_); have hb6 := Lib.hid (chainB hb5.out hb_ hb5.out.size); have hu3 := Lib.hid hu_
  obtain ⟨A3, c3, rfl, -, -⟩ := hu_.form
  clear hu_ hb_ h5 hb5
  go_wp2_with fail
  refine (h6.out.send (f := 0) (t := 0) (by decide) (by decide) (by rw [q00_3.out]; decide) _ 2 hu3.out).mono ?_
  rintro e w7 ⟨rfl, hI_, ht_⟩
  have e00 := q00_3.out; have e01 := q01_3.out; have e10 := q10_3.out; have e11 := q11_3.out
  replace hI_ := name_st hI_
  obtain ⟨st7, hst, hI_⟩ := hI_
  have q00_7 := Lib.hid (show (st7 0 0).q = [2] by rw [hst]; simp [upd, e00, e01, e10, e11])
  have q01_7 := Lib.hid (show (st7 0 1).q = [1] by rw [hst]; simp [upd, e00, e01, e10, e11])
  have q10_7 := Lib.hid (show (st7 1 0).q = [] by rw [hst]; simp [upd, e00, e01, e10, e11])
  have q11_7 := Lib.hid (show (st7 1 1).q = [] by rw [hst]; simp [upd, e00, e01, e10, e11])
  clear hst
  have h7 := Lib.hid hI_; have hb7 := Lib.hid (hb6.out.trans (h6.out.low2 (by decide) (by decide) ht_ hb6.out.size))
  clear hI_ ht_ h6 hb6 hu3 e00 e01 e10 e11 q00_3 q01_3 q10_3 q11_3
  go_wp2_with fail
  refine h7.out.ready.mono ?_
  rintro e w8 ⟨v, rfl, ho_, hb_⟩
  have hl : allR st7 2 2 = [(0, 0), (0, 1)] := by
    have e00 := q00_7.out; have e01 := q01_7.out; have e10 := q10_7.out; have e11 := q11_7.out
    simp [allR, rowR, List.range_succ, e00, e01, e10, e11]
  rw [hl] at ho_
  obtain ⟨g, cap, cs, rfl, -, hc1, hc2, hcs, htk⟩ := own_form ho_ (by decide)
  have h8 := Lib.hid (h7.out.below hb_); have hb8 := Lib.hid (chainB hb7.out hb_ hb7.out.size); have hg8 := Lib.hid hcs; have htH := Lib.hid htk
  clear ho_ hb_ h7 hb7 hl hcs htk
  go_wp2_with fail
  refine (h8.out.take (f := 0) (t := 1) (by decide) (by decide) 1 [] q01_7.out).mono ?_
  rintro e w9 ⟨v, rfl, hu_, hI_, ht_⟩
  obtain ⟨A4, c4, rfl, -, -⟩ := hu_.form
  replace hI_ := name_st hI_
  obtain ⟨st9, hst, hI_⟩ := hI_
  have q01_9 := Lib.hid (show (st9 0 1).q = [] by rw [hst]; simp [upd])
  clear hst
  have h9 := Lib.hid hI_; have hb9 := Lib.hid (hb8.out.trans (h8.out.low2 (by decide) (by decide) ht_ hb8.out.size)); have hu9 := Lib.hid hu_
  have hg9 := Lib.hid (h8.out.keeps (by decide) (by decide) ht_ hg8.out (by decide) (by decide))
  clear hI_ ht_ hu_ h8 hb8 hg8 q00_7 q01_7 q10_7 q11_7
  go_wp2_with fail
  obtain ⟨wa, hwa, hba_, hma_, -⟩ := boxes1 w9 [.int .i64 0, .bool false, .int .i64 0, .int .u64 0, .slice none 0 0, .slice (some A4) 1 c4, .slice none 0 0] 31
  have ha := Lib.hid (h9.out.below hba_); have hba := Lib.hid (chainB hb9.out hba_ hb9.out.size); have hga := Lib.hid (hg9.out.below hba_); have hua := Lib.hid (hu9.out.below hba_); have hma := Lib.hid hma_; have n9 := Lib.hid (show w9.heap.size < wa.heap.size from hma_.lt)
  clear h9 hb9 hg9 hu9 hba_ hma_
  simp only [hwa]
  refine (ha.out.takeNone (f := 0) (t := 1) (by decide) (by decide) q01_9.out).mono ?_
  rintro e w10 ⟨rfl, hb_⟩
  have hbb := Lib.hid (chainB hba.out hb_ hba.out.size); have hgb := Lib.hid (hga.out.below hb_); have hub := Lib.hid (hua.out.below hb_); have hmb := Lib.hid (hma.out.below hb_)
  clear ha hba hga hua hma hb_ q01_9 hwa
  go_wp2_with fail
  obtain ⟨wc, hwc, hbc_, -, -⟩ := boxes1 w10 [.int .i64 0, .bool false, .int .i64 0, .int .u64 0, .slice none 0 0, .slice none 0 0, .slice none 0 0] 31
  have hbc := Lib.hid (chainB hbb.out hbc_ hbb.out.size); have hgc := Lib.hid (hgb.out.below hbc_); have huc := Lib.hid (hub.out.below hbc_); have hmc := Lib.hid (hmb.out.below hbc_)
  clear hbb hgb hub hmb hbc_
  simp only [hwc]
  refine (newNone_any _).mono ?_
  rintro e w11 ⟨rfl, rfl⟩
  obtain ⟨X, cX, Y, dY, ex, x0, y2⟩ := huc.out.cells
  obtain ⟨rfl, rfl⟩ : A4 = ⟨X, 0, none⟩ ∧ c4 = cX := by simpa using ex
  have m5 := hmc.out.cell 5 rfl
  have hgt : ∀ i x, ([.int .i64 0, .int .i64 0, .int .i64 0, .int .i64 1] : List Value)[i]? = some x → cs[i]? = some x := fun i x hx => by
    rw [show ([.int .i64 0, .int .i64 0, .int .i64 0, .int .i64 1] : List Value) = pairC [(0, 0), (0, 1)] from rfl, ← htH.out, List.getElem?_take] at hx
    split at hx
    · exact hx
    · cases hx
  have g0 := hgc.out.cell 0 (hgt 0 _ rfl); have g1 := hgc.out.cell 1 (hgt 1 _ rfl); have g2 := hgc.out.cell 2 (hgt 2 _ rfl); have g3 := hgc.out.cell 3 (hgt 3 _ rfl)
  clear hgt hwc ex
  have ee0 : ∀ w, (Op.equalIn 10000 81 (.agg #[.int .i64 0, .int .i64 0]) (.agg #[.int .i64 0, .int .i64 0])).run Try.prog w = .ok true w := fun w => by kernel_rfl
  have ee1 : ∀ w, (Op.equalIn 10000 81 (.agg #[.int .i64 0, .int .i64 1]) (.agg #[.int .i64 0, .int .i64 1])).run Try.prog w = .ok true w := fun w => by kernel_rfl
  go_wp2_with fail
  go_ret
  exact ⟨rfl, hbc.out⟩
end Go.Proofs.Ytpghndmfdmimmaa
