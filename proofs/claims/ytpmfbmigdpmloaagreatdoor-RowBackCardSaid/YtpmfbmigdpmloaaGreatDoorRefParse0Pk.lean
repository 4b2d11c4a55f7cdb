/-
  Texts that belong together: RefParse0. What each one says stands ahead of it.
-/
import Derived.Test.YtpmfbmigdpmloaaGreatDoorKmPk
import Derived.Test.YtpmfbmigdpmloaaGreatDoorPk07
import Derived.Test.YtpmfbmigdpmloaaGreatDoorRefUnqPk
import Derived.Test.YtpmfbmigdpmloaaGreatDoorPk05
import Derived.Deep.RegionHeld3
/-
  Plain mathematics: a number's digits, read one by one; what is written of a datum that is no text. No condition but those written.
  What the document's own Parse answers, at this program: the datum that may be and is written so, if there is one: of no byte, of more than 20 that are no text, of the three words, of what stands between quotes. Condition: the text has at most 2^40 bytes.
-/
set_option linter.unusedVariables false
set_option linter.unusedSimpArgs false
namespace Go.Proofs.YtpmfbmigdpmloaaGreatDoor
open Go.RowKit Go.Lib

/-- What is known at a place of a number's digits. -/
def InvD (s : ByteArray) (p : Nat) (z : Int) : Prop :=
  ∀ v, I64 v → s.data.toList = itoa v → (1 ≤ p ∨ 0 ≤ v) → (s.data.toList.drop p).foldl (fun a b => 10 * a + (b.toNat - 48)) z.toNat = v.natAbs
theorem neg_head {s : ByteArray} {v : Int} (h : s.data.toList = itoa v) (hp : 0 < s.size) : (v < 0 ↔ (s.get! 0).toNat = 45) := by
  have e := toList_drop s 0 hp
  rw [List.drop_zero, h] at e
  unfold itoa at e
  constructor
  · intro hv
    rw [if_pos hv] at e
    rw [← (List.cons.inj e).1]
    rfl
  · intro hc
    by_cases hv : v < 0
    · exact hv
    · rw [if_neg hv, show s.get! 0 = 45 from UInt8.toNat_inj.1 hc] at e
      exact absurd e (dec_no45 _ _)
theorem invD_start (s : ByteArray) : InvD s 0 0 := by
  intro v hv h hp
  have h0 : 0 ≤ v := by omega
  rw [List.drop_zero, h]
  unfold itoa
  rw [if_neg (by omega)]
  have := dval_dec v.toNat
  unfold dval at this
  rw [show (0 : Int).toNat = 0 from rfl, this]
  omega
theorem invD_minus {s : ByteArray} (hp : 0 < s.size) (hc : (s.get! 0).toNat = 45) : InvD s 1 0 := by
  intro v hv h _
  have hneg := (neg_head h hp).2 hc
  rw [h]
  unfold itoa
  rw [if_pos hneg]
  exact dval_dec _
theorem invD_step {s : ByteArray} {p : Nat} {z : Int} (hz : 0 ≤ z) (hp : p < s.size) (hc : 1 ≤ p ∨ (s.get! p).toNat ≠ 45) (h1 : 48 ≤ (s.get! p).toNat) (hi : InvD s p z) {z' : Int} (hz' : 10 * z + ((s.get! p).toNat - 48 : Int) < 18446744073709551616 → z' = 10 * z + ((s.get! p).toNat - 48 : Int)) : InvD s (p + 1) z' := by
  intro v hv h _
  have hpre : 1 ≤ p ∨ 0 ≤ v := by
    rcases hc with hc | hc
    · exact .inl hc
    · by_cases h0 : 1 ≤ p
      · exact .inl h0
      · obtain rfl : p = 0 := by omega
        refine .inr ?_
        have := neg_head h hp
        omega
  have hf := hi v hv h hpre
  rw [toList_drop s p hp, List.foldl_cons] at hf
  have hle := fold_le (s.data.toList.drop (p + 1)) (10 * z.toNat + ((s.get! p).toNat - 48))
  rw [hf] at hle
  obtain ⟨v1, v2⟩ := hv
  have e := hz' (by omega)
  rw [e, show (10 * z + ((s.get! p).toNat - 48 : Int)).toNat = 10 * z.toNat + ((s.get! p).toNat - 48) by omega]
  exact hf
theorem invD_end {s : ByteArray} {p : Nat} {z : Int} (hz : 0 ≤ z) (hp : s.size ≤ p) (h0 : 0 < s.size) (hi : InvD s p z) {v : Int} (hv : I64 v) (h : s.data.toList = itoa v) : z = v.natAbs := by
  have := hi v hv h (.inl (by omega))
  rw [List.drop_eq_nil_of_le (by rw [size_list]; exact hp)] at this
  rw [← this]
  simp; omega
theorem itoa_digit {s : ByteArray} {p : Nat} {v : Int} (h : s.data.toList = itoa v) (hp : p < s.size) (hc : 1 ≤ p ∨ (s.get! p).toNat ≠ 45) : 48 ≤ (s.get! p).toNat ∧ (s.get! p).toNat ≤ 57 := by
  have hm : s.get! p ∈ s.data.toList.drop p := by rw [toList_drop s p hp]; simp
  rw [h] at hm
  unfold itoa at hm
  by_cases hv : v < 0
  · rw [if_pos hv] at hm
    cases p with
    | zero =>
      have := (neg_head h hp).1 hv
      omega
    | succ q =>
      rw [List.drop_succ_cons] at hm
      exact dec_range _ _ (List.mem_of_mem_drop hm)
  · rw [if_neg hv] at hm
    exact dec_range _ _ (List.mem_of_mem_drop hm)
/-- Is it between quotes? -/
def Quoted (s : ByteArray) : Prop := 2 ≤ s.size ∧ (s.get! 0).toNat = 39 ∧ (s.get! (s.size - 1)).toNat = 39
theorem quoteL_quoted {s : ByteArray} {l : List UInt8} (h : s.data.toList = quoteL l) : Quoted s := by
  have hz : s.size = (l.flatMap escB).length + 2 := by rw [← size_list, h]; unfold quoteL; simp
  have e0 := toList_drop s 0 (by omega)
  rw [List.drop_zero, h] at e0
  unfold quoteL at e0
  have e1 := toList_drop s (s.size - 1) (by omega)
  rw [h, hz] at e1
  unfold quoteL at e1
  rw [show (l.flatMap escB).length + 2 - 1 = (l.flatMap escB).length + 1 by omega, List.drop_succ_cons, List.drop_append, List.drop_eq_nil_of_le (by omega), Nat.sub_self, List.nil_append, List.drop_zero] at e1
  refine ⟨by omega, ?_, ?_⟩
  · rw [← (List.cons.inj e0).1]; rfl
  · rw [hz, show (l.flatMap escB).length + 2 - 1 = (l.flatMap escB).length + 1 by omega, ← (List.cons.inj e1).1]; rfl
theorem plain_any {d : Dat} {s : ByteArray} (h : okD d = true) (he : s.data.toList = printS d) (hq : ¬ Quoted s) (n1 : (s.toList == [110, 117, 108, 108]) = false) (n2 : (s.toList == [116, 114, 117, 101]) = false) (n3 : (s.toList == [102, 97, 108, 115, 101]) = false) : ∃ n, d = intD n ∧ s.data.toList = itoa n := by
  cases hp : Lib.hasPrefix s.data.toList [39] with
  | true =>
    obtain ⟨x, _, _, hx⟩ := quoted_text h he hp
    exact absurd (quoteL_quoted hx) hq
  | false => exact plain_int h he hp (list_ne n1) (list_ne n2) (list_ne n3)
theorem quoted_prefix {s : ByteArray} (h : Quoted s) : Lib.hasPrefix s.data.toList [39] = true := by
  obtain ⟨h1, h2, _⟩ := h
  have e0 := toList_drop s 0 (by omega)
  rw [List.drop_zero, show s.get! 0 = 39 from UInt8.toNat_inj.1 h2] at e0
  rw [e0]
  show List.isPrefixOf [39] (39 :: _) = true
  simp
/-- What is between the quotes. -/
theorem quoted_mid {s : ByteArray} {l : List UInt8} (h : s.data.toList = quoteL l) : (s.extract 1 (s.size - 1)).data.toList = l.flatMap escB := mid_list h
open Go.RowKit Go.Lib

/-- What the document's own Parse answers. -/
def OutY (s : ByteArray) (e : Ending) : Prop := ∃ d z, e = .returned (refV (d, z)) ∧ ParsedR s d z
/-- Four fields written. -/
def st4 (W : World) (b : Nat) (c0 c1 c2 c3 : Value) : World := (((W.setCell ⟨b, 0, none⟩ c0).setCell ⟨b, 1, none⟩ c1).setCell ⟨b, 2, none⟩ c2).setCell ⟨b, 3, none⟩ c3
theorem Has.other {W : World} {b p i : Nat} {c0 c1 c2 c3 v : Value} (h : Has W b c0 c1 c2 c3) (hne : b ≠ p) : Has (W.setCell ⟨p, i, none⟩ v) b c0 c1 c2 c3 := (Go.Deep.blk_setCell_other W _ v b hne).trans h
theorem Has.set {W : World} {b : Nat} {z0 z1 z2 z3 : Value} (h : Has W b z0 z1 z2 z3) (c0 c1 c2 c3 : Value) : Has (st4 W b c0 c1 c2 c3) b c0 c1 c2 c3 := by
  unfold Has at h
  unfold st4 Has World.setCell
  simp [Array.getElem?_modify, h]
theorem below_st4 {B : Nat} {W0 W : World} {b : Nat} (h : Below B W0 W) (hB : B ≤ b) (c0 c1 c2 c3 : Value) : Below B W0 (st4 W b c0 c1 c2 c3) :=
  (((h.setCell (p := ⟨b, 0, none⟩) hB c0).setCell (p := ⟨b, 1, none⟩) hB c1).setCell (p := ⟨b, 2, none⟩) hB c2).setCell (p := ⟨b, 3, none⟩) hB c3
/-- Where the two variables lie, and what they hold. -/
def Cur (w W : World) (c0 c1 c2 c3 : Value) : Prop := Has W w.heap.size (.int .u8 0) (.bool false) (.int .i64 0) (.string ⟨#[]⟩) ∧ Has W (w.heap.size + 1) c0 c1 c2 c3 ∧ Below w.heap.size w W
theorem Cur.start (w : World) : Cur w ((w.alloc (.cells #[.int .u8 0, .bool false, .int .i64 0, .string ⟨#[]⟩] 60)).alloc (.cells #[.int .u8 0, .bool false, .int .i64 0, .string ⟨#[]⟩] 60)) (.int .u8 0) (.bool false) (.int .i64 0) (.string ⟨#[]⟩) := by
  refine ⟨(Has.new _ _ _ _ _).alloc _, ?_, by go_grown⟩
  have := Has.new (w.alloc (.cells #[.int .u8 0, .bool false, .int .i64 0, .string ⟨#[]⟩] 60)) (.int .u8 0) (.bool false) (.int .i64 0) (.string ⟨#[]⟩)
  simpa only [World.size_alloc] using this
theorem Cur.below {w W W' : World} {c0 c1 c2 c3 : Value} (h : Cur w W c0 c1 c2 c3) (hb : Below W.heap.size W W') : Cur w W' c0 c1 c2 c3 := ⟨h.1.below hb, h.2.1.below hb, h.2.2.trans (hb.mono h.2.2.size)⟩
theorem Cur.set {w W : World} {z0 z1 z2 z3 : Value} (h : Cur w W z0 z1 z2 z3) (c0 c1 c2 c3 : Value) : Cur w (st4 W (w.heap.size + 1) c0 c1 c2 c3) c0 c1 c2 c3 :=
  ⟨(((h.1.other (by omega)).other (by omega)).other (by omega)).other (by omega), h.2.1.set c0 c1 c2 c3, below_st4 h.2.2 (by omega) _ _ _ _⟩
theorem nDigits_le : ∀ k n : Nat, n < 10 ^ (k + 1) → (decDigits n).length ≤ k + 1
  | 0, n, h => by rw [decDigits, dif_pos (by omega)]; simp
  | k + 1, n, h => by
    by_cases h1 : n < 10
    · rw [decDigits, dif_pos h1]; simp
    · have := nDigits_le k (n / 10) (by rw [Nat.pow_succ] at h; omega)
      rw [dec_big h1, List.length_append, List.length_singleton]; omega
theorem itoa_20 {v : Int} (h : I64 v) : (itoa v).length ≤ 20 := by
  obtain ⟨h1, h2⟩ := h
  unfold itoa
  by_cases hv : v < 0
  · rw [if_pos hv, List.length_cons]
    have := nDigits_le 18 v.natAbs (by omega)
    omega
  · rw [if_neg hv]
    have := nDigits_le 18 v.toNat (by omega)
    omega
theorem itoa_ne (v : Int) : itoa v ≠ [] := by
  unfold itoa
  by_cases hv : v < 0
  · rw [if_pos hv]; exact List.cons_ne_nil _ _
  · rw [if_neg hv]; exact dec_ne _
theorem not_quoted {s : ByteArray} (h : s.size < 2 ∨ (s.get! 0).toNat ≠ 39 ∨ (s.get! (s.size - 1)).toNat ≠ 39) : ¬ Quoted s := by
  rintro ⟨h1, h2, h3⟩
  rcases h with h | h | h
  · omega
  · exact h h2
  · exact h h3
theorem wrap_I64 (x : Int) : I64 (IntKind.i64.wrap x) := by rw [IntKind.wrap_i64]; unfold I64; omega
theorem pos_val {s : ByteArray} {p : Nat} {z v : Int} (hz : 0 ≤ z) (hp : s.size ≤ p) (h0 : 0 < s.size) (hi : InvD s p z) (hc : (s.get! 0).toNat ≠ 45) (hv : I64 v) (h : s.data.toList = itoa v) : IntKind.i64.wrap z = v := by
  have e := invD_end hz hp h0 hi hv h
  have hn := neg_head h h0
  obtain ⟨h1, h2⟩ := hv
  rw [IntKind.wrap_i64]; omega
theorem neg_val {s : ByteArray} {p : Nat} {z v : Int} (hz : 0 ≤ z) (hp : s.size ≤ p) (h0 : 0 < s.size) (hi : InvD s p z) (hc : (s.get! 0).toNat = 45) (hv : I64 v) (h : s.data.toList = itoa v) : IntKind.i64.wrap (-(IntKind.i64.wrap z)) = v := by
  have e := invD_end hz hp h0 hi hv h
  have hn := neg_head h h0
  obtain ⟨h1, h2⟩ := hv
  rw [IntKind.wrap_i64, IntKind.wrap_i64]; omega
/-- A text that no datum is written as. -/
theorem outY_bad {s : ByteArray} (h : ∀ d', okD d' = true → I64 d'.n → s.data.toList ≠ printS d') : OutY s (.returned (refV (zeroD, 13))) := ⟨_, _, rfl, .inr ⟨rfl, rfl, h⟩⟩
theorem no_digit {s : ByteArray} {p : Nat} (hp : p < s.size) (hq : ¬ Quoted s) (n1 : (s.toList == [110, 117, 108, 108]) = false) (n2 : (s.toList == [116, 114, 117, 101]) = false) (n3 : (s.toList == [102, 97, 108, 115, 101]) = false) (hc : 1 ≤ p ∨ (s.get! p).toNat ≠ 45) (hd : ¬ (48 ≤ (s.get! p).toNat ∧ (s.get! p).toNat ≤ 57)) : OutY s (.returned (refV (zeroD, 13))) :=
  outY_bad fun d' h1 h2 h3 => by
    obtain ⟨v, _, e⟩ := plain_any h1 h3 hq n1 n2 n3
    exact hd (itoa_digit e hp hc)
set_option maxHeartbeats 8000000 in
set_option maxRecDepth 1000000 in
theorem refParse_E0 (s : ByteArray) (w : World) (h0 : s.size = 0) (n1 : (s.toList == [110, 117, 108, 108]) = false) (n2 : (s.toList == [116, 114, 117, 101]) = false) (n3 : (s.toList == [102, 97, 108, 115, 101]) = false) :
    Calls Tryz.prog 45 #[.string s] w fun e w' => OutY s e ∧ Below w.heap.size w w' := by
  have hallH := Lib.hid (show ∀ d', okD d' = true → I64 d'.n → s.data.toList = printS d' → (⟨0, false, 0, ⟨#[]⟩⟩ : Dat) = d' from fun d' h1 h2 h3 => by
    exfalso
    obtain ⟨v, hv, e⟩ := plain_any h1 h3 (not_quoted (by omega)) n1 n2 n3
    have hl := congrArg List.length e
    rw [size_list] at hl
    have := itoa_20 (v := v) (by rw [hv] at h2; exact h2)
    have h0 : (itoa v).length ≠ 0 := fun h => itoa_ne v (List.eq_nil_of_length_eq_zero h)
    omega)
  have htB := Lib.hid (show (⟨#[]⟩ : ByteArray).size ≤ 140737488355328 by decide); have hnH := Lib.hid (show I64 0 by unfold I64; decide)
  have hC := Lib.hid (Cur.start w)
  obtain ⟨r0_, r1_, r2_, r3_⟩ := hC.out.1.cells; obtain ⟨f0_, f1_, f2_, f3_⟩ := hC.out.1.free; obtain ⟨a0_, a1_, a2_, a3_⟩ := hC.out.2.1.cells; obtain ⟨g0_, g1_, g2_, g3_⟩ := hC.out.2.1.free; have hz_ := hC.out.1.lt; have hy_ := hC.out.2.1.lt
  go_enter Tryz.func45, Tryz.ntmps45
  obtain ⟨c, hc⟩ : ∃ c, chk ⟨0, false, 0, ⟨#[]⟩⟩ = c := ⟨_, rfl⟩
  have hcH := Lib.hid hc
  by_cases hc0 : c = 0
  · obtain ⟨p, hp⟩ : ∃ p, (⟨(printS ⟨0, false, 0, ⟨#[]⟩⟩).toArray⟩ : ByteArray) = p := ⟨_, rfl⟩
    have hok : okD ⟨0, false, 0, ⟨#[]⟩⟩ = true := by unfold okD; rw [hc, hc0]; rfl
    have hpl : printS ⟨0, false, 0, ⟨#[]⟩⟩ = p.data.toList := by rw [← hp]
    have hpH := Lib.hid hp
    clear hp hc
    subst hc0
    by_cases he : p.data.toList = s.data.toList
    · have heB : (p.toList == s.toList) = true := by
        rw [beq_iff_eq, ByteArray.toList_eq, ByteArray.toList_eq]; exact he
      have hps : p = s := bytes_ext he
      have houtH := Lib.hid (show OutY s (.returned (refV (⟨0, false, 0, ⟨#[]⟩⟩, 0))) from ⟨_, _, rfl, .inl ⟨hok, hnH.out, by rw [← he, hpl], rfl⟩⟩)
      clear hok hpl he hps
      go_wp2_with (first
        | (go_at_call 36; go_must (refine (refCheck_any 0 false 0 ⟨#[]⟩ _ htB.out).mono ?_; rw [hcH.out]; rintro e w' ⟨rfl, hb'⟩; replace hC := Lib.hid ((hC.out).below hb'); clear hb'; clear r0_ r1_ r2_ r3_ f0_ f1_ f2_ f3_ a0_ a1_ a2_ a3_ g0_ g1_ g2_ g3_ hz_ hy_; obtain ⟨r0_, r1_, r2_, r3_⟩ := hC.out.1.cells; obtain ⟨f0_, f1_, f2_, f3_⟩ := hC.out.1.free; obtain ⟨a0_, a1_, a2_, a3_⟩ := hC.out.2.1.cells; obtain ⟨g0_, g1_, g2_, g3_⟩ := hC.out.2.1.free; have hz_ := hC.out.1.lt; have hy_ := hC.out.2.1.lt))
        | (go_at_call 34; go_must (refine (refPrint_any 0 false 0 ⟨#[]⟩ _ htB.out hnH.out).mono ?_; rw [hpH.out]; rintro e w' ⟨rfl, hb'⟩; replace hC := Lib.hid ((hC.out).below hb'); clear hb'; clear r0_ r1_ r2_ r3_ f0_ f1_ f2_ f3_ a0_ a1_ a2_ a3_ g0_ g1_ g2_ g3_ hz_ hy_; obtain ⟨r0_, r1_, r2_, r3_⟩ := hC.out.1.cells; obtain ⟨f0_, f1_, f2_, f3_⟩ := hC.out.1.free; obtain ⟨a0_, a1_, a2_, a3_⟩ := hC.out.2.1.cells; obtain ⟨g0_, g1_, g2_, g3_⟩ := hC.out.2.1.free; have hz_ := hC.out.1.lt; have hy_ := hC.out.2.1.lt)))
      refine bodyPost_ret (v := .tuple #[.agg #[.int .u8 0, .bool false, .int .i64 0, .string ⟨#[]⟩], .int .i64 0]) (by simp [results, Tryz.results45, go_sem, r0_, r1_, r2_, r3_, a0_, a1_, a2_, a3_, hz_, hy_]) rfl ⟨?_, ?_⟩
      · exact houtH.out
      · have hbw := hC.out.2.2
        clear hC
        go_grown
    · have heB : (p.toList == s.toList) = false := by
        rw [beq_eq_false_iff_ne, ByteArray.toList_eq, ByteArray.toList_eq]; exact he
      have houtH := Lib.hid (show OutY s (.returned (refV (zeroD, 13))) from outY_bad fun d' h1 h2 h3 => he (by rw [← hpl, h3, ← hallH.out d' h1 h2 h3]))
      clear hok hpl he
      go_wp2_with (first
        | (go_at_call 36; go_must (refine (refCheck_any 0 false 0 ⟨#[]⟩ _ htB.out).mono ?_; rw [hcH.out]; rintro e w' ⟨rfl, hb'⟩; replace hC := Lib.hid ((hC.out).below hb'); clear hb'; clear r0_ r1_ r2_ r3_ f0_ f1_ f2_ f3_ a0_ a1_ a2_ a3_ g0_ g1_ g2_ g3_ hz_ hy_; obtain ⟨r0_, r1_, r2_, r3_⟩ := hC.out.1.cells; obtain ⟨f0_, f1_, f2_, f3_⟩ := hC.out.1.free; obtain ⟨a0_, a1_, a2_, a3_⟩ := hC.out.2.1.cells; obtain ⟨g0_, g1_, g2_, g3_⟩ := hC.out.2.1.free; have hz_ := hC.out.1.lt; have hy_ := hC.out.2.1.lt))
        | (go_at_call 34; go_must (refine (refPrint_any 0 false 0 ⟨#[]⟩ _ htB.out hnH.out).mono ?_; rw [hpH.out]; rintro e w' ⟨rfl, hb'⟩; replace hC := Lib.hid ((hC.out).below hb'); clear hb'; clear r0_ r1_ r2_ r3_ f0_ f1_ f2_ f3_ a0_ a1_ a2_ a3_ g0_ g1_ g2_ g3_ hz_ hy_; obtain ⟨r0_, r1_, r2_, r3_⟩ := hC.out.1.cells; obtain ⟨f0_, f1_, f2_, f3_⟩ := hC.out.1.free; obtain ⟨a0_, a1_, a2_, a3_⟩ := hC.out.2.1.cells; obtain ⟨g0_, g1_, g2_, g3_⟩ := hC.out.2.1.free; have hz_ := hC.out.1.lt; have hy_ := hC.out.2.1.lt)))
      refine bodyPost_ret (v := .tuple #[.agg #[.int .u8 0, .bool false, .int .i64 0, .string ⟨#[]⟩], .int .i64 13]) (by simp [results, Tryz.results45, go_sem, r0_, r1_, r2_, r3_, a0_, a1_, a2_, a3_, hz_, hy_]) rfl ⟨?_, ?_⟩
      · exact houtH.out
      · have hbw := hC.out.2.2
        clear hC
        go_grown
  · have houtH := Lib.hid (show OutY s (.returned (refV (zeroD, 13))) from outY_bad fun d' h1 h2 h3 => by
      have hd := hallH.out d' h1 h2 h3
      rw [← hd] at h1
      unfold okD at h1
      rw [hc] at h1
      exact hc0 (of_decide_eq_true h1))
    have hc2 : (c != 0) = true := by simpa using hc0
    clear hc hc0
    go_wp2_with (first
      | (go_at_call 36; go_must (refine (refCheck_any 0 false 0 ⟨#[]⟩ _ htB.out).mono ?_; rw [hcH.out]; rintro e w' ⟨rfl, hb'⟩; replace hC := Lib.hid ((hC.out).below hb'); clear hb'; clear r0_ r1_ r2_ r3_ f0_ f1_ f2_ f3_ a0_ a1_ a2_ a3_ g0_ g1_ g2_ g3_ hz_ hy_; obtain ⟨r0_, r1_, r2_, r3_⟩ := hC.out.1.cells; obtain ⟨f0_, f1_, f2_, f3_⟩ := hC.out.1.free; obtain ⟨a0_, a1_, a2_, a3_⟩ := hC.out.2.1.cells; obtain ⟨g0_, g1_, g2_, g3_⟩ := hC.out.2.1.free; have hz_ := hC.out.1.lt; have hy_ := hC.out.2.1.lt))
      | (go_at_call 34; go_must (refine (refPrint_any 0 false 0 ⟨#[]⟩ _ htB.out hnH.out).mono ?_; rw [hpH.out]; rintro e w' ⟨rfl, hb'⟩; replace hC := Lib.hid ((hC.out).below hb'); clear hb'; clear r0_ r1_ r2_ r3_ f0_ f1_ f2_ f3_ a0_ a1_ a2_ a3_ g0_ g1_ g2_ g3_ hz_ hy_; obtain ⟨r0_, r1_, r2_, r3_⟩ := hC.out.1.cells; obtain ⟨f0_, f1_, f2_, f3_⟩ := hC.out.1.free; obtain ⟨a0_, a1_, a2_, a3_⟩ := hC.out.2.1.cells; obtain ⟨g0_, g1_, g2_, g3_⟩ := hC.out.2.1.free; have hz_ := hC.out.1.lt; have hy_ := hC.out.2.1.lt)))
    refine bodyPost_ret (v := .tuple #[.agg #[.int .u8 0, .bool false, .int .i64 0, .string ⟨#[]⟩], .int .i64 13]) (by simp [results, Tryz.results45, go_sem, r0_, r1_, r2_, r3_, a0_, a1_, a2_, a3_, hz_, hy_]) rfl ⟨?_, ?_⟩
    · exact houtH.out
    · have hbw := hC.out.2.2
      clear hC
      go_grown
set_option maxHeartbeats 8000000 in
set_option maxRecDepth 1000000 in
theorem refParse_E1 (s : ByteArray) (w : World) (h0 : 20 < s.size) (hs : s.size ≤ 1099511627776) (hq : (s.get! 0).toNat ≠ 39) (n1 : (s.toList == [110, 117, 108, 108]) = false) (n2 : (s.toList == [116, 114, 117, 101]) = false) (n3 : (s.toList == [102, 97, 108, 115, 101]) = false) :
    Calls Tryz.prog 45 #[.string s] w fun e w' => OutY s e ∧ Below w.heap.size w w' := by
  have hallH := Lib.hid (show ∀ d', okD d' = true → I64 d'.n → s.data.toList = printS d' → (⟨0, false, 0, ⟨#[]⟩⟩ : Dat) = d' from fun d' h1 h2 h3 => by
    exfalso
    obtain ⟨v, hv, e⟩ := plain_any h1 h3 (not_quoted (by exact .inr (.inl hq))) n1 n2 n3
    have hl := congrArg List.length e
    rw [size_list] at hl
    have := itoa_20 (v := v) (by rw [hv] at h2; exact h2)
    have h0 : (itoa v).length ≠ 0 := fun h => itoa_ne v (List.eq_nil_of_length_eq_zero h)
    omega)
  have htB := Lib.hid (show (⟨#[]⟩ : ByteArray).size ≤ 140737488355328 by decide); have hnH := Lib.hid (show I64 0 by unfold I64; decide)
  have hx0 := fun w' => idx_run s 0 0 rfl (by omega) w'
  have hq' := hq; obtain ⟨c, hc⟩ : ∃ c, bt s (0) = c := ⟨_, rfl⟩
  rw [hc] at hx0
  have hcH := Lib.hid (show (s.get! (0)).toNat = c from hc)
  clear hc
  rw [hcH.out] at hq
  clear hq'
  have d0 : ((c : Int) == 39) = false := by simp; omega
  have hC := Lib.hid (Cur.start w)
  obtain ⟨r0_, r1_, r2_, r3_⟩ := hC.out.1.cells; obtain ⟨f0_, f1_, f2_, f3_⟩ := hC.out.1.free; obtain ⟨a0_, a1_, a2_, a3_⟩ := hC.out.2.1.cells; obtain ⟨g0_, g1_, g2_, g3_⟩ := hC.out.2.1.free; have hz_ := hC.out.1.lt; have hy_ := hC.out.2.1.lt
  go_enter Tryz.func45, Tryz.ntmps45
  obtain ⟨c, hc⟩ : ∃ c, chk ⟨0, false, 0, ⟨#[]⟩⟩ = c := ⟨_, rfl⟩
  have hcH := Lib.hid hc
  by_cases hc0 : c = 0
  · obtain ⟨p, hp⟩ : ∃ p, (⟨(printS ⟨0, false, 0, ⟨#[]⟩⟩).toArray⟩ : ByteArray) = p := ⟨_, rfl⟩
    have hok : okD ⟨0, false, 0, ⟨#[]⟩⟩ = true := by unfold okD; rw [hc, hc0]; rfl
    have hpl : printS ⟨0, false, 0, ⟨#[]⟩⟩ = p.data.toList := by rw [← hp]
    have hpH := Lib.hid hp
    clear hp hc
    subst hc0
    by_cases he : p.data.toList = s.data.toList
    · have heB : (p.toList == s.toList) = true := by
        rw [beq_iff_eq, ByteArray.toList_eq, ByteArray.toList_eq]; exact he
      have hps : p = s := bytes_ext he
      have houtH := Lib.hid (show OutY s (.returned (refV (⟨0, false, 0, ⟨#[]⟩⟩, 0))) from ⟨_, _, rfl, .inl ⟨hok, hnH.out, by rw [← he, hpl], rfl⟩⟩)
      clear hok hpl he hps
      go_wp2_with (first
        | (go_at_call 36; go_must (refine (refCheck_any 0 false 0 ⟨#[]⟩ _ htB.out).mono ?_; rw [hcH.out]; rintro e w' ⟨rfl, hb'⟩; replace hC := Lib.hid ((hC.out).below hb'); clear hb'; clear r0_ r1_ r2_ r3_ f0_ f1_ f2_ f3_ a0_ a1_ a2_ a3_ g0_ g1_ g2_ g3_ hz_ hy_; obtain ⟨r0_, r1_, r2_, r3_⟩ := hC.out.1.cells; obtain ⟨f0_, f1_, f2_, f3_⟩ := hC.out.1.free; obtain ⟨a0_, a1_, a2_, a3_⟩ := hC.out.2.1.cells; obtain ⟨g0_, g1_, g2_, g3_⟩ := hC.out.2.1.free; have hz_ := hC.out.1.lt; have hy_ := hC.out.2.1.lt))
        | (go_at_call 34; go_must (refine (refPrint_any 0 false 0 ⟨#[]⟩ _ htB.out hnH.out).mono ?_; rw [hpH.out]; rintro e w' ⟨rfl, hb'⟩; replace hC := Lib.hid ((hC.out).below hb'); clear hb'; clear r0_ r1_ r2_ r3_ f0_ f1_ f2_ f3_ a0_ a1_ a2_ a3_ g0_ g1_ g2_ g3_ hz_ hy_; obtain ⟨r0_, r1_, r2_, r3_⟩ := hC.out.1.cells; obtain ⟨f0_, f1_, f2_, f3_⟩ := hC.out.1.free; obtain ⟨a0_, a1_, a2_, a3_⟩ := hC.out.2.1.cells; obtain ⟨g0_, g1_, g2_, g3_⟩ := hC.out.2.1.free; have hz_ := hC.out.1.lt; have hy_ := hC.out.2.1.lt)))
      refine bodyPost_ret (v := .tuple #[.agg #[.int .u8 0, .bool false, .int .i64 0, .string ⟨#[]⟩], .int .i64 0]) (by simp [results, Tryz.results45, go_sem, r0_, r1_, r2_, r3_, a0_, a1_, a2_, a3_, hz_, hy_]) rfl ⟨?_, ?_⟩
      · exact houtH.out
      · have hbw := hC.out.2.2
        clear hC
        go_grown
    · have heB : (p.toList == s.toList) = false := by
        rw [beq_eq_false_iff_ne, ByteArray.toList_eq, ByteArray.toList_eq]; exact he
      have houtH := Lib.hid (show OutY s (.returned (refV (zeroD, 13))) from outY_bad fun d' h1 h2 h3 => he (by rw [← hpl, h3, ← hallH.out d' h1 h2 h3]))
      clear hok hpl he
      go_wp2_with (first
        | (go_at_call 36; go_must (refine (refCheck_any 0 false 0 ⟨#[]⟩ _ htB.out).mono ?_; rw [hcH.out]; rintro e w' ⟨rfl, hb'⟩; replace hC := Lib.hid ((hC.out).below hb'); clear hb'; clear r0_ r1_ r2_ r3_ f0_ f1_ f2_ f3_ a0_ a1_ a2_ a3_ g0_ g1_ g2_ g3_ hz_ hy_; obtain ⟨r0_, r1_, r2_, r3_⟩ := hC.out.1.cells; obtain ⟨f0_, f1_, f2_, f3_⟩ := hC.out.1.free; obtain ⟨a0_, a1_, a2_, a3_⟩ := hC.out.2.1.cells; obtain ⟨g0_, g1_, g2_, g3_⟩ := hC.out.2.1.free; have hz_ := hC.out.1.lt; have hy_ := hC.out.2.1.lt))
        | (go_at_call 34; go_must (refine (refPrint_any 0 false 0 ⟨#[]⟩ _ htB.out hnH.out).mono ?_; rw [hpH.out]; rintro e w' ⟨rfl, hb'⟩; replace hC := Lib.hid ((hC.out).below hb'); clear hb'; clear r0_ r1_ r2_ r3_ f0_ f1_ f2_ f3_ a0_ a1_ a2_ a3_ g0_ g1_ g2_ g3_ hz_ hy_; obtain ⟨r0_, r1_, r2_, r3_⟩ := hC.out.1.cells; obtain ⟨f0_, f1_, f2_, f3_⟩ := hC.out.1.free; obtain ⟨a0_, a1_, a2_, a3_⟩ := hC.out.2.1.cells; obtain ⟨g0_, g1_, g2_, g3_⟩ := hC.out.2.1.free; have hz_ := hC.out.1.lt; have hy_ := hC.out.2.1.lt)))
      refine bodyPost_ret (v := .tuple #[.agg #[.int .u8 0, .bool false, .int .i64 0, .string ⟨#[]⟩], .int .i64 13]) (by simp [results, Tryz.results45, go_sem, r0_, r1_, r2_, r3_, a0_, a1_, a2_, a3_, hz_, hy_]) rfl ⟨?_, ?_⟩
      · exact houtH.out
      · have hbw := hC.out.2.2
        clear hC
        go_grown
  · have houtH := Lib.hid (show OutY s (.returned (refV (zeroD, 13))) from outY_bad fun d' h1 h2 h3 => by
      have hd := hallH.out d' h1 h2 h3
      rw [← hd] at h1
      unfold okD at h1
      rw [hc] at h1
      exact hc0 (of_decide_eq_true h1))
    have hc2 : (c != 0) = true := by simpa using hc0
    clear hc hc0
    go_wp2_with (first
      | (go_at_call 36; go_must (refine (refCheck_any 0 false 0 ⟨#[]⟩ _ htB.out).mono ?_; rw [hcH.out]; rintro e w' ⟨rfl, hb'⟩; replace hC := Lib.hid ((hC.out).below hb'); clear hb'; clear r0_ r1_ r2_ r3_ f0_ f1_ f2_ f3_ a0_ a1_ a2_ a3_ g0_ g1_ g2_ g3_ hz_ hy_; obtain ⟨r0_, r1_, r2_, r3_⟩ := hC.out.1.cells; obtain ⟨f0_, f1_, f2_, f3_⟩ := hC.out.1.free; obtain ⟨a0_, a1_, a2_, a3_⟩ := hC.out.2.1.cells; obtain ⟨g0_, g1_, g2_, g3_⟩ := hC.out.2.1.free; have hz_ := hC.out.1.lt; have hy_ := hC.out.2.1.lt))
      | (go_at_call 34; go_must (refine (refPrint_any 0 false 0 ⟨#[]⟩ _ htB.out hnH.out).mono ?_; rw [hpH.out]; rintro e w' ⟨rfl, hb'⟩; replace hC := Lib.hid ((hC.out).below hb'); clear hb'; clear r0_ r1_ r2_ r3_ f0_ f1_ f2_ f3_ a0_ a1_ a2_ a3_ g0_ g1_ g2_ g3_ hz_ hy_; obtain ⟨r0_, r1_, r2_, r3_⟩ := hC.out.1.cells; obtain ⟨f0_, f1_, f2_, f3_⟩ := hC.out.1.free; obtain ⟨a0_, a1_, a2_, a3_⟩ := hC.out.2.1.cells; obtain ⟨g0_, g1_, g2_, g3_⟩ := hC.out.2.1.free; have hz_ := hC.out.1.lt; have hy_ := hC.out.2.1.lt)))
    refine bodyPost_ret (v := .tuple #[.agg #[.int .u8 0, .bool false, .int .i64 0, .string ⟨#[]⟩], .int .i64 13]) (by simp [results, Tryz.results45, go_sem, r0_, r1_, r2_, r3_, a0_, a1_, a2_, a3_, hz_, hy_]) rfl ⟨?_, ?_⟩
    · exact houtH.out
    · have hbw := hC.out.2.2
      clear hC
      go_grown
set_option maxHeartbeats 8000000 in
set_option maxRecDepth 1000000 in
theorem refParse_E2 (s : ByteArray) (w : World) (h0 : 20 < s.size) (hs : s.size ≤ 1099511627776) (hq0 : (s.get! 0).toNat = 39) (hq : (s.get! (s.size - 1)).toNat ≠ 39) (n1 : (s.toList == [110, 117, 108, 108]) = false) (n2 : (s.toList == [116, 114, 117, 101]) = false) (n3 : (s.toList == [102, 97, 108, 115, 101]) = false) :
    Calls Tryz.prog 45 #[.string s] w fun e w' => OutY s e ∧ Below w.heap.size w w' := by
  have hallH := Lib.hid (show ∀ d', okD d' = true → I64 d'.n → s.data.toList = printS d' → (⟨0, false, 0, ⟨#[]⟩⟩ : Dat) = d' from fun d' h1 h2 h3 => by
    exfalso
    obtain ⟨v, hv, e⟩ := plain_any h1 h3 (not_quoted (by exact .inr (.inr hq))) n1 n2 n3
    have hl := congrArg List.length e
    rw [size_list] at hl
    have := itoa_20 (v := v) (by rw [hv] at h2; exact h2)
    have h0 : (itoa v).length ≠ 0 := fun h => itoa_ne v (List.eq_nil_of_length_eq_zero h)
    omega)
  have htB := Lib.hid (show (⟨#[]⟩ : ByteArray).size ≤ 140737488355328 by decide); have hnH := Lib.hid (show I64 0 by unfold I64; decide)
  have hx0 := fun w' => idx_run s 0 0 rfl (by omega) w'
  have hx1 := fun w' => idx_run s (s.size - 1) ((s.size : Int) - 1) (by omega) (by omega) w'
  obtain ⟨c0, hc0_⟩ : ∃ c0, bt s (0) = c0 := ⟨_, rfl⟩
  rw [hc0_] at hx0
  have hc0_H := Lib.hid (show (s.get! (0)).toNat = c0 from hc0_)
  clear hc0_
  obtain ⟨c, hc_⟩ : ∃ c, bt s (s.size - 1) = c := ⟨_, rfl⟩
  rw [hc_] at hx1
  have hc_H := Lib.hid (show (s.get! (s.size - 1)).toNat = c from hc_)
  clear hc_
  rw [hc_H.out] at hq
  rw [hc0_H.out] at hq0
  have d0 : ((c0 : Int) == 39) = true := by simp; omega
  have d1 : ((c : Int) == 39) = false := by simp; omega
  have hC := Lib.hid (Cur.start w)
  obtain ⟨r0_, r1_, r2_, r3_⟩ := hC.out.1.cells; obtain ⟨f0_, f1_, f2_, f3_⟩ := hC.out.1.free; obtain ⟨a0_, a1_, a2_, a3_⟩ := hC.out.2.1.cells; obtain ⟨g0_, g1_, g2_, g3_⟩ := hC.out.2.1.free; have hz_ := hC.out.1.lt; have hy_ := hC.out.2.1.lt
  go_enter Tryz.func45, Tryz.ntmps45
  obtain ⟨c, hc⟩ : ∃ c, chk ⟨0, false, 0, ⟨#[]⟩⟩ = c := ⟨_, rfl⟩
  have hcH := Lib.hid hc
  by_cases hc0 : c = 0
  · obtain ⟨p, hp⟩ : ∃ p, (⟨(printS ⟨0, false, 0, ⟨#[]⟩⟩).toArray⟩ : ByteArray) = p := ⟨_, rfl⟩
    have hok : okD ⟨0, false, 0, ⟨#[]⟩⟩ = true := by unfold okD; rw [hc, hc0]; rfl
    have hpl : printS ⟨0, false, 0, ⟨#[]⟩⟩ = p.data.toList := by rw [← hp]
    have hpH := Lib.hid hp
    clear hp hc
    subst hc0
    by_cases he : p.data.toList = s.data.toList
    · have heB : (p.toList == s.toList) = true := by
        rw [beq_iff_eq, ByteArray.toList_eq, ByteArray.toList_eq]; exact he
      have hps : p = s := bytes_ext he
      have houtH := Lib.hid (show OutY s (.returned (refV (⟨0, false, 0, ⟨#[]⟩⟩, 0))) from ⟨_, _, rfl, .inl ⟨hok, hnH.out, by rw [← he, hpl], rfl⟩⟩)
      clear hok hpl he hps
      go_wp2_with (first
        | (go_at_call 36; go_must (refine (refCheck_any 0 false 0 ⟨#[]⟩ _ htB.out).mono ?_; rw [hcH.out]; rintro e w' ⟨rfl, hb'⟩; replace hC := Lib.hid ((hC.out).below hb'); clear hb'; clear r0_ r1_ r2_ r3_ f0_ f1_ f2_ f3_ a0_ a1_ a2_ a3_ g0_ g1_ g2_ g3_ hz_ hy_; obtain ⟨r0_, r1_, r2_, r3_⟩ := hC.out.1.cells; obtain ⟨f0_, f1_, f2_, f3_⟩ := hC.out.1.free; obtain ⟨a0_, a1_, a2_, a3_⟩ := hC.out.2.1.cells; obtain ⟨g0_, g1_, g2_, g3_⟩ := hC.out.2.1.free; have hz_ := hC.out.1.lt; have hy_ := hC.out.2.1.lt))
        | (go_at_call 34; go_must (refine (refPrint_any 0 false 0 ⟨#[]⟩ _ htB.out hnH.out).mono ?_; rw [hpH.out]; rintro e w' ⟨rfl, hb'⟩; replace hC := Lib.hid ((hC.out).below hb'); clear hb'; clear r0_ r1_ r2_ r3_ f0_ f1_ f2_ f3_ a0_ a1_ a2_ a3_ g0_ g1_ g2_ g3_ hz_ hy_; obtain ⟨r0_, r1_, r2_, r3_⟩ := hC.out.1.cells; obtain ⟨f0_, f1_, f2_, f3_⟩ := hC.out.1.free; obtain ⟨a0_, a1_, a2_, a3_⟩ := hC.out.2.1.cells; obtain ⟨g0_, g1_, g2_, g3_⟩ := hC.out.2.1.free; have hz_ := hC.out.1.lt; have hy_ := hC.out.2.1.lt)))
      refine bodyPost_ret (v := .tuple #[.agg #[.int .u8 0, .bool false, .int .i64 0, .string ⟨#[]⟩], .int .i64 0]) (by simp [results, Tryz.results45, go_sem, r0_, r1_, r2_, r3_, a0_, a1_, a2_, a3_, hz_, hy_]) rfl ⟨?_, ?_⟩
      · exact houtH.out
      · have hbw := hC.out.2.2
        clear hC
        go_grown
    · have heB : (p.toList == s.toList) = false := by
        rw [beq_eq_false_iff_ne, ByteArray.toList_eq, ByteArray.toList_eq]; exact he
      have houtH := Lib.hid (show OutY s (.returned (refV (zeroD, 13))) from outY_bad fun d' h1 h2 h3 => he (by rw [← hpl, h3, ← hallH.out d' h1 h2 h3]))
      clear hok hpl he
      go_wp2_with (first
        | (go_at_call 36; go_must (refine (refCheck_any 0 false 0 ⟨#[]⟩ _ htB.out).mono ?_; rw [hcH.out]; rintro e w' ⟨rfl, hb'⟩; replace hC := Lib.hid ((hC.out).below hb'); clear hb'; clear r0_ r1_ r2_ r3_ f0_ f1_ f2_ f3_ a0_ a1_ a2_ a3_ g0_ g1_ g2_ g3_ hz_ hy_; obtain ⟨r0_, r1_, r2_, r3_⟩ := hC.out.1.cells; obtain ⟨f0_, f1_, f2_, f3_⟩ := hC.out.1.free; obtain ⟨a0_, a1_, a2_, a3_⟩ := hC.out.2.1.cells; obtain ⟨g0_, g1_, g2_, g3_⟩ := hC.out.2.1.free; have hz_ := hC.out.1.lt; have hy_ := hC.out.2.1.lt))
        | (go_at_call 34; go_must (refine (refPrint_any 0 false 0 ⟨#[]⟩ _ htB.out hnH.out).mono ?_; rw [hpH.out]; rintro e w' ⟨rfl, hb'⟩; replace hC := Lib.hid ((hC.out).below hb'); clear hb'; clear r0_ r1_ r2_ r3_ f0_ f1_ f2_ f3_ a0_ a1_ a2_ a3_ g0_ g1_ g2_ g3_ hz_ hy_; obtain ⟨r0_, r1_, r2_, r3_⟩ := hC.out.1.cells; obtain ⟨f0_, f1_, f2_, f3_⟩ := hC.out.1.free; obtain ⟨a0_, a1_, a2_, a3_⟩ := hC.out.2.1.cells; obtain ⟨g0_, g1_, g2_, g3_⟩ := hC.out.2.1.free; have hz_ := hC.out.1.lt; have hy_ := hC.out.2.1.lt)))
      refine bodyPost_ret (v := .tuple #[.agg #[.int .u8 0, .bool false, .int .i64 0, .string ⟨#[]⟩], .int .i64 13]) (by simp [results, Tryz.results45, go_sem, r0_, r1_, r2_, r3_, a0_, a1_, a2_, a3_, hz_, hy_]) rfl ⟨?_, ?_⟩
      · exact houtH.out
      · have hbw := hC.out.2.2
        clear hC
        go_grown
  · have houtH := Lib.hid (show OutY s (.returned (refV (zeroD, 13))) from outY_bad fun d' h1 h2 h3 => by
      have hd := hallH.out d' h1 h2 h3
      rw [← hd] at h1
      unfold okD at h1
      rw [hc] at h1
      exact hc0 (of_decide_eq_true h1))
    have hc2 : (c != 0) = true := by simpa using hc0
    clear hc hc0
    go_wp2_with (first
      | (go_at_call 36; go_must (refine (refCheck_any 0 false 0 ⟨#[]⟩ _ htB.out).mono ?_; rw [hcH.out]; rintro e w' ⟨rfl, hb'⟩; replace hC := Lib.hid ((hC.out).below hb'); clear hb'; clear r0_ r1_ r2_ r3_ f0_ f1_ f2_ f3_ a0_ a1_ a2_ a3_ g0_ g1_ g2_ g3_ hz_ hy_; obtain ⟨r0_, r1_, r2_, r3_⟩ := hC.out.1.cells; obtain ⟨f0_, f1_, f2_, f3_⟩ := hC.out.1.free; obtain ⟨a0_, a1_, a2_, a3_⟩ := hC.out.2.1.cells; obtain ⟨g0_, g1_, g2_, g3_⟩ := hC.out.2.1.free; have hz_ := hC.out.1.lt; have hy_ := hC.out.2.1.lt))
      | (go_at_call 34; go_must (refine (refPrint_any 0 false 0 ⟨#[]⟩ _ htB.out hnH.out).mono ?_; rw [hpH.out]; rintro e w' ⟨rfl, hb'⟩; replace hC := Lib.hid ((hC.out).below hb'); clear hb'; clear r0_ r1_ r2_ r3_ f0_ f1_ f2_ f3_ a0_ a1_ a2_ a3_ g0_ g1_ g2_ g3_ hz_ hy_; obtain ⟨r0_, r1_, r2_, r3_⟩ := hC.out.1.cells; obtain ⟨f0_, f1_, f2_, f3_⟩ := hC.out.1.free; obtain ⟨a0_, a1_, a2_, a3_⟩ := hC.out.2.1.cells; obtain ⟨g0_, g1_, g2_, g3_⟩ := hC.out.2.1.free; have hz_ := hC.out.1.lt; have hy_ := hC.out.2.1.lt)))
    refine bodyPost_ret (v := .tuple #[.agg #[.int .u8 0, .bool false, .int .i64 0, .string ⟨#[]⟩], .int .i64 13]) (by simp [results, Tryz.results45, go_sem, r0_, r1_, r2_, r3_, a0_, a1_, a2_, a3_, hz_, hy_]) rfl ⟨?_, ?_⟩
    · exact houtH.out
    · have hbw := hC.out.2.2
      clear hC
      go_grown
set_option maxHeartbeats 8000000 in
set_option maxRecDepth 1000000 in
theorem refParse_null (w : World)  :
    Calls Tryz.prog 45 #[.string ⟨#[110, 117, 108, 108]⟩] w fun e w' => OutY ⟨#[110, 117, 108, 108]⟩ e ∧ Below w.heap.size w w' := by
  have houtH := Lib.hid (show OutY ⟨#[110, 117, 108, 108]⟩ (.returned (refV (⟨1, false, 0, ⟨#[]⟩⟩, 0))) from ⟨_, _, rfl, .inl ⟨by decide, by unfold I64; decide, by decide, rfl⟩⟩)
  have hC := Lib.hid (Cur.start w)
  obtain ⟨r0_, r1_, r2_, r3_⟩ := hC.out.1.cells; obtain ⟨f0_, f1_, f2_, f3_⟩ := hC.out.1.free; obtain ⟨a0_, a1_, a2_, a3_⟩ := hC.out.2.1.cells; obtain ⟨g0_, g1_, g2_, g3_⟩ := hC.out.2.1.free; have hz_ := hC.out.1.lt; have hy_ := hC.out.2.1.lt
  go_enter Tryz.func45, Tryz.ntmps45
  go_wp2_with (first | (go_at_call 72; go_must (refine (refNull_any _).mono ?_; rintro e w' ⟨rfl, hb'⟩; replace hC := Lib.hid ((hC.out).below hb'); clear hb'; clear r0_ r1_ r2_ r3_ f0_ f1_ f2_ f3_ a0_ a1_ a2_ a3_ g0_ g1_ g2_ g3_ hz_ hy_; obtain ⟨r0_, r1_, r2_, r3_⟩ := hC.out.1.cells; obtain ⟨f0_, f1_, f2_, f3_⟩ := hC.out.1.free; obtain ⟨a0_, a1_, a2_, a3_⟩ := hC.out.2.1.cells; obtain ⟨g0_, g1_, g2_, g3_⟩ := hC.out.2.1.free; have hz_ := hC.out.1.lt; have hy_ := hC.out.2.1.lt)) | (go_at_call 73; go_must (refine (refBool_any _ _).mono ?_; rintro e w' ⟨rfl, hb'⟩; replace hC := Lib.hid ((hC.out).below hb'); clear hb'; clear r0_ r1_ r2_ r3_ f0_ f1_ f2_ f3_ a0_ a1_ a2_ a3_ g0_ g1_ g2_ g3_ hz_ hy_; obtain ⟨r0_, r1_, r2_, r3_⟩ := hC.out.1.cells; obtain ⟨f0_, f1_, f2_, f3_⟩ := hC.out.1.free; obtain ⟨a0_, a1_, a2_, a3_⟩ := hC.out.2.1.cells; obtain ⟨g0_, g1_, g2_, g3_⟩ := hC.out.2.1.free; have hz_ := hC.out.1.lt; have hy_ := hC.out.2.1.lt)))
  refine bodyPost_ret (v := .tuple #[.agg #[.int .u8 1, .bool false, .int .i64 0, .string ⟨#[]⟩], .int .i64 0]) (by simp [results, Tryz.results45, go_sem, r0_, r1_, r2_, r3_, a0_, a1_, a2_, a3_, hz_, hy_]) rfl ⟨?_, ?_⟩
  · exact houtH.out
  · have hbw := hC.out.2.2
    clear hC
    go_grown
set_option maxHeartbeats 8000000 in
set_option maxRecDepth 1000000 in
theorem refParse_true (w : World)  :
    Calls Tryz.prog 45 #[.string ⟨#[116, 114, 117, 101]⟩] w fun e w' => OutY ⟨#[116, 114, 117, 101]⟩ e ∧ Below w.heap.size w w' := by
  have houtH := Lib.hid (show OutY ⟨#[116, 114, 117, 101]⟩ (.returned (refV (⟨2, true, 0, ⟨#[]⟩⟩, 0))) from ⟨_, _, rfl, .inl ⟨by decide, by unfold I64; decide, by decide, rfl⟩⟩)
  have hC := Lib.hid (Cur.start w)
  obtain ⟨r0_, r1_, r2_, r3_⟩ := hC.out.1.cells; obtain ⟨f0_, f1_, f2_, f3_⟩ := hC.out.1.free; obtain ⟨a0_, a1_, a2_, a3_⟩ := hC.out.2.1.cells; obtain ⟨g0_, g1_, g2_, g3_⟩ := hC.out.2.1.free; have hz_ := hC.out.1.lt; have hy_ := hC.out.2.1.lt
  go_enter Tryz.func45, Tryz.ntmps45
  go_wp2_with (first | (go_at_call 72; go_must (refine (refNull_any _).mono ?_; rintro e w' ⟨rfl, hb'⟩; replace hC := Lib.hid ((hC.out).below hb'); clear hb'; clear r0_ r1_ r2_ r3_ f0_ f1_ f2_ f3_ a0_ a1_ a2_ a3_ g0_ g1_ g2_ g3_ hz_ hy_; obtain ⟨r0_, r1_, r2_, r3_⟩ := hC.out.1.cells; obtain ⟨f0_, f1_, f2_, f3_⟩ := hC.out.1.free; obtain ⟨a0_, a1_, a2_, a3_⟩ := hC.out.2.1.cells; obtain ⟨g0_, g1_, g2_, g3_⟩ := hC.out.2.1.free; have hz_ := hC.out.1.lt; have hy_ := hC.out.2.1.lt)) | (go_at_call 73; go_must (refine (refBool_any _ _).mono ?_; rintro e w' ⟨rfl, hb'⟩; replace hC := Lib.hid ((hC.out).below hb'); clear hb'; clear r0_ r1_ r2_ r3_ f0_ f1_ f2_ f3_ a0_ a1_ a2_ a3_ g0_ g1_ g2_ g3_ hz_ hy_; obtain ⟨r0_, r1_, r2_, r3_⟩ := hC.out.1.cells; obtain ⟨f0_, f1_, f2_, f3_⟩ := hC.out.1.free; obtain ⟨a0_, a1_, a2_, a3_⟩ := hC.out.2.1.cells; obtain ⟨g0_, g1_, g2_, g3_⟩ := hC.out.2.1.free; have hz_ := hC.out.1.lt; have hy_ := hC.out.2.1.lt)))
  refine bodyPost_ret (v := .tuple #[.agg #[.int .u8 2, .bool true, .int .i64 0, .string ⟨#[]⟩], .int .i64 0]) (by simp [results, Tryz.results45, go_sem, r0_, r1_, r2_, r3_, a0_, a1_, a2_, a3_, hz_, hy_]) rfl ⟨?_, ?_⟩
  · exact houtH.out
  · have hbw := hC.out.2.2
    clear hC
    go_grown
set_option maxHeartbeats 8000000 in
set_option maxRecDepth 1000000 in
theorem refParse_false (w : World)  :
    Calls Tryz.prog 45 #[.string ⟨#[102, 97, 108, 115, 101]⟩] w fun e w' => OutY ⟨#[102, 97, 108, 115, 101]⟩ e ∧ Below w.heap.size w w' := by
  have houtH := Lib.hid (show OutY ⟨#[102, 97, 108, 115, 101]⟩ (.returned (refV (⟨2, false, 0, ⟨#[]⟩⟩, 0))) from ⟨_, _, rfl, .inl ⟨by decide, by unfold I64; decide, by decide, rfl⟩⟩)
  have hC := Lib.hid (Cur.start w)
  obtain ⟨r0_, r1_, r2_, r3_⟩ := hC.out.1.cells; obtain ⟨f0_, f1_, f2_, f3_⟩ := hC.out.1.free; obtain ⟨a0_, a1_, a2_, a3_⟩ := hC.out.2.1.cells; obtain ⟨g0_, g1_, g2_, g3_⟩ := hC.out.2.1.free; have hz_ := hC.out.1.lt; have hy_ := hC.out.2.1.lt
  go_enter Tryz.func45, Tryz.ntmps45
  go_wp2_with (first | (go_at_call 72; go_must (refine (refNull_any _).mono ?_; rintro e w' ⟨rfl, hb'⟩; replace hC := Lib.hid ((hC.out).below hb'); clear hb'; clear r0_ r1_ r2_ r3_ f0_ f1_ f2_ f3_ a0_ a1_ a2_ a3_ g0_ g1_ g2_ g3_ hz_ hy_; obtain ⟨r0_, r1_, r2_, r3_⟩ := hC.out.1.cells; obtain ⟨f0_, f1_, f2_, f3_⟩ := hC.out.1.free; obtain ⟨a0_, a1_, a2_, a3_⟩ := hC.out.2.1.cells; obtain ⟨g0_, g1_, g2_, g3_⟩ := hC.out.2.1.free; have hz_ := hC.out.1.lt; have hy_ := hC.out.2.1.lt)) | (go_at_call 73; go_must (refine (refBool_any _ _).mono ?_; rintro e w' ⟨rfl, hb'⟩; replace hC := Lib.hid ((hC.out).below hb'); clear hb'; clear r0_ r1_ r2_ r3_ f0_ f1_ f2_ f3_ a0_ a1_ a2_ a3_ g0_ g1_ g2_ g3_ hz_ hy_; obtain ⟨r0_, r1_, r2_, r3_⟩ := hC.out.1.cells; obtain ⟨f0_, f1_, f2_, f3_⟩ := hC.out.1.free; obtain ⟨a0_, a1_, a2_, a3_⟩ := hC.out.2.1.cells; obtain ⟨g0_, g1_, g2_, g3_⟩ := hC.out.2.1.free; have hz_ := hC.out.1.lt; have hy_ := hC.out.2.1.lt)))
  refine bodyPost_ret (v := .tuple #[.agg #[.int .u8 2, .bool false, .int .i64 0, .string ⟨#[]⟩], .int .i64 0]) (by simp [results, Tryz.results45, go_sem, r0_, r1_, r2_, r3_, a0_, a1_, a2_, a3_, hz_, hy_]) rfl ⟨?_, ?_⟩
  · exact houtH.out
  · have hbw := hC.out.2.2
    clear hC
    go_grown
set_option maxHeartbeats 8000000 in
set_option maxRecDepth 1000000 in
theorem refParse_q (s : ByteArray) (w : World) (hs : s.size ≤ 1099511627776) (hq : Quoted s) (n1 : (s.toList == [110, 117, 108, 108]) = false) (n2 : (s.toList == [116, 114, 117, 101]) = false) (n3 : (s.toList == [102, 97, 108, 115, 101]) = false) :
    Calls Tryz.prog 45 #[.string s] w fun e w' => OutY s e ∧ Below w.heap.size w w' := by
  have hqH := Lib.hid hq
  obtain ⟨h2, q0, q1⟩ := hq
  have hx0 := fun w' => idx_run s 0 0 rfl (by omega) w'
  have hx1 := fun w' => idx_run s (s.size - 1) ((s.size : Int) - 1) (by omega) (by omega) w'
  obtain ⟨c0, hc0_⟩ : ∃ c0, bt s (0) = c0 := ⟨_, rfl⟩
  rw [hc0_] at hx0
  have hc0_H := Lib.hid (show (s.get! (0)).toNat = c0 from hc0_)
  clear hc0_
  obtain ⟨c, hc_⟩ : ∃ c, bt s (s.size - 1) = c := ⟨_, rfl⟩
  rw [hc_] at hx1
  have hc_H := Lib.hid (show (s.get! (s.size - 1)).toNat = c from hc_)
  clear hc_
  rw [hc_H.out] at q1
  rw [hc0_H.out] at q0
  have d0 : ((c0 : Int) == 39) = true := by simp; omega
  have d1 : ((c : Int) == 39) = true := by simp; omega
  obtain ⟨m, hm⟩ : ∃ m, s.extract 1 (s.size - 1) = m := ⟨_, rfl⟩
  have hms : m.size ≤ 1099511627776 := by rw [← hm]; simp; omega
  have hmH := Lib.hid hm; have hmsH := Lib.hid hms
  clear hms
  have hC := Lib.hid (Cur.start w)
  obtain ⟨r0_, r1_, r2_, r3_⟩ := hC.out.1.cells; obtain ⟨f0_, f1_, f2_, f3_⟩ := hC.out.1.free; obtain ⟨a0_, a1_, a2_, a3_⟩ := hC.out.2.1.cells; obtain ⟨g0_, g1_, g2_, g3_⟩ := hC.out.2.1.free; have hz_ := hC.out.1.lt; have hy_ := hC.out.2.1.lt
  go_enter Tryz.func45, Tryz.ntmps45
  go_wp2_with fail
  refine (refUnq_any m _ hmsH.out).mono ?_
  rintro e w1 ⟨⟨t, ok, rfl, ht, hall⟩, hb'⟩
  replace hC := Lib.hid ((hC.out).below hb'); clear hb'; clear r0_ r1_ r2_ r3_ f0_ f1_ f2_ f3_ a0_ a1_ a2_ a3_ g0_ g1_ g2_ g3_ hz_ hy_; obtain ⟨r0_, r1_, r2_, r3_⟩ := hC.out.1.cells; obtain ⟨f0_, f1_, f2_, f3_⟩ := hC.out.1.free; obtain ⟨a0_, a1_, a2_, a3_⟩ := hC.out.2.1.cells; obtain ⟨g0_, g1_, g2_, g3_⟩ := hC.out.2.1.free; have hz_ := hC.out.1.lt; have hy_ := hC.out.2.1.lt
  have hqt : ∀ d', okD d' = true → I64 d'.n → s.data.toList = printS d' → ok = true ∧ (⟨4, false, 0, t⟩ : Dat) = d' := fun d' h1 h2 h3 => by
    obtain ⟨x, e1, _, e2⟩ := quoted_text h1 h3 (quoted_prefix hqH.out)
    have e3 := quoted_mid e2
    rw [hmH.out] at e3
    obtain ⟨g1, g2⟩ := hall _ e3
    exact ⟨g1, by rw [e1, g2]; rfl⟩
  have htB := Lib.hid (show t.size ≤ 140737488355328 by have := hmsH.out; omega)
  have hnH := Lib.hid (show I64 0 by unfold I64; decide)
  clear hall ht
  cases ok with
  | false =>
    have houtH := Lib.hid (show OutY s (.returned (refV (zeroD, 13))) from outY_bad fun d' h1 h2 h3 => absurd (hqt d' h1 h2 h3).1 (by decide))
    clear hqt
    go_wp2_with fail
    refine bodyPost_ret (v := .tuple #[.agg #[.int .u8 0, .bool false, .int .i64 0, .string ⟨#[]⟩], .int .i64 13]) (by simp [results, Tryz.results45, go_sem, r0_, r1_, r2_, r3_, a0_, a1_, a2_, a3_, hz_, hy_]) rfl ⟨?_, ?_⟩
    · exact houtH.out
    · have hbw := hC.out.2.2
      clear hC
      go_grown
  | true =>
    have hallH := Lib.hid (show ∀ d', okD d' = true → I64 d'.n → s.data.toList = printS d' → (⟨4, false, 0, t⟩ : Dat) = d' from fun d' h1 h2 h3 => (hqt d' h1 h2 h3).2)
    clear hqt
    go_wp2_with (go_at_call 75; go_must (refine (refText_any _ _).mono ?_; rintro e w' ⟨rfl, hb'⟩; replace hC := Lib.hid ((hC.out).below hb'); clear hb'; clear r0_ r1_ r2_ r3_ f0_ f1_ f2_ f3_ a0_ a1_ a2_ a3_ g0_ g1_ g2_ g3_ hz_ hy_; obtain ⟨r0_, r1_, r2_, r3_⟩ := hC.out.1.cells; obtain ⟨f0_, f1_, f2_, f3_⟩ := hC.out.1.free; obtain ⟨a0_, a1_, a2_, a3_⟩ := hC.out.2.1.cells; obtain ⟨g0_, g1_, g2_, g3_⟩ := hC.out.2.1.free; have hz_ := hC.out.1.lt; have hy_ := hC.out.2.1.lt))
    obtain ⟨c, hc⟩ : ∃ c, chk ⟨4, false, 0, t⟩ = c := ⟨_, rfl⟩
    have hcH := Lib.hid hc
    by_cases hc0 : c = 0
    · obtain ⟨p, hp⟩ : ∃ p, (⟨(printS ⟨4, false, 0, t⟩).toArray⟩ : ByteArray) = p := ⟨_, rfl⟩
      have hok : okD ⟨4, false, 0, t⟩ = true := by unfold okD; rw [hc, hc0]; rfl
      have hpl : printS ⟨4, false, 0, t⟩ = p.data.toList := by rw [← hp]
      have hpH := Lib.hid hp
      clear hp hc
      subst hc0
      by_cases he : p.data.toList = s.data.toList
      · have heB : (p.toList == s.toList) = true := by
          rw [beq_iff_eq, ByteArray.toList_eq, ByteArray.toList_eq]; exact he
        have hps : p = s := bytes_ext he
        have houtH := Lib.hid (show OutY s (.returned (refV (⟨4, false, 0, t⟩, 0))) from ⟨_, _, rfl, .inl ⟨hok, hnH.out, by rw [← he, hpl], rfl⟩⟩)
        clear hok hpl he hps
        go_wp2_with (first
          | (go_at_call 36; go_must (refine (refCheck_any 4 false 0 t _ htB.out).mono ?_; rw [hcH.out]; rintro e w' ⟨rfl, hb'⟩; replace hC := Lib.hid ((hC.out.set (.int .u8 4) (.bool false) (.int .i64 0) (.string t)).below hb'); clear hb'; clear r0_ r1_ r2_ r3_ f0_ f1_ f2_ f3_ a0_ a1_ a2_ a3_ g0_ g1_ g2_ g3_ hz_ hy_; obtain ⟨r0_, r1_, r2_, r3_⟩ := hC.out.1.cells; obtain ⟨f0_, f1_, f2_, f3_⟩ := hC.out.1.free; obtain ⟨a0_, a1_, a2_, a3_⟩ := hC.out.2.1.cells; obtain ⟨g0_, g1_, g2_, g3_⟩ := hC.out.2.1.free; have hz_ := hC.out.1.lt; have hy_ := hC.out.2.1.lt))
          | (go_at_call 34; go_must (refine (refPrint_any 4 false 0 t _ htB.out hnH.out).mono ?_; rw [hpH.out]; rintro e w' ⟨rfl, hb'⟩; replace hC := Lib.hid ((hC.out).below hb'); clear hb'; clear r0_ r1_ r2_ r3_ f0_ f1_ f2_ f3_ a0_ a1_ a2_ a3_ g0_ g1_ g2_ g3_ hz_ hy_; obtain ⟨r0_, r1_, r2_, r3_⟩ := hC.out.1.cells; obtain ⟨f0_, f1_, f2_, f3_⟩ := hC.out.1.free; obtain ⟨a0_, a1_, a2_, a3_⟩ := hC.out.2.1.cells; obtain ⟨g0_, g1_, g2_, g3_⟩ := hC.out.2.1.free; have hz_ := hC.out.1.lt; have hy_ := hC.out.2.1.lt)))
        refine bodyPost_ret (v := .tuple #[.agg #[.int .u8 4, .bool false, .int .i64 0, .string t], .int .i64 0]) (by simp [results, Tryz.results45, go_sem, r0_, r1_, r2_, r3_, a0_, a1_, a2_, a3_, hz_, hy_]) rfl ⟨?_, ?_⟩
        · exact houtH.out
        · have hbw := hC.out.2.2
          clear hC
          go_grown
      · have heB : (p.toList == s.toList) = false := by
          rw [beq_eq_false_iff_ne, ByteArray.toList_eq, ByteArray.toList_eq]; exact he
        have houtH := Lib.hid (show OutY s (.returned (refV (zeroD, 13))) from outY_bad fun d' h1 h2 h3 => he (by rw [← hpl, h3, ← hallH.out d' h1 h2 h3]))
        clear hok hpl he
        go_wp2_with (first
          | (go_at_call 36; go_must (refine (refCheck_any 4 false 0 t _ htB.out).mono ?_; rw [hcH.out]; rintro e w' ⟨rfl, hb'⟩; replace hC := Lib.hid ((hC.out.set (.int .u8 4) (.bool false) (.int .i64 0) (.string t)).below hb'); clear hb'; clear r0_ r1_ r2_ r3_ f0_ f1_ f2_ f3_ a0_ a1_ a2_ a3_ g0_ g1_ g2_ g3_ hz_ hy_; obtain ⟨r0_, r1_, r2_, r3_⟩ := hC.out.1.cells; obtain ⟨f0_, f1_, f2_, f3_⟩ := hC.out.1.free; obtain ⟨a0_, a1_, a2_, a3_⟩ := hC.out.2.1.cells; obtain ⟨g0_, g1_, g2_, g3_⟩ := hC.out.2.1.free; have hz_ := hC.out.1.lt; have hy_ := hC.out.2.1.lt))
          | (go_at_call 34; go_must (refine (refPrint_any 4 false 0 t _ htB.out hnH.out).mono ?_; rw [hpH.out]; rintro e w' ⟨rfl, hb'⟩; replace hC := Lib.hid ((hC.out).below hb'); clear hb'; clear r0_ r1_ r2_ r3_ f0_ f1_ f2_ f3_ a0_ a1_ a2_ a3_ g0_ g1_ g2_ g3_ hz_ hy_; obtain ⟨r0_, r1_, r2_, r3_⟩ := hC.out.1.cells; obtain ⟨f0_, f1_, f2_, f3_⟩ := hC.out.1.free; obtain ⟨a0_, a1_, a2_, a3_⟩ := hC.out.2.1.cells; obtain ⟨g0_, g1_, g2_, g3_⟩ := hC.out.2.1.free; have hz_ := hC.out.1.lt; have hy_ := hC.out.2.1.lt)))
        refine bodyPost_ret (v := .tuple #[.agg #[.int .u8 0, .bool false, .int .i64 0, .string ⟨#[]⟩], .int .i64 13]) (by simp [results, Tryz.results45, go_sem, r0_, r1_, r2_, r3_, a0_, a1_, a2_, a3_, hz_, hy_]) rfl ⟨?_, ?_⟩
        · exact houtH.out
        · have hbw := hC.out.2.2
          clear hC
          go_grown
    · have houtH := Lib.hid (show OutY s (.returned (refV (zeroD, 13))) from outY_bad fun d' h1 h2 h3 => by
        have hd := hallH.out d' h1 h2 h3
        rw [← hd] at h1
        unfold okD at h1
        rw [hc] at h1
        exact hc0 (of_decide_eq_true h1))
      have hc2 : (c != 0) = true := by simpa using hc0
      clear hc hc0
      go_wp2_with (first
        | (go_at_call 36; go_must (refine (refCheck_any 4 false 0 t _ htB.out).mono ?_; rw [hcH.out]; rintro e w' ⟨rfl, hb'⟩; replace hC := Lib.hid ((hC.out.set (.int .u8 4) (.bool false) (.int .i64 0) (.string t)).below hb'); clear hb'; clear r0_ r1_ r2_ r3_ f0_ f1_ f2_ f3_ a0_ a1_ a2_ a3_ g0_ g1_ g2_ g3_ hz_ hy_; obtain ⟨r0_, r1_, r2_, r3_⟩ := hC.out.1.cells; obtain ⟨f0_, f1_, f2_, f3_⟩ := hC.out.1.free; obtain ⟨a0_, a1_, a2_, a3_⟩ := hC.out.2.1.cells; obtain ⟨g0_, g1_, g2_, g3_⟩ := hC.out.2.1.free; have hz_ := hC.out.1.lt; have hy_ := hC.out.2.1.lt))
        | (go_at_call 34; go_must (refine (refPrint_any 4 false 0 t _ htB.out hnH.out).mono ?_; rw [hpH.out]; rintro e w' ⟨rfl, hb'⟩; replace hC := Lib.hid ((hC.out).below hb'); clear hb'; clear r0_ r1_ r2_ r3_ f0_ f1_ f2_ f3_ a0_ a1_ a2_ a3_ g0_ g1_ g2_ g3_ hz_ hy_; obtain ⟨r0_, r1_, r2_, r3_⟩ := hC.out.1.cells; obtain ⟨f0_, f1_, f2_, f3_⟩ := hC.out.1.free; obtain ⟨a0_, a1_, a2_, a3_⟩ := hC.out.2.1.cells; obtain ⟨g0_, g1_, g2_, g3_⟩ := hC.out.2.1.free; have hz_ := hC.out.1.lt; have hy_ := hC.out.2.1.lt)))
      refine bodyPost_ret (v := .tuple #[.agg #[.int .u8 0, .bool false, .int .i64 0, .string ⟨#[]⟩], .int .i64 13]) (by simp [results, Tryz.results45, go_sem, r0_, r1_, r2_, r3_, a0_, a1_, a2_, a3_, hz_, hy_]) rfl ⟨?_, ?_⟩
      · exact houtH.out
      · have hbw := hC.out.2.2
        clear hC
        go_grown
end Go.Proofs.YtpmfbmigdpmloaaGreatDoor
