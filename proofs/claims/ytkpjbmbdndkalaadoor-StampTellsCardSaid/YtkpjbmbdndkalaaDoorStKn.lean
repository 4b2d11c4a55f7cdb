/-
  What the law's own known answers, at this program: true. Condition: the table of the powers of ten lies as its initialiser lays it.
-/
import Derived.Test.YtkpjbmbdndkalaaDoorStRef0
import Derived.Test.YtkpjbmbdndkalaaDoorStPr
import Derived.Test.YtkpjbmbdndkalaaDoorStChJoin
import Derived.Test.YtkpjbmbdndkalaaDoorStAp
import Derived.Test.YtkpjbmbdndkalaaDoorStTh
import Derived.Test.YtkpjbmbdndkalaaDoorStLeq
import Derived.Test.YtkpjbmbdndkalaaDoorStPl
set_option linter.unusedVariables false
set_option linter.unusedSimpArgs false
namespace Go.Proofs.YtkpjbmbdndkalaaDoor
open Go.RowKit Go.Lib

theorem lit1 (w : World) (x : Int) : WordsV (w.alloc (.cells #[.int .u32 x] 60)) (.slice (some ⟨w.heap.size, 0, none⟩) 1 1) [x] := WordsV.new w [x] _ (by simp)
theorem lit2 (w : World) (x y : Int) : WordsV (w.alloc (.cells #[.int .u32 x, .int .u32 y] 60)) (.slice (some ⟨w.heap.size, 0, none⟩) 2 2) [x, y] := WordsV.new w [x, y] _ (by simp)
theorem tmW (e : Int) (l : List Int) (h : 0 ≤ e ∧ e ≤ 18446744073709551615) (hl : (l.all fun z => decide (0 ≤ z ∧ z ≤ 4294967295)) = true) : TmW ⟨e, l⟩ :=
  ⟨h, fun z hz => by simpa using List.all_eq_true.1 hl z hz⟩
theorem ptW (v a : Int) (l : List Int) (h : -9223372036854775808 ≤ v ∧ v ≤ 9223372036854775807) (h' : 0 ≤ a ∧ a ≤ 4294967295) (hl : (l.all fun z => decide (0 ≤ z ∧ z ≤ 4294967295)) = true) : PtW ⟨v, a, l⟩ :=
  ⟨h, h', fun z hz => by simpa using List.all_eq_true.1 hl z hz⟩
theorem lit1_at (w : World) (b : Nat) (x : Int) (hb : b = w.heap.size) : WordsV (w.alloc (.cells #[.int .u32 x] 60)) (.slice (some ⟨b, 0, none⟩) 1 1) [x] := by subst hb; exact lit1 w x
theorem lit2_at (w : World) (b : Nat) (x y : Int) (hb : b = w.heap.size) : WordsV (w.alloc (.cells #[.int .u32 x, .int .u32 y] 60)) (.slice (some ⟨b, 0, none⟩) 2 2) [x, y] := by subst hb; exact lit2 w x y
theorem has_at (w : World) (b : Nat) (cs : List Value) (t : TypeId) (hb : b = w.heap.size) : HasC (w.alloc (.cells cs.toArray t)) b cs t := by subst hb; exact HasC.new w cs t
theorem dec1 (n : Nat) (h : n < 10) : Lib.decDigits n = [UInt8.ofNat (48 + n)] := by rw [Lib.decDigits, dif_pos h]
theorem print412 : printT ⟨4, [1, 2]⟩ = [52, 40, 49, 44, 50, 41] := by
  unfold printT joinD decI
  rw [if_neg (by simp)]
  simp only [List.map_cons, List.map_nil, show ((4 : Int)).toNat = 4 from rfl, show ((1 : Int)).toNat = 1 from rfl, show ((2 : Int)).toNat = 2 from rfl, dec1 4 (by omega), dec1 1 (by omega), dec1 2 (by omega)]
  rfl
theorem print32 : printT ⟨3, [2]⟩ = [51, 40, 50, 41] := by
  unfold printT joinD decI
  rw [if_neg (by simp)]
  simp only [List.map_cons, List.map_nil, show ((3 : Int)).toNat = 3 from rfl, show ((2 : Int)).toNat = 2 from rfl, dec1 3 (by omega), dec1 2 (by omega)]
  rfl
set_option maxHeartbeats 2000000 in
set_option maxRecDepth 1000000 in
theorem known_any (w : World) (hT0 : Pows w) :
    Calls Tryd.prog 21 #[] w fun e w' => e = .returned (.bool true) ∧ Below w.heap.size w w' := by
  have hT := Lib.hid hT0
  clear hT0
  go_enter Tryd.func21, Tryd.ntmps21
  go_wp2_with fail
  refine (lawAt_any 3 _ _ _ _).mono ?_
  rintro e1 w1 ⟨rfl, hb_⟩
  have hc1 : Below w.heap.size w w1 := chainB (by first | exact Below.refl _ _ | go_grown) hb_ (by first | exact Nat.le_refl _ | (simp; done) | (simp; omega))
  replace hT := Lib.hid (hT.out.below hc1)
  have hs1 := Lib.hid ((lit2_at _ (w.heap.size) 1 2 (by first | rfl | (simp; done))).below hb_)
  have hz1 := hc1.size
  clear hb_
  go_wp2_with fail
  refine (lawAt_any 4 _ _ _ _).mono ?_
  rintro e2 w2 ⟨rfl, hb_⟩
  have hc2 : Below w1.heap.size w1 w2 := chainB (by first | exact Below.refl _ _ | go_grown) hb_ (by first | exact Nat.le_refl _ | (simp; done) | (simp; omega))
  replace hT := Lib.hid (hT.out.below hc2)
  replace hs1 := Lib.hid (hs1.out.below hc2)
  have hs2 := Lib.hid ((lit2_at _ (w1.heap.size) 0 2 (by first | rfl | (simp; done))).below hb_)
  have hz2 := hc2.size
  clear hb_
  go_wp2_with fail
  refine (join_any _ _ ⟨3, [1, 2]⟩ ⟨4, [0, 2]⟩ _ ⟨_, rfl, hs1.out⟩ ⟨_, rfl, hs2.out⟩ (tmW _ _ (by omega) (by simp)) (tmW _ _ (by omega) (by simp)) (by decide)).mono ?_
  rw [show chosenT max ⟨3, [1, 2]⟩ ⟨4, [0, 2]⟩ = ⟨4, [1, 2]⟩ by kernel_rfl, show chosenE ⟨3, [1, 2]⟩ ⟨4, [0, 2]⟩ = 0 by kernel_rfl]; unfold OutT; dsimp only
  rintro e3 w3 ⟨v, rfl, ho, hb_⟩
  have hc3 : Below w2.heap.size w2 w3 := chainB (by first | exact Below.refl _ _ | go_grown) hb_ (by first | exact Nat.le_refl _ | (simp; done) | (simp; omega))
  replace hT := Lib.hid (hT.out.below hc3)
  replace hs1 := Lib.hid (hs1.out.below hc3)
  replace hs2 := Lib.hid (hs2.out.below hc3)
  obtain ⟨J, nJ, cJ, rfl, hn_, hc_, hd_⟩ := ho.words.form
  have hJ := Lib.hid ho.words
  clear ho hn_
  have hz3 := hc3.size
  clear hb_
  go_wp2_with fail
  refine (lawAt_any 3 _ _ _ _).mono ?_
  rintro e4 w4 ⟨rfl, hb_⟩
  have hc4 : Below w3.heap.size w3 w4 := chainB (by first | exact Below.refl _ _ | go_grown) hb_ (by first | exact Nat.le_refl _ | (simp; done) | (simp; omega))
  replace hT := Lib.hid (hT.out.below hc4)
  replace hs1 := Lib.hid (hs1.out.below hc4)
  replace hs2 := Lib.hid (hs2.out.below hc4)
  replace hJ := Lib.hid (hJ.out.below hc4)
  have hVj := Lib.hid (((has_at _ _ [.int .u64 4, .slice J nJ cJ] 25 rfl).alloc _).below hb_)
  have hs3 := Lib.hid ((lit2_at _ (w3.heap.size + 1) 1 2 (by first | rfl | (simp; done))).below hb_)
  have hz4 := hc4.size
  clear hb_
  go_wp2_with fail
  refine (apply_any _ _ ⟨1, 1, []⟩ ⟨3, [1, 2]⟩ _ ⟨_, rfl, WordsV.nil _⟩ ⟨_, rfl, hs3.out⟩ (ptW _ _ _ (by omega) (by omega) (by simp)) (tmW _ _ (by omega) (by simp)) (by decide) (by decide)).mono ?_
  rw [show applyT ⟨1, 1, []⟩ ⟨3, [1, 2]⟩ = ⟨3, [2]⟩ by kernel_rfl, show applyE ⟨1, 1, []⟩ ⟨3, [1, 2]⟩ = 0 by kernel_rfl]; unfold OutT; dsimp only
  rintro e5 w5 ⟨v, rfl, ho, hb_⟩
  have hc5 : Below w4.heap.size w4 w5 := chainB (by first | exact Below.refl _ _ | go_grown) hb_ (by first | exact Nat.le_refl _ | (simp; done) | (simp; omega))
  replace hT := Lib.hid (hT.out.below hc5)
  replace hs1 := Lib.hid (hs1.out.below hc5)
  replace hs2 := Lib.hid (hs2.out.below hc5)
  replace hJ := Lib.hid (hJ.out.below hc5)
  replace hs3 := Lib.hid (hs3.out.below hc5)
  replace hVj := Lib.hid (hVj.out.below hc5)
  obtain ⟨A, nA, cA, rfl, hn_, hc_, hd_⟩ := ho.words.form
  have hA := Lib.hid ho.words
  clear ho hn_
  have hz5 := hc5.size
  clear hb_
  go_wp2_with fail
  clear hs1 hs2 hs3
  refine (then_any _ _ ⟨0, 0, [0]⟩ ⟨0, 2, []⟩ _ ⟨_, rfl, lit1_at _ (w5.heap.size + 1) 0 (by simp)⟩ ⟨_, rfl, WordsV.nil _⟩ (ptW _ _ _ (by omega) (by omega) (by simp)) (ptW _ _ _ (by omega) (by omega) (by simp)) (by decide) (by decide)).mono ?_
  rw [show thenP ⟨0, 0, [0]⟩ ⟨0, 2, []⟩ = ⟨0, 0, [2]⟩ by kernel_rfl, show thenE ⟨0, 0, [0]⟩ ⟨0, 2, []⟩ = 0 by kernel_rfl]; unfold OutP; dsimp only
  rintro e6 w6 ⟨v, rfl, ho, hb_⟩
  have hc6 : Below w5.heap.size w5 w6 := chainB (by first | exact Below.refl _ _ | go_grown) hb_ (by first | exact Nat.le_refl _ | (simp; done) | (simp; omega))
  replace hT := Lib.hid (hT.out.below hc6)
  replace hJ := Lib.hid (hJ.out.below hc6)
  replace hVj := Lib.hid (hVj.out.below hc6)
  replace hA := Lib.hid (hA.out.below hc6)
  have hVa := Lib.hid (((has_at _ (w5.heap.size) [.int .u64 3, .slice A nA cA] 25 rfl).alloc _).below hb_)
  obtain ⟨P, nP, cP, rfl, hn_, hc_, hd_⟩ := ho.words.form
  have hP := Lib.hid ho.words
  clear ho hn_
  have hz6 := hc6.size
  clear hb_
  have Vj0_ := hVj.out.cell 0 rfl; have Vj1_ := hVj.out.cell 1 rfl; have Vjl_ := hVj.out.lt
  have Va0_ := hVa.out.cell 0 rfl; have Va1_ := hVa.out.cell 1 rfl; have Val_ := hVa.out.lt
  go_wp2_with fail
  refine (print_any _ ⟨4, [1, 2]⟩ _ ⟨_, rfl, hJ.out.below (by go_grown)⟩ (tmW _ _ (by omega) (by simp)) (by decide) (hT.out.below (by go_grown))).mono ?_
  rw [print412]
  rintro e7 w7 ⟨rfl, hb_⟩
  have hc7 : Below w6.heap.size w6 w7 := chainB (by first | exact Below.refl _ _ | go_grown) hb_ (by first | exact Nat.le_refl _ | (simp; done) | (simp; omega))
  replace hT := Lib.hid (hT.out.below hc7)
  replace hJ := Lib.hid (hJ.out.below hc7)
  replace hVj := Lib.hid (hVj.out.below hc7)
  replace hA := Lib.hid (hA.out.below hc7)
  replace hVa := Lib.hid (hVa.out.below hc7)
  replace hP := Lib.hid (hP.out.below hc7)
  have hVp := Lib.hid ((has_at _ (w6.heap.size) [.int .i64 0, .int .u32 0, .slice P nP cP] 62 rfl).below hb_)
  have hz7 := hc7.size
  clear hb_
  clear Vj0_ Vj1_ Vjl_ Va0_ Va1_ Val_
  have Vj0_ := hVj.out.cell 0 rfl; have Vj1_ := hVj.out.cell 1 rfl; have Vjl_ := hVj.out.lt
  have Va0_ := hVa.out.cell 0 rfl; have Va1_ := hVa.out.cell 1 rfl; have Val_ := hVa.out.lt
  have Vp0_ := hVp.out.cell 0 rfl; have Vp1_ := hVp.out.cell 1 rfl; have Vp2_ := hVp.out.cell 2 rfl; have Vpl_ := hVp.out.lt
  go_wp2_with fail
  refine (print_any _ ⟨3, [2]⟩ _ ⟨_, rfl, hA.out⟩ (tmW _ _ (by omega) (by simp)) (by decide) hT.out).mono ?_
  rw [print32]
  rintro e8 w8 ⟨rfl, hb_⟩
  have hc8 : Below w7.heap.size w7 w8 := chainB (by first | exact Below.refl _ _ | go_grown) hb_ (by first | exact Nat.le_refl _ | (simp; done) | (simp; omega))
  replace hT := Lib.hid (hT.out.below hc8)
  replace hJ := Lib.hid (hJ.out.below hc8)
  replace hVj := Lib.hid (hVj.out.below hc8)
  replace hA := Lib.hid (hA.out.below hc8)
  replace hVa := Lib.hid (hVa.out.below hc8)
  replace hP := Lib.hid (hP.out.below hc8)
  replace hVp := Lib.hid (hVp.out.below hc8)
  have hz8 := hc8.size
  clear hb_
  clear Vj0_ Vj1_ Vjl_ Va0_ Va1_ Val_ Vp0_ Vp1_ Vp2_ Vpl_
  have Vp0_ := hVp.out.cell 0 rfl; have Vp1_ := hVp.out.cell 1 rfl; have Vp2_ := hVp.out.cell 2 rfl; have Vpl_ := hVp.out.lt
  go_wp2_with fail
  refine (samePath_any _ _ ⟨0, 0, [2]⟩ ⟨0, 0, [2]⟩ _ ⟨_, rfl, hP.out.below (by go_grown)⟩ ⟨_, rfl, lit1_at _ _ 2 rfl⟩).mono ?_
  rw [show decide ((⟨0, 0, [2]⟩ : Pt).lv = (⟨0, 0, [2]⟩ : Pt).lv ∧ (⟨0, 0, [2]⟩ : Pt).ad = (⟨0, 0, [2]⟩ : Pt).ad ∧ (⟨0, 0, [2]⟩ : Pt).en = (⟨0, 0, [2]⟩ : Pt).en) = true by decide]
  rintro e9 w9 ⟨rfl, hb_⟩
  have hc9 : Below w8.heap.size w8 w9 := chainB (by first | exact Below.refl _ _ | go_grown) hb_ (by first | exact Nat.le_refl _ | (simp; done) | (simp; omega))
  replace hT := Lib.hid (hT.out.below hc9)
  replace hJ := Lib.hid (hJ.out.below hc9)
  replace hVj := Lib.hid (hVj.out.below hc9)
  replace hA := Lib.hid (hA.out.below hc9)
  replace hVa := Lib.hid (hVa.out.below hc9)
  replace hP := Lib.hid (hP.out.below hc9)
  replace hVp := Lib.hid (hVp.out.below hc9)
  have hz9 := hc9.size
  clear hb_
  clear Vp0_ Vp1_ Vp2_ Vpl_
  clear hJ hA hP hVj hVa hVp
  go_wp2_with fail
  refine (lawAt_any 3 _ _ _ _).mono ?_
  rintro e10 w10 ⟨rfl, hb_⟩
  have hc10 : Below w9.heap.size w9 w10 := chainB (by first | exact Below.refl _ _ | go_grown) hb_ (by first | exact Nat.le_refl _ | (simp; done) | (simp; omega))
  replace hT := Lib.hid (hT.out.below hc10)
  have hs1 := Lib.hid ((lit2_at _ (w9.heap.size) 1 2 (by first | rfl | (simp; done))).below hb_)
  have hz10 := hc10.size
  clear hb_
  go_wp2_with fail
  refine (lawAt_any 3 _ _ _ _).mono ?_
  rintro e11 w11 ⟨rfl, hb_⟩
  have hc11 : Below w10.heap.size w10 w11 := chainB (by first | exact Below.refl _ _ | go_grown) hb_ (by first | exact Nat.le_refl _ | (simp; done) | (simp; omega))
  replace hT := Lib.hid (hT.out.below hc11)
  replace hs1 := Lib.hid (hs1.out.below hc11)
  have hs2 := Lib.hid ((lit2_at _ (w10.heap.size) 2 2 (by first | rfl | (simp; done))).below hb_)
  have hz11 := hc11.size
  clear hb_
  go_wp2_with fail
  refine (leq_any _ _ ⟨3, [1, 2]⟩ ⟨3, [2, 2]⟩ _ ⟨_, rfl, hs1.out⟩ ⟨_, rfl, hs2.out⟩).mono ?_
  rw [show leqT ⟨3, [1, 2]⟩ ⟨3, [2, 2]⟩ = true by kernel_rfl]
  rintro e12 w12 ⟨rfl, hb_⟩
  have hc12 : Below w11.heap.size w11 w12 := chainB (by first | exact Below.refl _ _ | go_grown) hb_ (by first | exact Nat.le_refl _ | (simp; done) | (simp; omega))
  replace hT := Lib.hid (hT.out.below hc12)
  replace hs1 := Lib.hid (hs1.out.below hc12)
  replace hs2 := Lib.hid (hs2.out.below hc12)
  have hz12 := hc12.size
  clear hb_
  go_wp2_with fail
  refine (lawAt_any 3 _ _ _ _).mono ?_
  rintro e13 w13 ⟨rfl, hb_⟩
  have hc13 : Below w12.heap.size w12 w13 := chainB (by first | exact Below.refl _ _ | go_grown) hb_ (by first | exact Nat.le_refl _ | (simp; done) | (simp; omega))
  replace hT := Lib.hid (hT.out.below hc13)
  replace hs1 := Lib.hid (hs1.out.below hc13)
  replace hs2 := Lib.hid (hs2.out.below hc13)
  have hs3 := Lib.hid ((lit2_at _ (w12.heap.size) 1 2 (by first | rfl | (simp; done))).below hb_)
  have hz13 := hc13.size
  clear hb_
  go_wp2_with fail
  refine (lawAt_any 4 _ _ _ _).mono ?_
  rintro e14 w14 ⟨rfl, hb_⟩
  have hc14 : Below w13.heap.size w13 w14 := chainB (by first | exact Below.refl _ _ | go_grown) hb_ (by first | exact Nat.le_refl _ | (simp; done) | (simp; omega))
  replace hT := Lib.hid (hT.out.below hc14)
  replace hs1 := Lib.hid (hs1.out.below hc14)
  replace hs2 := Lib.hid (hs2.out.below hc14)
  replace hs3 := Lib.hid (hs3.out.below hc14)
  have hs4 := Lib.hid ((lit2_at _ (w13.heap.size) 0 2 (by first | rfl | (simp; done))).below hb_)
  have hz14 := hc14.size
  clear hb_
  go_wp2_with fail
  refine (leq_any _ _ ⟨3, [1, 2]⟩ ⟨4, [0, 2]⟩ _ ⟨_, rfl, hs3.out⟩ ⟨_, rfl, hs4.out⟩).mono ?_
  rw [show leqT ⟨3, [1, 2]⟩ ⟨4, [0, 2]⟩ = false by kernel_rfl]
  rintro e15 w15 ⟨rfl, hb_⟩
  have hc15 : Below w14.heap.size w14 w15 := chainB (by first | exact Below.refl _ _ | go_grown) hb_ (by first | exact Nat.le_refl _ | (simp; done) | (simp; omega))
  replace hT := Lib.hid (hT.out.below hc15)
  replace hs1 := Lib.hid (hs1.out.below hc15)
  replace hs2 := Lib.hid (hs2.out.below hc15)
  replace hs3 := Lib.hid (hs3.out.below hc15)
  replace hs4 := Lib.hid (hs4.out.below hc15)
  have hz15 := hc15.size
  clear hb_
  go_wp2_with fail
  refine (pathLeq_any _ _ ⟨1, 0, [0]⟩ ⟨0, 1, []⟩ 1 _ ⟨_, rfl, lit1_at _ (w15.heap.size) 0 rfl⟩ ⟨_, rfl, WordsV.nil _⟩ (by decide) (by decide)).mono ?_
  rw [show pathLeq ⟨1, 0, [0]⟩ ⟨0, 1, []⟩ 1 = true by kernel_rfl]
  rintro e16 w16 ⟨rfl, hb_⟩
  have hc16 : Below w15.heap.size w15 w16 := chainB (by first | exact Below.refl _ _ | go_grown) hb_ (by first | exact Nat.le_refl _ | (simp; done) | (simp; omega))
  replace hT := Lib.hid (hT.out.below hc16)
  replace hs1 := Lib.hid (hs1.out.below hc16)
  replace hs2 := Lib.hid (hs2.out.below hc16)
  replace hs3 := Lib.hid (hs3.out.below hc16)
  replace hs4 := Lib.hid (hs4.out.below hc16)
  have hz16 := hc16.size
  clear hb_
  go_wp2_with fail
  go_ret
  have hc1 := chainB hc1 hc2 hc1.size
  have hc1 := chainB hc1 hc3 hc1.size
  have hc1 := chainB hc1 hc4 hc1.size
  have hc1 := chainB hc1 hc5 hc1.size
  have hc1 := chainB hc1 hc6 hc1.size
  have hc1 := chainB hc1 hc7 hc1.size
  have hc1 := chainB hc1 hc8 hc1.size
  have hc1 := chainB hc1 hc9 hc1.size
  have hc1 := chainB hc1 hc10 hc1.size
  have hc1 := chainB hc1 hc11 hc1.size
  have hc1 := chainB hc1 hc12 hc1.size
  have hc1 := chainB hc1 hc13 hc1.size
  have hc1 := chainB hc1 hc14 hc1.size
  have hc1 := chainB hc1 hc15 hc1.size
  have hc1 := chainB hc1 hc16 hc1.size
  exact ⟨rfl, hc1⟩
end Go.Proofs.YtkpjbmbdndkalaaDoor
