/-
  What the law's own known answers, at this program: true. Condition: the table of the powers of ten lies as its initialiser lays it.
-/
import Derived.Test.YtdfhchpimpbgfaaGreatDoorChU
import Derived.Test.YtdfhchpimpbgfaaGreatDoorChA
import Derived.Test.YtdfhchpimpbgfaaGreatDoorChC
import Derived.LoopTactic
import Derived.BigQuiet
set_option linter.unusedVariables false
set_option linter.unusedSimpArgs false
namespace Go.Proofs.YtdfhchpimpbgfaaGreatDoor
open Go.RowKit Go.Lib Go.Proofs

theorem TmsV.lit (w : World) (b n : Nat) (ds : List Td) (h : RdT w ds) (cs : Array Value) (hcs : cs = (cellsTs ds).toArray) (t : TypeId) (hb : b = w.heap.size) (hn : ds.length = n) (hs : n ≤ 1000) : TmsV (w.alloc (.cells cs t)) (.slice (some ⟨b, 0, none⟩) n n) ds := by
  subst hb hcs hn
  refine ⟨⟨cellsTs_len ds, _, _, rfl, Nat.le_refl _, by omega, (fun e => by cases e), fun _ => ⟨_, rfl, ?_, fun j u hj => ?_⟩⟩, h.below (by go_grown)⟩
  · show w.heap.size < _
    simp
  · rw [show (⟨w.heap.size, 0, none⟩ : Addr).add j = ⟨w.heap.size, j, none⟩ by unfold Addr.add; split <;> simp_all, cell_new]
    simpa using hj
theorem HsV.lit (w : World) (b n : Nat) (hs : List Hd) (h : RdH w hs) (cs : Array Value) (hcs : cs = (cellsDs hs).toArray) (t : TypeId) (hb : b = w.heap.size) (hn : hs.length = n) (hl : n ≤ 1000) : HsV (w.alloc (.cells cs t)) (.slice (some ⟨b, 0, none⟩) n n) hs := by
  subst hb hcs hn
  refine ⟨⟨cellsDs_len hs, _, _, rfl, Nat.le_refl _, by omega, (fun e => by cases e), fun _ => ⟨_, rfl, ?_, fun j u hj => ?_⟩⟩, h.below (by go_grown)⟩
  · show w.heap.size < _
    simp
  · rw [show (⟨w.heap.size, 0, none⟩ : Addr).add j = ⟨w.heap.size, j, none⟩ by unfold Addr.add; split <;> simp_all, cell_new]
    simpa using hj
def tm2 : Tm := ⟨2, []⟩
def tm3 : Tm := ⟨3, []⟩
def cM0 : Tm → Int := fun _ => 0
def cM1 : Tm → Int := addsM cM0 [(tm2, 1)]
def cM2 : Tm → Int := addsM cM1 [(tm3, 1)]
def cM3 : Tm → Int := addsM cM2 [(tm2, -1)]
theorem ac_is {l o r : List Tm} (h : Ac (upL l) o) (hr : refFold l l.length = r) : o = r := by rw [← hr]; exact h.one (refFold_ac l) fun z => Iff.rfl
theorem ac_pos {M : Tm → Int} {l o r : List Tm} (h : Ac (posM M) o) (hl : ∀ t, t ∈ l ↔ 0 < M t) (hr : refFold l l.length = r) : o = r := by rw [← hr]; exact h.one (refFold_ac l) fun z => (posM_up hl z).symm
theorem ne23 : tm2 ≠ tm3 := by decide
theorem cM1_at (t : Tm) : cM1 t = if t = tm2 then 1 else 0 := by
  show (if t = tm2 then wrapC (0 + 1) else 0) = _
  rfl
theorem cM2_at (t : Tm) : cM2 t = if t = tm3 then 1 else if t = tm2 then 1 else 0 := by
  show (if t = tm3 then wrapC (cM1 t + 1) else cM1 t) = _
  rw [cM1_at]
  by_cases e : t = tm3
  · subst e
    rw [if_pos rfl, if_pos rfl, if_neg (fun h => ne23 h.symm)]; rfl
  · rw [if_neg e, if_neg e]
theorem cM3_at (t : Tm) : cM3 t = if t = tm3 then 1 else 0 := by
  show (if t = tm2 then wrapC (cM2 t + -1) else cM2 t) = _
  rw [cM2_at]
  by_cases e : t = tm2
  · subst e
    rw [if_pos rfl, if_neg ne23, if_pos rfl, if_neg ne23]; rfl
  · rw [if_neg e, if_neg e]
theorem pos0 : ∀ t, t ∈ ([] : List Tm) ↔ 0 < cM0 t := fun t => by simp [cM0]
theorem pos1 : ∀ t, t ∈ [tm2] ↔ 0 < cM1 t := fun t => by
  rw [cM1_at, List.mem_singleton]
  by_cases e : t = tm2 <;> simp [e]
theorem pos2 : ∀ t, t ∈ [tm2, tm3] ↔ 0 < cM2 t := fun t => by
  rw [cM2_at]
  by_cases e : t = tm3
  · simp [e]
  · by_cases e2 : t = tm2 <;> simp [e, e2]
theorem pos3 : ∀ t, t ∈ [tm3] ↔ 0 < cM3 t := fun t => by
  rw [cM3_at, List.mem_singleton]
  by_cases e : t = tm3 <;> simp [e]
theorem chs_is {r : List Hd} {l : List (Tm × Int)} (h : (chs r).Perm l) (hr : Strict (chs r)) (hl : Strict l) : chs r = l := chg_one h (List.Perm.refl _) hr hl
theorem strict1 (x : Tm × Int) : Strict [x] := by simp [Strict]
theorem strict2 {x y : Tm × Int} (h : cmpT x.1 y.1 < 0) : Strict [x, y] := by simp [Strict, h]
/-- What the three changes tell. -/
theorem upd1 {r : List Hd} {o o' : List Tm} (h : Ac (posM cM0) o) (h' : Ac (posM cM1) o') (hp : (chs r).Perm (chgL o o')) (hs : Strict (chs r)) : chs r = [(tm2, 1)] := by
  have e := ac_pos h pos0 (r := []) (by decide)
  have e' := ac_pos h' pos1 (r := [tm2]) (by decide)
  subst e e'
  exact chs_is (l := [(tm2, 1)]) (by rw [show ([(tm2, 1)] : List (Tm × Int)) = chgL [] [tm2] by decide]; exact hp) hs (strict1 _)
theorem upd2 {r : List Hd} {o o' : List Tm} (h : Ac (posM cM1) o) (h' : Ac (posM cM2) o') (hp : (chs r).Perm (chgL o o')) (hs : Strict (chs r)) : chs r = [] := by
  have e := ac_pos h pos1 (r := [tm2]) (by decide)
  have e' := ac_pos h' pos2 (r := [tm2]) (by decide)
  subst e e'
  exact chs_is (l := []) (by rw [show ([] : List (Tm × Int)) = chgL [tm2] [tm2] by decide]; exact hp) hs List.Pairwise.nil
theorem upd3 {r : List Hd} {o o' : List Tm} (h : Ac (posM cM2) o) (h' : Ac (posM cM3) o') (hp : (chs r).Perm (chgL o o')) (hs : Strict (chs r)) : chs r = [(tm2, -1), (tm3, 1)] := by
  have e := ac_pos h pos2 (r := [tm2]) (by decide)
  have e' := ac_pos h' pos3 (r := [tm3]) (by decide)
  subst e e'
  exact chs_is (l := [(tm2, -1), (tm3, 1)]) (by rw [show ([(tm2, -1), (tm3, 1)] : List (Tm × Int)) = chgL [tm2] [tm3] by decide]; exact hp) hs (strict2 (by decide))
theorem chs_get {r : List Hd} {l : List (Tm × Int)} {i : Nat} {x : Tm × Int} (h : chs r = l) (hx : l[i]? = some x) : ∃ y, r[i]? = some y ∧ y.2 = x.2 := by
  have h1 : (chs r)[i]? = some x := by rw [h]; exact hx
  unfold chs at h1
  rw [List.getElem?_map] at h1
  obtain ⟨y, hy, e⟩ := Option.map_eq_some_iff.1 h1
  exact ⟨y, hy, by rw [← e]⟩
theorem nilTd (w : World) (e : Int) : WordsV w (slD ⟨none, 0, ⟨e, []⟩⟩) [] := WordsV.nil w
set_option maxHeartbeats 8000000 in
set_option maxRecDepth 1000000 in
theorem known_any (w : World) (hT0 : Pows w) : Calls Tryz.prog 22 #[] w fun e w' => e = .returned (.bool true) ∧ Below w.heap.size w w' := by
  have hT := Lib.hid hT0
  have hall := Lib.hid (Below.refl w.heap.size w)
  clear hT0
  go_enter Tryz.func22, Tryz.ntmps22
  go_wp2_with fail
  refine (lawAt_any 3 _ _ _ _).mono ?_
  rintro e_ w1 ⟨rfl, hb_⟩
  have hc_ : Below w.heap.size w w1 := chainB (by first | exact Below.refl _ _ | go_grown) hb_ (by first | exact Nat.le_refl _ | (simp; done) | (simp; omega))
  replace hT := Lib.hid (hT.out.below hc_)
  replace hall := Lib.hid (chainB hall.out hc_ hall.out.size)
  have hs0 := Lib.hid ((lit1_at _ (w.heap.size) 1 (by first | rfl | (simp; done))).below hb_)
  clear hc_
  clear hb_
  go_wp2_with fail
  refine (lawAt_any 2 _ _ _ _).mono ?_
  rintro e_ w2 ⟨rfl, hb_⟩
  have hc_ : Below w1.heap.size w1 w2 := chainB (by first | exact Below.refl _ _ | go_grown) hb_ (by first | exact Nat.le_refl _ | (simp; done) | (simp; omega))
  replace hT := Lib.hid (hT.out.below hc_)
  replace hs0 := Lib.hid (hs0.out.below hc_)
  replace hall := Lib.hid (chainB hall.out hc_ hall.out.size)
  have hs1 := Lib.hid ((lit1_at _ (w1.heap.size) 5 (by first | rfl | (simp; done))).below hb_)
  clear hc_
  clear hb_
  go_wp2_with fail
  refine (lawAt_any 3 _ _ _ _).mono ?_
  rintro e_ w3 ⟨rfl, hb_⟩
  have hc_ : Below w2.heap.size w2 w3 := chainB (by first | exact Below.refl _ _ | go_grown) hb_ (by first | exact Nat.le_refl _ | (simp; done) | (simp; omega))
  replace hT := Lib.hid (hT.out.below hc_)
  replace hs0 := Lib.hid (hs0.out.below hc_)
  replace hs1 := Lib.hid (hs1.out.below hc_)
  replace hall := Lib.hid (chainB hall.out hc_ hall.out.size)
  have hs2 := Lib.hid ((lit1_at _ (w2.heap.size) 2 (by first | rfl | (simp; done))).below hb_)
  clear hc_
  clear hb_
  go_wp2_with fail
  refine (lawAt_any 3 _ _ _ _).mono ?_
  rintro e_ w4 ⟨rfl, hb_⟩
  have hc_ : Below w3.heap.size w3 w4 := chainB (by first | exact Below.refl _ _ | go_grown) hb_ (by first | exact Nat.le_refl _ | (simp; done) | (simp; omega))
  replace hT := Lib.hid (hT.out.below hc_)
  replace hs0 := Lib.hid (hs0.out.below hc_)
  replace hs1 := Lib.hid (hs1.out.below hc_)
  replace hs2 := Lib.hid (hs2.out.below hc_)
  replace hall := Lib.hid (chainB hall.out hc_ hall.out.size)
  have hs3 := Lib.hid ((lit1_at _ (w3.heap.size) 1 (by first | rfl | (simp; done))).below hb_)
  clear hc_
  clear hb_
  go_wp2_with fail
  have hrd4 : RdT w4 [(⟨some ⟨w.heap.size, 0, none⟩, 1, ⟨3, [1]⟩⟩ : Td), (⟨some ⟨w1.heap.size, 0, none⟩, 1, ⟨2, [5]⟩⟩ : Td), (⟨some ⟨w2.heap.size, 0, none⟩, 1, ⟨3, [2]⟩⟩ : Td), (⟨some ⟨w3.heap.size, 0, none⟩, 1, ⟨3, [1]⟩⟩ : Td)] := by
    intro d hd
    simp only [List.mem_cons, List.not_mem_nil, or_false] at hd
    rcases hd with rfl | rfl | rfl | rfl
    · exact hs0.out
    · exact hs1.out
    · exact hs2.out
    · exact hs3.out
  refine (of_any _ [(⟨some ⟨w.heap.size, 0, none⟩, 1, ⟨3, [1]⟩⟩ : Td), (⟨some ⟨w1.heap.size, 0, none⟩, 1, ⟨2, [5]⟩⟩ : Td), (⟨some ⟨w2.heap.size, 0, none⟩, 1, ⟨3, [2]⟩⟩ : Td), (⟨some ⟨w3.heap.size, 0, none⟩, 1, ⟨3, [1]⟩⟩ : Td)] _ (TmsV.lit w4 _ 4 [(⟨some ⟨w.heap.size, 0, none⟩, 1, ⟨3, [1]⟩⟩ : Td), (⟨some ⟨w1.heap.size, 0, none⟩, 1, ⟨2, [5]⟩⟩ : Td), (⟨some ⟨w2.heap.size, 0, none⟩, 1, ⟨3, [2]⟩⟩ : Td), (⟨some ⟨w3.heap.size, 0, none⟩, 1, ⟨3, [1]⟩⟩ : Td)] hrd4 _ rfl _ rfl rfl (by omega)) (by simp) (by intro d hd; simp only [List.mem_cons, List.not_mem_nil, or_false] at hd; rcases hd with rfl | rfl | rfl | rfl <;> simp)).mono ?_
  rintro e_ w5 ⟨v1, r1, rfl, hac1_, ho1_, hf1_, hb_, _, hsub_⟩
  have hc_ : Below w4.heap.size w4 w5 := chainB (by first | exact Below.refl _ _ | go_grown) hb_ (by first | exact Nat.le_refl _ | (simp; done) | (simp; omega))
  replace hT := Lib.hid (hT.out.below hc_)
  replace hs0 := Lib.hid (hs0.out.below hc_)
  replace hs1 := Lib.hid (hs1.out.below hc_)
  replace hs2 := Lib.hid (hs2.out.below hc_)
  replace hs3 := Lib.hid (hs3.out.below hc_)
  replace hall := Lib.hid (chainB hall.out hc_ hall.out.size)
  have hv1 := Lib.hid (ho1_.tms hf1_.rd)
  have hk1 := Lib.hid (ac_is (l := [⟨3, [1]⟩, ⟨2, [5]⟩, ⟨3, [2]⟩, ⟨3, [1]⟩]) (r := [⟨2, [5]⟩, ⟨3, [1]⟩]) (show Ac (upL [⟨3, [1]⟩, ⟨2, [5]⟩, ⟨3, [2]⟩, ⟨3, [1]⟩]) (tmsD r1) from hac1_) (by decide))
  clear hac1_ ho1_ hf1_ hsub_ hrd4
  clear hc_
  clear hb_
  obtain ⟨A1, n1, c1, rfl, _, _, _⟩ := hv1.out.form
  clear hs0 hs1 hs2 hs3
  go_wp2_with fail
  have hsz0 := Lib.hid hall.out.size
  refine (new_any _).mono ?_
  rintro e_ w6 ⟨cb, mb, rfl, hcb_, hmb_, hct_, hb_⟩
  have hc_ : Below w5.heap.size w5 w6 := chainB (by first | exact Below.refl _ _ | go_grown) hb_ (by first | exact Nat.le_refl _ | (simp; done) | (simp; omega))
  replace hT := Lib.hid (hT.out.below hc_)
  replace hv1 := Lib.hid (hv1.out.below hc_)
  replace hall := Lib.hid (chainB hall.out hc_ hall.out.size)
  have hct := Lib.hid (hct_)
  have hmbw := Lib.hid (Nat.le_trans hsz0.out hmb_)
  clear hcb_ hmb_ hct_ hsz0
  clear hc_
  clear hb_
  replace hct := Lib.hid (show CtI 0 cb mb cM0 _ from hct.out)
  go_wp2_with fail
  refine (lawAt_any 2 none 0 0 _).mono ?_
  rintro e_ w7 ⟨rfl, hb_⟩
  have hc_ : Below w6.heap.size w6 w7 := chainB (by first | exact Below.refl _ _ | go_grown) hb_ (by first | exact Nat.le_refl _ | (simp; done) | (simp; omega))
  replace hT := Lib.hid (hT.out.below hc_)
  replace hv1 := Lib.hid (hv1.out.below hc_)
  replace hct := Lib.hid (hct.out.below hc_)
  replace hall := Lib.hid (chainB hall.out hc_ hall.out.size)
  clear hc_
  clear hb_
  go_wp2_with fail
  obtain ⟨wq1, hwq1⟩ : ∃ x, w7.alloc (.cells #[.int .u64 2, .slice none 0 0, .int .i64 (1)] 59) = x := ⟨_, rfl⟩
  have hbq1 : Below w7.heap.size w7 wq1 := by rw [← hwq1]; go_grown
  have hcq1 := Lib.hid (hct.out.below hbq1)
  obtain ⟨esq1, clq1, hmq1⟩ := hcq1.out.map
  have hTq1 := Lib.hid (hT.out.below hbq1); have hvq1 := Lib.hid (hv1.out.below hbq1)
  have hlit1 := Lib.hid (show HsV wq1 (.slice (some ⟨w7.heap.size, 0, none⟩) 1 1) [((⟨none, 0, ⟨2, []⟩⟩ : Td), 1)] by rw [← hwq1]; exact HsV.lit w7 _ 1 _ (fun x hx => by simp only [List.mem_singleton] at hx; subst hx; exact nilTd _ _) _ rfl _ rfl rfl (by omega))
  try rw [hwq1]
  refine (update_any 0 cb mb cM0 _ [((⟨none, 0, ⟨2, []⟩⟩ : Td), 1)] wq1 hTq1.out hcq1.out hlit1.out (by simp) (fun x hx => by simp only [List.mem_singleton] at hx; subst hx; exact ⟨tmW 2 [] (by omega) rfl, by simp, by omega, by omega⟩)).mono ?_
  rintro e_ wu1 ⟨⟨x, rx, o1_, o2_, rfl, ha1_, ha2_, hp_, hst_, hhx_⟩, hc_, hg_⟩
  have hkx := Lib.hid (upd1 ha1_ ha2_ hp_ hst_)
  have hx := Lib.hid hhx_
  replace hct := Lib.hid (show CtI 1 cb mb cM1 wu1 from hc_)
  replace hT := Lib.hid (hTq1.out.mapped hmq1 hg_); replace hv1 := Lib.hid (hvq1.out.mapped hmq1 hg_)
  replace hall := Lib.hid ((chainB hall.out hbq1 hall.out.size).trans (below_of_grown hg_ hmbw.out (chainB hall.out hbq1 hall.out.size).size))
  clear ha1_ ha2_ hp_ hst_ hhx_ hc_ hg_ hwq1 hbq1 hcq1 hmq1 hTq1 hvq1 hlit1 
  obtain ⟨Ax, nx, cx, rfl, hnx, hncx, hcx⟩ := hx.out.form
  have hlx : nx = 1 := by rw [← hnx, ← chs_len, hkx.out]; rfl
  subst hlx
  clear hnx hncx hcx
  go_wp2_with fail
  refine (lawAt_any 3 none 0 0 _).mono ?_
  rintro e_ w8 ⟨rfl, hb_⟩
  have hc_ : Below wu1.heap.size wu1 w8 := chainB (by first | exact Below.refl _ _ | go_grown) hb_ (by first | exact Nat.le_refl _ | (simp; done) | (simp; omega))
  replace hT := Lib.hid (hT.out.below hc_)
  replace hv1 := Lib.hid (hv1.out.below hc_)
  replace hct := Lib.hid (hct.out.below hc_)
  replace hx := Lib.hid (hx.out.below hc_)
  replace hall := Lib.hid (chainB hall.out hc_ hall.out.size)
  clear hc_
  clear hb_
  go_wp2_with fail
  obtain ⟨wq2, hwq2⟩ : ∃ x, w8.alloc (.cells #[.int .u64 3, .slice none 0 0, .int .i64 (1)] 59) = x := ⟨_, rfl⟩
  have hbq2 : Below w8.heap.size w8 wq2 := by rw [← hwq2]; go_grown
  have hcq2 := Lib.hid (hct.out.below hbq2)
  obtain ⟨esq2, clq2, hmq2⟩ := hcq2.out.map
  have hTq2 := Lib.hid (hT.out.below hbq2); have hvq2 := Lib.hid (hv1.out.below hbq2)
  have hxq2 := Lib.hid (hx.out.below hbq2)
  have hlit2 := Lib.hid (show HsV wq2 (.slice (some ⟨w8.heap.size, 0, none⟩) 1 1) [((⟨none, 0, ⟨3, []⟩⟩ : Td), 1)] by rw [← hwq2]; exact HsV.lit w8 _ 1 _ (fun x hx => by simp only [List.mem_singleton] at hx; subst hx; exact nilTd _ _) _ rfl _ rfl rfl (by omega))
  try rw [hwq2]
  refine (update_any 1 cb mb cM1 _ [((⟨none, 0, ⟨3, []⟩⟩ : Td), 1)] wq2 hTq2.out hcq2.out hlit2.out (by simp) (fun x hx => by simp only [List.mem_singleton] at hx; subst hx; exact ⟨tmW 3 [] (by omega) rfl, by simp, by omega, by omega⟩)).mono ?_
  rintro e_ wu2 ⟨⟨y, ry, o1_, o2_, rfl, ha1_, ha2_, hp_, hst_, hhy_⟩, hc_, hg_⟩
  have hky := Lib.hid (upd2 ha1_ ha2_ hp_ hst_)
  have hy := Lib.hid hhy_
  replace hct := Lib.hid (show CtI 2 cb mb cM2 wu2 from hc_)
  replace hT := Lib.hid (hTq2.out.mapped hmq2 hg_); replace hv1 := Lib.hid (hvq2.out.mapped hmq2 hg_)
  replace hx := Lib.hid (hxq2.out.mapped hmq2 hg_)
  replace hall := Lib.hid ((chainB hall.out hbq2 hall.out.size).trans (below_of_grown hg_ hmbw.out (chainB hall.out hbq2 hall.out.size).size))
  clear ha1_ ha2_ hp_ hst_ hhy_ hc_ hg_ hwq2 hbq2 hcq2 hmq2 hTq2 hvq2 hlit2 hxq2
  obtain ⟨Ay, ny, cy, rfl, hny, hncy, hcy⟩ := hy.out.form
  have hly : ny = 0 := by rw [← hny, ← chs_len, hky.out]; rfl
  subst hly
  clear hny hncy hcy
  go_wp2_with fail
  skip
  refine (lawAt_any 2 none 0 0 _).mono ?_
  rintro e_ w9 ⟨rfl, hb_⟩
  have hc_ : Below wu2.heap.size wu2 w9 := chainB (by first | exact Below.refl _ _ | go_grown) hb_ (by first | exact Nat.le_refl _ | (simp; done) | (simp; omega))
  replace hT := Lib.hid (hT.out.below hc_)
  replace hv1 := Lib.hid (hv1.out.below hc_)
  replace hct := Lib.hid (hct.out.below hc_)
  replace hx := Lib.hid (hx.out.below hc_)
  replace hy := Lib.hid (hy.out.below hc_)
  replace hall := Lib.hid (chainB hall.out hc_ hall.out.size)
  clear hc_
  clear hb_
  go_wp2_with fail
  obtain ⟨wq3, hwq3⟩ : ∃ x, w9.alloc (.cells #[.int .u64 2, .slice none 0 0, .int .i64 (-1)] 59) = x := ⟨_, rfl⟩
  have hbq3 : Below w9.heap.size w9 wq3 := by rw [← hwq3]; go_grown
  have hcq3 := Lib.hid (hct.out.below hbq3)
  obtain ⟨esq3, clq3, hmq3⟩ := hcq3.out.map
  have hTq3 := Lib.hid (hT.out.below hbq3); have hvq3 := Lib.hid (hv1.out.below hbq3)
  have hxq3 := Lib.hid (hx.out.below hbq3)
  have hlit3 := Lib.hid (show HsV wq3 (.slice (some ⟨w9.heap.size, 0, none⟩) 1 1) [((⟨none, 0, ⟨2, []⟩⟩ : Td), (-1))] by rw [← hwq3]; exact HsV.lit w9 _ 1 _ (fun x hx => by simp only [List.mem_singleton] at hx; subst hx; exact nilTd _ _) _ rfl _ rfl rfl (by omega))
  try rw [hwq3]
  refine (update_any 2 cb mb cM2 _ [((⟨none, 0, ⟨2, []⟩⟩ : Td), (-1))] wq3 hTq3.out hcq3.out hlit3.out (by simp) (fun x hx => by simp only [List.mem_singleton] at hx; subst hx; exact ⟨tmW 2 [] (by omega) rfl, by simp, by omega, by omega⟩)).mono ?_
  rintro e_ wu3 ⟨⟨z, rz, o1_, o2_, rfl, ha1_, ha2_, hp_, hst_, hhz_⟩, hc_, hg_⟩
  have hkz := Lib.hid (upd3 ha1_ ha2_ hp_ hst_)
  have hz := Lib.hid hhz_
  replace hT := Lib.hid (hTq3.out.mapped hmq3 hg_); replace hv1 := Lib.hid (hvq3.out.mapped hmq3 hg_); replace hx := Lib.hid (hxq3.out.mapped hmq3 hg_)
  replace hall := Lib.hid ((chainB hall.out hbq3 hall.out.size).trans (below_of_grown hg_ hmbw.out (chainB hall.out hbq3 hall.out.size).size))
  clear ha1_ ha2_ hp_ hst_ hhz_ hc_ hg_ hwq3 hbq3 hcq3 hmq3 hTq3 hvq3 hlit3 hxq3 hct
  obtain ⟨Az, nz, cz, rfl, hnz, hncz, hcz⟩ := hz.out.form
  have hlz : nz = 2 := by rw [← hnz, ← chs_len, hkz.out]; rfl
  subst hlz
  clear hnz hncz hcz
  obtain ⟨x0, hx0, ex0⟩ := chs_get (i := 0) hkx.out rfl
  obtain ⟨z0, hz0, ez0⟩ := chs_get (i := 0) hkz.out rfl
  obtain ⟨z1, hz1, ez1⟩ := chs_get (i := 1) hkz.out rfl
  obtain ⟨adx, rfl, _, _, _, x2_⟩ := hx.out.at hx0
  obtain ⟨adz, rfl, _, _, _, z2_⟩ := hz.out.at hz0
  obtain ⟨adz', ez_, _, _, _, y2_⟩ := hz.out.at hz1
  cases ez_
  simp only at ex0 ez0 ez1
  rw [ex0] at x2_
  rw [ez0] at z2_
  rw [ez1] at y2_
  clear hx0 hz0 hz1 ex0 ez0 ez1
  try simp only [Nat.zero_mul, add_zero, Nat.one_mul] at x2_ z2_ y2_
  rw [show adz.add 3 = ⟨adz.block, adz.off + 3, none⟩ from rfl] at y2_
  simp only at y2_
  clear hx hz hkx hky hkz
  go_wp2_with fail
  clear x2_ z2_ y2_
  refine (lawAt_any 2 _ _ _ _).mono ?_
  rintro e_ w10 ⟨rfl, hb_⟩
  have hc_ : Below wu3.heap.size wu3 w10 := chainB (by first | exact Below.refl _ _ | go_grown) hb_ (by first | exact Nat.le_refl _ | (simp; done) | (simp; omega))
  replace hT := Lib.hid (hT.out.below hc_)
  replace hv1 := Lib.hid (hv1.out.below hc_)
  replace hall := Lib.hid (chainB hall.out hc_ hall.out.size)
  have hp0 := Lib.hid ((lit1_at _ (wu3.heap.size) 5 (by first | rfl | (simp; done))).below hb_)
  clear hc_
  clear hb_
  go_wp2_with fail
  refine (lawAt_any 3 _ _ _ _).mono ?_
  rintro e_ w11 ⟨rfl, hb_⟩
  have hc_ : Below w10.heap.size w10 w11 := chainB (by first | exact Below.refl _ _ | go_grown) hb_ (by first | exact Nat.le_refl _ | (simp; done) | (simp; omega))
  replace hT := Lib.hid (hT.out.below hc_)
  replace hv1 := Lib.hid (hv1.out.below hc_)
  replace hp0 := Lib.hid (hp0.out.below hc_)
  replace hall := Lib.hid (chainB hall.out hc_ hall.out.size)
  have hp1 := Lib.hid ((lit1_at _ (w10.heap.size) 1 (by first | rfl | (simp; done))).below hb_)
  clear hc_
  clear hb_
  go_wp2_with fail
  have hrd5 : RdT w11 [(⟨some ⟨wu3.heap.size, 0, none⟩, 1, ⟨2, [5]⟩⟩ : Td), (⟨some ⟨w10.heap.size, 0, none⟩, 1, ⟨3, [1]⟩⟩ : Td)] := by
    intro d hd
    simp only [List.mem_cons, List.not_mem_nil, or_false] at hd
    rcases hd with rfl | rfl
    · exact hp0.out
    · exact hp1.out
  have hd5 := Lib.hid (show decide (tmsD r1 = tmsD [(⟨some ⟨wu3.heap.size, 0, none⟩, 1, ⟨2, [5]⟩⟩ : Td), (⟨some ⟨w10.heap.size, 0, none⟩, 1, ⟨3, [1]⟩⟩ : Td)]) = true from decide_eq_true hk1.out)
  refine (sameTimes_any (.slice A1 n1 c1) _ r1 [(⟨some ⟨wu3.heap.size, 0, none⟩, 1, ⟨2, [5]⟩⟩ : Td), (⟨some ⟨w10.heap.size, 0, none⟩, 1, ⟨3, [1]⟩⟩ : Td)] _ (hv1.out.below (w' := w11.alloc _) (by go_grown)) (TmsV.lit w11 _ 2 [(⟨some ⟨wu3.heap.size, 0, none⟩, 1, ⟨2, [5]⟩⟩ : Td), (⟨some ⟨w10.heap.size, 0, none⟩, 1, ⟨3, [1]⟩⟩ : Td)] hrd5 _ rfl _ rfl rfl (by omega))).mono ?_
  rw [hd5.out]
  rintro e_ w12 ⟨rfl, hb_⟩
  have hc_ : Below w11.heap.size w11 w12 := chainB (by first | exact Below.refl _ _ | go_grown) hb_ (by first | exact Nat.le_refl _ | (simp; done) | (simp; omega))
  replace hT := Lib.hid (hT.out.below hc_)
  replace hv1 := Lib.hid (hv1.out.below hc_)
  replace hp0 := Lib.hid (hp0.out.below hc_)
  replace hp1 := Lib.hid (hp1.out.below hc_)
  replace hall := Lib.hid (chainB hall.out hc_ hall.out.size)
  clear hrd5
  clear hc_
  clear hb_
  clear hp0 hp1
  go_wp2_with fail
  refine (lawAt_any 3 _ _ _ _).mono ?_
  rintro e_ w13 ⟨rfl, hb_⟩
  have hc_ : Below w12.heap.size w12 w13 := chainB (by first | exact Below.refl _ _ | go_grown) hb_ (by first | exact Nat.le_refl _ | (simp; done) | (simp; omega))
  replace hT := Lib.hid (hT.out.below hc_)
  replace hv1 := Lib.hid (hv1.out.below hc_)
  replace hall := Lib.hid (chainB hall.out hc_ hall.out.size)
  have hp0 := Lib.hid ((lit1_at _ (w12.heap.size) 0 (by first | rfl | (simp; done))).below hb_)
  clear hc_
  clear hb_
  go_wp2_with fail
  have hrd5 : RdT w13 [(⟨some ⟨w12.heap.size, 0, none⟩, 1, ⟨3, [0]⟩⟩ : Td)] := by
    intro d hd
    simp only [List.mem_singleton] at hd
    subst hd
    exact hp0.out
  have hw5 : ∀ d ∈ r1 ++ [(⟨some ⟨w12.heap.size, 0, none⟩, 1, ⟨3, [0]⟩⟩ : Td)], TmW d.t ∧ d.t.l.length ≤ 1099511627776 := by
    intro d hd
    have h1 : d.t ∈ tmsD r1 ++ [(⟨3, [0]⟩ : Tm)] := by rw [List.mem_append] at hd ⊢; rcases hd with hd | hd; exact .inl (List.mem_map.2 ⟨d, hd, rfl⟩); simp only [List.mem_singleton] at hd; subst hd; exact .inr (by simp)
    rw [hk1.out] at h1
    simp only [List.cons_append, List.nil_append, List.mem_cons, List.not_mem_nil, or_false] at h1
    rcases h1 with h1 | h1 | h1 <;> rw [h1] <;> exact ⟨tmW _ _ (by omega) rfl, by simp⟩
  have hr1l : r1.length ≤ 1000 := by have := congrArg List.length hk1.out; simp [tmsD] at this; omega
  refine (join_all (.slice A1 n1 c1) _ r1 [(⟨some ⟨w12.heap.size, 0, none⟩, 1, ⟨3, [0]⟩⟩ : Td)] _ (hv1.out.below (w' := w13.alloc _) (by go_grown)) (TmsV.lit w13 _ 1 [(⟨some ⟨w12.heap.size, 0, none⟩, 1, ⟨3, [0]⟩⟩ : Td)] hrd5 _ rfl _ rfl rfl (by omega)) ⟨hr1l, by simp⟩ hw5).mono ?_
  rintro e_ w14 ⟨⟨_, vj, rj, rfl, hvj_, hacj_, _, _⟩, hb_⟩
  have hc_ : Below w13.heap.size w13 w14 := chainB (by first | exact Below.refl _ _ | go_grown) hb_ (by first | exact Nat.le_refl _ | (simp; done) | (simp; omega))
  replace hT := Lib.hid (hT.out.below hc_)
  replace hv1 := Lib.hid (hv1.out.below hc_)
  replace hp0 := Lib.hid (hp0.out.below hc_)
  replace hall := Lib.hid (chainB hall.out hc_ hall.out.size)
  have hvj := Lib.hid (hvj_)
  have hkj := Lib.hid (ac_is (l := joinsL [⟨2, [5]⟩, ⟨3, [1]⟩] [⟨3, [0]⟩]) (r := [⟨3, [1]⟩]) ((show Ac (fun z => upL [⟨2, [5]⟩, ⟨3, [1]⟩] z ∧ upL [⟨3, [0]⟩] z) (tmsD rj) by rw [← hk1.out]; exact hacj_).of (fun z => (joinsL_up _ _ z).symm)) (by decide))
  clear hvj_ hacj_ hrd5 hw5 hr1l
  clear hc_
  clear hb_
  clear hp0
  go_wp2_with fail
  refine (lawAt_any 3 _ _ _ _).mono ?_
  rintro e_ w15 ⟨rfl, hb_⟩
  have hc_ : Below w14.heap.size w14 w15 := chainB (by first | exact Below.refl _ _ | go_grown) hb_ (by first | exact Nat.le_refl _ | (simp; done) | (simp; omega))
  replace hT := Lib.hid (hT.out.below hc_)
  replace hv1 := Lib.hid (hv1.out.below hc_)
  replace hvj := Lib.hid (hvj.out.below hc_)
  replace hall := Lib.hid (chainB hall.out hc_ hall.out.size)
  have hp0 := Lib.hid ((lit1_at _ (w14.heap.size) 1 (by first | rfl | (simp; done))).below hb_)
  clear hc_
  clear hb_
  go_wp2_with fail
  have hrd5 : RdT w15 [(⟨some ⟨w14.heap.size, 0, none⟩, 1, ⟨3, [1]⟩⟩ : Td)] := by
    intro d hd
    simp only [List.mem_singleton] at hd
    subst hd
    exact hp0.out
  have hd5 := Lib.hid (show decide (tmsD rj = tmsD [(⟨some ⟨w14.heap.size, 0, none⟩, 1, ⟨3, [1]⟩⟩ : Td)]) = true from decide_eq_true hkj.out)
  refine (sameTimes_any vj _ rj [(⟨some ⟨w14.heap.size, 0, none⟩, 1, ⟨3, [1]⟩⟩ : Td)] _ (hvj.out.below (w' := w15.alloc _) (by go_grown)) (TmsV.lit w15 _ 1 [(⟨some ⟨w14.heap.size, 0, none⟩, 1, ⟨3, [1]⟩⟩ : Td)] hrd5 _ rfl _ rfl rfl (by omega))).mono ?_
  rw [hd5.out]
  rintro e_ w16 ⟨rfl, hb_⟩
  have hc_ : Below w15.heap.size w15 w16 := chainB (by first | exact Below.refl _ _ | go_grown) hb_ (by first | exact Nat.le_refl _ | (simp; done) | (simp; omega))
  replace hT := Lib.hid (hT.out.below hc_)
  replace hv1 := Lib.hid (hv1.out.below hc_)
  replace hvj := Lib.hid (hvj.out.below hc_)
  replace hp0 := Lib.hid (hp0.out.below hc_)
  replace hall := Lib.hid (chainB hall.out hc_ hall.out.size)
  clear hrd5
  clear hc_
  clear hb_
  clear hp0 hvj
  go_wp2_with fail
  refine (lawAt_any 2 _ _ _ _).mono ?_
  rintro e_ w17 ⟨rfl, hb_⟩
  have hc_ : Below w16.heap.size w16 w17 := chainB (by first | exact Below.refl _ _ | go_grown) hb_ (by first | exact Nat.le_refl _ | (simp; done) | (simp; omega))
  replace hT := Lib.hid (hT.out.below hc_)
  replace hv1 := Lib.hid (hv1.out.below hc_)
  replace hall := Lib.hid (chainB hall.out hc_ hall.out.size)
  have hp0 := Lib.hid ((lit1_at _ (w16.heap.size) 6 (by first | rfl | (simp; done))).below hb_)
  clear hc_
  clear hb_
  go_wp2_with fail
  have hup5 := Lib.hid (show upB (tmsD r1) (⟨2, [6]⟩ : Tm) = true by rw [hk1.out]; decide)
  refine (beyond_any (.slice A1 n1 c1) r1 (⟨some ⟨w16.heap.size, 0, none⟩, 1, ⟨2, [6]⟩⟩ : Td) _ hv1.out hp0.out).mono ?_
  rw [hup5.out]
  rintro e_ w18 ⟨rfl, hb_⟩
  have hc_ : Below w17.heap.size w17 w18 := chainB (by first | exact Below.refl _ _ | go_grown) hb_ (by first | exact Nat.le_refl _ | (simp; done) | (simp; omega))
  replace hT := Lib.hid (hT.out.below hc_)
  replace hv1 := Lib.hid (hv1.out.below hc_)
  replace hp0 := Lib.hid (hp0.out.below hc_)
  replace hall := Lib.hid (chainB hall.out hc_ hall.out.size)
  clear hup5
  clear hc_
  clear hb_
  clear hp0
  go_wp2_with fail
  refine (lawAt_any 2 _ _ _ _).mono ?_
  rintro e_ w19 ⟨rfl, hb_⟩
  have hc_ : Below w18.heap.size w18 w19 := chainB (by first | exact Below.refl _ _ | go_grown) hb_ (by first | exact Nat.le_refl _ | (simp; done) | (simp; omega))
  replace hT := Lib.hid (hT.out.below hc_)
  replace hv1 := Lib.hid (hv1.out.below hc_)
  replace hall := Lib.hid (chainB hall.out hc_ hall.out.size)
  have hp0 := Lib.hid ((lit1_at _ (w18.heap.size) 4 (by first | rfl | (simp; done))).below hb_)
  clear hc_
  clear hb_
  go_wp2_with fail
  have hup5 := Lib.hid (show upB (tmsD r1) (⟨2, [4]⟩ : Tm) = false by rw [hk1.out]; decide)
  refine (beyond_any (.slice A1 n1 c1) r1 (⟨some ⟨w18.heap.size, 0, none⟩, 1, ⟨2, [4]⟩⟩ : Td) _ hv1.out hp0.out).mono ?_
  rw [hup5.out]
  rintro e_ w20 ⟨rfl, hb_⟩
  have hc_ : Below w19.heap.size w19 w20 := chainB (by first | exact Below.refl _ _ | go_grown) hb_ (by first | exact Nat.le_refl _ | (simp; done) | (simp; omega))
  replace hT := Lib.hid (hT.out.below hc_)
  replace hv1 := Lib.hid (hv1.out.below hc_)
  replace hp0 := Lib.hid (hp0.out.below hc_)
  replace hall := Lib.hid (chainB hall.out hc_ hall.out.size)
  clear hup5
  clear hc_
  clear hb_
  clear hp0
  go_wp2_with fail
  refine (lawAt_any 3 none 0 0 _).mono ?_
  rintro e_ w21 ⟨rfl, hb_⟩
  have hc_ : Below w20.heap.size w20 w21 := chainB (by first | exact Below.refl _ _ | go_grown) hb_ (by first | exact Nat.le_refl _ | (simp; done) | (simp; omega))
  replace hT := Lib.hid (hT.out.below hc_)
  replace hv1 := Lib.hid (hv1.out.below hc_)
  replace hall := Lib.hid (chainB hall.out hc_ hall.out.size)
  clear hc_
  clear hb_
  go_wp2_with fail
  have hl5 := Lib.hid (TmsV.lit w21 w21.heap.size 1 [(⟨none, 0, ⟨3, []⟩⟩ : Td)] (fun d hd => by simp only [List.mem_singleton] at hd; subst hd; exact nilTd _ _) #[.int .u64 3, .slice none 0 0] rfl 26 rfl rfl (by omega))
  refine (lawAt_any 2 none 0 0 _).mono ?_
  rintro e_ w22 ⟨rfl, hb_⟩
  have hc_ : Below w21.heap.size w21 w22 := chainB (by first | exact Below.refl _ _ | go_grown) hb_ (by first | exact Nat.le_refl _ | (simp; done) | (simp; omega))
  replace hT := Lib.hid (hT.out.below hc_)
  replace hv1 := Lib.hid (hv1.out.below hc_)
  replace hall := Lib.hid (chainB hall.out hc_ hall.out.size)
  have hl6 := Lib.hid (hl5.out.below hb_)
  clear hl5
  clear hc_
  clear hb_
  go_wp2_with fail
  have hadv := Lib.hid (show advT [(⟨3, []⟩ : Tm)] ⟨2, []⟩ = ⟨3, []⟩ by decide)
  refine (advance_any _ (.agg #[.int .u64 2, .slice none 0 0]) [(⟨none, 0, ⟨3, []⟩⟩ : Td)] ⟨2, []⟩ _ hl6.out ⟨_, rfl, nilTd _ 2⟩ (tmW 2 [] (by omega) rfl) (by simp) (fun d hd => by simp only [List.mem_singleton] at hd; subst hd; exact tmW 3 [] (by omega) rfl)).mono ?_
  rw [show advT (tmsD [(⟨none, 0, ⟨3, []⟩⟩ : Td)]) ⟨2, []⟩ = ⟨3, []⟩ from hadv.out]
  rintro e_ w23 ⟨sa, rfl, hsa_, hb_⟩
  have hc_ : Below w22.heap.size w22 w23 := chainB (by first | exact Below.refl _ _ | go_grown) hb_ (by first | exact Nat.le_refl _ | (simp; done) | (simp; omega))
  replace hT := Lib.hid (hT.out.below hc_)
  replace hv1 := Lib.hid (hv1.out.below hc_)
  replace hl6 := Lib.hid (hl6.out.below hc_)
  replace hall := Lib.hid (chainB hall.out hc_ hall.out.size)
  obtain ⟨As, ns, cs, rfl, _, _, _⟩ := hsa_.words.form
  clear hsa_
  have hfd : ∀ x : World, (Instr.field 26 (.agg #[.int .u64 3, .slice As ns cs]) 0).run Tryz.prog x = .ok (.int .u64 3) x := fun x => by first | kernel_rfl | rfl | (go_simp; done)
  clear hc_
  clear hb_
  go_wp2_with fail
  go_ret
  exact ⟨rfl, hall.out⟩
end Go.Proofs.YtdfhchpimpbgfaaGreatDoor
