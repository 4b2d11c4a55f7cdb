/-
  The library's SortFunc at changes, at this program: in the order of their times. Conditions: those written.
-/
import Derived.Test.YtdfhchpimpbgfaaGreatDoorChH
import Derived.Test.YtdfhchpimpbgfaaGreatDoorChSo
import Derived.Shelf.SlSortCmp.WholeK
set_option linter.unusedVariables false
set_option linter.unusedSimpArgs false
namespace Go.Proofs.YtdfhchpimpbgfaaGreatDoor
open Go.RowKit Go.Lib Go.Proofs Go.Shelf Go.Sort

/-- A time that reads, in a world. -/
abbrev Rh (w0 : World) := { q : Hd // WordsV w0 (slD q.1) q.1.t.l }
instance {w0 : World} : Inhabited (Rh w0) := ⟨⟨(⟨none, 0, ⟨0, []⟩⟩, 0), WordsV.nil w0⟩⟩
def cfH {w0 : World} (x y : Rh w0) : Int := cmpT x.1.1.t y.1.1.t
theorem cfH_order (w0 : World) : SWO (ltOf (cfH (w0 := w0))) where
  irrefl x := by simp [ltOf, cfH, cmpT_refl]
  trans x y z h1 h2 := by
    have h1' : cmpT x.1.1.t y.1.1.t < 0 := of_decide_eq_true h1
    have h2' : cmpT y.1.1.t z.1.1.t < 0 := of_decide_eq_true h2
    exact decide_eq_true (show cmpT x.1.1.t z.1.1.t < 0 from cmpT_trans h1' h2')
  ntrans x y z h1 h2 := by
    have h1' : ¬ cmpT x.1.1.t y.1.1.t < 0 := of_decide_eq_false h1
    have h2' : ¬ cmpT y.1.1.t z.1.1.t < 0 := of_decide_eq_false h2
    refine decide_eq_false (show ¬ cmpT x.1.1.t z.1.1.t < 0 from fun h => ?_)
    by_cases e : cmpT x.1.1.t y.1.1.t = 0
    · rw [cmpT_zero e] at h; exact h2' h
    · exact h2' (cmpT_trans (by rw [cmpT_anti]; omega) h)
set_option maxHeartbeats 4000000 in
set_option maxRecDepth 1000000 in
theorem update1_any (x y : Hd) (w : World) (hx : WordsV w (slD x.1) x.1.t.l) (hy : WordsV w (slD y.1) y.1.t.l) :
    Calls Tryz.prog 74 #[.agg (cellsD x).toArray, .agg (cellsD y).toArray] w fun e w' => e = .returned (.int .i64 (cmpT x.1.t y.1.t)) ∧ Rose w.heap.size w w' := by
  obtain ⟨⟨xA, xc, ⟨xe, xl⟩⟩, xz⟩ := x
  obtain ⟨⟨yA, yc, ⟨ye, yl⟩⟩, yz⟩ := y
  obtain ⟨r, hr⟩ : ∃ r, cmpT (⟨xe, xl⟩ : Tm) ⟨ye, yl⟩ = r := ⟨_, rfl⟩
  have hrH := Lib.hid hr
  obtain ⟨W0, hW0, hwW, hA, hB, hzz⟩ := boxes2 w [.int .u64 xe, .slice xA xl.length xc, .int .i64 xz] [.int .u64 ye, .slice yA yl.length yc, .int .i64 yz] 59 59
  have hxH := Lib.hid (hx.below hwW); have hyH := Lib.hid (hy.below hwW)
  have hR := Lib.hid (show Rose w.heap.size w W0 from ⟨hwW, by rw [← hW0]; exact Nat.le_refl _⟩)
  have a0_ := hA.cell 0 rfl; have a1_ := hA.cell 1 rfl; have a2_ := hA.cell 2 rfl; have b0_ := hB.cell 0 rfl; have b1_ := hB.cell 1 rfl; have b2_ := hB.cell 2 rfl
  have al_ := hA.lt; have bl_ := hB.lt
  simp only [cellsD, cellsH]
  rw [hr]
  clear hx hy hr hA hB hwW
  go_enter Tryz.func74, Tryz.ntmps74
  go_wp2_with fail
  refine (stampCmpR_any _ _ ⟨xe, xl⟩ ⟨ye, yl⟩ W0 ⟨_, rfl, hxH.out⟩ ⟨_, rfl, hyH.out⟩).mono ?_
  rw [hrH.out]
  rintro e w' ⟨rfl, hro⟩
  have hroH := Lib.hid hro
  clear hro
  go_wp2_with fail
  go_ret
  exact ⟨rfl, hR.out.trans (hroH.out.mono hR.out.toBelow.size)⟩
set_option maxHeartbeats 2000000 in
theorem sortH_any (g cap : Nat) (ds : List Hd) (w0 w : World) (h : OwnH g cap ds w) (hr : RdH w0 ds) (hb : Below w0.heap.size w0 w) (hg : w0.heap.size ≤ g) (hn : ds.length ≤ 1099511627776) :
    Calls Tryz.prog 73 #[.slice (some ⟨g, 0, none⟩) ds.length cap, .func (.func 74) #[] #[]] w fun e w' =>
      e = .returned (.tuple #[]) ∧ ∃ r : List Hd, r.Perm ds ∧ r.Pairwise (fun a b => ¬ cmpT b.1.t a.1.t < 0) ∧ OwnH g cap r w' ∧ w.grownBy w' (some g) := by
  have eg : ∀ args w, (callFunc 74 args).run Tryz.prog w = .ok (.enter 74 args) w := enters_of Tryz.func74 (by kernel_rfl) rfl
  obtain ⟨d, hd⟩ : ∃ d : Array (Rh w0), d.toList.map (·.1) = ds := ⟨(ds.attach.map fun x => (⟨x.1, hr x.1 x.2⟩ : Rh w0)).toArray, by rw [List.map_map]; exact List.attach_map_subtype_val ds⟩
  subst hd
  have hlen : (d.toList.map (·.1)).length = d.size := by simp
  have hsz : d.size < 4611686018427387904 := by rw [hlen] at hn; omega
  have hown : OwnL 59 3 g cap (d.toList.map fun x => cellsD x.1) w := by
    have e : (d.toList.map (·.1)).map cellsD = d.toList.map (fun x => cellsD x.1) := by simp [List.map_map, Function.comp_def]
    rw [← e]; exact h
  have hcmp : CmpLays Tryz.prog 74 #[] (fun x : Rh w0 => cellsD x.1) 3 cfH g 0 d.size w := by
    intro m os dk hs x y
    have hW : Below w0.heap.size w0 (sortWorldK (fun x : Rh w0 => cellsD x.1) 3 w g 0 m dk os) := hb.trans (below_of_grown (sorted_grown w m os) hg hb.size)
    refine (update1_any x.1 y.1 _ (x.2.below hW) (y.2.below hW)).mono ?_
    rintro e w' ⟨he, hro⟩
    exact ⟨he, hro.grow⟩
  have hS := AnyQ.slices_SortFunc Tryz.sortH 3 (fun _ => by kernel_rfl) (fun _ => by kernel_rfl) (fun x : Rh w0 => cellsD x.1) (fun _ => rfl) (fun x => cellsD_one x.1) cfH (cfH_order w0) 74 #[] g 0 cap d w eg hcmp (hown.holds (by omega) (fun _ => rfl)) hown.lt hsz
  rw [hlen]
  refine Calls.mono (show Calls Tryz.prog 73 _ _ _ from hS) ?_
  rintro e w' ⟨he, d', n, os, ⟨p1, p2, p3⟩, hso, rfl⟩
  refine ⟨he, d'.toList.map (·.1), ?_, ?_, ?_, sorted_grown w n os⟩
  · have : d'.toList.Perm d.toList := by
      have e : d'.toList.take d.size = d'.toList := List.take_of_length_le (by simp [p1])
      have e2 : d.toList.take d.size = d.toList := List.take_of_length_le (by simp)
      simpa [e, e2] using p3
    exact this.map _
  · rw [List.pairwise_map, List.pairwise_iff_getElem]
    intro i j hi hj hij
    have h1 := hso i j (Nat.zero_le _) hij (by rw [← p1]; simpa using hj)
    rw [getElem!_pos d' i (by simpa using hi), getElem!_pos d' j (by simpa using hj)] at h1
    intro hlt
    exact of_decide_eq_false h1 (by unfold cfH; simpa using hlt)
  · have := hown.sorted (by omega) (fun _ => rfl) p1 n os
    have e : (d'.toList.map (·.1)).map cellsD = d'.toList.map (fun x => cellsD x.1) := by simp [List.map_map, Function.comp_def]
    unfold OwnH
    rw [e]; exact this
end Go.Proofs.YtdfhchpimpbgfaaGreatDoor
