/-
  The library's SortFunc at times, at this program: in their order. Conditions: those written.
-/
import Derived.Test.YtdfhchpimpbgfaaGreatDoorChV
import Derived.Test.YtdfhchpimpbgfaaGreatDoorChCmp
import Derived.Test.YtdfhchpimpbgfaaGreatDoorChOwnS
import Derived.Test.YtdfhchpimpbgfaaGreatDoorShelfS
import Derived.Shelf.SlSortCmp.WholeK
set_option linter.unusedVariables false
set_option linter.unusedSimpArgs false
namespace Go.Proofs.YtdfhchpimpbgfaaGreatDoor
open Go.RowKit Go.Lib Go.Proofs Go.Shelf Go.Sort

/-- A time that reads, in a world. -/
abbrev Rt (w0 : World) := { d : Td // WordsV w0 (slD d) d.t.l }
instance {w0 : World} : Inhabited (Rt w0) := ⟨⟨⟨none, 0, ⟨0, []⟩⟩, WordsV.nil w0⟩⟩
def cfT {w0 : World} (x y : Rt w0) : Int := cmpT x.1.t y.1.t
theorem cfT_order (w0 : World) : SWO (ltOf (cfT (w0 := w0))) where
  irrefl x := by simp [ltOf, cfT, cmpT_refl]
  trans x y z h1 h2 := by
    have h1' : cmpT x.1.t y.1.t < 0 := of_decide_eq_true h1
    have h2' : cmpT y.1.t z.1.t < 0 := of_decide_eq_true h2
    exact decide_eq_true (show cmpT x.1.t z.1.t < 0 from cmpT_trans h1' h2')
  ntrans x y z h1 h2 := by
    have h1' : ¬ cmpT x.1.t y.1.t < 0 := of_decide_eq_false h1
    have h2' : ¬ cmpT y.1.t z.1.t < 0 := of_decide_eq_false h2
    refine decide_eq_false (show ¬ cmpT x.1.t z.1.t < 0 from fun h => ?_)
    by_cases e : cmpT x.1.t y.1.t = 0
    · rw [cmpT_zero e] at h; exact h2' h
    · exact h2' (cmpT_trans (by rw [cmpT_anti]; omega) h)
set_option maxHeartbeats 2000000 in
theorem sortT_any (g cap : Nat) (ds : List Td) (w0 w : World) (h : OwnT g cap ds w) (hr : RdT w0 ds) (hb : Below w0.heap.size w0 w) (hg : w0.heap.size ≤ g) (hn : ds.length ≤ 1099511627776) :
    Calls Tryz.prog 41 #[.slice (some ⟨g, 0, none⟩) ds.length cap, .func (.func 42) #[] #[]] w fun e w' =>
      e = .returned (.tuple #[]) ∧ ∃ r : List Td, r.Perm ds ∧ r.Pairwise (fun a b => ¬ cmpT b.t a.t < 0) ∧ OwnT g cap r w' ∧ w.grownBy w' (some g) := by
  have eg : ∀ args w, (callFunc 42 args).run Tryz.prog w = .ok (.enter 42 args) w := enters_of Tryz.func42 (by kernel_rfl) rfl
  obtain ⟨d, hd⟩ : ∃ d : Array (Rt w0), d.toList.map (·.1) = ds := ⟨(ds.attach.map fun x => (⟨x.1, hr x.1 x.2⟩ : Rt w0)).toArray, by rw [List.map_map]; exact List.attach_map_subtype_val ds⟩
  subst hd
  have hlen : (d.toList.map (·.1)).length = d.size := by simp
  have hsz : d.size < 4611686018427387904 := by rw [hlen] at hn; omega
  have hown : OwnL 26 2 g cap (d.toList.map fun x => cellsT x.1) w := by
    have e : (d.toList.map (·.1)).map cellsT = d.toList.map (fun x => cellsT x.1) := by simp [List.map_map, Function.comp_def]
    rw [← e]; exact h
  have hcmp : CmpLays Tryz.prog 42 #[] (fun x : Rt w0 => cellsT x.1) 2 cfT g 0 d.size w := by
    intro m os dk hs x y
    have hW : Below w0.heap.size w0 (sortWorldK (fun x : Rt w0 => cellsT x.1) 2 w g 0 m dk os) := hb.trans (below_of_grown (sorted_grown w m os) hg hb.size)
    refine (stampCmpR_any _ _ x.1.t y.1.t _ ⟨_, rfl, x.2.below hW⟩ ⟨_, rfl, y.2.below hW⟩).mono ?_
    rintro e w' ⟨he, hro⟩
    exact ⟨he, hro.grow⟩
  have hS := AnyQ.slices_SortFunc Tryz.sortT 2 (fun _ => by kernel_rfl) (fun _ => by kernel_rfl) (fun x : Rt w0 => cellsT x.1) (fun _ => rfl) (fun x => cellsT_one x.1) cfT (cfT_order w0) 42 #[] g 0 cap d w eg hcmp (hown.holds (by omega) (fun _ => rfl)) hown.lt hsz
  rw [hlen]
  refine Calls.mono (show Calls Tryz.prog 41 _ _ _ from hS) ?_
  rintro e w' ⟨he, d', n, os, ⟨p1, p2, p3⟩, hso, rfl⟩
  refine ⟨he, d'.toList.map (·.1), ?_, ?_, ?_, sorted_grown w n os⟩
  · have : d'.toList.Perm d.toList := by
      have e : d'.toList.take d.size = d'.toList := List.take_of_length_le (by simp [p1])
      have e2 : d.toList.take d.size = d.toList := List.take_of_length_le (by simp)
      simpa [e, e2] using p3
    exact this.map _
  · rw [List.pairwise_map, List.pairwise_iff_getElem]
    intro i j hi hj hij
    have h1 := hso i j (Nat.zero_le _) hij (by rw [← p1]; simpa using hj)
    rw [getElem!_pos d' i (by simpa using hi), getElem!_pos d' j (by simpa using hj)] at h1
    intro hlt
    exact of_decide_eq_false h1 (by unfold cfT; simpa using hlt)
  · have := hown.sorted (by omega) (fun _ => rfl) p1 n os
    have e : (d'.toList.map (·.1)).map cellsT = d'.toList.map (fun x => cellsT x.1) := by simp [List.map_map, Function.comp_def]
    unfold OwnT
    rw [e]; exact this
end Go.Proofs.YtdfhchpimpbgfaaGreatDoor
