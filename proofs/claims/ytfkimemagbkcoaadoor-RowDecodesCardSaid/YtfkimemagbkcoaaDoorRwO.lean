/-
  The library's SortFunc at counted rows, at this program: in the order of their rows. Conditions: those written.
-/
import Derived.Test.YtfkimemagbkcoaaDoorRwD
import Derived.Test.YtfkimemagbkcoaaDoorOwnS
import Derived.Test.YtfkimemagbkcoaaDoorRowS
import Derived.Shelf.SlSortCmp.WholeK
set_option linter.unusedVariables false
set_option linter.unusedSimpArgs false
namespace Go.Proofs.YtfkimemagbkcoaaDoor
open Go.RowKit Go.Lib Go.Proofs Go.Shelf Go.Sort

/-- A counted row that reads, in a world, as a row. -/
abbrev Rd (w0 : World) := { d : Cd // RowV w0 (valD d) d.2 }
instance (w0 : World) : Inhabited (Rd w0) := ⟨⟨(⟨none, 0, 0, 0⟩, []), RowV.nil w0⟩⟩
def cfR {w0 : World} (x y : Rd w0) : Int := cmpR x.1.2 y.1.2
theorem cfR_order (w0 : World) : SWO (ltOf (cfR (w0 := w0))) where
  irrefl x := by simp [ltOf, cfR, cmpR_self]
  trans x y z h1 h2 := by
    have h1' : cmpR x.1.2 y.1.2 < 0 := of_decide_eq_true h1
    have h2' : cmpR y.1.2 z.1.2 < 0 := of_decide_eq_true h2
    have t1 := cmpR_turn x.1.2 z.1.2
    have t2 := cmpR_turn y.1.2 z.1.2
    refine decide_eq_true (show cmpR x.1.2 z.1.2 < 0 from ?_)
    by_cases h : cmpR x.1.2 z.1.2 < 0
    · exact h
    · have := cmpR_trans (l := z.1.2) (m := x.1.2) (n := y.1.2) (by omega) (by omega)
      omega
  ntrans x y z h1 h2 := by
    have h1' : ¬ cmpR x.1.2 y.1.2 < 0 := of_decide_eq_false h1
    have h2' : ¬ cmpR y.1.2 z.1.2 < 0 := of_decide_eq_false h2
    have t1 := cmpR_turn x.1.2 y.1.2
    have t2 := cmpR_turn y.1.2 z.1.2
    have t3 := cmpR_turn x.1.2 z.1.2
    refine decide_eq_false (show ¬ cmpR x.1.2 z.1.2 < 0 from ?_)
    have := cmpR_trans (l := z.1.2) (m := y.1.2) (n := x.1.2) (by omega) (by omega)
    omega
set_option maxHeartbeats 2000000 in
theorem sortC_any (g cap : Nat) (ds : List Cd) (w0 w : World) (h : OwnC g cap (ds.map (·.1)) w) (hr : ∀ d ∈ ds, RowV w0 (valD d) d.2) (hb : Below w0.heap.size w0 w) (hg : w0.heap.size ≤ g) (hn : ds.length ≤ 1099511627776) :
    Calls Tryd.prog 43 #[.slice (some ⟨g, 0, none⟩) ds.length cap, .func (.func 44) #[] #[]] w fun e w' =>
      e = .returned (.tuple #[]) ∧ ∃ r : List Cd, r.Perm ds ∧ r.Pairwise (fun a b => ¬ cmpR b.2 a.2 < 0) ∧ OwnC g cap (r.map (·.1)) w' ∧ w.grownBy w' (some g) := by
  have eg : ∀ args w, (callFunc 44 args).run Tryd.prog w = .ok (.enter 44 args) w := enters_of Tryd.func44 (by kernel_rfl) rfl
  obtain ⟨d, hd⟩ : ∃ d : Array (Rd w0), d.toList.map (·.1) = ds := ⟨(ds.attach.map fun x => (⟨x.1, hr x.1 x.2⟩ : Rd w0)).toArray, by rw [List.map_map]; exact List.attach_map_subtype_val ds⟩
  subst hd
  have hlen : (d.toList.map (·.1)).length = d.size := by simp
  have hsz : d.size < 4611686018427387904 := by rw [hlen] at hn; omega
  have hown : OwnL 45 2 g cap (d.toList.map fun x => cellsV x.1.1) w := by
    have e : ((d.toList.map (·.1)).map (·.1)).map cellsV = d.toList.map (fun x => cellsV x.1.1) := by simp [List.map_map, Function.comp_def]
    rw [← e]; exact h
  have hcmp : CmpLays Tryd.prog 44 #[] (fun x : Rd w0 => cellsV x.1.1) 2 cfR g 0 d.size w := by
    intro m os dk hs x y
    have hW : Below w0.heap.size w0 (sortWorldK (fun x : Rd w0 => cellsV x.1.1) 2 w g 0 m dk os) := hb.trans (below_of_grown (sorted_grown w m os) hg hb.size)
    refine (sumCmp_any x.1.1.A x.1.1.k x.1.1.c x.1.1.n y.1.1.A y.1.1.k y.1.1.c y.1.1.n x.1.2 y.1.2 _ (x.2.below hW) (y.2.below hW)).mono ?_
    rintro e w' ⟨he, hro⟩
    exact ⟨he, hro.grow⟩
  have hS := AnyQ.slices_SortFunc Tryd.sortC 2 (fun _ => by kernel_rfl) (fun _ => by kernel_rfl) (fun x : Rd w0 => cellsV x.1.1) (fun _ => rfl) (fun x => cellsV_one x.1.1) cfR (cfR_order w0) 44 #[] g 0 cap d w eg hcmp (hown.holds (by omega) (fun _ => rfl)) hown.lt hsz
  rw [hlen]
  refine Calls.mono (show Calls Tryd.prog 43 _ _ _ from hS) ?_
  rintro e w' ⟨he, d', n, os, ⟨p1, p2, p3⟩, hso, rfl⟩
  refine ⟨he, d'.toList.map (·.1), ?_, ?_, ?_, sorted_grown w n os⟩
  · have : d'.toList.Perm d.toList := by
      have e : d'.toList.take d.size = d'.toList := List.take_of_length_le (by simp [p1])
      have e2 : d.toList.take d.size = d.toList := List.take_of_length_le (by simp)
      simpa [e, e2] using p3
    exact this.map _
  · rw [List.pairwise_map, List.pairwise_iff_getElem]
    intro i j hi hj hij
    have h1 := hso i j (Nat.zero_le _) hij (by rw [← p1]; simpa using hj)
    rw [getElem!_pos d' i (by simpa using hi), getElem!_pos d' j (by simpa using hj)] at h1
    intro hlt
    exact of_decide_eq_false h1 (by unfold cfR; simpa using hlt)
  · have := hown.sorted (by omega) (fun _ => rfl) p1 n os
    have e : ((d'.toList.map (·.1)).map (·.1)).map cellsV = d'.toList.map (fun x => cellsV x.1.1) := by simp [List.map_map, Function.comp_def]
    unfold OwnC
    rw [e]; exact this
end Go.Proofs.YtfkimemagbkcoaaDoor
