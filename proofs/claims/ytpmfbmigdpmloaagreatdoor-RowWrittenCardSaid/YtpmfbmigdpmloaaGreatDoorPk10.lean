/-
  Texts that belong together: OwnS, RwO. What each one says stands ahead of it.
-/
import Derived.Test.YtpmfbmigdpmloaaGreatDoorPk03
import Derived.Shelf.SlSortFuncK.SWK
import Derived.Test.YtpmfbmigdpmloaaGreatDoorPk09
import Derived.Shelf.SlSortCmp.WholeK
section
/-
  A block of rows that a call owns, before and behind the library's sort of it. Nothing is walked here. No condition but those written.
-/
set_option linter.unusedVariables false
set_option linter.unusedSimpArgs false
namespace Go.Proofs.YtpmfbmigdpmloaaGreatDoor
open Go.RowKit Go.Lib Go.Sort Go.Proofs

section
variable {α : Type} [Inhabited α] {enc : α → List Value} {T : TypeId} {k g cap : Nat} {w : World} {d d' : Array α}
theorem map_get (d : Array α) (enc : α → List Value) {i : Nat} (hi : i < d.size) : (d.toList.map enc)[i]? = some (enc d[i]!) := by
  rw [List.getElem?_map, Array.getElem?_toList, Array.getElem?_eq_getElem hi]
  simp [getElem!_pos, hi]
theorem OwnL.holds (h : OwnL T k g cap (d.toList.map enc) w) (hk : 0 < k) (he : ∀ x, (enc x).length = k) : HoldsK enc k w g 0 d := by
  intro j hj
  rw [size_flatK] at hj
  refine ⟨?_, h.free _⟩
  have h1 : j / k < d.size := Nat.div_lt_of_lt_mul (by rw [Nat.mul_comm]; exact hj)
  have h2 := Nat.mod_lt j hk
  have e : 0 + j = j / k * k + j % k := by have := Nat.div_add_mod j k; rw [Nat.mul_comm] at this; omega
  rw [e, ← e, get_flatK enc k d j hj, e]
  refine h.cell (map_get d enc h1) ?_
  rw [List.getElem?_eq_getElem (by rw [he]; exact h2)]
  simp [getElem!_pos, he, h2]
theorem OwnL.sorted (h : OwnL T k g cap (d.toList.map enc) w) (hk : 0 < k) (he : ∀ x, (enc x).length = k) (hs : d'.size = d.size) (n : Nat) (os : Array Obj) :
    OwnL T k g cap (d'.toList.map enc) (sortWorldK enc k w g 0 n d' os) := by
  have hlt := h.lt
  obtain ⟨h1, h2, h3, cur, hg, h4, h5⟩ := h
  have hsz : d.size ≤ cap := by simpa using h2
  have hm : ∀ x ∈ d'.toList.map enc, x.length = k := fun x hx => by obtain ⟨y, _, rfl⟩ := List.mem_map.1 hx; exact he y
  have hb : d'.size * k ≤ cur.size := by rw [h4, hs]; exact Nat.mul_le_mul_right k hsz
  refine ⟨hm, by simpa [hs] using hsz, h3, putCells id 0 (flatK enc k d') cur, ?_, by simpa [putCells] using h4, ?_⟩
  · unfold sortWorldK Go.Sort.grow putRowK putRow mapBlock
    rw [Array.getElem?_append_left (by simpa using hlt)]
    simp [Sort.ahead, Array.getElem?_modify, hg, onCells]
  · rw [List.length_map, Array.length_toList]
    apply List.ext_getElem?
    intro t
    rw [List.getElem?_take]
    by_cases ht : t < d'.size * k
    · have t1 : t / k < d'.size := Nat.div_lt_of_lt_mul (by rw [Nat.mul_comm]; exact ht)
      have t2 := Nat.mod_lt t hk
      have e : t = t / k * k + t % k := by have := Nat.div_add_mod t k; rw [Nat.mul_comm] at this; omega
      rw [if_pos ht]
      conv => rhs; rw [e, flat_get _ hm _ _ t2, map_get d' enc t1]
      rw [Array.getElem?_toList]
      have tc : t < cur.size := by omega
      simp only [putCells, Array.getElem?_mapIdx, Array.getElem?_eq_getElem tc, Option.map_some]
      rw [if_pos (by rw [size_flatK]; omega), Nat.sub_zero, get_flatK enc k d' t ht, Option.bind_some, List.getElem?_eq_getElem (by rw [he]; exact t2)]
      simp [getElem!_pos, he, t2]
    · rw [if_neg ht, List.getElem?_eq_none]
      rw [flats_len _ hm]
      simpa using ht
theorem sorted_grown (w : World) (n : Nat) (os : Array Obj) : w.grownBy (sortWorldK enc k w g 0 n d' os) (some g) := by
  refine ⟨rfl, rfl, rfl, by unfold sortWorldK; rw [«Sort».size_grow, size_putRowK]; simp [Sort.ahead], fun j hj hne => ?_⟩
  unfold sortWorldK Go.Sort.grow putRowK putRow mapBlock
  rw [Array.getElem?_append_left (by simpa [Sort.ahead] using hj)]
  simp only [Sort.ahead, Array.getElem?_modify]
  rw [if_neg (fun q => hne (by rw [q]))]
theorem sorted_drawn (w : World) (n : Nat) (os : Array Obj) : w.drawn ≤ (sortWorldK enc k w g 0 n d' os).drawn := by
  show w.drawn ≤ w.drawn + n
  omega
end
end Go.Proofs.YtpmfbmigdpmloaaGreatDoor
end
section
/-
  The library's SortFunc at counted rows, at this program: in the order of their rows. Conditions: those written.
-/
set_option linter.unusedVariables false
set_option linter.unusedSimpArgs false
namespace Go.Proofs.YtpmfbmigdpmloaaGreatDoor
open Go.RowKit Go.Lib Go.Proofs Go.Shelf Go.Sort

/-- A counted row that reads, in a world, as a row. -/
abbrev Rd (w0 : World) := { d : Cd // RowV w0 (valD d) d.2 }
instance (w0 : World) : Inhabited (Rd w0) := ⟨⟨(⟨none, 0, 0, 0⟩, []), RowV.nil w0⟩⟩
def cfR {w0 : World} (x y : Rd w0) : Int := cmpR x.1.2 y.1.2
theorem cfR_order (w0 : World) : SWO (ltOf (cfR (w0 := w0))) where
  irrefl x := by simp [ltOf, cfR, cmpR_self]
  trans x y z h1 h2 := by
    have h1' : cmpR x.1.2 y.1.2 < 0 := of_decide_eq_true h1
    have h2' : cmpR y.1.2 z.1.2 < 0 := of_decide_eq_true h2
    have t1 := cmpR_turn x.1.2 z.1.2
    have t2 := cmpR_turn y.1.2 z.1.2
    refine decide_eq_true (show cmpR x.1.2 z.1.2 < 0 from ?_)
    by_cases h : cmpR x.1.2 z.1.2 < 0
    · exact h
    · have := cmpR_trans (l := z.1.2) (m := x.1.2) (n := y.1.2) (by omega) (by omega)
      omega
  ntrans x y z h1 h2 := by
    have h1' : ¬ cmpR x.1.2 y.1.2 < 0 := of_decide_eq_false h1
    have h2' : ¬ cmpR y.1.2 z.1.2 < 0 := of_decide_eq_false h2
    have t1 := cmpR_turn x.1.2 y.1.2
    have t2 := cmpR_turn y.1.2 z.1.2
    have t3 := cmpR_turn x.1.2 z.1.2
    refine decide_eq_false (show ¬ cmpR x.1.2 z.1.2 < 0 from ?_)
    have := cmpR_trans (l := z.1.2) (m := y.1.2) (n := x.1.2) (by omega) (by omega)
    omega
set_option maxHeartbeats 2000000 in
theorem sortC_any (g cap : Nat) (ds : List Cd) (w0 w : World) (h : OwnC g cap (ds.map (·.1)) w) (hr : ∀ d ∈ ds, RowV w0 (valD d) d.2) (hb : Below w0.heap.size w0 w) (hg : w0.heap.size ≤ g) (hn : ds.length ≤ 1099511627776) :
    Calls Tryz.prog 65 #[.slice (some ⟨g, 0, none⟩) ds.length cap, .func (.func 66) #[] #[]] w fun e w' =>
      e = .returned (.tuple #[]) ∧ ∃ r : List Cd, r.Perm ds ∧ r.Pairwise (fun a b => ¬ cmpR b.2 a.2 < 0) ∧ OwnC g cap (r.map (·.1)) w' ∧ w.grownBy w' (some g) := by
  have eg : ∀ args w, (callFunc 66 args).run Tryz.prog w = .ok (.enter 66 args) w := enters_of Tryz.func66 (by kernel_rfl) rfl
  obtain ⟨d, hd⟩ : ∃ d : Array (Rd w0), d.toList.map (·.1) = ds := ⟨(ds.attach.map fun x => (⟨x.1, hr x.1 x.2⟩ : Rd w0)).toArray, by rw [List.map_map]; exact List.attach_map_subtype_val ds⟩
  subst hd
  have hlen : (d.toList.map (·.1)).length = d.size := by simp
  have hsz : d.size < 4611686018427387904 := by rw [hlen] at hn; omega
  have hown : OwnL 74 2 g cap (d.toList.map fun x => cellsV x.1.1) w := by
    have e : ((d.toList.map (·.1)).map (·.1)).map cellsV = d.toList.map (fun x => cellsV x.1.1) := by simp [List.map_map, Function.comp_def]
    rw [← e]; exact h
  have hcmp : CmpLays Tryz.prog 66 #[] (fun x : Rd w0 => cellsV x.1.1) 2 cfR g 0 d.size w := by
    intro m os dk hs x y
    have hW : Below w0.heap.size w0 (sortWorldK (fun x : Rd w0 => cellsV x.1.1) 2 w g 0 m dk os) := hb.trans (below_of_grown (sorted_grown w m os) hg hb.size)
    refine (sumCmp_any x.1.1.A x.1.1.k x.1.1.c x.1.1.n y.1.1.A y.1.1.k y.1.1.c y.1.1.n x.1.2 y.1.2 _ (x.2.below hW) (y.2.below hW)).mono ?_
    rintro e w' ⟨he, hro⟩
    exact ⟨he, hro.grow⟩
  have hS := AnyQ.slices_SortFunc Tryz.sortC 2 (fun _ => by kernel_rfl) (fun _ => by kernel_rfl) (fun x : Rd w0 => cellsV x.1.1) (fun _ => rfl) (fun x => cellsV_one x.1.1) cfR (cfR_order w0) 66 #[] g 0 cap d w eg hcmp (hown.holds (by omega) (fun _ => rfl)) hown.lt hsz
  rw [hlen]
  refine Calls.mono (show Calls Tryz.prog 65 _ _ _ from hS) ?_
  rintro e w' ⟨he, d', n, os, ⟨p1, p2, p3⟩, hso, rfl⟩
  refine ⟨he, d'.toList.map (·.1), ?_, ?_, ?_, sorted_grown w n os⟩
  · have : d'.toList.Perm d.toList := by
      have e : d'.toList.take d.size = d'.toList := List.take_of_length_le (by simp [p1])
      have e2 : d.toList.take d.size = d.toList := List.take_of_length_le (by simp)
      simpa [e, e2] using p3
    exact this.map _
  · rw [List.pairwise_map, List.pairwise_iff_getElem]
    intro i j hi hj hij
    have h1 := hso i j (Nat.zero_le _) hij (by rw [← p1]; simpa using hj)
    rw [getElem!_pos d' i (by simpa using hi), getElem!_pos d' j (by simpa using hj)] at h1
    intro hlt
    exact of_decide_eq_false h1 (by unfold cfR; simpa using hlt)
  · have := hown.sorted (by omega) (fun _ => rfl) p1 n os
    have e : ((d'.toList.map (·.1)).map (·.1)).map cellsV = d'.toList.map (fun x => cellsV x.1.1) := by simp [List.map_map, Function.comp_def]
    unfold OwnC
    rw [e]; exact this
end Go.Proofs.YtpmfbmigdpmloaaGreatDoor
end
