/-
  A block of rows that a call owns, before and behind the library's sort of it. Nothing is walked here. No condition but those written.
-/
import Derived.Test.YtdfhchpimpbgfaaGreatDoorChOwnL
import Derived.Shelf.SlSortFuncK.SWK
set_option linter.unusedVariables false
set_option linter.unusedSimpArgs false
namespace Go.Proofs.YtdfhchpimpbgfaaGreatDoor
open Go.RowKit Go.Lib Go.Sort Go.Proofs

section
variable {α : Type} [Inhabited α] {enc : α → List Value} {T : TypeId} {k g cap : Nat} {w : World} {d d' : Array α}
theorem map_get (d : Array α) (enc : α → List Value) {i : Nat} (hi : i < d.size) : (d.toList.map enc)[i]? = some (enc d[i]!) := by
  rw [List.getElem?_map, Array.getElem?_toList, Array.getElem?_eq_getElem hi]
  simp [getElem!_pos, hi]
theorem OwnL.holds (h : OwnL T k g cap (d.toList.map enc) w) (hk : 0 < k) (he : ∀ x, (enc x).length = k) : HoldsK enc k w g 0 d := by
  intro j hj
  rw [size_flatK] at hj
  refine ⟨?_, h.free _⟩
  have h1 : j / k < d.size := Nat.div_lt_of_lt_mul (by rw [Nat.mul_comm]; exact hj)
  have h2 := Nat.mod_lt j hk
  have e : 0 + j = j / k * k + j % k := by have := Nat.div_add_mod j k; rw [Nat.mul_comm] at this; omega
  rw [e, ← e, get_flatK enc k d j hj, e]
  refine h.cell (map_get d enc h1) ?_
  rw [List.getElem?_eq_getElem (by rw [he]; exact h2)]
  simp [getElem!_pos, he, h2]
theorem OwnL.sorted (h : OwnL T k g cap (d.toList.map enc) w) (hk : 0 < k) (he : ∀ x, (enc x).length = k) (hs : d'.size = d.size) (n : Nat) (os : Array Obj) :
    OwnL T k g cap (d'.toList.map enc) (sortWorldK enc k w g 0 n d' os) := by
  have hlt := h.lt
  obtain ⟨h1, h2, h3, cur, hg, h4, h5⟩ := h
  have hsz : d.size ≤ cap := by simpa using h2
  have hm : ∀ x ∈ d'.toList.map enc, x.length = k := fun x hx => by obtain ⟨y, _, rfl⟩ := List.mem_map.1 hx; exact he y
  have hb : d'.size * k ≤ cur.size := by rw [h4, hs]; exact Nat.mul_le_mul_right k hsz
  refine ⟨hm, by simpa [hs] using hsz, h3, putCells id 0 (flatK enc k d') cur, ?_, by simpa [putCells] using h4, ?_⟩
  · unfold sortWorldK Go.Sort.grow putRowK putRow mapBlock
    rw [Array.getElem?_append_left (by simpa using hlt)]
    simp [Sort.ahead, Array.getElem?_modify, hg, onCells]
  · rw [List.length_map, Array.length_toList]
    apply List.ext_getElem?
    intro t
    rw [List.getElem?_take]
    by_cases ht : t < d'.size * k
    · have t1 : t / k < d'.size := Nat.div_lt_of_lt_mul (by rw [Nat.mul_comm]; exact ht)
      have t2 := Nat.mod_lt t hk
      have e : t = t / k * k + t % k := by have := Nat.div_add_mod t k; rw [Nat.mul_comm] at this; omega
      rw [if_pos ht]
      conv => rhs; rw [e, flat_get _ hm _ _ t2, map_get d' enc t1]
      rw [Array.getElem?_toList]
      have tc : t < cur.size := by omega
      simp only [putCells, Array.getElem?_mapIdx, Array.getElem?_eq_getElem tc, Option.map_some]
      rw [if_pos (by rw [size_flatK]; omega), Nat.sub_zero, get_flatK enc k d' t ht, Option.bind_some, List.getElem?_eq_getElem (by rw [he]; exact t2)]
      simp [getElem!_pos, he, t2]
    · rw [if_neg ht, List.getElem?_eq_none]
      rw [flats_len _ hm]
      simpa using ht
theorem sorted_grown (w : World) (n : Nat) (os : Array Obj) : w.grownBy (sortWorldK enc k w g 0 n d' os) (some g) := by
  refine ⟨rfl, rfl, rfl, by unfold sortWorldK; rw [«Sort».size_grow, size_putRowK]; simp [Sort.ahead], fun j hj hne => ?_⟩
  unfold sortWorldK Go.Sort.grow putRowK putRow mapBlock
  rw [Array.getElem?_append_left (by simpa [Sort.ahead] using hj)]
  simp only [Sort.ahead, Array.getElem?_modify]
  rw [if_neg (fun q => hne (by rw [q]))]
theorem sorted_drawn (w : World) (n : Nat) (os : Array Obj) : w.drawn ≤ (sortWorldK enc k w g 0 n d' os).drawn := by
  show w.drawn ≤ w.drawn + n
  omega
end
end Go.Proofs.YtdfhchpimpbgfaaGreatDoor
