/-
  What datum.quote answers, at this program. Condition: the text is UTF-8 of at most 1000 bytes.
-/
import Derived.Test.YtlodohgoondkhaaDoorBase
import Derived.Test.YtlodohgoondkhaaDoorBuild
import Derived.Test.YtlodohgoondkhaaDoorEsc
import Derived.Test.YtlodohgoondkhaaDoorShelf
import Derived.BigCall
import Derived.Shelf.Unicode.ValidAny
import Derived.ShutString
set_option linter.unusedVariables false
set_option linter.unusedSimpArgs false
namespace Go.Proofs.YtlodohgoondkhaaDoor
open Go.RowKit Go.Lib

theorem strCells_list (l : List UInt8) : Lib.strCells ⟨l.toArray⟩ = Lib.byteCells l := by
  simp [Lib.strCells, Lib.byteCells]

theorem heap_drewN (w : World) : ∀ n, (w.drewN n).heap = w.heap
  | 0 => rfl
  | n + 1 => heap_drewN w n
theorem isB_heap {T e B b : Nat} {bs : List Value} {w w' : World} (h : w'.heap = w.heap) (hI : Lib.IsBuilderF T e B b bs w) : Lib.IsBuilderF T e B b bs w' := by
  unfold Lib.IsBuilderF Lib.BuilderAtF World.ownsRowF at *
  rw [h]
  exact hI

set_option maxHeartbeats 4000000 in
set_option maxRecDepth 1000000 in
theorem quote_any (s : ByteArray) (w : World) (hv : validD s.data.toList = true) (hs : s.size ≤ 1000) :
    Calls Tryd.prog 62 #[.string s] w fun e w' => e = .returned (.string ⟨(quoteL s.data.toList).toArray⟩) ∧ Below w.heap.size w w' := by
  have hvH := Lib.hid hv
  clear hv
  go_enter Tryd.func62, Tryd.ntmps62
  go_wp2_with fail
  refine (Tryd.Builder_Grow_fresh w.heap.size w.heap.size (s.size + 2) _ (Nat.le_refl _) (by exact heap_alloc_new w _) (by simp) (by omega)).mono ?_
  rintro e W1 ⟨rfl, hg, hb1⟩
  have hb1w : Below w.heap.size w W1 := ((Below.refl _ w).alloc (Nat.le_refl _) _).trans hb1
  have hgF : Lib.IsBuilderF 88 5 w.heap.size w.heap.size [] W1 := Lib.IsBuilderF.of (.inr hg)
  clear hg hb1
  go_wp2_with fail
  refine (writeByte_k w.heap.size w.heap.size [] 39 W1 hgF (by simp) hb1w.size).mono ?_
  rintro e W2 ⟨rfl, hg2, hb2, _⟩
  have hb2w := hb1w.trans hb2
  have hg2F : Lib.IsBuilderF 88 5 w.heap.size w.heap.size (Lib.byteCells [39]) W2 := .inr hg2
  have hlt2 : w.heap.size < W2.heap.size := by obtain ⟨_, v, hbk, _⟩ := hg2; exact lt_of_block hbk
  clear hg2 hgF hb1w hb2
  go_wp2_with fail
  have hlen := s.data.toList.length
  go_loopw [] (fun wr => ∃ (pos : Nat) (acc : List UInt8), Lib.IsBuilderF 88 5 w.heap.size w.heap.size (Lib.byteCells acc) wr ∧ wr.heap[W2.heap.size]? = some (.stringIter s pos) ∧ Below w.heap.size w wr ∧ acc ++ (s.data.toList.drop pos).flatMap escB = 39 :: s.data.toList.flatMap escB ∧ validD (s.data.toList.drop pos) = true ∧ acc.length ≤ 1 + 4 * s.size) (fun wr => s.size - wr.iterPos W2.heap.size)
  case atStart =>
    refine ⟨0, [39], hg2F.alloc _, ?_, hb2w.alloc (by omega) _, by simp, by simpa using hvH.out, by simp⟩
    have := World.iter_heap W2 s 0
    simpa using this
  case round =>
    obtain ⟨pos, acc, hI, hit, hbw, hacc, hval, hal⟩ := hrel
    have hsz : W2.heap.size < wr.heap.size := (Array.getElem?_eq_some_iff.1 hit).1
    have haccH := Lib.hid hacc
    have hvalH := Lib.hid hval
    clear hacc hval
    by_cases hp : pos < s.size
    · have hnx : ∀ ty, (Instr.next (.pointer (some ⟨W2.heap.size, 0, none⟩)) true ty).run Tryd.prog wr = _ := fun ty => Lib.run_next_any_at wr W2.heap.size s pos ty hit hp
      have hne : s.data.toList.drop pos ≠ [] := by
        intro he
        have := congrArg List.length he
        simp at this
        have : s.data.size = s.size := rfl
        omega
      obtain ⟨hst, hv2⟩ := quote_step _ hne hvalH.out
      rw [decodeL_drop] at hst hv2
      have hd1 := decode_le s pos
      have hwd : 1 ≤ (Utf8.decode s pos).2 := decode_width_pos s pos hp
      have hI2 := hI.iterAt hit (pos + (Utf8.decode s pos).2)
      have hit2 := Lib.iterAt_heap wr W2.heap.size s pos (pos + (Utf8.decode s pos).2) hit
      have hbw2 := Lib.below_iterAt hbw (k := W2.heap.size) (by omega) s (pos + (Utf8.decode s pos).2)
      have hsz2 : w.heap.size ≤ (wr.iterAt W2.heap.size s (pos + (Utf8.decode s pos).2)).heap.size := by rw [Lib.iterAt_size]; omega
      have hlenE : (acc ++ escR (Utf8.decode s pos).1).length ≤ 1 + 4 * s.size := by
        have h1 : (acc ++ (escR (Utf8.decode s pos).1 ++ ((s.data.toList.drop pos).drop (Utf8.decode s pos).2).flatMap escB)).length = (39 :: s.data.toList.flatMap escB).length := by rw [← hst, haccH.out]
        have h2 := flat_len s.data.toList
        have h3 : s.data.toList.length = s.size := by simp
        rw [← List.append_assoc, List.length_append, List.length_cons] at h1
        omega
      have hit0 := Lib.hid hit
      have hstH := Lib.hid hst; have hv2H := Lib.hid hv2; have hlenEH := Lib.hid hlenE
      clear hst hv2 hlenE
      go_wp2_with fail
      refine (escape_any (Utf8.decode s pos).1 (by omega) (by have := Lib.rune_le s pos; omega) _).mono ?_
      rintro e W3 ⟨rfl, nq, rfl⟩
      rw [Int.toNat_natCast]
      have heq : ((wr.iterAt W2.heap.size s (pos + (Utf8.decode s pos).2)).drewN nq).heap = (wr.iterAt W2.heap.size s (pos + (Utf8.decode s pos).2)).heap := heap_drewN _ nq
      have hI3 := isB_heap heq hI2
      have hit3 := (congrArg (·[W2.heap.size]?) heq).trans hit2
      have hbw3 := below_drewNv hbw2 nq
      have hsz3 : w.heap.size ≤ ((wr.iterAt W2.heap.size s (pos + (Utf8.decode s pos).2)).drewN nq).heap.size := by rw [heq]; exact hsz2
      have heqH := Lib.hid heq
      clear heq hI2 hit2 hbw2 hI hit hbw
      go_wp2_with fail
      refine (writeString_k w.heap.size w.heap.size (Lib.byteCells acc) ⟨(escR (Utf8.decode s pos).1).toArray⟩ _ hI3 (by have h := hlenEH.out; rw [List.length_append] at h; rw [Lib.byteCells_length, size_of_list]; omega) hsz3).mono ?_
      rintro e W4 ⟨rfl, h1, b1, k1⟩
      have hitN := k1.iter hit3 (by omega)
      clear hnx
      go_wp2
      go_roundw
      case rel =>
        refine ⟨pos + (Utf8.decode s pos).2, acc ++ escR (Utf8.decode s pos).1, ?_, hitN, hbw3.trans b1, ?_, ?_, hlenEH.out⟩
        · rw [Lib.byteCells_append, ← strCells_list]; exact Or.inr h1
        · rw [List.append_assoc, ← List.drop_drop, ← hstH.out]; exact haccH.out
        · rw [← List.drop_drop]; exact hv2H.out
      case measure =>
        simp only [World.iterPos, hitN, hit0.out]
        omega
    · have hnx : ∀ ty, (Instr.next (.pointer (some ⟨W2.heap.size, 0, none⟩)) true ty).run Tryd.prog wr = _ := fun ty => Lib.run_next_end_at wr W2.heap.size s pos ty hit hp
      have hend : acc = 39 :: s.data.toList.flatMap escB := by
        have h := haccH.out
        rw [List.drop_eq_nil_of_le (by simp; have : s.data.size = s.size := rfl; omega)] at h
        simpa using h
      have hendH := Lib.hid hend
      clear hend
      go_wp2_with fail
      refine (writeByte_k w.heap.size w.heap.size (Lib.byteCells acc) 39 _ hI (by rw [Lib.byteCells_length]; omega) (by omega)).mono ?_
      rintro e W4 ⟨rfl, h1, b1, _⟩
      have h1F : Lib.IsBuilderF 88 5 w.heap.size w.heap.size (Lib.byteCells (acc ++ [39])) W4 := by rw [Lib.byteCells_append]; exact .inr h1
      have hbw4 := hbw.trans b1
      go_wp2_with fail
      refine (Tryd.Builder_String_any_k w.heap.size w.heap.size (acc ++ [39]) W4 h1F hbw4.size).mono ?_
      rintro e W5 ⟨rfl, _, b2, _⟩
      go_wp2
      go_ret
      exact ⟨ret_str (by rw [hendH.out]; rfl), hbw4.trans b2⟩
end Go.Proofs.YtlodohgoondkhaaDoor
