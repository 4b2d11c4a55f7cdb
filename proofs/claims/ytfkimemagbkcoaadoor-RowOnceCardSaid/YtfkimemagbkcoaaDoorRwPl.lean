/-
  Whether all rows may be, as the law RowOnce asks it (plain), at this program. Conditions: those written.
-/
import Derived.Test.YtfkimemagbkcoaaDoorRwB8
import Derived.Test.YtfkimemagbkcoaaDoorRwY
set_option linter.unusedVariables false
set_option linter.unusedSimpArgs false
namespace Go.Proofs.YtfkimemagbkcoaaDoor
open Go.RowKit Go.Lib Go.Proofs

def okRows (ds : List Cd) : Prop := ∀ d ∈ ds, chkR d.2 = 0
def RelPl (ds : List Cd) (w0 : World) (s3 : Value) (wr : World) : Prop := ∃ p : Nat, p ≤ ds.length ∧ s3 = .int .i64 (p : Int) ∧ okRows (ds.take p) ∧ Below w0.heap.size w0 wr
set_option maxHeartbeats 4000000 in
set_option maxRecDepth 1000000 in
theorem plain_any (v : Value) (ds : List Cd) (w : World) (h : CtsV w v ds) (hT : Tab8 w) (hs : ∀ d ∈ ds, ∀ x ∈ d.2, x.s.size ≤ 9223372036854775807) :
    Calls Tryd.prog 17 #[v] w fun e w' => ((e = .returned (.bool true) ∧ okRows ds) ∨ e = .returned (.bool false)) ∧ Below w.heap.size w w' := by
  obtain ⟨A, c, rfl, hla⟩ := h.form
  have hH := Lib.hid h; have hTH := Lib.hid hT; have hsH := Lib.hid hs
  clear h hT hs
  go_enter Tryd.func17, Tryd.ntmps17
  go_wp2_with fail
  go_loopw [3] (fun s3 wr => RelPl ds w s3 wr) (fun s3 _ => ds.length - (Go.RowKit.intOf s3).toNat)
  case atStart => exact ⟨0, by omega, rfl, fun d hd => (by simp at hd), Below.refl _ _⟩
  case round =>
    unfold RelPl at hrel
    obtain ⟨p, hp, rfl, hok, hb⟩ := hrel
    have hbH := Lib.hid hb; have hokH := Lib.hid hok
    clear hb hok
    by_cases hlt : p < ds.length
    · obtain ⟨d, hd⟩ : ∃ d, ds[p]? = some d := ⟨_, List.getElem?_eq_getElem hlt⟩
      obtain ⟨ad, rfl, hba, a0_, a1_⟩ := (hH.out.below hbH.out).at hd
      have hrd := Lib.hid ((hH.out.2 d (List.mem_of_getElem? hd)).below hbH.out)
      have hsd := Lib.hid (hsH.out d (List.mem_of_getElem? hd))
      have hdH := Lib.hid hd
      clear hd
      obtain ⟨⟨dA, dk, dc, n⟩, l⟩ := d
      simp only [valD] at a0_ a1_
      go_wp2_with fail
      refine (rowCheck_any (.slice dA dk dc) l _ hrd.out (hTH.out.below hbH.out) hsd.out).mono ?_
      obtain ⟨r, hr⟩ : ∃ r, chkR l = r := ⟨_, rfl⟩
      rw [hr]
      rintro e w2 ⟨rfl, hb2⟩
      have hb2H := Lib.hid (hbH.out.trans (hb2.mono hbH.out.size))
      have hrH := Lib.hid hr
      clear hb2 hr a0_ a1_
      by_cases hz : r = 0
      · subst hz
        go_wp2_with fail
        go_roundw
        case rel =>
          refine ⟨p + 1, hlt, by go_num, fun x hx => ?_, hb2H.out⟩
          obtain ⟨h1, h2⟩ := List.getElem?_eq_some_iff.1 hdH.out
          rw [List.take_succ_eq_append_getElem h1, h2] at hx
          rcases List.mem_append.1 hx with hx | hx
          · exact hokH.out x hx
          · simp at hx; subst hx; exact hrH.out
        case measure => simp [Go.RowKit.intOf]; omega
      · go_wp2_with fail
        go_ret
        first | exact ⟨.inr rfl, hb2H.out⟩ | exact hb2H.out
    · obtain rfl : p = ds.length := by omega
      rw [List.take_length] at hokH
      go_wp2_with fail
      go_ret
      first | exact ⟨.inl ⟨rfl, hokH.out⟩, hbH.out⟩ | exact ⟨hokH.out, hbH.out⟩
end Go.Proofs.YtfkimemagbkcoaaDoor
