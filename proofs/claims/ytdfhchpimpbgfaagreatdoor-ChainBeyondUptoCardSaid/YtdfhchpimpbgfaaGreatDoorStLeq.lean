/-
  What stamp.Leq answers, at this program: of any two times. No condition.
-/
import Derived.Test.YtdfhchpimpbgfaaGreatDoorStV
import Derived.Deep.RegionHeld3
set_option linter.unusedVariables false
set_option linter.unusedSimpArgs false
namespace Go.Proofs.YtdfhchpimpbgfaaGreatDoor
open Go.RowKit Go.Lib

theorem leqL_at {l m : List Int} {p : Nat} (hl : p < l.length) (hm : p < m.length) : leqL (l.drop p) (m.drop p) = if m[p] < l[p] then false else leqL (l.drop (p + 1)) (m.drop (p + 1)) := by
  rw [List.drop_eq_getElem_cons hl, List.drop_eq_getElem_cons hm, leqL]
/-- What the rounds hold. -/
def RelLq (l m : List Int) (w0 : World) (i : Value) (wr : World) : Prop :=
  ∃ p : Nat, i = .int .i64 (p : Int) ∧ p ≤ l.length ∧ leqL l m = leqL (l.drop p) (m.drop p) ∧ Below w0.heap.size w0 wr
set_option maxHeartbeats 8000000 in
set_option maxRecDepth 1000000 in
theorem leq_any (va vb : Value) (a b : Tm) (w : World) (ha : TmV w va a) (hb : TmV w vb b) :
    Calls Tryz.prog 40 #[va, vb] w fun e w' => e = .returned (.bool (leqT a b)) ∧ Below w.heap.size w w' := by
  obtain ⟨ea, l⟩ := a
  obtain ⟨eb, m⟩ := b
  obtain ⟨sa, rfl, ha⟩ := ha
  obtain ⟨sb, rfl, hb⟩ := hb
  simp only at ha hb ⊢
  obtain ⟨A, n, ca, rfl, hn, hla, hca⟩ := ha.form
  obtain ⟨B, k, cb, rfl, hk, hlb, hcb⟩ := hb.form
  obtain ⟨r, hr⟩ : ∃ r, leqT ⟨ea, l⟩ ⟨eb, m⟩ = r := ⟨_, rfl⟩
  rw [hr]
  unfold leqT at hr
  simp only [hn, hk] at hr
  have hnH := Lib.hid hn; have hkH := Lib.hid hk
  clear hn hk
  obtain ⟨W0, hW0, hwW, hA, hB, hzz⟩ := boxes2 w [.int .u64 ea, .slice A n ca] [.int .u64 eb, .slice B k cb] 26 26
  have haH := Lib.hid (ha.below hwW); have hbH := Lib.hid (hb.below hwW)
  have hAH := Lib.hid hA; have hBH := Lib.hid hB; have hwWH := Lib.hid hwW
  have a0_ := hA.cell 0 rfl; have a1_ := hA.cell 1 rfl; have b0_ := hB.cell 0 rfl; have b1_ := hB.cell 1 rfl
  clear ha hb hA hB hwW
  have hrH := Lib.hid hr
  clear hr
  by_cases hlen : n = k
  · subst hlen
    replace hrH : Hid ((if eb < ea then false else leqL l m) = r) := Lib.hid (by have := hrH.out; rw [if_pos rfl] at this; exact this)
    by_cases he : eb < ea
    · have heH := Lib.hid he
      go_enter Tryz.func40, Tryz.ntmps40
      go_wp2_with fail
      go_ret
      exact ⟨ret_bool (by rw [← hrH.out, if_pos heH.out]), hwWH.out⟩
    · replace hrH : Hid (leqL l m = r) := Lib.hid (by have := hrH.out; rw [if_neg he] at this; exact this)
      go_enter Tryz.func40, Tryz.ntmps40
      go_wp2_with fail
      go_loopw [24] (fun i wr => RelLq l m W0 i wr) (fun i _ => n - (Go.RowKit.intOf i).toNat)
      case atStart => exact ⟨0, rfl, Nat.zero_le _, rfl, Below.refl _ _⟩
      case round =>
        unfold RelLq at hrel
        obtain ⟨p, rfl, hpl, hcmp, hbw⟩ := hrel
        have hcH := Lib.hid hcmp; have hbwH := Lib.hid hbw
        have a0_ := (hAH.out.below hbw).cell 0 rfl; have a1_ := (hAH.out.below hbw).cell 1 rfl; have b0_ := (hBH.out.below hbw).cell 0 rfl; have b1_ := (hBH.out.below hbw).cell 1 rfl
        clear hcmp hbw
        have hpn : p ≤ n := by have := hnH.out; omega
        clear hpl
        by_cases hp : p < n
        · have h1 : p < l.length := by have := hnH.out; omega
          have h2 : p < m.length := by have := hkH.out; omega
          obtain ⟨ad, rfl, hba, ac_⟩ := (haH.out.below hbwH.out).at h1
          obtain ⟨bd, rfl, hbb, bc_⟩ := (hbH.out.below hbwH.out).at h2
          have hstep := leqL_at h1 h2
          obtain ⟨x, hx⟩ : ∃ x, l[p] = x := ⟨_, rfl⟩
          obtain ⟨y, hy⟩ : ∃ y, m[p] = y := ⟨_, rfl⟩
          rw [hx] at ac_ hstep
          rw [hy] at bc_ hstep
          have hstH := Lib.hid hstep
          clear hstep hx hy h1 h2
          by_cases hxy : y < x
          · go_wp2_with fail
            go_ret
            exact ⟨ret_bool (by rw [← hrH.out, hcH.out, hstH.out, if_pos hxy]), hwWH.out.trans (hbwH.out.mono hwWH.out.size)⟩
          · go_wp2_with fail
            go_roundw
            case rel => exact ⟨p + 1, by go_num, by have := hnH.out; omega, by rw [hcH.out, hstH.out, if_neg hxy], hbwH.out⟩
            case measure => simp [Go.RowKit.intOf]; omega
        · go_wp2_with fail
          go_ret
          exact ⟨ret_bool (by rw [← hrH.out, hcH.out, List.drop_eq_nil_of_le (by have := hnH.out; omega), leqL]), hwWH.out.trans (hbwH.out.mono hwWH.out.size)⟩
  · go_enter Tryz.func40, Tryz.ntmps40
    go_wp2_with fail
    go_ret
    exact ⟨ret_bool (by rw [← hrH.out, if_neg hlen]), by first | exact hwWH.out | go_grown⟩
end Go.Proofs.YtdfhchpimpbgfaaGreatDoor
