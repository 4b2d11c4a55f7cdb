/-
  What penstockref00.SameWords and SamePath, and the law's own at, far and much, answer, at this program: of any lists, ways, times. No condition.
-/
import Derived.Test.YtkpjbmbdndkalaaDoorStOwn
import Derived.LoopTactic
import Derived.BigQuiet
set_option linter.unusedVariables false
set_option linter.unusedSimpArgs false
namespace Go.Proofs.YtkpjbmbdndkalaaDoor
open Go.RowKit Go.Lib

def RelSW (l m : List Int) (w0 : World) (i : Value) (wr : World) : Prop := ∃ p : Nat, i = .int .i64 (p : Int) ∧ p ≤ l.length ∧ l.take p = m.take p ∧ Below w0.heap.size w0 wr
theorem take_succ_eq {l m : List Int} {p : Nat} (hl : p < l.length) (hm : p < m.length) (h : l.take p = m.take p) (hx : l[p] = m[p]) : l.take (p + 1) = m.take (p + 1) := by
  rw [List.take_succ_eq_append_getElem hl, List.take_succ_eq_append_getElem hm, h, hx]
set_option maxHeartbeats 2000000 in
set_option maxRecDepth 1000000 in
theorem sameWords_any (va vb : Value) (l m : List Int) (w : World) (ha : WordsV w va l) (hb : WordsV w vb m) :
    Calls Tryd.prog 42 #[va, vb] w fun e w' => e = .returned (.bool (decide (l = m))) ∧ Below w.heap.size w w' := by
  obtain ⟨A, n, ca, rfl, hn, hla, hca⟩ := ha.form
  obtain ⟨B, k, cb, rfl, hk, hlb, hcb⟩ := hb.form
  have hnH := Lib.hid hn; have hkH := Lib.hid hk; have haH := Lib.hid ha; have hbH := Lib.hid hb
  clear hn hk ha hb
  by_cases hlen : n = k
  · subst hlen
    obtain ⟨r, hr⟩ : ∃ r, decide (l = m) = r := ⟨_, rfl⟩
    rw [hr]
    have hrH := Lib.hid hr
    clear hr
    go_enter Tryd.func42, Tryd.ntmps42
    go_wp2_with fail
    go_loopw [5] (fun i wr => RelSW l m w i wr) (fun i _ => n - (Go.RowKit.intOf i).toNat)
    case atStart => exact ⟨0, rfl, Nat.zero_le _, rfl, Below.refl _ _⟩
    case round =>
      unfold RelSW at hrel
      obtain ⟨p, rfl, hpl, hcmp, hb⟩ := hrel
      have hcH := Lib.hid hcmp; have hwH := Lib.hid hb
      clear hcmp
      have hpn : p ≤ n := by have := hnH.out; omega
      clear hpl
      by_cases hp : p < n
      · have h1 : p < l.length := by have := hnH.out; omega
        have h2 : p < m.length := by have := hkH.out; omega
        obtain ⟨ad, rfl, hba, ac_⟩ := (haH.out.below hb).at h1
        obtain ⟨bd, rfl, hbb, bc_⟩ := (hbH.out.below hb).at h2
        have hstH := Lib.hid (take_succ_eq h1 h2 hcH.out)
        have hneH := Lib.hid (fun (e : l = m) => (show l[p] = m[p] by subst e; rfl))
        obtain ⟨x, hx⟩ : ∃ x, l[p] = x := ⟨_, rfl⟩
        obtain ⟨y, hy⟩ : ∃ y, m[p] = y := ⟨_, rfl⟩
        rw [hx] at ac_ hneH hstH
        rw [hy] at bc_ hneH hstH
        clear hx hy h1 h2 hb
        by_cases hxy : x = y
        · have hxb : (x != y) = false := by simpa using hxy
          have hxe := Lib.hid hxy
          clear hxy
          go_wp2_with fail
          go_quiet (fail)
          go_wp2_with fail
          go_roundw
          case rel => exact ⟨p + 1, by go_num, by have := hnH.out; omega, hstH.out hxe.out, by first | exact drewsN hwH.out _ | go_grown⟩
          case measure => simp [Go.RowKit.intOf]; omega
        · have hxb : (x != y) = true := by simpa using hxy
          have hxe := Lib.hid hxy
          clear hxy
          go_wp2_with fail
          go_quiet (fail)
          go_wp2_with fail
          go_ret
          exact ⟨ret_bool (by rw [← hrH.out, eq_comm, decide_eq_false_iff_not]; exact fun e => hxe.out (hneH.out e)), by first | exact drewsN hwH.out _ | go_grown⟩
      · obtain rfl : p = n := by omega
        go_wp2_with fail
        go_ret
        refine ⟨ret_bool ?_, hwH.out⟩
        rw [← hrH.out, eq_comm, decide_eq_true_iff]
        have := hcH.out
        rwa [List.take_of_length_le (by have := hnH.out; omega), List.take_of_length_le (by have := hkH.out; omega)] at this
  · have hnk : ¬ (n : Int) = (k : Int) := by omega
    have hnb : ((n : Int) != (k : Int)) = true := by simpa using hnk
    have hlH := Lib.hid hlen
    clear hnk hlen
    go_enter Tryd.func42, Tryd.ntmps42
    go_wp2_with fail
    go_ret
    refine ⟨ret_bool ?_, Below.refl _ _⟩
    rw [eq_comm, decide_eq_false_iff_not]
    intro e
    subst e
    exact hlH.out (hnH.out.symm.trans hkH.out)
set_option maxHeartbeats 2000000 in
set_option maxRecDepth 1000000 in
theorem samePath_any (vp vq : Value) (p q : Pt) (w : World) (hp : PtV w vp p) (hq : PtV w vq q) :
    Calls Tryd.prog 44 #[vp, vq] w fun e w' => e = .returned (.bool (decide (p.lv = q.lv ∧ p.ad = q.ad ∧ p.en = q.en))) ∧ Below w.heap.size w w' := by
  obtain ⟨pl, pa, pe⟩ := p
  obtain ⟨ql, qa, qe⟩ := q
  obtain ⟨ps, rfl, hps⟩ := hp
  obtain ⟨qs, rfl, hqs⟩ := hq
  simp only at hps hqs ⊢
  obtain ⟨r, hr⟩ : ∃ r, decide (pl = ql ∧ pa = qa ∧ pe = qe) = r := ⟨_, rfl⟩
  rw [hr]
  have hrH := Lib.hid hr
  obtain ⟨W0, hW0, hwW, hA, hB, hzz⟩ := boxes2 w [.int .i64 pl, .int .u32 pa, ps] [.int .i64 ql, .int .u32 qa, qs] 62 62
  have hpH := Lib.hid (hps.below hwW); have hqH := Lib.hid (hqs.below hwW)
  have hAH := Lib.hid hA; have hBH := Lib.hid hB; have hwWH := Lib.hid hwW; have hz0 := Lib.hid hzz
  clear hps hqs hA hB hwW hzz hr
  have hb := Below.refl W0.heap.size W0
  have a0_ := (hAH.out.below hb).cell 0 rfl; have a1_ := (hAH.out.below hb).cell 1 rfl; have a2_ := (hAH.out.below hb).cell 2 rfl; have b0_ := (hBH.out.below hb).cell 0 rfl; have b1_ := (hBH.out.below hb).cell 1 rfl; have b2_ := (hBH.out.below hb).cell 2 rfl; have hz := Nat.lt_of_lt_of_le hz0.out hb.size; have hs := hb.size
  by_cases h1 : pl = ql
  · have b1 : (pl == ql) = true := by simpa using h1
    by_cases h2 : pa = qa
    · have b2 : (pa == qa) = true := by simpa using h2
      replace hrH : Hid (decide (pe = qe) = r) := Lib.hid (by rw [← hrH.out, decide_eq_decide]; exact ⟨fun h => ⟨h1, h2, h⟩, fun h => h.2.2⟩)
      clear h1 h2
      go_enter Tryd.func44, Tryd.ntmps44
      go_wp2_with fail
      refine (sameWords_any ps qs pe qe _ hpH.out hqH.out).mono ?_
      rw [hrH.out]
      rintro e w' ⟨rfl, hb2⟩
      go_wp2_with fail
      go_ret
      exact ⟨rfl, hwWH.out.trans (hb2.mono hwWH.out.size)⟩
    · have b2 : (pa == qa) = false := by simpa using h2
      obtain rfl : r = false := by rw [← hrH.out, decide_eq_false_iff_not]; exact fun h => h2 h.2.1
      clear h1 h2
      go_enter Tryd.func44, Tryd.ntmps44
      go_wp2_with fail
      go_ret
      exact ⟨rfl, hwWH.out⟩
  · have b1 : (pl == ql) = false := by simpa using h1
    obtain rfl : r = false := by rw [← hrH.out, decide_eq_false_iff_not]; exact fun h => h1 h.1
    clear h1
    go_enter Tryd.func44, Tryd.ntmps44
    go_wp2_with fail
    go_ret
    exact ⟨rfl, hwWH.out⟩
set_option maxHeartbeats 2000000 in
set_option maxRecDepth 1000000 in
theorem lawAt_any (e : Int) (A : Option Addr) (n c : Nat) (w : World) :
    Calls Tryd.prog 43 #[.int .u64 e, .slice A n c] w fun x w' => x = .returned (.agg #[.int .u64 e, .slice A n c]) ∧ Below w.heap.size w w' := by
  obtain ⟨W0, hW0, hwW, hR, hzz⟩ := boxes1 w [.int .u64 0, .slice none 0 0] 25
  have r0_ := hR.cell 0 rfl; have r1_ := hR.cell 1 rfl; have rf0_ := hR.free 0; have rf1_ := hR.free 1
  go_enter Tryd.func43, Tryd.ntmps43
  go_wp2_with fail
  refine bodyPost_ret (v := .agg #[.int .u64 e, .slice A n c]) (by simp [results, Tryd.results43, go_sem, r0_, r1_, hzz]) rfl ⟨rfl, ?_⟩
  have hbw := hwW
  first | exact (hbw.setCell (by simp) _).setCell (by simp) _ | go_grown
/-- A slice of ways, of times: the cells of each. -/
def PtsV (w : World) (v : Value) (xs : List Pt) : Prop := ∃ (ad : Addr) (c : Nat), v = .slice (some ad) xs.length c ∧ xs.length ≤ c ∧ c ≤ 9223372036854775807 ∧ ∀ j (h : j < xs.length), ∃ s P k d, s = .slice P k d ∧ k = (xs[j]).en.length ∧ k ≤ d ∧ d ≤ 9223372036854775807 ∧ (ad.add (j * 3 + 2)).block < w.heap.size ∧ w.cell? (ad.add (j * 3 + 2)) = some s
def RelFar (xs : List Pt) (i : Value) : Prop := ∃ p : Nat, i = .int .i64 (p : Int) ∧ p ≤ xs.length ∧ (xs.take p).any (fun x => decide (40 < x.en.length)) = false
theorem far_step (xs : List Pt) (p : Nat) (hp : p < xs.length) : (xs.take (p + 1)).any (fun x => decide (40 < x.en.length)) = ((xs.take p).any (fun x => decide (40 < x.en.length)) || decide (40 < xs[p].en.length)) := by
  rw [List.take_succ_eq_append_getElem hp, List.any_append]
  simp
set_option maxHeartbeats 2000000 in
set_option maxRecDepth 1000000 in
theorem far_any (v : Value) (xs : List Pt) (w : World) (h : PtsV w v xs) :
    Calls Tryd.prog 27 #[v] w fun e w' => e = .returned (.bool (xs.any fun x => decide (40 < x.en.length))) ∧ w = w' := by
  obtain ⟨ad, c, rfl, hc, hcc, hcell⟩ := h
  obtain ⟨n, hn⟩ : ∃ n, xs.length = n := ⟨_, rfl⟩
  obtain ⟨r, hr⟩ : ∃ r, (xs.any fun x => decide (40 < x.en.length)) = r := ⟨_, rfl⟩
  rw [hr]
  have hcH := Lib.hid hcell; have hrH := Lib.hid hr; have hnH := Lib.hid hn
  rw [hn] at hc ⊢
  clear hcell hr hn
  go_enter Tryd.func27, Tryd.ntmps27
  go_wp2_with fail
  go_loop [3] (fun i => RelFar xs i) (fun i => n - (Go.RowKit.intOf i).toNat)
  case atStart => exact ⟨0, rfl, Nat.zero_le _, rfl⟩
  case round =>
    unfold RelFar at hrel
    obtain ⟨p, rfl, hpl, hf⟩ := hrel
    have hfH := Lib.hid hf
    have hpn : p ≤ n := by have := hnH.out; omega
    clear hpl hf
    by_cases hp : p < n
    · have h1 : p < xs.length := by have := hnH.out; omega
      obtain ⟨s, P, k, d, rfl, hk, hkd, hd, hbl, ac_⟩ := hcH.out p h1
      have hstH := Lib.hid ((far_step xs p h1).trans (by rw [hfH.out, ← hk, Bool.false_or]))
      have hmemH := Lib.hid (fun (h : 40 < k) => show r = true from by
        rw [← hrH.out, List.any_eq_true]
        exact ⟨_, List.getElem_mem h1, by rw [← hk]; simpa using h⟩)
      have ac2 := ac_
      rw [add_more _ _ _ (by decide)] at ac2
      clear hk h1
      by_cases hk : 40 < k
      · obtain rfl := hmemH.out hk
        go_wp2_with fail
        go_ret
        exact ⟨rfl, rfl⟩
      · go_wp2_with fail
        go_round
        case rel => exact ⟨p + 1, by go_num, by have := hnH.out; omega, by rw [hstH.out]; simpa using hk⟩
        case measure => simp [Go.RowKit.intOf]; omega
    · obtain rfl : p = n := by omega
      have hall : xs.take p = xs := List.take_of_length_le (by have := hnH.out; omega)
      rw [hall, hrH.out] at hfH
      obtain rfl := hfH.out
      go_wp2_with fail
      go_ret
      exact ⟨rfl, rfl⟩
/-- A slice of ways, of times: the cells of each. -/
def TmsV (w : World) (v : Value) (xs : List Tm) : Prop := ∃ (ad : Addr) (c : Nat), v = .slice (some ad) xs.length c ∧ xs.length ≤ c ∧ c ≤ 9223372036854775807 ∧ ∀ j (h : j < xs.length), ∃ s P k d, s = .slice P k d ∧ k = (xs[j]).l.length ∧ k ≤ d ∧ d ≤ 9223372036854775807 ∧ (ad.add (j * 2 + 1)).block < w.heap.size ∧ w.cell? (ad.add (j * 2 + 1)) = some s
def RelMuch (xs : List Tm) (i : Value) : Prop := ∃ p : Nat, i = .int .i64 (p : Int) ∧ p ≤ xs.length ∧ (xs.take p).any (fun x => decide (40 < x.l.length)) = false
theorem much_step (xs : List Tm) (p : Nat) (hp : p < xs.length) : (xs.take (p + 1)).any (fun x => decide (40 < x.l.length)) = ((xs.take p).any (fun x => decide (40 < x.l.length)) || decide (40 < xs[p].l.length)) := by
  rw [List.take_succ_eq_append_getElem hp, List.any_append]
  simp
set_option maxHeartbeats 2000000 in
set_option maxRecDepth 1000000 in
theorem much_any (v : Value) (xs : List Tm) (w : World) (h : TmsV w v xs) :
    Calls Tryd.prog 7 #[v] w fun e w' => e = .returned (.bool (xs.any fun x => decide (40 < x.l.length))) ∧ w = w' := by
  obtain ⟨ad, c, rfl, hc, hcc, hcell⟩ := h
  obtain ⟨n, hn⟩ : ∃ n, xs.length = n := ⟨_, rfl⟩
  obtain ⟨r, hr⟩ : ∃ r, (xs.any fun x => decide (40 < x.l.length)) = r := ⟨_, rfl⟩
  rw [hr]
  have hcH := Lib.hid hcell; have hrH := Lib.hid hr; have hnH := Lib.hid hn
  rw [hn] at hc ⊢
  clear hcell hr hn
  go_enter Tryd.func7, Tryd.ntmps7
  go_wp2_with fail
  go_loop [3] (fun i => RelMuch xs i) (fun i => n - (Go.RowKit.intOf i).toNat)
  case atStart => exact ⟨0, rfl, Nat.zero_le _, rfl⟩
  case round =>
    unfold RelMuch at hrel
    obtain ⟨p, rfl, hpl, hf⟩ := hrel
    have hfH := Lib.hid hf
    have hpn : p ≤ n := by have := hnH.out; omega
    clear hpl hf
    by_cases hp : p < n
    · have h1 : p < xs.length := by have := hnH.out; omega
      obtain ⟨s, P, k, d, rfl, hk, hkd, hd, hbl, ac_⟩ := hcH.out p h1
      have hstH := Lib.hid ((much_step xs p h1).trans (by rw [hfH.out, ← hk, Bool.false_or]))
      have hmemH := Lib.hid (fun (h : 40 < k) => show r = true from by
        rw [← hrH.out, List.any_eq_true]
        exact ⟨_, List.getElem_mem h1, by rw [← hk]; simpa using h⟩)
      have ac2 := ac_
      rw [add_more _ _ _ (by decide)] at ac2
      clear hk h1
      by_cases hk : 40 < k
      · obtain rfl := hmemH.out hk
        go_wp2_with fail
        go_ret
        exact ⟨rfl, rfl⟩
      · go_wp2_with fail
        go_round
        case rel => exact ⟨p + 1, by go_num, by have := hnH.out; omega, by rw [hstH.out]; simpa using hk⟩
        case measure => simp [Go.RowKit.intOf]; omega
    · obtain rfl : p = n := by omega
      have hall : xs.take p = xs := List.take_of_length_le (by have := hnH.out; omega)
      rw [hall, hrH.out] at hfH
      obtain rfl := hfH.out
      go_wp2_with fail
      go_ret
      exact ⟨rfl, rfl⟩
end Go.Proofs.YtkpjbmbdndkalaaDoor
