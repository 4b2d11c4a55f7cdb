/-
  The antichain of times, at this program: in new memory, in its order. Conditions: no more than 2^30 times, of no more than 2^40 counters each.
-/
import Derived.Test.YtdfhchpimpbgfaaGreatDoorChD
import Derived.Test.YtdfhchpimpbgfaaGreatDoorChF
import Derived.Test.YtdfhchpimpbgfaaGreatDoorChCat
import Derived.Test.YtdfhchpimpbgfaaGreatDoorChSo
import Derived.Shelf.SlSortCmp.NoneTotal
import Derived.Deep.RegionHeld3
import Derived.Deep.DeepCutAuto
import Derived.LoopTactic
import Derived.BigQuiet
set_option linter.unusedVariables false
set_option linter.unusedSimpArgs false
namespace Go.Proofs.YtdfhchpimpbgfaaGreatDoor
open Go.RowKit Go.Lib Go.Proofs Go.Shelf Go.Sort

theorem newsT (w : World) (d : Td) (b : Nat) (cs : Array Value) (hcs : cs = (cellsT d).toArray) (t : TypeId) (hb : b = w.heap.size) : ∀ j u, (cellsT d)[j]? = some u → (w.alloc (.cells cs t)).cell? ((⟨b, 0, none⟩ : Addr).add j) = some u := by
  intro j u hj
  subst hb
  subst hcs
  rw [show (⟨w.heap.size, 0, none⟩ : Addr).add j = ⟨w.heap.size, j, none⟩ by unfold Addr.add; split <;> simp_all, cell_new]
  simpa using hj
theorem newsH {w : World} {d : Td} {b : Nat} {t : TypeId} (h : HasC w b (cellsT d) t) : ∀ j u, (cellsT d)[j]? = some u → w.cell? ((⟨b, 0, none⟩ : Addr).add j) = some u := by
  intro j u hj
  rw [show (⟨b, 0, none⟩ : Addr).add j = ⟨b, j, none⟩ by unfold Addr.add; split <;> simp_all]
  exact h.cell j hj
theorem HasC.grownC {w w' : World} {b g : Nat} {cs : List Value} {t : TypeId} (h : HasC w b cs t) (hg : w.grownBy w' (some g)) (hne : b ≠ g) : HasC w' b cs t := (hg.block b h.lt (fun e => hne (Option.some.inj e))).trans h
/-- What the rounds hold: the antichain of the first ones. -/
def RelO (ds : List Td) (w0 : World) (s3 s9 : Value) (wr : World) : Prop :=
  ∃ (p : Nat) (out : List Td) (v3 : Value), v3 = s3 ∧ s9 = .int .i64 (p : Int) ∧ p ≤ ds.length ∧ OwnTs w0.heap.size v3 out wr ∧ tmsD out = ofFold ((tmsD ds).take p) ∧ (∀ d ∈ out, d ∈ ds) ∧ Below w0.heap.size w0 wr
theorem ofFold_step {ds : List Td} {p : Nat} {d : Td} (hd : ds[p]? = some d) : ofFold ((tmsD ds).take (p + 1)) = ofStep (ofFold ((tmsD ds).take p)) d.t := by
  obtain ⟨hp, rfl⟩ := List.getElem?_eq_some_iff.1 hd
  have hp' : p < (tmsD ds).length := by simpa [tmsD] using hp
  rw [List.take_succ_eq_append_getElem hp', ofFold_snoc]
  simp [tmsD]
theorem filter_tms (ds : List Td) (q : Tm → Bool) : tmsD (ds.filter (fun x => q x.t)) = (tmsD ds).filter q := by
  unfold tmsD
  rw [List.filter_map]
  rfl
theorem grown_own {B : Nat} {v : Value} {n : Nat} {xs : List Value} {T : TypeId} {k : Nat} {w w' : World} (h : w.ownsRow B T k v n xs) (hg : w.grownBy w' v.ownBlock) (hB : B ≤ w.heap.size) : Below B w w' := below_grown (Below.refl B w) h hB hg
/-- What the last rounds hold: the first ones' counters are new, each in a block of its own. -/
def FreshT (B : Nat) (w : World) (f : List Td) : Prop := (∀ d ∈ f, OwnW B (slD d) d.t.l w) ∧ f.Pairwise fun a b => ∀ g, (slD a).ownBlock = some g → (slD b).ownBlock ≠ some g
theorem FreshT.below {B : Nat} {w w' : World} {f : List Td} (h : FreshT B w f) (hb : Below w.heap.size w w') : FreshT B w' f := ⟨fun d hd => (h.1 d hd).below hb, h.2⟩
theorem FreshT.rd {B : Nat} {w : World} {f : List Td} (h : FreshT B w f) : RdT w f := fun d hd => (h.1 d hd).words
theorem FreshT.low {B B' : Nat} {w : World} {f : List Td} (h : FreshT B w f) (hB : B' ≤ B) : FreshT B' w f := ⟨fun d hd => (h.1 d hd).low hB, h.2⟩
theorem FreshT.nil (B : Nat) (w : World) : FreshT B w [] := ⟨fun d hd => by simp at hd, List.Pairwise.nil⟩
theorem FreshT.snoc {B : Nat} {w w' : World} {f : List Td} {d : Td} (h : FreshT B w f) (hb : Below w.heap.size w w') (hd : OwnW w.heap.size (slD d) d.t.l w') (hB : B ≤ w.heap.size) : FreshT B w' (f ++ [d]) := by
  refine ⟨fun x hx => ?_, ?_⟩
  · rw [List.mem_append, List.mem_singleton] at hx
    rcases hx with hx | rfl
    · exact (h.1 x hx).below hb
    · exact hd.low hB
  · rw [List.pairwise_append]
    refine ⟨h.2, by simp, fun a ha b hb' g h1 h2 => ?_⟩
    rw [List.mem_singleton] at hb'
    subst hb'
    have l1 := (own_lt (h.1 a ha) g h1).2
    have l2 := (own_lt hd g h2).1
    omega
/-- A store into a row of times leaves the counters. -/
theorem FreshT.far {B : Nat} {w : World} {f : List Td} {g cap : Nat} {xs : List Td} (h : FreshT B w f) (ho : OwnT g cap xs w) (i : Nat) (x : Value) : FreshT B (w.setCell ⟨g, i, none⟩ x) f := by
  refine ⟨fun d hd => ?_, h.2⟩
  obtain ⟨h1, h2⟩ := h.1 d hd
  refine ⟨h1, ?_⟩
  rcases h2 with h2 | ⟨b, cap', cur, e, hB, hg, h3⟩
  · exact .inl h2
  · refine .inr ⟨b, cap', cur, e, hB, (Below.heap_setCell w ⟨g, i, none⟩ x b (fun e => ?_)).trans hg, h3⟩
    have e : b = g := e
    subst e
    obtain ⟨_, _, _, cur', hg', _⟩ := ho
    rw [hg] at hg'
    simp only [Option.some.injEq, Obj.cells.injEq] at hg'
    exact absurd hg'.2.1 (by decide)
theorem FreshT.farL {B : Nat} {w : World} {f : List Td} {g cap : Nat} {xs : List (List Value)} (h : FreshT B w f) (ho : OwnL 26 2 g cap xs w) (i : Nat) (x : Value) : FreshT B (w.setCell ⟨g, i, none⟩ x) f := by
  refine ⟨fun d hd => ?_, h.2⟩
  obtain ⟨h1, h2⟩ := h.1 d hd
  refine ⟨h1, ?_⟩
  rcases h2 with h2 | ⟨b, cap', cur, e, hB, hg, h3⟩
  · exact .inl h2
  · refine .inr ⟨b, cap', cur, e, hB, (Below.heap_setCell w ⟨g, i, none⟩ x b (fun e => ?_)).trans hg, h3⟩
    have e : b = g := e
    subst e
    obtain ⟨_, _, _, cur', hg', _⟩ := ho
    rw [hg] at hg'
    simp only [Option.some.injEq, Obj.cells.injEq] at hg'
    exact absurd hg'.2.1 (by decide)
/-- Behind a call that keeps all that was there a store into a row from B on is below B too. -/
def RelOf (r : List Td) (g cap : Nat) (w0 : World) (s28 : Value) (wr : World) : Prop :=
  ∃ (p : Nat) (f : List Td), p ≤ r.length ∧ s28 = .int .i64 (p : Int) ∧ tmsD f = (tmsD r).take p ∧ FreshT w0.heap.size wr f ∧ OwnT g cap (f ++ r.drop p) wr ∧ Below w0.heap.size w0 wr
theorem tms_len {f r : List Td} {p : Nat} (h : tmsD f = (tmsD r).take p) (hp : p ≤ r.length) : f.length = p := by
  have := congrArg List.length h
  simp [tmsD] at this
  omega
theorem put_next {f r : List Td} {p : Nat} (d : Td) (hf : f.length = p) (hp : p < r.length) : (f ++ r.drop p).set p d = (f ++ [d]) ++ r.drop (p + 1) := by
  rw [List.set_append_right _ _ (by omega), hf, Nat.sub_self, List.drop_eq_getElem_cons hp, List.set_cons_zero, List.append_assoc]
  rfl
theorem HasC.grownO {w w' : World} {b : Nat} {r : Option Nat} {cs : List Value} {t : TypeId} (h : HasC w b cs t) (hg : w.grownBy w' r) (hne : some b ≠ r) : HasC w' b cs t := (hg.block b h.lt hne).trans h
theorem hnn_any (b : Nat) : some b ≠ (Value.slice none 0 0).ownBlock := by simp [Value.ownBlock]
theorem hne_any {b g : Nat} (h : b ≠ g) (n c : Nat) : some b ≠ (Value.slice (some ⟨g, 0, none⟩) n c).ownBlock := by simpa [Value.ownBlock] using h
theorem if_neg_up {out : List Tm} {t : Tm} (h : upB out t = false) : ofStep out t = out.filter (fun x => !leqT t x) ++ [t] := by
  unfold ofStep
  rw [h]; rfl
theorem if_pos_up {out : List Tm} {t : Tm} (h : upB out t = true) : ofStep out t = out := by
  unfold ofStep
  rw [if_pos h]
theorem OwnTs.block {B g n cap : Nat} {xs : List Td} {w : World} (h : OwnTs B (.slice (some ⟨g, 0, none⟩) n cap) xs w) : OwnT g cap xs w := by
  rcases h.slice with ⟨h1, _⟩ | ⟨g', cap', h1, _, h2⟩
  · cases h1
  · cases h1; exact h2
set_option maxHeartbeats 8000000 in
set_option maxRecDepth 1000000 in
theorem of_any (v : Value) (ds : List Td) (w : World) (h : TmsV w v ds) (hn : ds.length ≤ 1073741824) (hs : ∀ d ∈ ds, d.t.l.length ≤ 1099511627776) :
    Calls Tryz.prog 9 #[v] w fun e w' => ∃ v' r, e = .returned v' ∧ Ac (upL (tmsD ds)) (tmsD r) ∧ OwnTs w.heap.size v' r w' ∧ FreshT w.heap.size w' r ∧ Below w.heap.size w w' ∧ r.length ≤ ds.length ∧ ∀ t ∈ tmsD r, t ∈ tmsD ds := by
  obtain ⟨i0, hi, hz0, hz1, hz2⟩ := info_parts time_info
  obtain ⟨A, n, c, rfl, hlen, hnc, hc⟩ := h.form
  have hH := Lib.hid h; have hnH := Lib.hid hn; have hlenH := Lib.hid hlen; have hsH := Lib.hid hs
  clear h hn hlen hs
  go_enter Tryz.func9, Tryz.ntmps9
  go_wp2_with fail
  go_loopw [3, 5, 9] (fun s3 s5 s9 wr => RelO ds w s3 s9 wr) (fun _ _ s9 _ => n - (Go.RowKit.intOf s9).toNat)
  case atStart => exact ⟨0, [], _, rfl, rfl, Nat.zero_le _, OwnTs.nil _ _, rfl, fun d hd => by simp at hd, Below.refl _ _⟩
  case round =>
    unfold RelO at hrel
    obtain ⟨p, out, s3, rfl, rfl, hp, ho, htm, hme, hbw⟩ := hrel
    have hpn : p ≤ n := by have := hlenH.out; omega
    have holH := Lib.hid (show out.length ≤ 1073741824 by
      have h1 := ofFold_len ((tmsD ds).take p)
      rw [← htm, List.length_take] at h1
      have h2 := hnH.out
      simp only [tmsD, List.length_map] at h1
      omega)
    have hbwH := Lib.hid hbw; have htmH := Lib.hid htm; have hmeH := Lib.hid hme
    clear hp hbw htm hme
    by_cases hlt : p < n
    · obtain ⟨d, hd⟩ : ∃ d, ds[p]? = some d := ⟨_, List.getElem?_eq_getElem (by have := hlenH.out; omega)⟩
      obtain ⟨ad, rfl, hba, a0_, a1_⟩ := (hH.out.below hbwH.out).at hd
      have hdr := Lib.hid (hH.out.2 d (List.mem_of_getElem? hd))
      have hrH := Lib.hid (show RdT w out from fun x hx => hH.out.2 x (hmeH.out x hx))
      have hstepH := Lib.hid (ofFold_step hd)
      have hlow := Lib.hid (fun g (hg : s3.ownBlock = some g) => (own_lt ho g hg).2)
      have hdH := Lib.hid hd
      clear hd
      obtain ⟨dA, dc, ⟨de, dl⟩⟩ := d
      simp only at a0_ a1_
      obtain ⟨wb, hwb⟩ : ∃ x, wr.alloc (.cells #[.int .u64 de, .slice dA dl.length dc] 26) = x := ⟨_, rfl⟩
      have hbb : Below wr.heap.size wr wb := by rw [← hwb]; go_grown
      have hbxB := Lib.hid (show HasC wb wr.heap.size (cellsT ⟨dA, dc, ⟨de, dl⟩⟩) 26 by rw [← hwb]; exact has_at _ _ _ _ rfl)
      have hoB := Lib.hid (ho.below hbb); have hbwB := Lib.hid (chainB hbwH.out hbb hbwH.out.size)
      obtain ⟨r, hr⟩ : ∃ r, upB (tmsD out) ⟨de, dl⟩ = r := ⟨_, rfl⟩
      have hupH := Lib.hid hr
      have b0_ := hbxB.out.cell 0 rfl; have b1_ := hbxB.out.cell 1 rfl; have bl_ := hbxB.out.lt
      clear hr ho hbb
      go_wp2_with fail
      refine (beyond_any s3 out ⟨dA, dc, ⟨de, dl⟩⟩ wb (hoB.out.tms (hrH.out.below hbwB.out)) (hdr.out.below hbwB.out)).mono ?_
      rw [hupH.out]
      rintro e wc ⟨rfl, hb2⟩
      have hoH := Lib.hid (hoB.out.below hb2); have hbxH := Lib.hid (hbxB.out.below hb2)
      clear hbwH
      have hbwH := Lib.hid (chainB hbwB.out hb2 hbwB.out.size)
      clear hb2 hoB hbxB hbwB hwb b0_ b1_ bl_
      cases r with
      | true =>
        have hst := Lib.hid (show tmsD out = ofFold ((tmsD ds).take (p + 1)) by rw [hstepH.out, ← htmH.out, if_pos_up hupH.out])
        go_wp2_with fail
        go_roundw
        case rel => exact ⟨p + 1, out, _, rfl, by go_num, by have := hlenH.out; omega, hoH.out, hst.out, hmeH.out, hbwH.out⟩
        case measure => simp [Go.RowKit.intOf]; omega
      | false =>
        rcases hoH.out.slice with ⟨hvn, hon⟩ | ⟨g, cap, rfl, hgB, hgo⟩
        · skip
          obtain rfl : out = [] := hon
          subst hvn
          have hst := Lib.hid (show tmsD (([] : List Td) ++ [⟨dA, dc, ⟨de, dl⟩⟩]) = ofFold ((tmsD ds).take (p + 1)) by rw [hstepH.out, ← htmH.out, if_neg_up hupH.out]; rfl)
          have hmem := Lib.hid (show ∀ d ∈ (([] : List Td) ++ [⟨dA, dc, ⟨de, dl⟩⟩]), d ∈ ds by intro x hx; simp at hx; rw [hx]; exact List.mem_of_getElem? hdH.out)
          have hfl := Lib.hid (show ([] : List Td).length ≤ 1073741824 by simp)
          go_wp2_with fail
          refine wp_region_noPanic ?_
          refine wp_region_held_drew (S := (fun w' => w'.cell? ⟨wr.heap.size, 0, none⟩ = some (.int .u64 de) ∧ w'.cell? ⟨wr.heap.size, 1, none⟩ = some (.slice dA dl.length dc))) (by kernel_rfl) (⟨hbxH.out.cell 0 rfl, hbxH.out.cell 1 rfl⟩) (fun hHeld => ?_)
          refine' wpAnyH_take (i := 0) (v := ?v0x1) ?hi0x1 ?hs0x1 ?hf0x1 ?hr0x1 ?hQ0x1 ?hy0x1 ?hS0x1 ?rest0x1
          case hi0x1 => (simp only [List.getElem?_toArray, List.getElem?_cons_succ, List.getElem?_cons_zero]; try rfl)
          case hs0x1 => kernel_rfl
          case hf0x1 => kernel_rfl
          case hr0x1 => kernel_rfl
          case hQ0x1 => exact fun _ _ _ h => h
          case hy0x1 => first | exact Or.inl ⟨by rfl, by (intro w hSw; (try dsimp only at hSw); go_simp; try rfl)⟩ | exact Or.inr ⟨by rfl, rfl⟩
          case hS0x1 => assumption
          (try simp only [Act.put, List.setIfInBounds_toArray, List.set_cons_zero, List.set_cons_succ])
          refine' wpAnyH_take (i := 1) (v := ?v1x2) ?hi1x2 ?hs1x2 ?hf1x2 ?hr1x2 ?hQ1x2 ?hy1x2 ?hS1x2 ?rest1x2
          case hi1x2 => (simp only [List.getElem?_toArray, List.getElem?_cons_succ, List.getElem?_cons_zero]; try rfl)
          case hs1x2 => kernel_rfl
          case hf1x2 => kernel_rfl
          case hr1x2 => kernel_rfl
          case hQ1x2 => exact fun _ _ _ h => h
          case hy1x2 => first | exact Or.inl ⟨by rfl, by (intro w hSw; (try dsimp only at hSw); go_simp; try rfl)⟩ | exact Or.inr ⟨by rfl, rfl⟩
          case hS1x2 => assumption
          (try simp only [Act.put, List.setIfInBounds_toArray, List.set_cons_zero, List.set_cons_succ])
          refine' wpAnyH_take (i := 3) (v := ?v3x3) ?hi3x3 ?hs3x3 ?hf3x3 ?hr3x3 ?hQ3x3 ?hy3x3 ?hS3x3 ?rest3x3
          case hi3x3 => (simp only [List.getElem?_toArray, List.getElem?_cons_succ, List.getElem?_cons_zero]; try rfl)
          case hs3x3 => kernel_rfl
          case hf3x3 => kernel_rfl
          case hr3x3 => kernel_rfl
          case hQ3x3 => exact fun _ _ _ h => h
          case hy3x3 => first | exact Or.inl ⟨by rfl, by (intro w hSw; (try dsimp only at hSw); go_simp; try rfl)⟩ | exact Or.inr ⟨by rfl, rfl⟩
          case hS3x3 => assumption
          (try simp only [Act.put, List.setIfInBounds_toArray, List.set_cons_zero, List.set_cons_succ])
          refine wpAnyH_ready (rs := [2, 4]) (by kernel_rfl) (by simp) ?_
          refine' (AllReadyH.cons (i := 2) ?ho2x4 (fun K hK => ?st2x4) (AllReadyH.cons (i := 4) ?ho4x5 (fun K hK => ?st4x5) AllReadyH.nil))
          case ho2x4 => (simp only [List.getElem?_toArray, List.getElem?_cons_succ, List.getElem?_cons_zero]; try rfl)
          case ho4x5 => (simp only [List.getElem?_toArray, List.getElem?_cons_succ, List.getElem?_cons_zero]; try rfl)
          case st2x4 =>
            go_simp
            obtain ⟨wa, hwa⟩ : ∃ x, wc.drew = x := ⟨_, rfl⟩
            have hba : Below wc.heap.size wc wa := by rw [← hwa]; exact (Below.refl _ _).drew
            rw [hwa]
            have hoa := Lib.hid (hoH.out.below hba); have hbxa := Lib.hid (hbxH.out.below hba); have hbwa := Lib.hid (chainB hbwH.out hba hbwH.out.size)
            clear hba hwa
            refine (deleteN_any wr.heap.size wa).mono ?_
            rintro e' w3 ⟨rfl, hb3⟩
            have ho3 := Lib.hid (OwnTs.nil w.heap.size w3)
            have hbx3 := Lib.hid (hbxa.out.below hb3); have hbw3 := Lib.hid (chainB hbwa.out hb3 hbwa.out.size)
            clear hb3
            refine hK.out _ _ ?_ (fun hHeld => ?_)
            · exact ⟨hbx3.out.cell 0 rfl, hbx3.out.cell 1 rfl⟩
            clear hK K
            (try simp only [Act.put, List.setIfInBounds_toArray, List.set_cons_zero, List.set_cons_succ])
            refine wpAnyH_ready (rs := [4]) (by kernel_rfl) (by simp) ?_
            refine' (AllReadyH.cons (i := 4) ?ho4x6 (fun K hK => ?st4x6) AllReadyH.nil)
            case ho4x6 => (simp only [List.getElem?_toArray, List.getElem?_cons_succ, List.getElem?_cons_zero]; try rfl)
            case st4x6 =>
              go_simp
              refine hK.out _ _ ?_ (fun hHeld => ?_)
              · exact ⟨(hbx3.out.below (by go_grown)).cell 0 rfl, (hbx3.out.below (by go_grown)).cell 1 rfl⟩
              clear hK K
              (try simp only [Act.put, List.setIfInBounds_toArray, List.set_cons_zero, List.set_cons_succ])
              refine wpAnyH_ready (rs := [5]) (by kernel_rfl) (by simp) ?_
              refine' (AllReadyH.cons (i := 5) ?ho5x7 (fun K hK => ?st5x7) AllReadyH.nil)
              case ho5x7 => (simp only [List.getElem?_toArray, List.getElem?_cons_succ, List.getElem?_cons_zero]; try rfl)
              case st5x7 =>
                refine wp_append_own _ _ _ 22 rfl w.heap.size 26 i0 (.agg #[.int .u64 0, .slice none 0 0]) 2 32 Tryz.underlying22 hi hz0 hz1 hz2 rfl (by decide) (.slice none 0 0) ([] : List Td).length (cellsTs ([] : List Td)) (by rfl) (ho3.out.below (by go_grown)) ⟨w3.heap.size, 0, none⟩ 1 1 (cellsT ⟨dA, dc, ⟨de, dl⟩⟩) (by rfl) rfl (newsT _ ⟨dA, dc, ⟨de, dl⟩⟩ _ _ rfl _ rfl) (cellsT_one _) (by have := hfl.out; unfold maxLen; omega) (by have := hfl.out; omega) (by have := hbw3.out.size; simp; omega) ?_
                intro v4 w4 ho4' hg4 _
                have hbw4 := Lib.hid ((chainB hbw3.out (by go_grown) hbw3.out.size).trans (grown_own (B := w.heap.size) (ho3.out.below (by go_grown)) hg4 (by have := hbw3.out.size; simp; omega)))
                have ho4 := Lib.hid (show OwnTs w.heap.size v4 (([] : List Td) ++ [⟨dA, dc, ⟨de, dl⟩⟩]) w4 by unfold OwnTs; rw [cellsTs_append, List.length_append]; simpa [cellsTs] using ho4')
                have hbx4 := Lib.hid (HasC.grownO ((hbx3.out.below (by go_grown))) hg4 (hnn_any _))
                clear ho4' hg4
                refine hK.out _ _ ?_ (fun hHeld => ?_)
                · exact ⟨(hbx4.out).cell 0 rfl, (hbx4.out).cell 1 rfl⟩
                clear hK K
                (try simp only [Act.put, List.setIfInBounds_toArray, List.set_cons_zero, List.set_cons_succ])
                refine' wpAnyH_take (i := 6) (v := ?v6x8) ?hi6x8 ?hs6x8 ?hf6x8 ?hr6x8 ?hQ6x8 ?hy6x8 ?hS6x8 ?rest6x8
                case hi6x8 => (simp only [List.getElem?_toArray, List.getElem?_cons_succ, List.getElem?_cons_zero]; try rfl)
                case hs6x8 => kernel_rfl
                case hf6x8 => kernel_rfl
                case hr6x8 => kernel_rfl
                case hQ6x8 => exact fun _ _ _ h => h
                case hy6x8 => first | exact Or.inl ⟨by rfl, by (intro w hSw; (try dsimp only at hSw); go_simp; try rfl)⟩ | exact Or.inr ⟨by rfl, rfl⟩
                case hS6x8 => assumption
                (try simp only [Act.put, List.setIfInBounds_toArray, List.set_cons_zero, List.set_cons_succ])
                refine wpAnyH_done (by kernel_rfl) ?_ _
                refine NoPanic.normal ?_
                go_wp2_with fail
                go_roundw
                case rel => first | exact ⟨p + 1, ([] : List Td) ++ [⟨dA, dc, ⟨de, dl⟩⟩], _, rfl, by go_num, by have := hlenH.out; omega, ho4.out, hst.out, hmem.out, hbw4.out⟩ | exact ⟨p + 1, ([] : List Td) ++ [⟨dA, dc, ⟨de, dl⟩⟩], _, rfl, by go_num, by have := hlenH.out; omega, ho4.out.drew, hst.out, hmem.out, hbw4.out.drew⟩
                case measure => simp [Go.RowKit.intOf]; omega
          case st4x5 =>
            go_simp
            refine hK.out _ _ ?_ (fun hHeld => ?_)
            · exact ⟨(hbxH.out.below (by go_grown)).cell 0 rfl, (hbxH.out.below (by go_grown)).cell 1 rfl⟩
            clear hK K
            (try simp only [Act.put, List.setIfInBounds_toArray, List.set_cons_zero, List.set_cons_succ])
            refine wpAnyH_ready (rs := [2]) (by kernel_rfl) (by simp) ?_
            refine' (AllReadyH.cons (i := 2) ?ho2x9 (fun K hK => ?st2x9) AllReadyH.nil)
            case ho2x9 => (simp only [List.getElem?_toArray, List.getElem?_cons_succ, List.getElem?_cons_zero]; try rfl)
            case st2x9 =>
              go_simp
              obtain ⟨wa, hwa⟩ : ∃ x, (wc.alloc (.cells #[.int .u64 de, .slice dA dl.length dc] 26)).drew = x := ⟨_, rfl⟩
              have hba : Below wc.heap.size wc wa := by rw [← hwa]; go_grown
              have hnb := Lib.hid (show HasC wa wc.heap.size (cellsT ⟨dA, dc, ⟨de, dl⟩⟩) 26 by rw [← hwa]; exact has_at _ _ _ _ rfl)
              rw [hwa]
              have hoa := Lib.hid (hoH.out.below hba); have hbxa := Lib.hid (hbxH.out.below hba); have hbwa := Lib.hid (chainB hbwH.out hba hbwH.out.size)
              clear hba hwa
              refine (deleteN_any wr.heap.size wa).mono ?_
              rintro e' w3 ⟨rfl, hb3⟩
              have ho3 := Lib.hid (OwnTs.nil w.heap.size w3)
              have hbx3 := Lib.hid (hbxa.out.below hb3); have hbw3 := Lib.hid (chainB hbwa.out hb3 hbwa.out.size)
              have hnb3 := Lib.hid (hnb.out.below hb3)
              clear hb3
              refine hK.out _ _ ?_ (fun hHeld => ?_)
              · exact ⟨hbx3.out.cell 0 rfl, hbx3.out.cell 1 rfl⟩
              clear hK K
              (try simp only [Act.put, List.setIfInBounds_toArray, List.set_cons_zero, List.set_cons_succ])
              refine wpAnyH_ready (rs := [5]) (by kernel_rfl) (by simp) ?_
              refine' (AllReadyH.cons (i := 5) ?ho5x10 (fun K hK => ?st5x10) AllReadyH.nil)
              case ho5x10 => (simp only [List.getElem?_toArray, List.getElem?_cons_succ, List.getElem?_cons_zero]; try rfl)
              case st5x10 =>
                refine wp_append_own _ _ _ 22 rfl w.heap.size 26 i0 (.agg #[.int .u64 0, .slice none 0 0]) 2 32 Tryz.underlying22 hi hz0 hz1 hz2 rfl (by decide) (.slice none 0 0) ([] : List Td).length (cellsTs ([] : List Td)) (by rfl) ho3.out ⟨wc.heap.size, 0, none⟩ 1 1 (cellsT ⟨dA, dc, ⟨de, dl⟩⟩) (by rfl) rfl (newsH hnb3.out) (cellsT_one _) (by have := hfl.out; unfold maxLen; omega) (by have := hfl.out; omega) hbw3.out.size ?_
                intro v4 w4 ho4' hg4 _
                have hbw4 := Lib.hid (hbw3.out.trans (grown_own (B := w.heap.size) ho3.out hg4 hbw3.out.size))
                have ho4 := Lib.hid (show OwnTs w.heap.size v4 (([] : List Td) ++ [⟨dA, dc, ⟨de, dl⟩⟩]) w4 by unfold OwnTs; rw [cellsTs_append, List.length_append]; simpa [cellsTs] using ho4')
                have hbx4 := Lib.hid (HasC.grownO (hbx3.out) hg4 (hnn_any _))
                clear ho4' hg4
                refine hK.out _ _ ?_ (fun hHeld => ?_)
                · exact ⟨(hbx4.out).cell 0 rfl, (hbx4.out).cell 1 rfl⟩
                clear hK K
                (try simp only [Act.put, List.setIfInBounds_toArray, List.set_cons_zero, List.set_cons_succ])
                refine' wpAnyH_take (i := 6) (v := ?v6x11) ?hi6x11 ?hs6x11 ?hf6x11 ?hr6x11 ?hQ6x11 ?hy6x11 ?hS6x11 ?rest6x11
                case hi6x11 => (simp only [List.getElem?_toArray, List.getElem?_cons_succ, List.getElem?_cons_zero]; try rfl)
                case hs6x11 => kernel_rfl
                case hf6x11 => kernel_rfl
                case hr6x11 => kernel_rfl
                case hQ6x11 => exact fun _ _ _ h => h
                case hy6x11 => first | exact Or.inl ⟨by rfl, by (intro w hSw; (try dsimp only at hSw); go_simp; try rfl)⟩ | exact Or.inr ⟨by rfl, rfl⟩
                case hS6x11 => assumption
                (try simp only [Act.put, List.setIfInBounds_toArray, List.set_cons_zero, List.set_cons_succ])
                refine wpAnyH_done (by kernel_rfl) ?_ _
                refine NoPanic.normal ?_
                go_wp2_with fail
                go_roundw
                case rel => first | exact ⟨p + 1, ([] : List Td) ++ [⟨dA, dc, ⟨de, dl⟩⟩], _, rfl, by go_num, by have := hlenH.out; omega, ho4.out, hst.out, hmem.out, hbw4.out⟩ | exact ⟨p + 1, ([] : List Td) ++ [⟨dA, dc, ⟨de, dl⟩⟩], _, rfl, by go_num, by have := hlenH.out; omega, ho4.out.drew, hst.out, hmem.out, hbw4.out.drew⟩
                case measure => simp [Go.RowKit.intOf]; omega

        · skip
          have hgw := hlow.out g rfl
          have hbg := Lib.hid (show wr.heap.size ≠ g by omega)
          have hgl := Lib.hid (OwnL.lt hgo)
          have hgoH := Lib.hid (fun (x : World) (hx : OwnTs w.heap.size (.slice (some ⟨g, 0, none⟩) out.length cap) out x) => OwnTs.block hx)
          have hol := Lib.hid (show out.length ≤ 1099511627776 by have := holH.out; omega)
          have hst := Lib.hid (show tmsD (out.filter (fun x => !leqT ⟨de, dl⟩ x.t) ++ [⟨dA, dc, ⟨de, dl⟩⟩]) = ofFold ((tmsD ds).take (p + 1)) by rw [hstepH.out, ← htmH.out, if_neg_up hupH.out, ← filter_tms out (fun x => !leqT ⟨de, dl⟩ x)]; simp [tmsD])
          have hmem := Lib.hid (show ∀ d ∈ (out.filter (fun x => !leqT ⟨de, dl⟩ x.t) ++ [⟨dA, dc, ⟨de, dl⟩⟩]), d ∈ ds by
            intro x hx
            rw [List.mem_append, List.mem_singleton] at hx
            rcases hx with hx | rfl
            · exact hmeH.out x (List.mem_filter.1 hx).1
            · exact List.mem_of_getElem? hdH.out)
          have hfl := Lib.hid (show (out.filter (fun x => !leqT ⟨de, dl⟩ x.t)).length ≤ 1073741824 by have := List.length_filter_le (fun x : Td => !leqT ⟨de, dl⟩ x.t) out; have := holH.out; omega)
          clear hgo
          go_wp2_with fail
          refine wp_region_noPanic ?_
          refine wp_region_held_drew (S := (fun w' => w'.cell? ⟨wr.heap.size, 0, none⟩ = some (.int .u64 de) ∧ w'.cell? ⟨wr.heap.size, 1, none⟩ = some (.slice dA dl.length dc))) (by kernel_rfl) (⟨hbxH.out.cell 0 rfl, hbxH.out.cell 1 rfl⟩) (fun hHeld => ?_)
          refine' wpAnyH_take (i := 0) (v := ?v0x12) ?hi0x12 ?hs0x12 ?hf0x12 ?hr0x12 ?hQ0x12 ?hy0x12 ?hS0x12 ?rest0x12
          case hi0x12 => (simp only [List.getElem?_toArray, List.getElem?_cons_succ, List.getElem?_cons_zero]; try rfl)
          case hs0x12 => kernel_rfl
          case hf0x12 => kernel_rfl
          case hr0x12 => kernel_rfl
          case hQ0x12 => exact fun _ _ _ h => h
          case hy0x12 => first | exact Or.inl ⟨by rfl, by (intro w hSw; (try dsimp only at hSw); go_simp; try rfl)⟩ | exact Or.inr ⟨by rfl, rfl⟩
          case hS0x12 => assumption
          (try simp only [Act.put, List.setIfInBounds_toArray, List.set_cons_zero, List.set_cons_succ])
          refine' wpAnyH_take (i := 1) (v := ?v1x13) ?hi1x13 ?hs1x13 ?hf1x13 ?hr1x13 ?hQ1x13 ?hy1x13 ?hS1x13 ?rest1x13
          case hi1x13 => (simp only [List.getElem?_toArray, List.getElem?_cons_succ, List.getElem?_cons_zero]; try rfl)
          case hs1x13 => kernel_rfl
          case hf1x13 => kernel_rfl
          case hr1x13 => kernel_rfl
          case hQ1x13 => exact fun _ _ _ h => h
          case hy1x13 => first | exact Or.inl ⟨by rfl, by (intro w hSw; (try dsimp only at hSw); go_simp; try rfl)⟩ | exact Or.inr ⟨by rfl, rfl⟩
          case hS1x13 => assumption
          (try simp only [Act.put, List.setIfInBounds_toArray, List.set_cons_zero, List.set_cons_succ])
          refine' wpAnyH_take (i := 3) (v := ?v3x14) ?hi3x14 ?hs3x14 ?hf3x14 ?hr3x14 ?hQ3x14 ?hy3x14 ?hS3x14 ?rest3x14
          case hi3x14 => (simp only [List.getElem?_toArray, List.getElem?_cons_succ, List.getElem?_cons_zero]; try rfl)
          case hs3x14 => kernel_rfl
          case hf3x14 => kernel_rfl
          case hr3x14 => kernel_rfl
          case hQ3x14 => exact fun _ _ _ h => h
          case hy3x14 => first | exact Or.inl ⟨by rfl, by (intro w hSw; (try dsimp only at hSw); go_simp; try rfl)⟩ | exact Or.inr ⟨by rfl, rfl⟩
          case hS3x14 => assumption
          (try simp only [Act.put, List.setIfInBounds_toArray, List.set_cons_zero, List.set_cons_succ])
          refine wpAnyH_ready (rs := [2, 4]) (by kernel_rfl) (by simp) ?_
          refine' (AllReadyH.cons (i := 2) ?ho2x15 (fun K hK => ?st2x15) (AllReadyH.cons (i := 4) ?ho4x16 (fun K hK => ?st4x16) AllReadyH.nil))
          case ho2x15 => (simp only [List.getElem?_toArray, List.getElem?_cons_succ, List.getElem?_cons_zero]; try rfl)
          case ho4x16 => (simp only [List.getElem?_toArray, List.getElem?_cons_succ, List.getElem?_cons_zero]; try rfl)
          case st2x15 =>
            go_simp
            obtain ⟨wa, hwa⟩ : ∃ x, wc.drew = x := ⟨_, rfl⟩
            have hba : Below wc.heap.size wc wa := by rw [← hwa]; exact (Below.refl _ _).drew
            rw [hwa]
            have hoa := Lib.hid (hoH.out.below hba); have hbxa := Lib.hid (hbxH.out.below hba); have hbwa := Lib.hid (chainB hbwH.out hba hbwH.out.size)
            clear hba hwa
            refine (deleteT_any g cap wr.heap.size out ⟨dA, dc, ⟨de, dl⟩⟩ w wa (hgoH.out wa (by first | exact hoa.out)) hrH.out hbwa.out hgB hbxa.out hbg.out hdr.out hol.out).mono ?_
            rintro e' w3 ⟨rfl, ho3', hg3⟩
            have ho3 := Lib.hid (OwnTs.of ho3' hgB)
            have hbx3 := Lib.hid (hbxa.out.grownC hg3 hbg.out); have hbw3 := Lib.hid (hbwa.out.trans (below_of_grown hg3 hgB hbwa.out.size))
            clear ho3' hg3
            refine hK.out _ _ ?_ (fun hHeld => ?_)
            · exact ⟨hbx3.out.cell 0 rfl, hbx3.out.cell 1 rfl⟩
            clear hK K
            (try simp only [Act.put, List.setIfInBounds_toArray, List.set_cons_zero, List.set_cons_succ])
            refine wpAnyH_ready (rs := [4]) (by kernel_rfl) (by simp) ?_
            refine' (AllReadyH.cons (i := 4) ?ho4x17 (fun K hK => ?st4x17) AllReadyH.nil)
            case ho4x17 => (simp only [List.getElem?_toArray, List.getElem?_cons_succ, List.getElem?_cons_zero]; try rfl)
            case st4x17 =>
              go_simp
              refine hK.out _ _ ?_ (fun hHeld => ?_)
              · exact ⟨(hbx3.out.below (by go_grown)).cell 0 rfl, (hbx3.out.below (by go_grown)).cell 1 rfl⟩
              clear hK K
              (try simp only [Act.put, List.setIfInBounds_toArray, List.set_cons_zero, List.set_cons_succ])
              refine wpAnyH_ready (rs := [5]) (by kernel_rfl) (by simp) ?_
              refine' (AllReadyH.cons (i := 5) ?ho5x18 (fun K hK => ?st5x18) AllReadyH.nil)
              case ho5x18 => (simp only [List.getElem?_toArray, List.getElem?_cons_succ, List.getElem?_cons_zero]; try rfl)
              case st5x18 =>
                refine wp_append_own _ _ _ 22 rfl w.heap.size 26 i0 (.agg #[.int .u64 0, .slice none 0 0]) 2 32 Tryz.underlying22 hi hz0 hz1 hz2 rfl (by decide) (.slice (some ⟨g, 0, none⟩) (out.filter (fun x => !leqT ⟨de, dl⟩ x.t)).length cap) (out.filter (fun x => !leqT ⟨de, dl⟩ x.t)).length (cellsTs (out.filter (fun x => !leqT ⟨de, dl⟩ x.t))) (by rfl) (ho3.out.below (by go_grown)) ⟨w3.heap.size, 0, none⟩ 1 1 (cellsT ⟨dA, dc, ⟨de, dl⟩⟩) (by rfl) rfl (newsT _ ⟨dA, dc, ⟨de, dl⟩⟩ _ _ rfl _ rfl) (cellsT_one _) (by have := hfl.out; unfold maxLen; omega) (by have := hfl.out; omega) (by have := hbw3.out.size; simp; omega) ?_
                intro v4 w4 ho4' hg4 _
                have hbw4 := Lib.hid ((chainB hbw3.out (by go_grown) hbw3.out.size).trans (grown_own (B := w.heap.size) (ho3.out.below (by go_grown)) hg4 (by have := hbw3.out.size; simp; omega)))
                have ho4 := Lib.hid (show OwnTs w.heap.size v4 ((out.filter (fun x => !leqT ⟨de, dl⟩ x.t)) ++ [⟨dA, dc, ⟨de, dl⟩⟩]) w4 by unfold OwnTs; rw [cellsTs_append, List.length_append]; simpa [cellsTs] using ho4')
                have hbx4 := Lib.hid (HasC.grownO ((hbx3.out.below (by go_grown))) hg4 (hne_any hbg.out _ _))
                clear ho4' hg4
                refine hK.out _ _ ?_ (fun hHeld => ?_)
                · exact ⟨(hbx4.out).cell 0 rfl, (hbx4.out).cell 1 rfl⟩
                clear hK K
                (try simp only [Act.put, List.setIfInBounds_toArray, List.set_cons_zero, List.set_cons_succ])
                refine' wpAnyH_take (i := 6) (v := ?v6x19) ?hi6x19 ?hs6x19 ?hf6x19 ?hr6x19 ?hQ6x19 ?hy6x19 ?hS6x19 ?rest6x19
                case hi6x19 => (simp only [List.getElem?_toArray, List.getElem?_cons_succ, List.getElem?_cons_zero]; try rfl)
                case hs6x19 => kernel_rfl
                case hf6x19 => kernel_rfl
                case hr6x19 => kernel_rfl
                case hQ6x19 => exact fun _ _ _ h => h
                case hy6x19 => first | exact Or.inl ⟨by rfl, by (intro w hSw; (try dsimp only at hSw); go_simp; try rfl)⟩ | exact Or.inr ⟨by rfl, rfl⟩
                case hS6x19 => assumption
                (try simp only [Act.put, List.setIfInBounds_toArray, List.set_cons_zero, List.set_cons_succ])
                refine wpAnyH_done (by kernel_rfl) ?_ _
                refine NoPanic.normal ?_
                go_wp2_with fail
                go_roundw
                case rel => first | exact ⟨p + 1, (out.filter (fun x => !leqT ⟨de, dl⟩ x.t)) ++ [⟨dA, dc, ⟨de, dl⟩⟩], _, rfl, by go_num, by have := hlenH.out; omega, ho4.out, hst.out, hmem.out, hbw4.out⟩ | exact ⟨p + 1, (out.filter (fun x => !leqT ⟨de, dl⟩ x.t)) ++ [⟨dA, dc, ⟨de, dl⟩⟩], _, rfl, by go_num, by have := hlenH.out; omega, ho4.out.drew, hst.out, hmem.out, hbw4.out.drew⟩
                case measure => simp [Go.RowKit.intOf]; omega
          case st4x16 =>
            go_simp
            refine hK.out _ _ ?_ (fun hHeld => ?_)
            · exact ⟨(hbxH.out.below (by go_grown)).cell 0 rfl, (hbxH.out.below (by go_grown)).cell 1 rfl⟩
            clear hK K
            (try simp only [Act.put, List.setIfInBounds_toArray, List.set_cons_zero, List.set_cons_succ])
            refine wpAnyH_ready (rs := [2]) (by kernel_rfl) (by simp) ?_
            refine' (AllReadyH.cons (i := 2) ?ho2x20 (fun K hK => ?st2x20) AllReadyH.nil)
            case ho2x20 => (simp only [List.getElem?_toArray, List.getElem?_cons_succ, List.getElem?_cons_zero]; try rfl)
            case st2x20 =>
              go_simp
              obtain ⟨wa, hwa⟩ : ∃ x, (wc.alloc (.cells #[.int .u64 de, .slice dA dl.length dc] 26)).drew = x := ⟨_, rfl⟩
              have hba : Below wc.heap.size wc wa := by rw [← hwa]; go_grown
              have hnb := Lib.hid (show HasC wa wc.heap.size (cellsT ⟨dA, dc, ⟨de, dl⟩⟩) 26 by rw [← hwa]; exact has_at _ _ _ _ rfl)
              rw [hwa]
              have hoa := Lib.hid (hoH.out.below hba); have hbxa := Lib.hid (hbxH.out.below hba); have hbwa := Lib.hid (chainB hbwH.out hba hbwH.out.size)
              clear hba hwa
              refine (deleteT_any g cap wr.heap.size out ⟨dA, dc, ⟨de, dl⟩⟩ w wa (hgoH.out wa (by first | exact hoa.out)) hrH.out hbwa.out hgB hbxa.out hbg.out hdr.out hol.out).mono ?_
              rintro e' w3 ⟨rfl, ho3', hg3⟩
              have ho3 := Lib.hid (OwnTs.of ho3' hgB)
              have hbx3 := Lib.hid (hbxa.out.grownC hg3 hbg.out); have hbw3 := Lib.hid (hbwa.out.trans (below_of_grown hg3 hgB hbwa.out.size))
              have hnb3 := Lib.hid (hnb.out.grownC hg3 (by have := hgl.out; omega))
              clear ho3' hg3
              refine hK.out _ _ ?_ (fun hHeld => ?_)
              · exact ⟨hbx3.out.cell 0 rfl, hbx3.out.cell 1 rfl⟩
              clear hK K
              (try simp only [Act.put, List.setIfInBounds_toArray, List.set_cons_zero, List.set_cons_succ])
              refine wpAnyH_ready (rs := [5]) (by kernel_rfl) (by simp) ?_
              refine' (AllReadyH.cons (i := 5) ?ho5x21 (fun K hK => ?st5x21) AllReadyH.nil)
              case ho5x21 => (simp only [List.getElem?_toArray, List.getElem?_cons_succ, List.getElem?_cons_zero]; try rfl)
              case st5x21 =>
                refine wp_append_own _ _ _ 22 rfl w.heap.size 26 i0 (.agg #[.int .u64 0, .slice none 0 0]) 2 32 Tryz.underlying22 hi hz0 hz1 hz2 rfl (by decide) (.slice (some ⟨g, 0, none⟩) (out.filter (fun x => !leqT ⟨de, dl⟩ x.t)).length cap) (out.filter (fun x => !leqT ⟨de, dl⟩ x.t)).length (cellsTs (out.filter (fun x => !leqT ⟨de, dl⟩ x.t))) (by rfl) ho3.out ⟨wc.heap.size, 0, none⟩ 1 1 (cellsT ⟨dA, dc, ⟨de, dl⟩⟩) (by rfl) rfl (newsH hnb3.out) (cellsT_one _) (by have := hfl.out; unfold maxLen; omega) (by have := hfl.out; omega) hbw3.out.size ?_
                intro v4 w4 ho4' hg4 _
                have hbw4 := Lib.hid (hbw3.out.trans (grown_own (B := w.heap.size) ho3.out hg4 hbw3.out.size))
                have ho4 := Lib.hid (show OwnTs w.heap.size v4 ((out.filter (fun x => !leqT ⟨de, dl⟩ x.t)) ++ [⟨dA, dc, ⟨de, dl⟩⟩]) w4 by unfold OwnTs; rw [cellsTs_append, List.length_append]; simpa [cellsTs] using ho4')
                have hbx4 := Lib.hid (HasC.grownO (hbx3.out) hg4 (hne_any hbg.out _ _))
                clear ho4' hg4
                refine hK.out _ _ ?_ (fun hHeld => ?_)
                · exact ⟨(hbx4.out).cell 0 rfl, (hbx4.out).cell 1 rfl⟩
                clear hK K
                (try simp only [Act.put, List.setIfInBounds_toArray, List.set_cons_zero, List.set_cons_succ])
                refine' wpAnyH_take (i := 6) (v := ?v6x22) ?hi6x22 ?hs6x22 ?hf6x22 ?hr6x22 ?hQ6x22 ?hy6x22 ?hS6x22 ?rest6x22
                case hi6x22 => (simp only [List.getElem?_toArray, List.getElem?_cons_succ, List.getElem?_cons_zero]; try rfl)
                case hs6x22 => kernel_rfl
                case hf6x22 => kernel_rfl
                case hr6x22 => kernel_rfl
                case hQ6x22 => exact fun _ _ _ h => h
                case hy6x22 => first | exact Or.inl ⟨by rfl, by (intro w hSw; (try dsimp only at hSw); go_simp; try rfl)⟩ | exact Or.inr ⟨by rfl, rfl⟩
                case hS6x22 => assumption
                (try simp only [Act.put, List.setIfInBounds_toArray, List.set_cons_zero, List.set_cons_succ])
                refine wpAnyH_done (by kernel_rfl) ?_ _
                refine NoPanic.normal ?_
                go_wp2_with fail
                go_roundw
                case rel => first | exact ⟨p + 1, (out.filter (fun x => !leqT ⟨de, dl⟩ x.t)) ++ [⟨dA, dc, ⟨de, dl⟩⟩], _, rfl, by go_num, by have := hlenH.out; omega, ho4.out, hst.out, hmem.out, hbw4.out⟩ | exact ⟨p + 1, (out.filter (fun x => !leqT ⟨de, dl⟩ x.t)) ++ [⟨dA, dc, ⟨de, dl⟩⟩], _, rfl, by go_num, by have := hlenH.out; omega, ho4.out.drew, hst.out, hmem.out, hbw4.out.drew⟩
                case measure => simp [Go.RowKit.intOf]; omega

    · skip
      obtain rfl : p = n := by omega
      have hpd := hlenH.out
      have hall := Lib.hid (show tmsD out = ofFold (tmsD ds) by rw [htmH.out, List.take_of_length_le (by simp [tmsD]; omega)])
      have hsub := Lib.hid (show ∀ t ∈ tmsD out, t ∈ tmsD ds by
        intro t ht
        obtain ⟨d, hd, rfl⟩ := List.mem_map.1 ht
        exact List.mem_map.2 ⟨d, hmeH.out d hd, rfl⟩)
      have hlo := Lib.hid (show out.length ≤ ds.length by
        have h1 := ofFold_len (tmsD ds)
        rw [← hall.out] at h1
        simpa [tmsD] using h1)
      have hoH := Lib.hid ho
      clear hpd ho
      rcases hoH.out.slice with ⟨hvn, hon⟩ | ⟨g, cap, rfl, hgB, hgo⟩
      · subst hvn hon
        go_wp2_with fail
        refine Calls.mono (show Calls Tryz.prog 41 #[.slice none 0 0, .func (.func 42) #[] #[]] wr (fun e w' => e = .returned (.tuple #[]) ∧ w' = wr) from AnyF.slices_SortFunc_none Tryz.sortT none 0 (.func (.func 42) #[] #[]) wr) ?_
        rintro e w2 ⟨rfl, rfl⟩
        go_wp2_with fail
        go_loopw [6, 28] (fun s6 s28 wx => s28 = .int .i64 0 ∧ wx = w2) (fun _ _ _ => 0)
        case atStart => exact ⟨rfl, rfl⟩
        case round =>
          obtain ⟨rfl, rfl⟩ := hrel
          go_wp2_with fail
          go_ret
          exact ⟨_, [], rfl, ofFold_ac (by rw [← hall.out]; first | done | exact List.Perm.refl _) List.Pairwise.nil, OwnTs.nil _ _, FreshT.nil _ _, hbwH.out, by simp, fun t ht => by simp [tmsD] at ht⟩
      · have hrO := Lib.hid (show RdT w out from fun x hx => hH.out.2 x (hmeH.out x hx))
        have hgH := Lib.hid hgo
        clear hgo
        go_wp2_with fail
        refine (sortT_any g cap out w wr hgH.out hrO.out hbwH.out hgB (by have := holH.out; omega)).mono ?_
        rintro e w2 ⟨rfl, r, hperm, hsort, ho2, hg2⟩
        have hacH := Lib.hid (show Ac (upL (tmsD ds)) (tmsD r) from ofFold_ac (by rw [← hall.out]; exact hperm.map _) (by unfold tmsD; rw [List.pairwise_map]; exact hsort))
        have hrl := hperm.length_eq
        have hsubr := Lib.hid (show ∀ t ∈ tmsD r, t ∈ tmsD ds from fun t ht => hsub.out t ((hperm.map _).mem_iff.1 ht))
        have hrs := Lib.hid (show ∀ d ∈ r, d ∈ ds from fun d hd => hmeH.out d (hperm.mem_iff.1 hd))
        have hlor := Lib.hid (show r.length ≤ ds.length by rw [hrl]; exact hlo.out)
        have hrn := Lib.hid (show r.length ≤ 1073741824 by rw [hrl]; exact holH.out)
        have ho2H := Lib.hid ho2; have hb2H := Lib.hid (hbwH.out.trans (below_of_grown hg2 hgB hbwH.out.size))
        rw [← hrl]
        clear hperm hsort ho2 hg2 hrl hall hsub hlo hmeH hrO hgH hoH
        obtain ⟨m, hm⟩ : ∃ m, r.length = m := ⟨_, rfl⟩
        rw [hm]
        have hmH := Lib.hid hm
        have hmb : m ≤ 1073741824 := by have := hrn.out; omega
        clear hm
        go_wp2_with fail
        go_loopw [6, 28] (fun s6 s28 wx => RelOf r g cap w s28 wx) (fun _ s28 _ => m - (Go.RowKit.intOf s28).toNat)
        case atStart => exact ⟨0, [], Nat.zero_le _, rfl, rfl, FreshT.nil _ _, ho2H.out, hb2H.out⟩
        case round =>
          unfold RelOf at hrel
          obtain ⟨q, f, hq, rfl, hf, hfr, hoq, hbq⟩ := hrel
          have hqm : q ≤ m := by have := hmH.out; omega
          have hflen := tms_len hf hq
          have hfH := Lib.hid hf; have hfrH := Lib.hid hfr; have hoqH := Lib.hid hoq; have hbqH := Lib.hid hbq; have hflH := Lib.hid hflen
          clear hf hfr hoq hbq hflen
          by_cases hlt2 : q < m
          · have hqr : q < r.length := by have := hmH.out; omega
            obtain ⟨d, hd⟩ : ∃ d, r[q]? = some d := ⟨_, List.getElem?_eq_getElem hqr⟩
            have hdq : (f ++ r.drop q)[q]? = some d := by
              rw [List.getElem?_append_right (by have := hflH.out; omega), hflH.out, Nat.sub_self, List.getElem?_drop]
              simpa using hd
            obtain ⟨c0_, c1_⟩ := hoqH.out.cells hdq
            have hgl := OwnL.lt hoqH.out
            have hdin := hrs.out d (List.mem_of_getElem? hd)
            have hdr := Lib.hid ((hH.out.2 d hdin).below hbqH.out)
            have hds := Lib.hid (hsH.out d hdin)
            have hdl : r[q] = d := (List.getElem?_eq_some_iff.1 hd).2
            have hdlH := Lib.hid hdl
            clear hd hdq hdin hdl
            obtain ⟨dA, dc, ⟨de, dl⟩⟩ := d
            simp only at c0_ c1_
            go_wp2_with fail
            refine (fresh_any _ ⟨de, dl⟩ wr ⟨_, rfl, hdr.out⟩ hds.out).mono ?_
            rintro e w3 ⟨s, rfl, hos, hb3⟩
            obtain ⟨sA, sn, sc, rfl, hsn, _, _⟩ := hos.words.form
            simp only at hsn hos
            subst hsn
            have hfr3 := Lib.hid (FreshT.snoc (d := ⟨sA, sc, ⟨de, dl⟩⟩) hfrH.out hb3 hos hbqH.out.size)
            have ho3 := Lib.hid (OwnL.below hoqH.out hb3); have hbq3 := Lib.hid (chainB hbqH.out hb3 hbqH.out.size)
            have hgl3 := Nat.lt_of_lt_of_le hgl hb3.size
            obtain ⟨x0_, x1_⟩ : w3.cell? ⟨g, q * 2, none⟩ = some (.int .u64 de) ∧ w3.cell? ⟨g, q * 2 + 1, none⟩ = some (.slice dA dl.length dc) := ⟨(hb3.cell (p := ⟨g, q * 2, none⟩) hgl).trans c0_, (hb3.cell (p := ⟨g, q * 2 + 1, none⟩) hgl).trans c1_⟩
            have f0_ := OwnL.free ho3.out (q * 2); have f1_ := OwnL.free ho3.out (q * 2 + 1)
            clear c0_ c1_ hos hb3
            go_wp2_with fail
            go_roundw
            case rel =>
              have hput := OwnT.put ho3.out (i := q) (by rw [List.length_append, List.length_drop, hflH.out]; omega) ⟨sA, sc, ⟨de, dl⟩⟩
              rw [put_next _ hflH.out hqr] at hput
              refine ⟨q + 1, f ++ [⟨sA, sc, ⟨de, dl⟩⟩], hqr, by go_num, ?_, ?_, hput, (hbq3.out.setCell hgB _).setCell hgB _⟩
              · have hql : q < (tmsD r).length := by simpa [tmsD] using hqr
                rw [List.take_succ_eq_append_getElem hql, ← hfH.out]
                simp [tmsD, hdlH.out]
              · have ho3b := OwnL.set ho3.out (i := q) (j := 0) (by rw [List.length_map, List.length_append, List.length_drop, hflH.out]; omega) (by omega) (.int .u64 de)
                exact (FreshT.far hfr3.out ho3.out _ _).farL ho3b _ _
            case measure => simp [Go.RowKit.intOf]; omega
          · obtain rfl : q = m := by omega
            have hfin : tmsD f = tmsD r := by rw [hfH.out, List.take_of_length_le (by simp [tmsD]; have := hmH.out; omega)]
            have hfinH := Lib.hid hfin
            have hofin := Lib.hid (show OwnT g cap f wr by have := hoqH.out; rwa [List.drop_eq_nil_of_le (by have := hmH.out; omega), List.append_nil] at this)
            clear hfin
            go_wp2_with fail
            go_ret
            refine ⟨_, f, rfl, by rw [hfinH.out]; exact hacH.out, by have := OwnTs.of hofin.out hgB; rwa [hflH.out] at this, hfrH.out, hbqH.out, by have h1 := hflH.out; have h2 := hlor.out; have h3 := hmH.out; omega, by rw [hfinH.out]; exact hsubr.out⟩
end Go.Proofs.YtdfhchpimpbgfaaGreatDoor
