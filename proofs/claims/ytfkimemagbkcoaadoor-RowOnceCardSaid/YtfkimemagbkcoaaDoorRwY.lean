/-
  Counted rows that are the same; that are lent, and whether they are whole: SameCounteds, LentCounteds, WholeCounteds, at this program. Conditions: those written.
-/
import Derived.Test.YtfkimemagbkcoaaDoorRwX
set_option linter.unusedVariables false
set_option linter.unusedSimpArgs false
namespace Go.Proofs.YtfkimemagbkcoaaDoor
open Go.RowKit Go.Lib Go.Proofs

theorem LentD.others {B : Nat} {v : Value} {l : List Dat} {w w' : World} (h : LentD B v l w) (ho : OthersKept 45 none w w') : LentD B v l w' := by
  obtain ⟨g, cap, rfl, hB, h⟩ := h
  exact ⟨g, cap, rfl, hB, h.others ho (by decide)⟩
/-- The counted rows ds lie behind the slice v, a row of the call's own, since the world W0. -/
abbrev OwnKC (B : Nat) (v : Value) (ds : List Cd) (W0 w : World) : Prop := OwnK 45 2 B v ds.length (cellsC ds) W0 w
theorem OwnKC.up {B : Nat} {v : Value} {ds : List Cd} {d : Cd} {W0 w : World} (h : OwnK 45 2 B v (ds.length + 1) (cellsC ds ++ cellsV d.1) W0 w) : OwnKC B v (ds ++ [d]) W0 w := by
  unfold OwnKC cellsC at *
  rw [List.length_append, List.map_append, List.flatten_append]
  simpa using h
section
/-- 'v = append(v, Counted{..})', the new one in the block that the statement has just laid. -/
theorem wpList_countK {ops : Array Oper} {rest : List Oper} {o : Oper} {a : Act} {Q : Exit → Act → World → Prop} (hgd : o.guard = none) (s x : Operand)
    (ho : o.op = .call { callee := .builtin .append, args := #[s, x], argTypes := #[41, 41] })
    (B : Nat) (v : Value) (ds : List Cd) (W0 w0 : World) (d : Cd) (cs : Array Value) (hcs : cs = (cellsV d.1).toArray) (hb : OwnKC B v ds W0 w0) (hs : a.eval s = v)
    (hx : a.eval x = .slice (some ⟨w0.heap.size, 0, none⟩) 1 1) (hlen : ds.length ≤ 1099511627776)
    (h : ∀ v' w', OwnKC B v' (ds ++ [d]) W0 w' → wpList Tryd.prog ops Q rest (a.put o.dst v') w') : wpList Tryd.prog ops Q (o :: rest) a (w0.alloc (.cells cs 45)) := by
  subst hcs
  obtain ⟨i, hi, hz, hsz, hby⟩ := info_ct
  refine wpList_appendK hgd s x 41 ho B 45 i _ 2 i.bytes Tryd.underlying41 hi hz hsz rfl rfl (by decide) v ds.length (cellsC ds) hs W0 w0 1 (cellsV d.1) hb hx rfl (cellsV_one _) (by omega) ?_ (fun v' w' h' => h v' w' (OwnKC.up h'))
  have := Nat.mul_le_mul (show ds.length + 1 ≤ 1099511627777 by omega) hby
  omega
/-- .. as one operation of a region that draws its order. -/
theorem wp_countK {o : Oper} {a : Act} {K : Act → World → Prop} {Q : Exit → Act → World → Prop} (s x : Operand)
    (ho : o.op = .call { callee := .builtin .append, args := #[s, x], argTypes := #[41, 41] })
    (B : Nat) (v : Value) (ds : List Cd) (W0 w0 : World) (d : Cd) (cs : Array Value) (hcs : cs = (cellsV d.1).toArray) (hb : OwnKC B v ds W0 w0) (hs : a.eval s = v)
    (hx : a.eval x = .slice (some ⟨w0.heap.size, 0, none⟩) 1 1) (hlen : ds.length ≤ 1099511627776)
    (h : ∀ v' w', OwnKC B v' (ds ++ [d]) W0 w' → K (a.put o.dst v') w') : o.wp Tryd.prog a (w0.alloc (.cells cs 45)) K Q := by
  subst hcs
  obtain ⟨i, hi, hz, hsz, hby⟩ := info_ct
  have hb' := hb.alloc (.cells (cellsV d.1).toArray 45)
  refine wp_append_own _ s x 41 ho B 45 i _ 2 i.bytes Tryd.underlying41 hi hz hsz rfl rfl (by decide) v ds.length (cellsC ds) hs hb'.1 ⟨w0.heap.size, 0, none⟩ 1 1 (cellsV d.1) hx rfl ?_ (cellsV_one _) (by unfold maxLen; omega) ?_ hb'.2.2.1 ?_
  · intro j u hj
    have := cell_new w0 (cellsV d.1).toArray 45 j
    rw [show (⟨w0.heap.size, 0, none⟩ : Addr).add j = ⟨w0.heap.size, j, none⟩ by unfold Addr.add; split <;> simp_all]
    rw [this]
    simpa using hj
  · have := Nat.mul_le_mul (show ds.length + 1 ≤ 1099511627777 by omega) hby
    omega
  · intro v' w' ho' hg _
    exact h v' w' (OwnKC.up (hb'.grown ho' hg))
end
theorem OwnKC.form {B : Nat} {v : Value} {ds : List Cd} {W0 w : World} (h : OwnKC B v ds W0 w) : ∃ A c, v = .slice A ds.length c := OwnCs.len h.1
theorem OwnKC.again {B : Nat} {v : Value} {ds : List Cd} {W0 w : World} (h : OwnKC B v ds W0 w) : OwnKC B v ds w w := OwnK.start h.1 h.2.2.1
def markC : Cd := (⟨none, 0, 0, 91⟩, [])
/-- What is lent of counted rows: rows that are lent each, with one of room behind that has a mark. -/
def LentCs (B : Nat) (v : Value) (ds : List Cd) (w : World) : Prop :=
  ∃ g cap es, v = .slice (some ⟨g, 0, none⟩) ds.length cap ∧ B ≤ g ∧ es.map cnD = ds.map cnD ∧ (∀ e ∈ es, LentD B (valD e) e.2 w) ∧ OwnC g cap ((es ++ [markC]).map (·.1)) w
theorem LentCs.below {B : Nat} {v : Value} {ds : List Cd} {w w' : World} (h : LentCs B v ds w) (hb : Below w.heap.size w w') : LentCs B v ds w' := by
  obtain ⟨g, cap, es, rfl, hB, h1, h2, h3⟩ := h
  exact ⟨g, cap, es, rfl, hB, h1, fun e he => (h2 e he).below hb, h3.below hb⟩
theorem LentD.drew {B : Nat} {v : Value} {l : List Dat} {w : World} (h : LentD B v l w) : LentD B v l w.drew := h
theorem cn_at {qs bs : List Cd} (h : qs.map cnD = bs.map cnD) {p : Nat} {a : Cd} (ha : qs[p]? = some a) : ∃ b, bs[p]? = some b ∧ a.2 = b.2 ∧ a.1.n = b.1.n := by
  have h1 : (qs.map cnD)[p]? = some (cnD a) := by rw [List.getElem?_map, ha]; rfl
  rw [h, List.getElem?_map] at h1
  obtain ⟨b, hb, e⟩ := Option.map_eq_some_iff.1 h1
  injection e with e1 e2
  exact ⟨b, hb, e1.symm, e2.symm⟩
theorem cn_len {qs bs : List Cd} (h : qs.map cnD = bs.map cnD) : qs.length = bs.length := by simpa using congrArg List.length h
theorem LentCs.cts {B : Nat} {v : Value} {ds : List Cd} {w : World} (h : LentCs B v ds w) : ∃ es, es.map cnD = ds.map cnD ∧ CtsV w v es := by
  obtain ⟨g, cap, es, rfl, hB, h1, h2, h3⟩ := h
  refine ⟨es, h1, ?_, fun d hd => (h2 d hd).rowV⟩
  have h4 := SlV.front (m := es.length) (OwnL.slV h3) (by simp)
  rw [cn_len h1] at h4
  rw [cn_len h1]
  have e : (((es ++ [markC]).map (·.1)).map cellsV).flatten.take (ds.length * 2) = cellsC es := by
    rw [List.map_append, List.map_append, List.flatten_append, List.map_map, ← cn_len h1]
    exact List.take_left' (cellsC_len es)
  rw [e] at h4
  exact h4
theorem OwnCs.cap {B : Nat} {A : Option Addr} {n c : Nat} {ds : List Cd} {w : World} (h : OwnCs B (.slice A n c) ds w) : n ≤ c := by
  obtain ⟨_, A', c', e, h2, _⟩ := own_slV h
  obtain ⟨_, rfl, rfl⟩ := Value.slice.inj e
  exact h2
def RelY (n : Nat) (w0 : World) (s5 : Value) (wr : World) : Prop := ∃ p : Nat, p ≤ n ∧ s5 = .int .i64 (p : Int) ∧ Below w0.heap.size w0 wr
theorem CtsV.at_ {w : World} {A : Option Addr} {n c : Nat} {ds : List Cd} (h : CtsV w (.slice A n c) ds) (hn : ds.length = n) {i : Nat} {d : Cd} (hd : ds[i]? = some d) :
    ∃ ad : Addr, A = some ad ∧ (ad.add (i * 2)).block < w.heap.size ∧ w.cell? (ad.add (i * 2)) = some (valD d) ∧ w.cell? ⟨(ad.add (i * 2)).block, (ad.add (i * 2)).off + 1, none⟩ = some (.int .i64 d.1.n) := by
  subst hn
  exact h.at hd
set_option maxHeartbeats 4000000 in
set_option maxRecDepth 1000000 in
theorem sameCounteds_any (va vb : Value) (qs ds : List Cd) (w : World) (ha : CtsV w va qs) (hb : CtsV w vb ds) (heq : qs.map cnD = ds.map cnD) (hn : ds.length ≤ 1099511627776) (hl : ∀ d ∈ ds, d.2.length ≤ 1099511627776) :
    Calls Tryd.prog 19 #[va, vb] w fun e w' => e = .returned (.bool true) ∧ Below w.heap.size w w' := by
  obtain ⟨A, ca, rfl, hla⟩ := ha.form
  obtain ⟨B, cb, rfl, hlb⟩ := hb.form
  have haH := Lib.hid ha; have hbH := Lib.hid hb; have heqH := Lib.hid heq; have hlH := Lib.hid hl
  obtain ⟨N, hN, hNd⟩ : ∃ N, qs.length = N ∧ ds.length = N := ⟨_, cn_len heq, rfl⟩
  rw [hN] at haH
  rw [hN] at hla ⊢
  subst hNd
  clear ha hb heq hl hN
  go_enter Tryd.func19, Tryd.ntmps19
  go_wp2_with fail
  go_loopw [5] (fun s5 wr => RelY ds.length w s5 wr) (fun s5 _ => ds.length - (Go.RowKit.intOf s5).toNat)
  case atStart => exact ⟨0, by omega, rfl, Below.refl _ _⟩
  case round =>
    unfold RelY at hrel
    obtain ⟨p, hp, rfl, hbw⟩ := hrel
    have hbwH := Lib.hid hbw
    clear hbw
    by_cases hlt : p < ds.length
    · obtain ⟨b, hb⟩ : ∃ b, ds[p]? = some b := ⟨_, List.getElem?_eq_getElem hlt⟩
      obtain ⟨a, ha, e1, e2⟩ := cn_at heqH.out.symm hb
      obtain ⟨bd, rfl, hbb, b0_, b1_⟩ := (hbH.out.below hbwH.out).at hb
      obtain ⟨ad, rfl, hba, a0_, a1_⟩ := (haH.out.below hbwH.out).at_ (cn_len heqH.out) ha
      have hmem := Lib.hid (List.mem_of_getElem? hb); have hmea := Lib.hid (List.mem_of_getElem? ha)
      have hllH := Lib.hid (hlH.out b (List.mem_of_getElem? hb))
      have hltH := Lib.hid hlt
      have hrb := Lib.hid ((hbH.out.2 b (List.mem_of_getElem? hb)).below hbwH.out)
      have hra := Lib.hid ((haH.out.2 a (List.mem_of_getElem? ha)).below hbwH.out)
      clear ha hb
      obtain ⟨⟨bA, bk, bc, n⟩, l⟩ := b
      obtain ⟨⟨aA, ak, ac, n'⟩, l'⟩ := a
      simp only at e1 e2
      subst e1 e2
      simp only [valD] at a0_ a1_ b0_ b1_
      go_wp2_with fail
      refine wp_region_noPanic ?_
      refine wp_region_held_drew (S := (fun w' => w'.cell? (ad.add (p * 2)) = some (.slice aA ak ac) ∧ w'.cell? ⟨(ad.add (p * 2)).block, (ad.add (p * 2)).off + 1, none⟩ = some (.int .i64 n) ∧ w'.cell? (bd.add (p * 2)) = some (.slice bA bk bc) ∧ w'.cell? ⟨(bd.add (p * 2)).block, (bd.add (p * 2)).off + 1, none⟩ = some (.int .i64 n))) (by kernel_rfl) (⟨a0_, a1_, b0_, b1_⟩) (fun hHeld => ?_)
      refine' wpAnyH_take (i := 0) (v := ?v0x1) ?hi0x1 ?hs0x1 ?hf0x1 ?hr0x1 ?hQ0x1 ?hy0x1 ?hS0x1 ?rest0x1
      case hi0x1 => (simp only [List.getElem?_toArray, List.getElem?_cons_succ, List.getElem?_cons_zero]; try rfl)
      case hs0x1 => kernel_rfl
      case hf0x1 => kernel_rfl
      case hr0x1 => kernel_rfl
      case hQ0x1 => exact fun _ _ _ h => h
      case hy0x1 => first | exact Or.inl ⟨by rfl, by (intro w hSw; (try dsimp only at hSw); go_simp; try rfl)⟩ | exact Or.inr ⟨by rfl, rfl⟩
      case hS0x1 => assumption
      (try simp only [Act.put, List.setIfInBounds_toArray, List.set_cons_zero, List.set_cons_succ])
      refine' wpAnyH_take (i := 1) (v := ?v1x2) ?hi1x2 ?hs1x2 ?hf1x2 ?hr1x2 ?hQ1x2 ?hy1x2 ?hS1x2 ?rest1x2
      case hi1x2 => (simp only [List.getElem?_toArray, List.getElem?_cons_succ, List.getElem?_cons_zero]; try rfl)
      case hs1x2 => kernel_rfl
      case hf1x2 => kernel_rfl
      case hr1x2 => kernel_rfl
      case hQ1x2 => exact fun _ _ _ h => h
      case hy1x2 => first | exact Or.inl ⟨by rfl, by (intro w hSw; (try dsimp only at hSw); go_simp; try rfl)⟩ | exact Or.inr ⟨by rfl, rfl⟩
      case hS1x2 => assumption
      (try simp only [Act.put, List.setIfInBounds_toArray, List.set_cons_zero, List.set_cons_succ])
      refine' wpAnyH_take (i := 2) (v := ?v2x3) ?hi2x3 ?hs2x3 ?hf2x3 ?hr2x3 ?hQ2x3 ?hy2x3 ?hS2x3 ?rest2x3
      case hi2x3 => (simp only [List.getElem?_toArray, List.getElem?_cons_succ, List.getElem?_cons_zero]; try rfl)
      case hs2x3 => kernel_rfl
      case hf2x3 => kernel_rfl
      case hr2x3 => kernel_rfl
      case hQ2x3 => exact fun _ _ _ h => h
      case hy2x3 => first | exact Or.inl ⟨by rfl, by (intro w hSw; (try dsimp only at hSw); go_simp; try rfl)⟩ | exact Or.inr ⟨by rfl, rfl⟩
      case hS2x3 => assumption
      (try simp only [Act.put, List.setIfInBounds_toArray, List.set_cons_zero, List.set_cons_succ])
      refine' wpAnyH_take (i := 3) (v := ?v3x4) ?hi3x4 ?hs3x4 ?hf3x4 ?hr3x4 ?hQ3x4 ?hy3x4 ?hS3x4 ?rest3x4
      case hi3x4 => (simp only [List.getElem?_toArray, List.getElem?_cons_succ, List.getElem?_cons_zero]; try rfl)
      case hs3x4 => kernel_rfl
      case hf3x4 => kernel_rfl
      case hr3x4 => kernel_rfl
      case hQ3x4 => exact fun _ _ _ h => h
      case hy3x4 => first | exact Or.inl ⟨by rfl, by (intro w hSw; (try dsimp only at hSw); go_simp; try rfl)⟩ | exact Or.inr ⟨by rfl, rfl⟩
      case hS3x4 => assumption
      (try simp only [Act.put, List.setIfInBounds_toArray, List.set_cons_zero, List.set_cons_succ])
      refine' wpAnyH_take (i := 4) (v := ?v4x5) ?hi4x5 ?hs4x5 ?hf4x5 ?hr4x5 ?hQ4x5 ?hy4x5 ?hS4x5 ?rest4x5
      case hi4x5 => (simp only [List.getElem?_toArray, List.getElem?_cons_succ, List.getElem?_cons_zero]; try rfl)
      case hs4x5 => kernel_rfl
      case hf4x5 => kernel_rfl
      case hr4x5 => kernel_rfl
      case hQ4x5 => exact fun _ _ _ h => h
      case hy4x5 => first | exact Or.inl ⟨by rfl, by (intro w hSw; (try dsimp only at hSw); go_simp; try rfl)⟩ | exact Or.inr ⟨by rfl, rfl⟩
      case hS4x5 => assumption
      (try simp only [Act.put, List.setIfInBounds_toArray, List.set_cons_zero, List.set_cons_succ])
      refine' wpAnyH_take (i := 5) (v := ?v5x6) ?hi5x6 ?hs5x6 ?hf5x6 ?hr5x6 ?hQ5x6 ?hy5x6 ?hS5x6 ?rest5x6
      case hi5x6 => (simp only [List.getElem?_toArray, List.getElem?_cons_succ, List.getElem?_cons_zero]; try rfl)
      case hs5x6 => kernel_rfl
      case hf5x6 => kernel_rfl
      case hr5x6 => kernel_rfl
      case hQ5x6 => exact fun _ _ _ h => h
      case hy5x6 => first | exact Or.inl ⟨by rfl, by (intro w hSw; (try dsimp only at hSw); go_simp; try rfl)⟩ | exact Or.inr ⟨by rfl, rfl⟩
      case hS5x6 => assumption
      (try simp only [Act.put, List.setIfInBounds_toArray, List.set_cons_zero, List.set_cons_succ])
      refine' wpAnyH_take (i := 6) (v := ?v6x7) ?hi6x7 ?hs6x7 ?hf6x7 ?hr6x7 ?hQ6x7 ?hy6x7 ?hS6x7 ?rest6x7
      case hi6x7 => (simp only [List.getElem?_toArray, List.getElem?_cons_succ, List.getElem?_cons_zero]; try rfl)
      case hs6x7 => kernel_rfl
      case hf6x7 => kernel_rfl
      case hr6x7 => kernel_rfl
      case hQ6x7 => exact fun _ _ _ h => h
      case hy6x7 => first | exact Or.inl ⟨by rfl, by (intro w hSw; (try dsimp only at hSw); go_simp; try rfl)⟩ | exact Or.inr ⟨by rfl, rfl⟩
      case hS6x7 => assumption
      (try simp only [Act.put, List.setIfInBounds_toArray, List.set_cons_zero, List.set_cons_succ])
      refine' wpAnyH_take (i := 7) (v := ?v7x8) ?hi7x8 ?hs7x8 ?hf7x8 ?hr7x8 ?hQ7x8 ?hy7x8 ?hS7x8 ?rest7x8
      case hi7x8 => (simp only [List.getElem?_toArray, List.getElem?_cons_succ, List.getElem?_cons_zero]; try rfl)
      case hs7x8 => kernel_rfl
      case hf7x8 => kernel_rfl
      case hr7x8 => kernel_rfl
      case hQ7x8 => exact fun _ _ _ h => h
      case hy7x8 => first | exact Or.inl ⟨by rfl, by (intro w hSw; (try dsimp only at hSw); go_simp; try rfl)⟩ | exact Or.inr ⟨by rfl, rfl⟩
      case hS7x8 => assumption
      (try simp only [Act.put, List.setIfInBounds_toArray, List.set_cons_zero, List.set_cons_succ])
      refine' wpAnyH_take (i := 8) (v := ?v8x9) ?hi8x9 ?hs8x9 ?hf8x9 ?hr8x9 ?hQ8x9 ?hy8x9 ?hS8x9 ?rest8x9
      case hi8x9 => (simp only [List.getElem?_toArray, List.getElem?_cons_succ, List.getElem?_cons_zero]; try rfl)
      case hs8x9 => kernel_rfl
      case hf8x9 => kernel_rfl
      case hr8x9 => kernel_rfl
      case hQ8x9 => exact fun _ _ _ h => h
      case hy8x9 => first | exact Or.inl ⟨by rfl, by (intro w hSw; (try dsimp only at hSw); go_simp; try rfl)⟩ | exact Or.inr ⟨by rfl, rfl⟩
      case hS8x9 => assumption
      (try simp only [Act.put, List.setIfInBounds_toArray, List.set_cons_zero, List.set_cons_succ])
      refine' wpAnyH_take (i := 9) (v := ?v9x10) ?hi9x10 ?hs9x10 ?hf9x10 ?hr9x10 ?hQ9x10 ?hy9x10 ?hS9x10 ?rest9x10
      case hi9x10 => (simp only [List.getElem?_toArray, List.getElem?_cons_succ, List.getElem?_cons_zero]; try rfl)
      case hs9x10 => kernel_rfl
      case hf9x10 => kernel_rfl
      case hr9x10 => kernel_rfl
      case hQ9x10 => exact fun _ _ _ h => h
      case hy9x10 => first | exact Or.inl ⟨by rfl, by (intro w hSw; (try dsimp only at hSw); go_simp; try rfl)⟩ | exact Or.inr ⟨by rfl, rfl⟩
      case hS9x10 => assumption
      (try simp only [Act.put, List.setIfInBounds_toArray, List.set_cons_zero, List.set_cons_succ])
      refine' wpAnyH_take (i := 10) (v := ?v10x11) ?hi10x11 ?hs10x11 ?hf10x11 ?hr10x11 ?hQ10x11 ?hy10x11 ?hS10x11 ?rest10x11
      case hi10x11 => (simp only [List.getElem?_toArray, List.getElem?_cons_succ, List.getElem?_cons_zero]; try rfl)
      case hs10x11 => kernel_rfl
      case hf10x11 => kernel_rfl
      case hr10x11 => kernel_rfl
      case hQ10x11 => exact fun _ _ _ h => h
      case hy10x11 => first | exact Or.inl ⟨by rfl, by (intro w hSw; (try dsimp only at hSw); go_simp; try rfl)⟩ | exact Or.inr ⟨by rfl, rfl⟩
      case hS10x11 => assumption
      (try simp only [Act.put, List.setIfInBounds_toArray, List.set_cons_zero, List.set_cons_succ])
      refine' wpAnyH_take (i := 11) (v := ?v11x12) ?hi11x12 ?hs11x12 ?hf11x12 ?hr11x12 ?hQ11x12 ?hy11x12 ?hS11x12 ?rest11x12
      case hi11x12 => (simp only [List.getElem?_toArray, List.getElem?_cons_succ, List.getElem?_cons_zero]; try rfl)
      case hs11x12 => kernel_rfl
      case hf11x12 => kernel_rfl
      case hr11x12 => kernel_rfl
      case hQ11x12 => exact fun _ _ _ h => h
      case hy11x12 => first | exact Or.inl ⟨by rfl, by (intro w hSw; (try dsimp only at hSw); go_simp; try rfl)⟩ | exact Or.inr ⟨by rfl, rfl⟩
      case hS11x12 => assumption
      (try simp only [Act.put, List.setIfInBounds_toArray, List.set_cons_zero, List.set_cons_succ])
      refine' wpAnyH_take (i := 12) (v := ?v12x13) ?hi12x13 ?hs12x13 ?hf12x13 ?hr12x13 ?hQ12x13 ?hy12x13 ?hS12x13 ?rest12x13
      case hi12x13 => (simp only [List.getElem?_toArray, List.getElem?_cons_succ, List.getElem?_cons_zero]; try rfl)
      case hs12x13 => kernel_rfl
      case hf12x13 => kernel_rfl
      case hr12x13 => kernel_rfl
      case hQ12x13 => exact fun _ _ _ h => h
      case hy12x13 => first | exact Or.inl ⟨by rfl, by (intro w hSw; (try dsimp only at hSw); go_simp; try rfl)⟩ | exact Or.inr ⟨by rfl, rfl⟩
      case hS12x13 => assumption
      (try simp only [Act.put, List.setIfInBounds_toArray, List.set_cons_zero, List.set_cons_succ])
      refine' wpAnyH_take (i := 13) (v := ?v13x14) ?hi13x14 ?hs13x14 ?hf13x14 ?hr13x14 ?hQ13x14 ?hy13x14 ?hS13x14 ?rest13x14
      case hi13x14 => (simp only [List.getElem?_toArray, List.getElem?_cons_succ, List.getElem?_cons_zero]; try rfl)
      case hs13x14 => kernel_rfl
      case hf13x14 => kernel_rfl
      case hr13x14 => kernel_rfl
      case hQ13x14 => exact fun _ _ _ h => h
      case hy13x14 => first | exact Or.inl ⟨by rfl, by (intro w hSw; (try dsimp only at hSw); go_simp; try rfl)⟩ | exact Or.inr ⟨by rfl, rfl⟩
      case hS13x14 => assumption
      (try simp only [Act.put, List.setIfInBounds_toArray, List.set_cons_zero, List.set_cons_succ])
      refine' wpAnyH_take (i := 14) (v := ?v14x15) ?hi14x15 ?hs14x15 ?hf14x15 ?hr14x15 ?hQ14x15 ?hy14x15 ?hS14x15 ?rest14x15
      case hi14x15 => (simp only [List.getElem?_toArray, List.getElem?_cons_succ, List.getElem?_cons_zero]; try rfl)
      case hs14x15 => kernel_rfl
      case hf14x15 => kernel_rfl
      case hr14x15 => kernel_rfl
      case hQ14x15 => exact fun _ _ _ h => h
      case hy14x15 => first | exact Or.inl ⟨by rfl, by (intro w hSw; (try dsimp only at hSw); go_simp; try rfl)⟩ | exact Or.inr ⟨by rfl, rfl⟩
      case hS14x15 => assumption
      (try simp only [Act.put, List.setIfInBounds_toArray, List.set_cons_zero, List.set_cons_succ])
      refine' wpAnyH_take (i := 15) (v := ?v15x16) ?hi15x16 ?hs15x16 ?hf15x16 ?hr15x16 ?hQ15x16 ?hy15x16 ?hS15x16 ?rest15x16
      case hi15x16 => (simp only [List.getElem?_toArray, List.getElem?_cons_succ, List.getElem?_cons_zero]; try rfl)
      case hs15x16 => kernel_rfl
      case hf15x16 => kernel_rfl
      case hr15x16 => kernel_rfl
      case hQ15x16 => exact fun _ _ _ h => h
      case hy15x16 => first | exact Or.inl ⟨by rfl, by (intro w hSw; (try dsimp only at hSw); go_simp; try rfl)⟩ | exact Or.inr ⟨by rfl, rfl⟩
      case hS15x16 => assumption
      (try simp only [Act.put, List.setIfInBounds_toArray, List.set_cons_zero, List.set_cons_succ])
      refine' wpAnyH_take (i := 16) (v := ?v16x17) ?hi16x17 ?hs16x17 ?hf16x17 ?hr16x17 ?hQ16x17 ?hy16x17 ?hS16x17 ?rest16x17
      case hi16x17 => (simp only [List.getElem?_toArray, List.getElem?_cons_succ, List.getElem?_cons_zero]; try rfl)
      case hs16x17 => kernel_rfl
      case hf16x17 => kernel_rfl
      case hr16x17 => kernel_rfl
      case hQ16x17 => exact fun _ _ _ h => h
      case hy16x17 => first | exact Or.inl ⟨by rfl, by (intro w hSw; (try dsimp only at hSw); go_simp; try rfl)⟩ | exact Or.inr ⟨by rfl, rfl⟩
      case hS16x17 => assumption
      (try simp only [Act.put, List.setIfInBounds_toArray, List.set_cons_zero, List.set_cons_succ])
      refine' wpAnyH_take (i := 17) (v := ?v17x18) ?hi17x18 ?hs17x18 ?hf17x18 ?hr17x18 ?hQ17x18 ?hy17x18 ?hS17x18 ?rest17x18
      case hi17x18 => (simp only [List.getElem?_toArray, List.getElem?_cons_succ, List.getElem?_cons_zero]; try rfl)
      case hs17x18 => kernel_rfl
      case hf17x18 => kernel_rfl
      case hr17x18 => kernel_rfl
      case hQ17x18 => exact fun _ _ _ h => h
      case hy17x18 => first | exact Or.inl ⟨by rfl, by (intro w hSw; (try dsimp only at hSw); go_simp; try rfl)⟩ | exact Or.inr ⟨by rfl, rfl⟩
      case hS17x18 => assumption
      (try simp only [Act.put, List.setIfInBounds_toArray, List.set_cons_zero, List.set_cons_succ])
      refine' wpAnyH_take (i := 18) (v := ?v18x19) ?hi18x19 ?hs18x19 ?hf18x19 ?hr18x19 ?hQ18x19 ?hy18x19 ?hS18x19 ?rest18x19
      case hi18x19 => (simp only [List.getElem?_toArray, List.getElem?_cons_succ, List.getElem?_cons_zero]; try rfl)
      case hs18x19 => kernel_rfl
      case hf18x19 => kernel_rfl
      case hr18x19 => kernel_rfl
      case hQ18x19 => exact fun _ _ _ h => h
      case hy18x19 => first | exact Or.inl ⟨by rfl, by (intro w hSw; (try dsimp only at hSw); go_simp; try rfl)⟩ | exact Or.inr ⟨by rfl, rfl⟩
      case hS18x19 => assumption
      (try simp only [Act.put, List.setIfInBounds_toArray, List.set_cons_zero, List.set_cons_succ])
      refine' wpAnyH_take (i := 19) (v := ?v19x20) ?hi19x20 ?hs19x20 ?hf19x20 ?hr19x20 ?hQ19x20 ?hy19x20 ?hS19x20 ?rest19x20
      case hi19x20 => (simp only [List.getElem?_toArray, List.getElem?_cons_succ, List.getElem?_cons_zero]; try rfl)
      case hs19x20 => kernel_rfl
      case hf19x20 => kernel_rfl
      case hr19x20 => kernel_rfl
      case hQ19x20 => exact fun _ _ _ h => h
      case hy19x20 => first | exact Or.inl ⟨by rfl, by (intro w hSw; (try dsimp only at hSw); go_simp; try rfl)⟩ | exact Or.inr ⟨by rfl, rfl⟩
      case hS19x20 => assumption
      (try simp only [Act.put, List.setIfInBounds_toArray, List.set_cons_zero, List.set_cons_succ])
      refine' wpAnyH_take (i := 20) (v := ?v20x21) ?hi20x21 ?hs20x21 ?hf20x21 ?hr20x21 ?hQ20x21 ?hy20x21 ?hS20x21 ?rest20x21
      case hi20x21 => (simp only [List.getElem?_toArray, List.getElem?_cons_succ, List.getElem?_cons_zero]; try rfl)
      case hs20x21 => kernel_rfl
      case hf20x21 => kernel_rfl
      case hr20x21 => kernel_rfl
      case hQ20x21 => exact fun _ _ _ h => h
      case hy20x21 => first | exact Or.inl ⟨by rfl, by (intro w hSw; (try dsimp only at hSw); go_simp; try rfl)⟩ | exact Or.inr ⟨by rfl, rfl⟩
      case hS20x21 => assumption
      (try simp only [Act.put, List.setIfInBounds_toArray, List.set_cons_zero, List.set_cons_succ])
      refine' wpAnyH_take (i := 21) (v := ?v21x22) ?hi21x22 ?hs21x22 ?hf21x22 ?hr21x22 ?hQ21x22 ?hy21x22 ?hS21x22 ?rest21x22
      case hi21x22 => (simp only [List.getElem?_toArray, List.getElem?_cons_succ, List.getElem?_cons_zero]; try rfl)
      case hs21x22 => kernel_rfl
      case hf21x22 => kernel_rfl
      case hr21x22 => kernel_rfl
      case hQ21x22 => exact fun _ _ _ h => h
      case hy21x22 => first | exact Or.inl ⟨by rfl, by (intro w hSw; (try dsimp only at hSw); go_simp; try rfl)⟩ | exact Or.inr ⟨by rfl, rfl⟩
      case hS21x22 => assumption
      (try simp only [Act.put, List.setIfInBounds_toArray, List.set_cons_zero, List.set_cons_succ])
      refine wpAnyH_ready (rs := [22]) (by kernel_rfl) (by simp) ?_
      refine' (AllReadyH.cons (i := 22) ?ho22x23 (fun K hK => ?st22x23) AllReadyH.nil)
      case ho22x23 => (simp only [List.getElem?_toArray, List.getElem?_cons_succ, List.getElem?_cons_zero]; try rfl)
      case st22x23 =>
        go_simp
        refine (sameRow_any (.slice aA ak ac) (.slice bA bk bc) l wr.drew (SlV.drew hra.out) (SlV.drew hrb.out)).mono ?_
        rintro e w2 ⟨rfl, hq⟩
        have hbq := Lib.hid hq
        clear hq
        refine hK.out _ _ ?_ (fun hHeld => ?_)
        · have hq2 := (Below.refl _ wr).drew.trans hbq.out; exact ⟨(hq2.cell (p := ad.add (p * 2)) hba).trans a0_, (hq2.cell (p := ⟨(ad.add (p * 2)).block, (ad.add (p * 2)).off + 1, none⟩) hba).trans a1_, (hq2.cell (p := bd.add (p * 2)) hbb).trans b0_, (hq2.cell (p := ⟨(bd.add (p * 2)).block, (bd.add (p * 2)).off + 1, none⟩) hbb).trans b1_⟩
        clear hK K
        (try simp only [Act.put, List.setIfInBounds_toArray, List.set_cons_zero, List.set_cons_succ])
        refine' wpAnyH_take (i := 23) (v := ?v23x24) ?hi23x24 ?hs23x24 ?hf23x24 ?hr23x24 ?hQ23x24 ?hy23x24 ?hS23x24 ?rest23x24
        case hi23x24 => (simp only [List.getElem?_toArray, List.getElem?_cons_succ, List.getElem?_cons_zero]; try rfl)
        case hs23x24 => kernel_rfl
        case hf23x24 => kernel_rfl
        case hr23x24 => kernel_rfl
        case hQ23x24 => exact fun _ _ _ h => h
        case hy23x24 => first | exact Or.inl ⟨by rfl, by (intro w hSw; (try dsimp only at hSw); go_simp; try rfl)⟩ | exact Or.inr ⟨by rfl, rfl⟩
        case hS23x24 => assumption
        (try simp only [Act.put, List.setIfInBounds_toArray, List.set_cons_zero, List.set_cons_succ])
        refine' wpAnyH_take (i := 24) (v := ?v24x25) ?hi24x25 ?hs24x25 ?hf24x25 ?hr24x25 ?hQ24x25 ?hy24x25 ?hS24x25 ?rest24x25
        case hi24x25 => (simp only [List.getElem?_toArray, List.getElem?_cons_succ, List.getElem?_cons_zero]; try rfl)
        case hs24x25 => kernel_rfl
        case hf24x25 => kernel_rfl
        case hr24x25 => kernel_rfl
        case hQ24x25 => exact fun _ _ _ h => h
        case hy24x25 => first | exact Or.inl ⟨by rfl, by (intro w hSw; (try dsimp only at hSw); go_simp; try rfl)⟩ | exact Or.inr ⟨by rfl, rfl⟩
        case hS24x25 => assumption
        (try simp only [Act.put, List.setIfInBounds_toArray, List.set_cons_zero, List.set_cons_succ])
        refine wpAnyH_done (by kernel_rfl) ?_ _
        refine NoPanic.normal ?_
        go_wp2_with fail
        go_roundw
        case rel => exact ⟨p + 1, hltH.out, by go_num, hbwH.out.trans (((Below.refl _ wr).drew.trans hbq.out).mono hbwH.out.size)⟩
        case measure => have := hltH.out; simp [Go.RowKit.intOf]; omega
    · obtain rfl : p = ds.length := by omega
      go_wp2_with fail
      go_ret
      exact ⟨rfl, hbwH.out⟩
theorem LentCs.form {B : Nat} {v : Value} {ds : List Cd} {w : World} (h : LentCs B v ds w) : ∃ g cap es, v = .slice (some ⟨g, 0, none⟩) ds.length cap ∧ ds.length + 1 ≤ cap ∧ es.map cnD = ds.map cnD ∧ (∀ e ∈ es, LentD B (valD e) e.2 w) ∧ CtsV w (.slice (some ⟨g, 0, none⟩) ds.length cap) es ∧ OwnC g cap ((es ++ [markC]).map (·.1)) w ∧ w.cell? ⟨g, ds.length * 2, none⟩ = some (.slice none 0 0) ∧ w.cell? ⟨g, ds.length * 2 + 1, none⟩ = some (.int .i64 91) := by
  obtain ⟨g, cap, es, rfl, hB, h1, h2, h3⟩ := h
  have hc : CtsV w (.slice (some ⟨g, 0, none⟩) ds.length cap) es := by
    obtain ⟨es', h1', h'⟩ := LentCs.cts ⟨g, cap, es, rfl, hB, h1, h2, h3⟩
    refine ⟨?_, fun d hd => (h2 d hd).rowV⟩
    have h4 := SlV.front (m := es.length) (OwnL.slV h3) (by simp)
    rw [cn_len h1] at h4
    rw [cn_len h1]
    have e : (((es ++ [markC]).map (·.1)).map cellsV).flatten.take (ds.length * 2) = cellsC es := by
      rw [List.map_append, List.map_append, List.flatten_append, List.map_map, ← cn_len h1]
      exact List.take_left' (cellsC_len es)
    rw [e] at h4
    exact h4
  obtain ⟨m0, m1⟩ := OwnC.two h3 (i := ds.length) (y := markC) (by rw [← cn_len h1]; simp)
  exact ⟨g, cap, es, rfl, by have := h3.len; simp at this; rw [← cn_len h1]; exact this, h1, h2, hc, h3, m0, m1⟩
theorem make_roomC (n : Nat) (hn : n ≤ 1099511627776) (W : World) : ∃ c, (Instr.makeSlice 41 (.int .i64 0) (.int .i64 ((n : Int) + 1))).run Tryd.prog W = .ok (.slice (some ⟨W.heap.size, 0, none⟩) 0 (n + 1)) (W.alloc (.cells c 45)) ∧
    OwnCs W.heap.size (.slice (some ⟨W.heap.size, 0, none⟩) 0 (n + 1)) [] (W.alloc (.cells c 45)) := by
  obtain ⟨i, hi, hz, hs, hb⟩ := info_ct
  have hr := run_make (P := Tryd.prog) W 41 45 i _ Tryd.underlying41 hi hz .i64 .i64 0 ((n : Int) + 1) (by omega) (by omega) (by
    have h1 : (i.bytes : Int) * ((n : Int) + 1) ≤ 64 * ((n : Int) + 1) := Int.mul_le_mul_of_nonneg_right (by omega) (by omega)
    omega) (by omega)
  rw [show ((n : Int) + 1).toNat = n + 1 by omega, Int.toNat_zero] at hr
  refine ⟨_, hr, rfl, .inr ⟨W.heap.size, n + 1, _, rfl, Nat.le_refl _, heap_alloc_new W _, Nat.zero_le _, by unfold maxLen; omega, ?_, by simp [cellsC]⟩⟩
  rw [size_madeCells, hs]
def RelLC (ds : List Cd) (w0 : World) (s3 s4 : Value) (wr : World) : Prop :=
  ∃ (p : Nat) (es : List Cd), p ≤ ds.length ∧ s4 = .int .i64 (p : Int) ∧ es.map cnD = (ds.take p).map cnD ∧ (∀ e ∈ es, LentD w0.heap.size (valD e) e.2 wr) ∧ OwnCs w0.heap.size s3 es wr ∧ Below w0.heap.size w0 wr
set_option maxHeartbeats 4000000 in
set_option maxRecDepth 1000000 in
theorem lentCounteds_any (v : Value) (ds : List Cd) (w : World) (h : CtsV w v ds) (hn : ds.length ≤ 1099511627775) (hl : ∀ d ∈ ds, d.2.length ≤ 1099511627776) :
    Calls Tryd.prog 22 #[v] w fun e w' => ∃ u, e = .returned u ∧ LentCs w.heap.size u ds w' ∧ Below w.heap.size w w' := by
  obtain ⟨A, c, rfl, hla⟩ := h.form
  obtain ⟨cz, hmk, hown⟩ := make_roomC ds.length (by omega) w
  obtain ⟨W1, hW1⟩ : ∃ W1, w.alloc (.cells cz 45) = W1 := ⟨_, rfl⟩
  rw [hW1] at hmk hown
  have hb1 := Lib.hid (show Below w.heap.size w W1 from hW1 ▸ (Below.refl _ w).alloc (Nat.le_refl _) _)
  have hH := Lib.hid h; have hownH := Lib.hid hown; have hlH := Lib.hid hl
  clear h hown hW1 hl
  go_enter Tryd.func22, Tryd.ntmps22
  go_wp2_with fail
  go_loopw [3, 4] (fun s3 s4 wr => RelLC ds w s3 s4 wr) (fun _ s4 _ => ds.length - (Go.RowKit.intOf s4).toNat)
  case atStart => exact ⟨0, [], by omega, rfl, rfl, by simp, hownH.out, hb1.out⟩
  case round =>
    unfold RelLC at hrel
    obtain ⟨p, es, hp, rfl, heq, hle, ho, hb⟩ := hrel
    obtain ⟨A3, c3, rfl⟩ := OwnCs.len ho
    have heqH := Lib.hid heq; have hleH := Lib.hid hle; have hoH := Lib.hid ho; have hbH := Lib.hid hb
    have helH := Lib.hid (show es.length = p by have := cn_len heq; rw [List.length_take] at this; omega)
    have hB := hb.size
    clear heq hle ho hb hmk
    by_cases hlt : p < ds.length
    · obtain ⟨d, hd⟩ : ∃ d, ds[p]? = some d := ⟨_, List.getElem?_eq_getElem hlt⟩
      obtain ⟨ad, rfl, hba, a0_, a1_⟩ := (hH.out.below hbH.out).at hd
      obtain ⟨_, e_, hbo, -, -⟩ := hH.out.at hd
      cases e_
      have hrd := Lib.hid ((hH.out.2 d (List.mem_of_getElem? hd)).below hbH.out)
      have hld := Lib.hid (hlH.out d (List.mem_of_getElem? hd))
      have htk := Lib.hid (show (ds.take (p + 1)).map cnD = (ds.take p).map cnD ++ [cnD d] by
        obtain ⟨h1, rfl⟩ := List.getElem?_eq_some_iff.1 hd
        rw [List.take_succ_eq_append_getElem h1, List.map_append]
        rfl)
      have hltH := Lib.hid hlt
      have hel : es.length ≤ 1099511627776 := by have := helH.out; omega
      clear hd hlt
      obtain ⟨⟨dA, dk, dc, n⟩, l⟩ := d
      simp only [valD] at a0_ a1_
      go_wp2_with fail
      refine wp_region_noPanic ?_
      refine wp_region_held_drew (S := (fun w' => w'.cell? (ad.add (p * 2)) = some (.slice dA dk dc) ∧ w'.cell? ⟨(ad.add (p * 2)).block, (ad.add (p * 2)).off + 1, none⟩ = some (.int .i64 n))) (by kernel_rfl) (⟨a0_, a1_⟩) (fun hHeld => ?_)
      refine' wpAnyH_take (i := 0) (v := ?v0x51) ?hi0x51 ?hs0x51 ?hf0x51 ?hr0x51 ?hQ0x51 ?hy0x51 ?hS0x51 ?rest0x51
      case hi0x51 => (simp only [List.getElem?_toArray, List.getElem?_cons_succ, List.getElem?_cons_zero]; try rfl)
      case hs0x51 => kernel_rfl
      case hf0x51 => kernel_rfl
      case hr0x51 => kernel_rfl
      case hQ0x51 => exact fun _ _ _ h => h
      case hy0x51 => first | exact Or.inl ⟨by rfl, by (intro w hSw; (try dsimp only at hSw); go_simp; try rfl)⟩ | exact Or.inr ⟨by rfl, rfl⟩
      case hS0x51 => assumption
      (try simp only [Act.put, List.setIfInBounds_toArray, List.set_cons_zero, List.set_cons_succ])
      refine' wpAnyH_take (i := 1) (v := ?v1x52) ?hi1x52 ?hs1x52 ?hf1x52 ?hr1x52 ?hQ1x52 ?hy1x52 ?hS1x52 ?rest1x52
      case hi1x52 => (simp only [List.getElem?_toArray, List.getElem?_cons_succ, List.getElem?_cons_zero]; try rfl)
      case hs1x52 => kernel_rfl
      case hf1x52 => kernel_rfl
      case hr1x52 => kernel_rfl
      case hQ1x52 => exact fun _ _ _ h => h
      case hy1x52 => first | exact Or.inl ⟨by rfl, by (intro w hSw; (try dsimp only at hSw); go_simp; try rfl)⟩ | exact Or.inr ⟨by rfl, rfl⟩
      case hS1x52 => assumption
      (try simp only [Act.put, List.setIfInBounds_toArray, List.set_cons_zero, List.set_cons_succ])
      refine' wpAnyH_take (i := 2) (v := ?v2x53) ?hi2x53 ?hs2x53 ?hf2x53 ?hr2x53 ?hQ2x53 ?hy2x53 ?hS2x53 ?rest2x53
      case hi2x53 => (simp only [List.getElem?_toArray, List.getElem?_cons_succ, List.getElem?_cons_zero]; try rfl)
      case hs2x53 => kernel_rfl
      case hf2x53 => kernel_rfl
      case hr2x53 => kernel_rfl
      case hQ2x53 => exact fun _ _ _ h => h
      case hy2x53 => first | exact Or.inl ⟨by rfl, by (intro w hSw; (try dsimp only at hSw); go_simp; try rfl)⟩ | exact Or.inr ⟨by rfl, rfl⟩
      case hS2x53 => assumption
      (try simp only [Act.put, List.setIfInBounds_toArray, List.set_cons_zero, List.set_cons_succ])
      refine' wpAnyH_take (i := 3) (v := ?v3x54) ?hi3x54 ?hs3x54 ?hf3x54 ?hr3x54 ?hQ3x54 ?hy3x54 ?hS3x54 ?rest3x54
      case hi3x54 => (simp only [List.getElem?_toArray, List.getElem?_cons_succ, List.getElem?_cons_zero]; try rfl)
      case hs3x54 => kernel_rfl
      case hf3x54 => kernel_rfl
      case hr3x54 => kernel_rfl
      case hQ3x54 => exact fun _ _ _ h => h
      case hy3x54 => first | exact Or.inl ⟨by rfl, by (intro w hSw; (try dsimp only at hSw); go_simp; try rfl)⟩ | exact Or.inr ⟨by rfl, rfl⟩
      case hS3x54 => assumption
      (try simp only [Act.put, List.setIfInBounds_toArray, List.set_cons_zero, List.set_cons_succ])
      refine' wpAnyH_take (i := 4) (v := ?v4x55) ?hi4x55 ?hs4x55 ?hf4x55 ?hr4x55 ?hQ4x55 ?hy4x55 ?hS4x55 ?rest4x55
      case hi4x55 => (simp only [List.getElem?_toArray, List.getElem?_cons_succ, List.getElem?_cons_zero]; try rfl)
      case hs4x55 => kernel_rfl
      case hf4x55 => kernel_rfl
      case hr4x55 => kernel_rfl
      case hQ4x55 => exact fun _ _ _ h => h
      case hy4x55 => first | exact Or.inl ⟨by rfl, by (intro w hSw; (try dsimp only at hSw); go_simp; try rfl)⟩ | exact Or.inr ⟨by rfl, rfl⟩
      case hS4x55 => assumption
      (try simp only [Act.put, List.setIfInBounds_toArray, List.set_cons_zero, List.set_cons_succ])
      refine' wpAnyH_take (i := 5) (v := ?v5x56) ?hi5x56 ?hs5x56 ?hf5x56 ?hr5x56 ?hQ5x56 ?hy5x56 ?hS5x56 ?rest5x56
      case hi5x56 => (simp only [List.getElem?_toArray, List.getElem?_cons_succ, List.getElem?_cons_zero]; try rfl)
      case hs5x56 => kernel_rfl
      case hf5x56 => kernel_rfl
      case hr5x56 => kernel_rfl
      case hQ5x56 => exact fun _ _ _ h => h
      case hy5x56 => first | exact Or.inl ⟨by rfl, by (intro w hSw; (try dsimp only at hSw); go_simp; try rfl)⟩ | exact Or.inr ⟨by rfl, rfl⟩
      case hS5x56 => assumption
      (try simp only [Act.put, List.setIfInBounds_toArray, List.set_cons_zero, List.set_cons_succ])
      refine' wpAnyH_take (i := 7) (v := ?v7x57) ?hi7x57 ?hs7x57 ?hf7x57 ?hr7x57 ?hQ7x57 ?hy7x57 ?hS7x57 ?rest7x57
      case hi7x57 => (simp only [List.getElem?_toArray, List.getElem?_cons_succ, List.getElem?_cons_zero]; try rfl)
      case hs7x57 => kernel_rfl
      case hf7x57 => kernel_rfl
      case hr7x57 => kernel_rfl
      case hQ7x57 => exact fun _ _ _ h => h
      case hy7x57 => first | exact Or.inl ⟨by rfl, by (intro w hSw; (try dsimp only at hSw); go_simp; try rfl)⟩ | exact Or.inr ⟨by rfl, rfl⟩
      case hS7x57 => assumption
      (try simp only [Act.put, List.setIfInBounds_toArray, List.set_cons_zero, List.set_cons_succ])
      refine' wpAnyH_take (i := 8) (v := ?v8x58) ?hi8x58 ?hs8x58 ?hf8x58 ?hr8x58 ?hQ8x58 ?hy8x58 ?hS8x58 ?rest8x58
      case hi8x58 => (simp only [List.getElem?_toArray, List.getElem?_cons_succ, List.getElem?_cons_zero]; try rfl)
      case hs8x58 => kernel_rfl
      case hf8x58 => kernel_rfl
      case hr8x58 => kernel_rfl
      case hQ8x58 => exact fun _ _ _ h => h
      case hy8x58 => first | exact Or.inl ⟨by rfl, by (intro w hSw; (try dsimp only at hSw); go_simp; try rfl)⟩ | exact Or.inr ⟨by rfl, rfl⟩
      case hS8x58 => assumption
      (try simp only [Act.put, List.setIfInBounds_toArray, List.set_cons_zero, List.set_cons_succ])
      refine' wpAnyH_take (i := 9) (v := ?v9x59) ?hi9x59 ?hs9x59 ?hf9x59 ?hr9x59 ?hQ9x59 ?hy9x59 ?hS9x59 ?rest9x59
      case hi9x59 => (simp only [List.getElem?_toArray, List.getElem?_cons_succ, List.getElem?_cons_zero]; try rfl)
      case hs9x59 => kernel_rfl
      case hf9x59 => kernel_rfl
      case hr9x59 => kernel_rfl
      case hQ9x59 => exact fun _ _ _ h => h
      case hy9x59 => first | exact Or.inl ⟨by rfl, by (intro w hSw; (try dsimp only at hSw); go_simp; try rfl)⟩ | exact Or.inr ⟨by rfl, rfl⟩
      case hS9x59 => assumption
      (try simp only [Act.put, List.setIfInBounds_toArray, List.set_cons_zero, List.set_cons_succ])
      refine' wpAnyH_take (i := 10) (v := ?v10x60) ?hi10x60 ?hs10x60 ?hf10x60 ?hr10x60 ?hQ10x60 ?hy10x60 ?hS10x60 ?rest10x60
      case hi10x60 => (simp only [List.getElem?_toArray, List.getElem?_cons_succ, List.getElem?_cons_zero]; try rfl)
      case hs10x60 => kernel_rfl
      case hf10x60 => kernel_rfl
      case hr10x60 => kernel_rfl
      case hQ10x60 => exact fun _ _ _ h => h
      case hy10x60 => first | exact Or.inl ⟨by rfl, by (intro w hSw; (try dsimp only at hSw); go_simp; try rfl)⟩ | exact Or.inr ⟨by rfl, rfl⟩
      case hS10x60 => assumption
      (try simp only [Act.put, List.setIfInBounds_toArray, List.set_cons_zero, List.set_cons_succ])
      refine' wpAnyH_take (i := 11) (v := ?v11x61) ?hi11x61 ?hs11x61 ?hf11x61 ?hr11x61 ?hQ11x61 ?hy11x61 ?hS11x61 ?rest11x61
      case hi11x61 => (simp only [List.getElem?_toArray, List.getElem?_cons_succ, List.getElem?_cons_zero]; try rfl)
      case hs11x61 => kernel_rfl
      case hf11x61 => kernel_rfl
      case hr11x61 => kernel_rfl
      case hQ11x61 => exact fun _ _ _ h => h
      case hy11x61 => first | exact Or.inl ⟨by rfl, by (intro w hSw; (try dsimp only at hSw); go_simp; try rfl)⟩ | exact Or.inr ⟨by rfl, rfl⟩
      case hS11x61 => assumption
      (try simp only [Act.put, List.setIfInBounds_toArray, List.set_cons_zero, List.set_cons_succ])
      refine wpAnyH_ready (rs := [6]) (by kernel_rfl) (by simp) ?_
      refine' (AllReadyH.cons (i := 6) ?ho6x62 (fun K hK => ?st6x62) AllReadyH.nil)
      case ho6x62 => (simp only [List.getElem?_toArray, List.getElem?_cons_succ, List.getElem?_cons_zero]; try rfl)
      case st6x62 =>
        go_simp
        refine (lentRow_any _ l wr.drew hrd.out hld.out).mono ?_
        rintro e w2 ⟨u, rfl, hu, hbq⟩
        obtain ⟨gu, cu, rfl, hgu, hou⟩ := id hu
        have huH := Lib.hid hu
        have hb2 := Lib.hid (show Below w.heap.size wr w2 from ((Below.refl _ wr).drew.trans hbq).mono hB)
        have hr2 := Lib.hid (show Below wr.heap.size wr w2 from (Below.refl _ wr).drew.trans hbq)
        have ho2 := Lib.hid (show OwnKC w.heap.size (.slice A3 es.length c3) es w2 w2 from OwnK.start (ownsRow_below' hoH.out hr2.out) (Nat.le_trans hB hr2.out.size))
        clear hu hgu hou hbq
        refine hK.out _ _ ?_ (fun hHeld => ?_)
        · exact ⟨(hb2.out.cell (p := ad.add (p * 2)) hbo).trans a0_, (hb2.out.cell (p := ⟨(ad.add (p * 2)).block, (ad.add (p * 2)).off + 1, none⟩) hbo).trans a1_⟩
        clear hK K
        (try simp only [Act.put, List.setIfInBounds_toArray, List.set_cons_zero, List.set_cons_succ])
        refine' wpAnyH_take (i := 12) (v := ?v12x63) ?hi12x63 ?hs12x63 ?hf12x63 ?hr12x63 ?hQ12x63 ?hy12x63 ?hS12x63 ?rest12x63
        case hi12x63 => (simp only [List.getElem?_toArray, List.getElem?_cons_succ, List.getElem?_cons_zero]; try rfl)
        case hs12x63 => kernel_rfl
        case hf12x63 => kernel_rfl
        case hr12x63 => kernel_rfl
        case hQ12x63 => exact fun _ _ _ h => h
        case hy12x63 => first | exact Or.inl ⟨by rfl, by (intro w hSw; (try dsimp only at hSw); go_simp; try rfl)⟩ | exact Or.inr ⟨by rfl, rfl⟩
        case hS12x63 => assumption
        (try simp only [Act.put, List.setIfInBounds_toArray, List.set_cons_zero, List.set_cons_succ])
        refine wpAnyH_ready (rs := [13]) (by kernel_rfl) (by simp) ?_
        refine' (AllReadyH.cons (i := 13) ?ho13x64 (fun K hK => ?st13x64) AllReadyH.nil)
        case ho13x64 => (simp only [List.getElem?_toArray, List.getElem?_cons_succ, List.getElem?_cons_zero]; try rfl)
        case st13x64 =>
          go_simp
          refine hK.out _ _ ?_ (fun hHeld => ?_)
          · exact ⟨((hb2.out.alloc (Nat.le_trans hB hr2.out.size) _).cell (p := ad.add (p * 2)) hbo).trans a0_, ((hb2.out.alloc (Nat.le_trans hB hr2.out.size) _).cell (p := ⟨(ad.add (p * 2)).block, (ad.add (p * 2)).off + 1, none⟩) hbo).trans a1_⟩
          clear hK K
          (try simp only [Act.put, List.setIfInBounds_toArray, List.set_cons_zero, List.set_cons_succ])
          refine wpAnyH_ready (rs := [14]) (by kernel_rfl) (by simp) ?_
          refine' (AllReadyH.cons (i := 14) ?ho14x65 (fun K hK => ?st14x65) AllReadyH.nil)
          case ho14x65 => (simp only [List.getElem?_toArray, List.getElem?_cons_succ, List.getElem?_cons_zero]; try rfl)
          case st14x65 =>
            refine wp_countK _ _ (by rfl) w.heap.size _ es w2 w2 (⟨some ⟨gu, 0, none⟩, l.length, cu, n⟩, l) _ (by rfl) ho2.out (by rfl) (by rfl) hel ?_
            intro v3 w3 hq
            have ho3 := Lib.hid hq
            have hb3 := Lib.hid (hb2.out.trans hq.2.1)
            clear hq
            refine hK.out _ _ ?_ (fun hHeld => ?_)
            · exact ⟨(hb3.out.cell (p := ad.add (p * 2)) hbo).trans a0_, (hb3.out.cell (p := ⟨(ad.add (p * 2)).block, (ad.add (p * 2)).off + 1, none⟩) hbo).trans a1_⟩
            clear hK K
            (try simp only [Act.put, List.setIfInBounds_toArray, List.set_cons_zero, List.set_cons_succ])
            refine' wpAnyH_take (i := 15) (v := ?v15x66) ?hi15x66 ?hs15x66 ?hf15x66 ?hr15x66 ?hQ15x66 ?hy15x66 ?hS15x66 ?rest15x66
            case hi15x66 => (simp only [List.getElem?_toArray, List.getElem?_cons_succ, List.getElem?_cons_zero]; try rfl)
            case hs15x66 => kernel_rfl
            case hf15x66 => kernel_rfl
            case hr15x66 => kernel_rfl
            case hQ15x66 => exact fun _ _ _ h => h
            case hy15x66 => first | exact Or.inl ⟨by rfl, by (intro w hSw; (try dsimp only at hSw); go_simp; try rfl)⟩ | exact Or.inr ⟨by rfl, rfl⟩
            case hS15x66 => assumption
            (try simp only [Act.put, List.setIfInBounds_toArray, List.set_cons_zero, List.set_cons_succ])
            refine wpAnyH_done (by kernel_rfl) ?_ _
            refine NoPanic.normal ?_
            go_wp2_with fail
            go_roundw
            case rel =>
              refine ⟨p + 1, _, hltH.out, by go_num, by rw [htk.out, List.map_append, heqH.out]; rfl, ?_, ho3.out.1, hbH.out.trans hb3.out⟩
              intro e he
              rcases List.mem_append.1 he with he | he
              · exact ((hleH.out e he).below hr2.out).others ho3.out.2.2.2
              · simp at he
                subst he
                exact LentD.low (huH.out.others ho3.out.2.2.2) hB
            case measure => have := hltH.out; simp [Go.RowKit.intOf]; omega
    · obtain rfl : p = ds.length := by omega
      rw [List.take_length] at heqH
      have hoK := Lib.hid (show OwnKC w.heap.size (.slice A3 es.length c3) es wr wr from OwnK.start hoH.out hB)
      have hel : es.length ≤ 1099511627776 := by have := helH.out; omega
      go_wp2_with (at_builtin; refine wpList_countK rfl _ _ rfl w.heap.size _ es wr wr markC _ rfl hoK.out rfl rfl hel ?_; intro v3 w3 hq; have ho3 := Lib.hid hq; clear hq; obtain ⟨A4, c4, N, hNl, rfl⟩ := OwnCs.lenN ho3.out.1 (n := ds.length + 1) (by have := helH.out; simp; omega); have hNlH := Lib.hid hNl; clear hNl; have hNc : N ≤ c4 := OwnCs.cap ho3.out.1; have hNd : ds.length ≤ c4 := by have := hNlH.out; omega)
      obtain ⟨g, rfl, _, hgB, hoC⟩ := OwnCs.row ho3.out.1 (by simp)
      go_ret
      exact ⟨_, rfl, ⟨g, c4, es, rfl, hgB, heqH.out, fun e he => (hleH.out e he).others ho3.out.2.2.2, hoC⟩, hbH.out.trans ho3.out.2.1⟩
theorem many_any (v : Value) (ds : List Cd) (w : World) (h : CtsV w v ds) (hn : ds.length ≤ 1099511627775) :
    Calls Tryd.prog 20 #[v] w fun e w' => ∃ b, e = .returned (.bool b) ∧ Below w.heap.size w w' := by
  obtain ⟨A, c, rfl, hla⟩ := h.form
  have hH := Lib.hid h
  clear h
  go_enter Tryd.func20, Tryd.ntmps20
  go_wp2_with fail
  go_loopw [3, 4] (fun s3 s4 wr => ∃ (p : Nat) (z : Int), p ≤ ds.length ∧ s4 = .int .i64 (p : Int) ∧ s3 = .int .i64 z ∧ Below w.heap.size w wr) (fun _ s4 _ => ds.length - (Go.RowKit.intOf s4).toNat)
  case atStart => exact ⟨0, _, by omega, rfl, rfl, Below.refl _ _⟩
  case round =>
    obtain ⟨p, z, hp, rfl, rfl, hb⟩ := hrel
    have hbH := Lib.hid hb
    clear hb
    by_cases hlt : p < ds.length
    · obtain ⟨d, hd⟩ : ∃ d, ds[p]? = some d := ⟨_, List.getElem?_eq_getElem hlt⟩
      obtain ⟨ad, rfl, hba, a0_, a1_⟩ := (hH.out.below hbH.out).at hd
      have hltH := Lib.hid hlt
      clear hd
      obtain ⟨⟨dA, dk, dc, n⟩, l⟩ := d
      simp only [valD] at a0_ a1_
      by_cases hz : z ≤ 400
      · go_wp2_with fail
        go_roundw
        case rel => exact ⟨p + 1, _, hltH.out, by go_num, rfl, hbH.out⟩
        case measure => have := hltH.out; simp [Go.RowKit.intOf]; omega
      · go_wp2_with fail
        go_ret
        first | exact ⟨_, rfl, hbH.out⟩ | exact ⟨true, rfl, hbH.out⟩ | exact ⟨decide (400 < z), rfl, hbH.out⟩ | exact ⟨.inr rfl, hbH.out⟩ | exact ⟨.inl rfl, hbH.out⟩ | (refine ⟨?_, hbH.out⟩; by_cases hz2 : 400 < z <;> simp [hz2])
    · obtain rfl : p = ds.length := by omega
      go_wp2_with fail
      go_ret
      first | exact ⟨_, rfl, hbH.out⟩ | exact ⟨true, rfl, hbH.out⟩ | exact ⟨decide (400 < z), rfl, hbH.out⟩ | exact ⟨.inr rfl, hbH.out⟩ | exact ⟨.inl rfl, hbH.out⟩ | (refine ⟨?_, hbH.out⟩; by_cases hz2 : 400 < z <;> simp [hz2])
end Go.Proofs.YtfkimemagbkcoaaDoor
