/-
  The law RowHashes, walked at this program: of any two rows and any columns. Conditions: those written.
-/
import Derived.Test.YthmkfodiekmkjaaRwP
import Derived.Test.YthmkfodiekmkjaaRwI
set_option linter.unusedVariables false
set_option linter.unusedSimpArgs false
namespace Go.Proofs.Ythmkfodiekmkjaa
open Go.RowKit Go.Lib Go.Proofs

theorem own_slV {T : TypeId} {k B n : Nat} {v : Value} {xs : List Value} {w : World} (h : w.ownsRow B T k v n xs) : SlV w k v n xs := by
  rcases h.2 with ⟨rfl, h0⟩ | ⟨g, cap, cur, rfl, _, hg, h2, h3, h4, h5⟩
  · exact ⟨h.1, none, 0, by rw [h0], by omega, by omega, fun q => by omega⟩
  · refine ⟨h.1, _, _, rfl, h2, by unfold maxLen at h3; exact h3, fun _ => ⟨_, rfl, (Array.getElem?_eq_some_iff.1 hg).1, fun j u hj => ?_⟩⟩
    rw [← h5, List.getElem?_take] at hj
    split at hj
    · rw [show (⟨g, 0, none⟩ : Addr).add j = ⟨g, j, none⟩ by unfold Addr.add; split <;> simp_all]
      simp only [World.cell?, hg]
      simpa using hj
    · cases hj
def hashF (h : Int) (d : Dat) : Int := hashL h (encD d)
theorem hash_picked {l q : List Dat} {cols : List Int} (h : pickR l cols = some q) : hashR l cols = q.foldl hashF hashS := by
  unfold pickR at h
  split at h
  · rename_i hc
    obtain ⟨_, hall⟩ := hc
    cases h
    unfold hashR
    have : ∀ (cols : List Int) (z : Int), cols.all (hasC l.length) = true → cols.foldl (hashC l) z = (cols.map (getC l)).foldl hashF z := by
      intro cols
      induction cols with
      | nil => intro z _; rfl
      | cons c r ih =>
        intro z hz
        simp only [List.all_cons, Bool.and_eq_true] at hz
        rw [List.foldl_cons, List.map_cons, List.foldl_cons, ih _ hz.2]
        congr 1
        unfold hashC
        rw [if_pos hz.1]
        rfl
    exact this cols _ hall
  · cases h
theorem pick_len {l q : List Dat} {cols : List Int} (h : pickR l cols = some q) : q.length = cols.length ∧ cols.length ≤ 32 := by
  unfold pickR at h
  split at h
  · rename_i hc
    cases h
    exact ⟨List.length_map .., hc.1⟩
  · cases h
theorem pick_mem {l q : List Dat} {cols : List Int} (h : pickR l cols = some q) : ∀ d ∈ q, d ∈ l := by
  intro d hd
  unfold pickR at h
  split at h
  · rename_i hc
    cases h
    obtain ⟨c, hc1, rfl⟩ := List.mem_map.1 hd
    obtain ⟨n, rfl, hn, hln⟩ := hasC_at (List.all_eq_true.1 hc.2 c hc1)
    unfold getC
    rw [hln, getElem!_pos l n hn]
    exact List.getElem_mem hn
  · cases h
def upL (n : Nat) : List Int := (List.range n).map (fun i : Nat => (i : Int))
theorem upL_succ (n : Nat) : upL (n + 1) = upL n ++ [(n : Int)] := by unfold upL; rw [List.range_succ, List.map_append]; rfl
theorem upL_len (n : Nat) : (upL n).length = n := by simp [upL]
theorem pick_all {q : List Dat} (h : q.length ≤ 32) : pickR q (upL q.length) = some q := by
  unfold pickR
  rw [if_pos]
  · congr 1
    apply List.ext_getElem?
    intro i
    unfold upL
    rw [List.map_map, List.getElem?_map]
    by_cases hi : i < q.length
    · rw [List.getElem?_range hi, Option.map_some]
      show some (getC q (i : Int)) = _
      unfold getC
      rw [Int.toNat_natCast, getElem!_pos q i hi, List.getElem?_eq_getElem hi]
    · rw [List.getElem?_eq_none (by simpa using hi), List.getElem?_eq_none (by omega)]
      rfl
  · refine ⟨by rw [upL_len]; exact h, List.all_eq_true.2 fun c hc => ?_⟩
    obtain ⟨i, hi, rfl⟩ := List.mem_map.1 hc
    have := List.mem_range.1 hi
    simp [hasC]
    omega
theorem hash_same : ∀ {p q : List Dat} (z : Int), cmpR p q = 0 → p.foldl hashF z = q.foldl hashF z
  | [], [], _, _ => rfl
  | [], _ :: _, _, h => by simp [cmpR] at h
  | _ :: _, [], _, h => by simp [cmpR] at h
  | a :: p, b :: q, z, h => by
    rw [cmpR] at h
    by_cases h0 : cmpS a b = 0
    · rw [if_pos h0] at h
      rw [List.foldl_cons, List.foldl_cons]
      have : hashF z a = hashF z b := by unfold hashF; rw [encD_same h0]
      rw [this]
      exact hash_same _ h
    · rw [if_neg h0] at h
      exact absurd h h0
theorem info_int : ∃ i, Try.prog.info? 3 = some i ∧ i.zero = some (.int .i64 0) ∧ i.size = 1 ∧ i.bytes = 8 := by
  have h : (Try.prog.info? 3).map (fun i => (i.zero, i.size, i.bytes)) = some (some (.int .i64 0), 1, 8) := by kernel_rfl
  cases hi : Try.prog.info? 3 with
  | none => rw [hi] at h; cases h
  | some i => rw [hi] at h; simp at h; exact ⟨i, rfl, h.1, h.2.1, h.2.2⟩
abbrev OwnI (B : Nat) (v : Value) (l : List Int) (W0 w : World) : Prop := OwnK 3 1 B v l.length (l.map intV) W0 w
theorem OwnI.ints {B : Nat} {v : Value} {l : List Int} {W0 w : World} (h : OwnI B v l W0 w) : IntsV w v l := own_slV h.1
theorem OwnI.form {B : Nat} {v : Value} {l : List Int} {W0 w : World} (h : OwnI B v l W0 w) : ∃ A c, v = .slice A l.length c := by
  rcases h.1.2 with ⟨rfl, h0⟩ | ⟨g, cap, cur, rfl, _⟩
  · exact ⟨none, 0, by rw [h0]⟩
  · exact ⟨_, _, rfl⟩
section
/-- 'v = append(v, n)'. -/
theorem wpList_int {ops : Array Oper} {rest : List Oper} {o : Oper} {a : Act} {Q : Exit → Act → World → Prop} (hgd : o.guard = none) (s x : Operand)
    (ho : o.op = .call { callee := .builtin .append, args := #[s, x], argTypes := #[31, 31] })
    (B : Nat) (v : Value) (l : List Int) (W0 w0 : World) (z : Int) (hb : OwnI B v l W0 w0) (hs : a.eval s = v)
    (hx : a.eval x = .slice (some ⟨w0.heap.size, 0, none⟩) 1 1) (hlen : l.length ≤ 1099511627776)
    (h : ∀ v' w', OwnI B v' (l ++ [z]) W0 w' → wpList Try.prog ops Q rest (a.put o.dst v') w') : wpList Try.prog ops Q (o :: rest) a (w0.alloc (.cells #[.int .i64 z] 3)) := by
  obtain ⟨i, hi, hz, hsz, hby⟩ := info_int
  refine wpList_appendK hgd s x 31 ho B 3 i (.int .i64 0) 1 8 Try.underlying31 hi hz hsz hby rfl (by decide) v l.length (l.map intV) hs W0 w0 1 [.int .i64 z] hb hx rfl (by simp [Value.oneCell']) (by omega) (by omega) ?_
  intro v' w' h'
  refine h v' w' ?_
  unfold OwnI
  rw [List.length_append, List.map_append]
  exact h'
end
/-- What the rounds hold. -/
def RelA (n B : Nat) (w0 : World) (s11 s12 : Value) (wr : World) : Prop := ∃ k : Nat, k ≤ n ∧ s12 = .int .i64 (k : Int) ∧ OwnI B s11 (upL k) w0 wr
set_option maxHeartbeats 8000000 in
set_option maxRecDepth 1000000 in
theorem rowHashes_any (va vb vc : Value) (l m : List Dat) (cols : List Int) (w : World) (ha : RowV w va l) (hb : RowV w vb m) (hc : IntsV w vc cols) (wa : ∀ d ∈ l, Wide d ∧ d.s.size ≤ 9223372036854775807) (wb : ∀ d ∈ m, Wide d ∧ d.s.size ≤ 9223372036854775807) (_ : True)
    (za : szR l ≤ 4194304) (zb : szR m ≤ 4194304) (zc : cols.length ≤ 1048576) :
    Calls Try.prog 5 #[va, vb, vc] w fun e w' => e = .returned (.bool true) ∧ Below w.heap.size w w' := by
  obtain ⟨A, ca, rfl, hla⟩ := ha.form
  obtain ⟨B, cb, rfl, hlb⟩ := hb.form
  obtain ⟨C, cc, rfl, hlc⟩ := hc.form
  have haH := Lib.hid ha; have hbH := Lib.hid hb; have hcH := Lib.hid hc
  have h1 : ∀ {l : List Dat}, (∀ d ∈ l, Wide d ∧ d.s.size ≤ 9223372036854775807) → szR l ≤ 4194304 → ∀ d ∈ l, Wide d ∧ szD d.s ≤ 70368744177664 := fun h1 h2 d hd => ⟨(h1 d hd).1, by have := szR_mem hd; omega⟩
  have h2 : ∀ {l : List Dat}, szR l ≤ 4194304 → ∀ d ∈ l, d.s.size ≤ 281474976710656 := fun h1 d hd => by have := szR_mem hd; unfold szD at this; omega
  have waH := Lib.hid (h1 wa za); have wbH := Lib.hid (h1 wb zb); have saH := Lib.hid (h2 za); have sbH := Lib.hid (h2 zb)
  clear ha hb hc wa wb za zb h1 h2
  obtain ⟨n, hn⟩ : ∃ n : Int, wrap64 (wrap64 ((l.length : Int) + (m.length : Int)) + (cols.length : Int)) = n := ⟨_, rfl⟩
  by_cases hbig : 200 < n
  · go_enter Try.func5, Try.ntmps5
    go_wp2_with fail
    refine (known_any _).mono ?_
    rintro e w1 ⟨rfl, hb1⟩
    go_wp2_with fail
    go_ret
    exact ⟨rfl, hb1⟩
  go_enter Try.func5, Try.ntmps5
  go_wp2_with fail
  refine (pick_any _ _ l cols _ haH.out hcH.out saH.out).mono ?_
  rintro e w1 ⟨v1, k1, rfl, hp1, hb1⟩
  have hp1H := Lib.hid hp1; have hb1H := Lib.hid hb1
  clear hp1 hb1
  go_wp2_with fail
  refine (pick_any _ _ m cols _ (hbH.out.below hb1H.out) (hcH.out.below hb1H.out) sbH.out).mono ?_
  rintro e w2 ⟨v2, k2, rfl, hp2, hb2⟩
  have hb12H := Lib.hid hb2
  have hb2H := Lib.hid (hb1H.out.trans (hb2.mono hb1H.out.size))
  have hp2H := Lib.hid hp2
  clear hp2 hb2
  rcases hp1H.out with ⟨_, rfl, rfl⟩ | ⟨q, g, hq, rfl, rfl, hgq, hoq⟩
  · go_wp2_with fail
    refine (known_any _).mono ?_
    rintro e w3 ⟨rfl, hb3⟩
    have hb3H := Lib.hid (hb2H.out.trans (hb3.mono hb2H.out.size))
    clear hb3
    go_wp2_with fail
    go_ret
    exact ⟨rfl, hb3H.out⟩
  have hqH := Lib.hid hq
  have hoq2 := Lib.hid (hoq.below hb12H.out)
  clear hp1H hq hoq
  go_wp2_with fail
  go_loopw [11, 12] (fun s11 s12 wr => RelA cols.length w.heap.size w2 s11 s12 wr) (fun _ s12 _ => cols.length - (Go.RowKit.intOf s12).toNat)
  case atStart => exact ⟨0, by omega, rfl, OwnK.start (World.ownsRow_nil _ _ _ _) hb2H.out.size⟩
  case round =>
    unfold RelA at hrel
    obtain ⟨k, hk, rfl, hown⟩ := hrel
    obtain ⟨A11, c11, rfl⟩ := hown.form
    have hownH := Lib.hid hown
    clear hown
    by_cases hlt : k < cols.length
    · have hltH := Lib.hid hlt
      go_wp2_with (at_builtin; refine wpList_int rfl _ _ rfl w.heap.size _ (upL k) w2 _ (k : Int) hownH.out rfl rfl (by rw [upL_len]; omega) ?_; intro v' w' hq'; have hown' := Lib.hid hq'; clear hq')
      go_roundw
      case rel => exact ⟨k + 1, hltH.out, by go_num, by rw [upL_succ]; exact hown'.out⟩
      case measure => have := hltH.out; simp [Go.RowKit.intOf]; omega
    · obtain rfl : k = cols.length := by omega
      have hbr := Lib.hid (hb2H.out.trans hownH.out.2.1)
      have hoqr := Lib.hid (OwnL.others hoq2.out hownH.out.2.2.2 (by decide))
      obtain ⟨hql, h32⟩ := pick_len hqH.out
      have hup := Lib.hid (show IntsV _ _ (upL cols.length) from hownH.out.ints)
      have he1 := Lib.hid (hash_picked hqH.out)
      have he2 := Lib.hid (show hashR q (upL cols.length) = q.foldl hashF hashS by rw [← hql]; exact hash_picked (pick_all (by omega)))
      have wq := Lib.hid (show ∀ d ∈ q, Wide d ∧ szD d.s ≤ 70368744177664 from fun d hd => waH.out d (pick_mem hqH.out d hd))
      obtain ⟨z, hz⟩ : ∃ z, q.foldl hashF hashS = z := ⟨_, rfl⟩
      have hzH := Lib.hid hz
      rw [hz] at he1 he2
      clear hz hql h32
      have hrq := Lib.hid hoqr.out.rowV
      go_wp2_with fail
      refine (hash_any _ _ l cols _ (haH.out.below hbr.out) (hcH.out.below hbr.out) waH.out).mono ?_
      rw [he1.out]
      rintro e w3 ⟨rfl, hb3⟩
      have hb3H := Lib.hid hb3
      have hbw3 := Lib.hid (hbr.out.trans (hb3.mono hbr.out.size))
      clear hb3
      go_wp2_with fail
      refine (hash_any _ _ q (upL cols.length) _ (hrq.out.below hb3H.out) (hup.out.below hb3H.out) wq.out).mono ?_
      rw [he2.out]
      rintro e w4 ⟨rfl, hb4⟩
      have hb4H := Lib.hid (hb3H.out.trans (hb4.mono hb3H.out.size))
      have hbw4 := Lib.hid (hbw3.out.trans (hb4.mono hbw3.out.size))
      clear hb4
      go_wp2_with fail
      refine (known_any _).mono ?_
      rintro e w5 ⟨rfl, hb5⟩
      have hb5H := Lib.hid (hb4H.out.trans (hb5.mono hb4H.out.size))
      have hbw5 := Lib.hid (hbw4.out.trans (hb5.mono hbw4.out.size))
      clear hb5
      rcases hp2H.out with ⟨_, rfl, rfl⟩ | ⟨q2, g2, hq2, rfl, rfl, hgq2, hoq2'⟩
      · go_wp2_with fail
        go_ret
        exact ⟨rfl, hbw5.out⟩
      · have hoqr2 := Lib.hid ((OwnL.others hoq2' hownH.out.2.2.2 (by decide)).below hb5H.out)
        have he3 := Lib.hid (hash_picked hq2)
        clear hoq2' hq2
        go_wp2_with fail
        refine (rowCmp_any _ _ q q2 _ (hrq.out.below hb5H.out) hoqr2.out.rowV).mono ?_
        obtain ⟨r, hr⟩ : ∃ r, cmpR q q2 = r := ⟨_, rfl⟩
        rw [hr]
        rintro e w6 ⟨rfl, hb6⟩
        have hb6H := Lib.hid (hb5H.out.trans (hb6.mono hb5H.out.size))
        have hbw6 := Lib.hid (hbw5.out.trans (hb6.mono hbw5.out.size))
        clear hb6
        by_cases h0 : r = 0
        · subst h0
          have he4 := Lib.hid (show hashR m cols = z by rw [he3.out, ← hash_same hashS hr, hzH.out])
          clear hr
          go_wp2_with fail
          refine (hash_any _ _ l cols _ (haH.out.below hbw6.out) (hcH.out.below hbw6.out) waH.out).mono ?_
          rw [he1.out]
          rintro e w7 ⟨rfl, hb7⟩
          have hbw7 := Lib.hid (hbw6.out.trans (hb7.mono hbw6.out.size))
          clear hb7
          go_wp2_with fail
          refine (hash_any _ _ m cols _ (hbH.out.below hbw7.out) (hcH.out.below hbw7.out) wbH.out).mono ?_
          rw [he4.out]
          rintro e w8 ⟨rfl, hb8⟩
          have hbw8 := Lib.hid (hbw7.out.trans (hb8.mono hbw7.out.size))
          clear hb8
          go_wp2_with fail
          go_ret
          exact ⟨rfl, hbw8.out⟩
        · clear hr
          go_wp2_with fail
          go_ret
          exact ⟨rfl, hbw6.out⟩
end Go.Proofs.Ythmkfodiekmkjaa
