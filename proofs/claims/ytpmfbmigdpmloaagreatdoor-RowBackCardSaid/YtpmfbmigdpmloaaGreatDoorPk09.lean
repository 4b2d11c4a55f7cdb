/-
  Texts that belong together: RwEnd, RwRp, RowC, RwC, RwK, RwD. What each one says stands ahead of it.
-/
import Derived.Test.YtpmfbmigdpmloaaGreatDoorPk07
import Derived.Test.YtpmfbmigdpmloaaGreatDoorRwPaPk
import Derived.Test.YtpmfbmigdpmloaaGreatDoorRefParsePk
import Derived.Test.YtpmfbmigdpmloaaGreatDoorPk02
import Derived.Deep.RegionHeld3
import Derived.Test.YtpmfbmigdpmloaaGreatDoorPk03
import Derived.Test.YtpmfbmigdpmloaaGreatDoorPk01
section
/-
  Where the document ends a datum within the text of a row, at this program: end. Condition: the text has at most 2^40 bytes.
-/
set_option linter.unusedVariables false
set_option linter.unusedSimpArgs false
namespace Go.Proofs.YtpmfbmigdpmloaaGreatDoor
open Go.RowKit Go.Lib

/-- Where a datum ends that begins at a place; -1: nowhere. -/
def endV (L : List UInt8) (p : Nat) : Int := match endF false false (L.drop p) with
  | none => -1
  | some n => (p : Int) + n
def RelEd (L : List UInt8) (p0 : Nat) (w : World) (s1 s5 : Value) (wr : World) : Prop :=
  ∃ (p : Nat) (q : Bool), (p ≤ L.length ∨ p = L.length + 1) ∧ p0 ≤ p ∧ s5 = .bool q ∧ s1 = .int .i64 (p : Int) ∧ endF false false (L.drop p0) = (endF q false (L.drop p)).map (· + (p - p0)) ∧ wr = w
theorem end_on {L : List UInt8} {p0 p : Nat} {q q' : Bool} {b : UInt8} {M : List UInt8} (h : endF false false (L.drop p0) = (endF q false (L.drop p)).map (· + (p - p0))) (h0 : p0 ≤ p) (hd : L.drop p = b :: M) (hM : L.drop (p + 1) = M)
    (hs : ¬ (b = 92 ∧ q = true)) (hq : (if b = 39 then !q else q) = q') (hn : ¬ (q' = false ∧ (b = 44 ∨ b = 41))) : endF false false (L.drop p0) = (endF q' false (L.drop (p + 1))).map (· + (p + 1 - p0)) := by
  subst hq
  rw [h, hd, endF, if_neg hs, if_neg hn, hM]
  cases endF (if b = 39 then !q else q) false M
  · rfl
  · simp; omega
theorem end_skip {L : List UInt8} {p0 p : Nat} {M : List UInt8} (h : endF false false (L.drop p0) = (endF true false (L.drop p)).map (· + (p - p0))) (h0 : p0 ≤ p) (hd : L.drop p = 92 :: M) (hM : L.drop (p + 1) = M) :
    endF false false (L.drop p0) = (endF true false (L.drop (p + 1 + 1))).map (· + (p + 1 + 1 - p0)) := by
  rw [h, hd, endF, if_pos ⟨rfl, rfl⟩]
  cases M with
  | nil =>
    rw [List.drop_eq_nil_iff.2 (by have := List.drop_eq_nil_iff.1 hM; omega)]
    rfl
  | cons c K =>
    have : L.drop (p + 1 + 1) = K := by rw [← List.drop_drop, hM]; rfl
    rw [this, endF]
    cases endF true false K
    · rfl
    · simp; omega
theorem end_found {L : List UInt8} {p0 p : Nat} {q : Bool} {b : UInt8} {M : List UInt8} (h : endF false false (L.drop p0) = (endF q false (L.drop p)).map (· + (p - p0))) (h0 : p0 ≤ p) (hd : L.drop p = b :: M)
    (hs : ¬ (b = 92 ∧ q = true)) (hn : (if b = 39 then !q else q) = false ∧ (b = 44 ∨ b = 41)) : endV L p0 = (p : Int) := by
  unfold endV
  rw [h, hd, endF, if_neg hs, if_pos hn]
  simp
  omega
theorem end_none {L : List UInt8} {p0 p : Nat} {q : Bool} (h : endF false false (L.drop p0) = (endF q false (L.drop p)).map (· + (p - p0))) (hp : L.length ≤ p) : endV L p0 = -1 := by
  unfold endV
  rw [h, List.drop_eq_nil_iff.2 hp]
  cases q <;> rfl
set_option maxHeartbeats 8000000 in
set_option maxRecDepth 100000 in
theorem end_any (s : ByteArray) (p0 : Nat) (w : World) (hp0 : p0 ≤ s.size) (hs : s.size ≤ 1099511627776) :
    Calls Tryz.prog 44 #[.string s, .int .i64 (p0 : Int)] w fun e w' => e = .returned (.int .i64 (endV s.data.toList p0)) ∧ Below w.heap.size w w' := by
  obtain ⟨L, hL⟩ : ∃ L, s.data.toList = L := ⟨_, rfl⟩
  have hLsH := Lib.hid (show s.size = L.length by rw [← hL]; exact size_eq s)
  rw [hL]
  obtain ⟨v, hv⟩ : ∃ v, endV L p0 = v := ⟨_, rfl⟩
  rw [hv]
  have hLH := Lib.hid hL; have hvH := Lib.hid hv
  clear hL hv
  go_enter Tryz.func44, Tryz.ntmps44
  go_wp2_with fail
  go_loopw [1, 5] (fun s1 s5 wr => RelEd L p0 w s1 s5 wr) (fun s1 _ _ => L.length + 1 - (Go.RowKit.intOf s1).toNat)
  case atStart => exact ⟨p0, false, .inl (by rw [← hLsH.out]; exact hp0), Nat.le_refl _, rfl, rfl, by rw [Nat.sub_self, map_zero], rfl⟩
  case round =>
    unfold RelEd at hrel
    obtain ⟨p, q, hp, hpp, rfl, rfl, hen, rfl⟩ := hrel
    have henH := Lib.hid hen; have hppH := Lib.hid hpp
    have hps : p ≤ s.size + 1 := by have := hLsH.out; omega
    clear hen hpp hp
    by_cases hlts : p < s.size
    · have hlt : p < L.length := by rw [← hLsH.out]; exact hlts
      have hx0 := fun w' => idx_run s p (p : Int) rfl hlts w'
      obtain ⟨b, hb⟩ : ∃ b, L[p] = b := ⟨_, rfl⟩
      have hdr := Lib.hid (show L.drop p = b :: L.drop (p + 1) by rw [← hb]; exact List.drop_eq_getElem_cons hlt)
      obtain ⟨c, hc⟩ : ∃ c, bt s p = c := ⟨_, rfl⟩
      have hcb : c = b.toNat := by rw [← hc, ← hb, bt_at s p hlts]; simp only [hLH.out]
      rw [hc] at hx0
      have hltH := Lib.hid hlt; have hcbH := Lib.hid hcb
      clear hc hb hlt hcb
      have hcl : c < 256 := by rw [hcbH.out]; exact b.toNat_lt
      have hbc : ∀ x : UInt8, b = x ↔ c = x.toNat := fun x => by
        rw [hcbH.out]
        exact ⟨fun h => by rw [h], fun h => UInt8.toNat_inj.1 h⟩
      have hbcH := Lib.hid hbc
      clear hbc
      by_cases h92 : c = 92
      · have n92 : ((c : Int) == 92) = true := by subst h92; rfl
        have b92 := (hbcH.out 92).2 h92
        have n39 : ((c : Int) == 39) = false := by subst h92; rfl
        have n44 : ((c : Int) == 44) = false := by subst h92; rfl
        have n41 : ((c : Int) == 41) = false := by subst h92; rfl
        subst b92
        clear h92
        cases q with
        | true =>
          have hnx := Lib.hid (end_skip henH.out hppH.out hdr.out rfl)
          go_wp2_with fail
          go_roundw
          case rel => exact ⟨p + 1 + 1, true, by have := hltH.out; omega, by have := hppH.out; omega, rfl, by go_num, hnx.out, rfl⟩
          case measure => have := hltH.out; simp [Go.RowKit.intOf]; omega
        | false =>
          have hnx := Lib.hid (end_on (q' := false) henH.out hppH.out hdr.out rfl (fun h => absurd h.2 (by decide)) rfl (fun h => h.2.elim (by decide) (by decide)))
          go_wp2_with fail
          go_roundw
          case rel => exact ⟨p + 1, false, by have := hltH.out; omega, by have := hppH.out; omega, rfl, by go_num, hnx.out, rfl⟩
          case measure => have := hltH.out; simp [Go.RowKit.intOf]; omega
      · have n92 : ((c : Int) == 92) = false := by rw [beq_eq_false_iff_ne]; omega
        have m92 := Lib.hid (show ¬ b = 92 from fun h => h92 ((hbcH.out 92).1 h))
        clear h92
        by_cases h39 : c = 39
        · have n39 : ((c : Int) == 39) = true := by subst h39; rfl
          have b39 := (hbcH.out 39).2 h39
          have n44 : ((c : Int) == 44) = false := by subst h39; rfl
          have n41 : ((c : Int) == 41) = false := by subst h39; rfl
          subst b39
          clear h39
          cases q with
          | true =>
            have hnx := Lib.hid (end_on (q' := false) henH.out hppH.out hdr.out rfl (fun h => m92.out h.1) rfl (fun h => h.2.elim (by decide) (by decide)))
            go_wp2_with fail
            go_roundw
            case rel => exact ⟨p + 1, false, by have := hltH.out; omega, by have := hppH.out; omega, rfl, by go_num, hnx.out, rfl⟩
            case measure => have := hltH.out; simp [Go.RowKit.intOf]; omega
          | false =>
            have hnx := Lib.hid (end_on (q' := true) henH.out hppH.out hdr.out rfl (fun h => m92.out h.1) rfl (fun h => absurd h.1 (by decide)))
            go_wp2_with fail
            go_roundw
            case rel => exact ⟨p + 1, true, by have := hltH.out; omega, by have := hppH.out; omega, rfl, by go_num, hnx.out, rfl⟩
            case measure => have := hltH.out; simp [Go.RowKit.intOf]; omega
        · have n39 : ((c : Int) == 39) = false := by rw [beq_eq_false_iff_ne]; omega
          have m39 := Lib.hid (show ¬ b = 39 from fun h => h39 ((hbcH.out 39).1 h))
          clear h39
          cases q with
          | true =>
            have hnx := Lib.hid (end_on (q' := true) henH.out hppH.out hdr.out rfl (fun h => m92.out h.1) (if_neg m39.out) (fun h => absurd h.1 (by decide)))
            go_wp2_with fail
            go_roundw
            case rel => exact ⟨p + 1, true, by have := hltH.out; omega, by have := hppH.out; omega, rfl, by go_num, hnx.out, rfl⟩
            case measure => have := hltH.out; simp [Go.RowKit.intOf]; omega
          | false =>
            by_cases h44 : c = 44
            · have n44 : ((c : Int) == 44) = true := by subst h44; rfl
              have b44 := (hbcH.out 44).2 h44
              have hfd := Lib.hid (end_found henH.out hppH.out hdr.out (fun h => m92.out h.1) ⟨if_neg m39.out, .inl b44⟩)
              have hfv := Lib.hid (hvH.out.symm.trans hfd.out)
              clear h44 b44
              go_wp2_with fail
              exact bodyPost_ret (v := .int .i64 (p : Int)) (by simp [results, Tryz.results44, go_sem]) rfl ⟨by rw [hfv.out], Below.refl _ _⟩
            · have n44 : ((c : Int) == 44) = false := by rw [beq_eq_false_iff_ne]; omega
              have m44 := Lib.hid (show ¬ b = 44 from fun h => h44 ((hbcH.out 44).1 h))
              clear h44
              by_cases h41 : c = 41
              · have n41 : ((c : Int) == 41) = true := by subst h41; rfl
                have b41 := (hbcH.out 41).2 h41
                have hfd := Lib.hid (end_found henH.out hppH.out hdr.out (fun h => m92.out h.1) ⟨if_neg m39.out, .inr b41⟩)
                have hfv := Lib.hid (hvH.out.symm.trans hfd.out)
                clear h41 b41
                go_wp2_with fail
                exact bodyPost_ret (v := .int .i64 (p : Int)) (by simp [results, Tryz.results44, go_sem]) rfl ⟨by rw [hfv.out], Below.refl _ _⟩
              · have n41 : ((c : Int) == 41) = false := by rw [beq_eq_false_iff_ne]; omega
                have m41 := Lib.hid (show ¬ b = 41 from fun h => h41 ((hbcH.out 41).1 h))
                clear h41
                have hnx := Lib.hid (end_on (q' := false) henH.out hppH.out hdr.out rfl (fun h => m92.out h.1) (if_neg m39.out) (fun h => h.2.elim m44.out m41.out))
                go_wp2_with fail
                go_roundw
                case rel => exact ⟨p + 1, false, by have := hltH.out; omega, by have := hppH.out; omega, rfl, by go_num, hnx.out, rfl⟩
                case measure => have := hltH.out; simp [Go.RowKit.intOf]; omega
    · have hno := Lib.hid (end_none henH.out (by have := hLsH.out; omega))
      have hfv := Lib.hid (hvH.out.symm.trans hno.out)
      go_wp2_with fail
      exact bodyPost_ret (v := .int .i64 (-1)) (by simp [results, Tryz.results44, go_sem]) rfl ⟨by rw [hfv.out], Below.refl _ _⟩
end Go.Proofs.YtpmfbmigdpmloaaGreatDoor
end
section
/-
  How the document reads a row, at this program: Parse. Condition: the text has at most 2^40 bytes.
-/
set_option linter.unusedVariables false
set_option linter.unusedSimpArgs false
namespace Go.Proofs.YtpmfbmigdpmloaaGreatDoor
open Go.RowKit Go.Lib

/-- What the document holds behind some data. -/
structure DocL (L : List UInt8) (acc : List Dat) (p : Nat) : Prop where
  ok : ∀ d ∈ acc, okD d = true
  wide : I64d acc
  most : acc.length ≤ 32
  text : L = 40 :: (sepR acc ++ L.drop p)
  few : L ≠ [40, 41]
  size : p ≤ L.length
theorem endF_some : ∀ (q e : Bool) (L : List UInt8) (n : Nat), endF q e L = some n → n < L.length ∧ (L[n]? = some 44 ∨ L[n]? = some 41)
  | q, e, [], n, h => by cases e <;> cases h
  | q, true, b :: L, n, h => by
    rw [endF] at h
    cases hr : endF q false L with
    | none => rw [hr] at h; cases h
    | some m =>
      rw [hr] at h
      simp only [Option.map_some, Option.some.injEq] at h
      subst h
      have := endF_some q false L m hr
      exact ⟨by simp; exact this.1, by simpa using this.2⟩
  | q, false, b :: L, n, h => by
    rw [endF] at h
    by_cases h1 : b = 92 ∧ q = true
    · rw [if_pos h1] at h
      cases hr : endF q true L with
      | none => rw [hr] at h; cases h
      | some m =>
        rw [hr] at h
        simp only [Option.map_some, Option.some.injEq] at h
        subst h
        have := endF_some q true L m hr
        exact ⟨by simp; exact this.1, by simpa using this.2⟩
    · rw [if_neg h1] at h
      by_cases h2 : (if b = 39 then !q else q) = false ∧ (b = 44 ∨ b = 41)
      · rw [if_pos h2] at h
        simp only [Option.some.injEq] at h
        subst h
        refine ⟨by simp, ?_⟩
        rcases h2.2 with rfl | rfl
        · exact .inl rfl
        · exact .inr rfl
      · rw [if_neg h2] at h
        cases hr : endF (if b = 39 then !q else q) false L with
        | none => rw [hr] at h; cases h
        | some m =>
          rw [hr] at h
          simp only [Option.map_some, Option.some.injEq] at h
          subst h
          have := endF_some _ false L m hr
          exact ⟨by simp; exact this.1, by simpa using this.2⟩
/-- Where what follows cannot be a row's rest, the text is no row. -/
theorem DocL.bad {L : List UInt8} {acc : List Dat} {p : Nat} (h : DocL L acc p) (hno : ∀ d q, okD d = true → -9223372036854775808 ≤ d.n ∧ d.n ≤ 9223372036854775807 → L.drop p = joinR (d :: q) ++ [41] → acc.length + 1 + q.length ≤ 32 → False) : RowZ L [] 20 := by
  refine .bad (fun m hm hw e => ?_)
  obtain ⟨d, q, h1, h2, h3⟩ := ends_next h.ok h.text hm e (fun _ => h.few)
  refine hno d q h3 (hw d (by rw [h1]; simp)) h2 ?_
  have := (okL hm).1
  rw [h1, List.length_append, List.length_cons] at this
  omega
theorem rest_form {d : Dat} (h : okD d = true) (q : List Dat) {T : List UInt8} (hT : T = joinR (d :: q) ++ [41]) :
    endF false false T = some (printS d).length ∧ T.take (printS d).length = printS d ∧ (q = [] → T.drop (printS d).length = [41]) ∧ (q ≠ [] → ∃ M, T.drop (printS d).length = 44 :: 32 :: M) := by
  subst hT
  refine ⟨ends_at h q, ?_, ?_, ?_⟩
  · rw [joinR_cons, List.append_assoc, List.take_left']
    rfl
  · rintro rfl
    rw [joinR_cons, tailR_nil, List.append_nil, List.drop_left']
    rfl
  · intro hq
    cases q with
    | nil => exact absurd rfl hq
    | cons e q =>
      rw [joinR_cons, tailR_cons, List.append_assoc, List.drop_left' rfl]
      exact ⟨_, rfl⟩
theorem DocL.next {L : List UInt8} {acc : List Dat} {p n : Nat} {d : Dat} (h : DocL L acc p) (hl : acc.length < 32) (hd : okD d = true) (hn : -9223372036854775808 ≤ d.n ∧ d.n ≤ 9223372036854775807) (hf : (L.drop p).take n = printS d) (h1 : L[p + n]? = some 44) (h2 : L[p + n + 1]? = some 32) : DocL L (acc ++ [d]) (p + n + 2) := by
  have b2 : p + n + 1 < L.length := (List.getElem?_eq_some_iff.1 h2).1
  refine ⟨fun x hx => ?_, fun x hx => ?_, by simp; omega, ?_, h.few, by omega⟩
  · rcases List.mem_append.1 hx with hx | hx
    · exact h.ok x hx
    · rw [List.mem_singleton.1 hx]; exact hd
  · rcases List.mem_append.1 hx with hx | hx
    · exact h.wide x hx
    · rw [List.mem_singleton.1 hx]; exact hn
  · rw [sepR_snoc, ← hf]
    have e1 : L.drop (p + n) = 44 :: 32 :: L.drop (p + n + 2) := by
      rw [List.drop_eq_getElem_cons (by omega), List.drop_eq_getElem_cons b2]
      obtain ⟨_, q1⟩ := List.getElem?_eq_some_iff.1 h1
      obtain ⟨_, q2⟩ := List.getElem?_eq_some_iff.1 h2
      rw [q1, q2]
    rw [← e1, ← List.drop_drop, List.take_append_drop]
    exact h.text
theorem DocL.last {L : List UInt8} {acc : List Dat} {p n : Nat} {d : Dat} (h : DocL L acc p) (hl : acc.length < 32) (hd : okD d = true) (hn : -9223372036854775808 ≤ d.n ∧ d.n ≤ 9223372036854775807) (hf : (L.drop p).take n = printS d) (h1 : L[p + n]? = some 41) (h2 : p + n + 1 = L.length) : RowZ L (acc ++ [d]) 0 := by
  refine .inl ⟨chkR_of (by simp; omega) (fun x hx => ?_), fun x hx => ?_, ?_, rfl⟩
  · rcases List.mem_append.1 hx with hx | hx
    · exact h.ok x hx
    · rw [List.mem_singleton.1 hx]; exact hd
  · rcases List.mem_append.1 hx with hx | hx
    · exact h.wide x hx
    · rw [List.mem_singleton.1 hx]; exact hn
  · have e1 : L.drop (p + n) = [41] := by
      rw [List.drop_eq_getElem_cons (by omega), List.drop_eq_nil_iff.2 (by omega)]
      obtain ⟨_, q1⟩ := List.getElem?_eq_some_iff.1 h1
      rw [q1]
    have e2 : L.drop p = printS d ++ [41] := by
      rw [← hf, ← e1, ← List.drop_drop, List.take_append_drop]
    have := h.text
    rw [e2, ← List.append_assoc, sepR_last] at this
    rw [this]
    rfl
def RelRp (L : List UInt8) (w : World) (s4 s5 : Value) (wr : World) : Prop := ∃ (acc : List Dat) (p : Nat), s5 = .int .i64 (p : Int) ∧ DocL L acc p ∧ OwnKR w.heap.size s4 acc w wr
/-- What the document's Parse answers. -/
def OutRp (L : List UInt8) (w : World) (e : Ending) (w' : World) : Prop := ∃ v l z, e = .returned (.tuple #[v, .int .i64 z]) ∧ RowZ L l z ∧ OwnKR w.heap.size v l w w'
theorem bt_zero {s : ByteArray} {L : List UInt8} (h : s.data.toList = L) {p : Nat} (hp : p < s.size) {x : UInt8} : bt s p = x.toNat ↔ L[p]? = some x := by
  have hp2 : p < L.length := by rw [← h, ← size_eq]; exact hp
  rw [bt_at s p hp]
  simp only [h]
  rw [List.getElem?_eq_getElem hp2]
  exact ⟨fun e => by rw [UInt8.toNat_inj.1 e], fun e => by rw [Option.some.inj e]⟩
set_option maxHeartbeats 8000000 in
set_option maxRecDepth 100000 in
theorem refParseRow_any (s : ByteArray) (w : World) (hs : s.size ≤ 1099511627776) :
    Calls Tryz.prog 25 #[.string s] w fun e w' => OutRp s.data.toList w e w' := by
  obtain ⟨L, hL⟩ : ∃ L, s.data.toList = L := ⟨_, rfl⟩
  have hLsH := Lib.hid (show s.size = L.length by rw [← hL]; exact size_eq s)
  rw [hL]
  by_cases he : L = [40, 41]
  · obtain rfl : s = ⟨#[40, 41]⟩ := bytes_ext (by rw [hL, he])
    have hz := Lib.hid (show RowZ L [] 0 from he ▸ RowZ.empty)
    clear hL hLsH he hs
    go_enter Tryz.func25, Tryz.ntmps25
    go_wp2_with fail
    exact bodyPost_ret (v := .tuple #[.slice none 0 0, .int .i64 0]) (by simp [results, Tryz.results25, go_sem]) rfl ⟨_, _, _, rfl, hz.out, OwnK.start (World.ownsRow_nil _ _ _ _) (Nat.le_refl _)⟩
  have n1 : (s.toList == [40, 41]) = false := by rw [beq_eq_false_iff_ne, ByteArray.toList_eq, hL]; exact he
  have hLH := Lib.hid hL; have heH := Lib.hid he
  clear hL he
  by_cases h3 : s.size < 3
  · have hz := Lib.hid (show RowZ L [] 20 from .bare (fun B e => by
      have h1 := hLsH.out
      rw [e] at h1
      simp only [List.length_cons, List.length_append, List.length_nil] at h1
      have h2 := heH.out
      cases B with
      | nil => exact h2 e
      | cons b B => simp only [List.length_cons] at h1; omega))
    have h3i : decide ((s.size : Int) < 3) = true := by simp; omega
    clear h3
    go_enter Tryz.func25, Tryz.ntmps25
    go_wp2_with fail
    exact bodyPost_ret (v := .tuple #[.slice none 0 0, .int .i64 20]) (by simp [results, Tryz.results25, go_sem]) rfl ⟨_, _, _, rfl, hz.out, OwnK.start (World.ownsRow_nil _ _ _ _) (Nat.le_refl _)⟩
  have h3i : decide ((s.size : Int) < 3) = false := by simp; omega
  have h3H := Lib.hid (show 3 ≤ s.size by omega)
  have h0s : 0 < s.size := by omega
  have hx0 := fun w' => idx_run s 0 0 rfl h0s w'
  obtain ⟨c, hc⟩ : ∃ c, bt s 0 = c := ⟨_, rfl⟩
  have hc0 := Lib.hid (show c = 40 ↔ L[0]? = some 40 by rw [← hc]; exact bt_zero (x := 40) hLH.out h0s)
  rw [hc] at hx0
  clear hc h3
  by_cases h40 : c = 40
  case neg =>
    have hz := Lib.hid (show RowZ L [] 20 from .bare (fun B e => h40 (hc0.out.2 (by rw [e]; rfl))))
    have n40 : ((c : Int) != 40) = true := by rw [bne_iff_ne]; omega
    clear h40
    go_enter Tryz.func25, Tryz.ntmps25
    go_wp2_with fail
    exact bodyPost_ret (v := .tuple #[.slice none 0 0, .int .i64 20]) (by simp [results, Tryz.results25, go_sem]) rfl ⟨_, _, _, rfl, hz.out, OwnK.start (World.ownsRow_nil _ _ _ _) (Nat.le_refl _)⟩
  have n40 : ((c : Int) != 40) = false := by subst h40; rfl
  have hst := Lib.hid (show DocL L [] 1 from ⟨by simp, by unfold I64d; simp, by simp, by
    have h1 := hc0.out.1 h40
    cases L with
    | nil => cases h1
    | cons b M => simp only [List.getElem?_cons_zero, Option.some.injEq] at h1; rw [h1]; rfl, heH.out, by have := hLsH.out; omega⟩)
  clear h40 hc0
  go_enter Tryz.func25, Tryz.ntmps25
  go_wp2_with fail
  clear hx0
  go_loopw [4, 5] (fun s4 s5 wr => RelRp L w s4 s5 wr) (fun _ s5 _ => L.length - (Go.RowKit.intOf s5).toNat)
  case atStart => exact ⟨[], 1, rfl, hst.out, OwnK.start (World.ownsRow_nil _ _ _ _) (Nat.le_refl _)⟩
  case round =>
    unfold RelRp at hrel
    obtain ⟨acc, p, rfl, hdoc, hown⟩ := hrel
    obtain ⟨A0, c0, rfl⟩ := hown.form
    have hownH := Lib.hid hown; have hdocH := Lib.hid hdoc
    have hps : p ≤ s.size := by rw [hLsH.out]; exact hdoc.size
    clear hown hdoc
    have hend := end_any s p wr hps hs
    rw [hLH.out] at hend
    obtain ⟨tz, hto⟩ : ∃ tz, endV L p = tz := ⟨_, rfl⟩
    rw [hto] at hend
    have hendH := Lib.hid hend; have htoH := Lib.hid hto
    clear hend hto
    have hbadH := Lib.hid (show ∀ w', RowZ L [] 20 → OwnKR w.heap.size (.slice A0 acc.length c0) acc w w' → OutRp L w (.returned (.tuple #[.slice none 0 0, .int .i64 20])) w' from fun w' hz ho => ⟨_, _, _, rfl, hz, OwnK.nothing ho⟩)
    cases hF : endF false false (L.drop p) with
    | none =>
      have hz := Lib.hid (hdocH.out.bad (fun d q h1 _ h2 _ => by rw [(rest_form h1 q h2).1] at hF; cases hF))
      obtain rfl : tz = -1 := by rw [← htoH.out]; unfold endV; rw [hF]
      clear hF
      go_wp2_with fail
      refine hendH.out.mono ?_
      rintro e w2 ⟨rfl, hb2⟩
      have hown2 := Lib.hid (hownH.out.below hb2)
      clear hb2
      go_wp2_with fail
      exact bodyPost_ret (v := .tuple #[.slice none 0 0, .int .i64 20]) (by simp [results, Tryz.results25, go_sem]) rfl (hbadH.out _ hz.out hown2.out)
    | some n =>
      obtain ⟨hn1, hn2⟩ := endF_some _ _ _ _ hF
      rw [List.length_drop] at hn1
      rw [List.getElem?_drop] at hn2
      obtain ⟨T, hT⟩ : ∃ T, p + n = T := ⟨_, rfl⟩
      have htoT : tz = (T : Int) := by rw [← htoH.out]; unfold endV; rw [hF]; simp only; omega
      have hTs : T < s.size := by rw [hLsH.out]; omega
      have hpT : p ≤ T := by omega
      rw [hT] at hn2
      subst htoT
      have hFH := Lib.hid hF; have hn2H := Lib.hid hn2; have hTH := Lib.hid hT
      clear hF hn1 hn2 hT
      by_cases h32 : acc.length = 32
      · have hz := Lib.hid (hdocH.out.bad (fun d q _ _ _ h => by omega))
        have h32i : ((acc.length : Int) == 32) = true := by rw [h32]; rfl
        clear h32
        go_wp2_with fail
        refine hendH.out.mono ?_
        rintro e w2 ⟨rfl, hb2⟩
        have hown2 := Lib.hid (hownH.out.below hb2)
        clear hb2
        go_wp2_with fail
        exact bodyPost_ret (v := .tuple #[.slice none 0 0, .int .i64 20]) (by simp [results, Tryz.results25, go_sem]) rfl (hbadH.out _ hz.out hown2.out)
      · have h32i : ((acc.length : Int) == 32) = false := by rw [beq_eq_false_iff_ne]; omega
        have h32H := Lib.hid (show acc.length < 32 by have := hdocH.out.most; omega)
        clear h32
        obtain ⟨X, hX⟩ : ∃ X, s.extract p T = X := ⟨_, rfl⟩
        have hXl := Lib.hid (show X.data.toList = (L.drop p).take n by
          rw [← hX, extract_eq, hLH.out]
          have := hTH.out
          rw [show T - p = n by omega])
        have hXs := Lib.hid (show X.size ≤ 1099511627776 by rw [← hX, ByteArray.size_extract]; omega)
        go_wp2_with fail
        refine hendH.out.mono ?_
        rintro e w2 ⟨rfl, hb2⟩
        have hown2 := Lib.hid (hownH.out.below hb2)
        clear hb2
        go_wp2_with fail
        refine (refParse_any X w2 hXs.out).mono ?_
        rintro e w3 ⟨⟨d, z, rfl, hpd⟩, hb3⟩
        have hown3 := Lib.hid (hown2.out.below hb3); have hpdH := Lib.hid hpd
        clear hb3 hpd
        obtain ⟨k, bb, m, t⟩ := d
        simp only [refV]
        by_cases hz : z = 0
        case neg =>
          have hbz := Lib.hid (hdocH.out.bad (fun d q h1 h2 h3 _ => by
            obtain ⟨f1, f2, _, _⟩ := rest_form h1 q h3
            have hn : n = (printS d).length := by have := hFH.out; rw [f1] at this; exact (Option.some.inj this).symm
            rcases hpdH.out with ⟨_, _, _, h0⟩ | ⟨_, _, hno⟩
            · exact hz h0
            · exact hno d h1 h2 (by rw [hXl.out, hn, f2])))
          have hzn : (z != 0) = true := by simpa using hz
          clear hz
          go_wp2_with fail
          exact bodyPost_ret (v := .tuple #[.slice none 0 0, .int .i64 20]) (by simp [results, Tryz.results25, go_sem]) rfl (hbadH.out _ hbz.out (hown3.out.alloc _))
        subst hz
        have hgood := Lib.hid (show okD ⟨k, bb, m, t⟩ = true ∧ I64 m ∧ (L.drop p).take n = printS ⟨k, bb, m, t⟩ by
          rcases hpdH.out with ⟨h1, h2, h3, _⟩ | ⟨_, h2, _⟩
          · exact ⟨h1, h2, by rw [← hXl.out]; exact h3⟩
          · exact absurd h2 (by decide))
        have hOne := Lib.hid (show RowV ((w3.alloc (.cells #[.int .u8 k, .bool bb, .int .i64 m, .string t] 60)).alloc (.cells #[.int .u8 k, .bool bb, .int .i64 m, .string t] 60)) (.slice (some ⟨w3.heap.size + 1, 0, none⟩) 1 1) [⟨k, bb, m, t⟩] from by
          have := one_datum (w3.alloc (.cells #[.int .u8 k, .bool bb, .int .i64 m, .string t] 60)) k bb m t
          rwa [World.size_alloc] at this)
        have hx1 := fun w' => idx_run s T (T : Int) rfl hTs w'
        obtain ⟨c1, hc1⟩ : ∃ c, bt s T = c := ⟨_, rfl⟩
        have hc41 := Lib.hid (show c1 = 41 ↔ L[T]? = some 41 by rw [← hc1]; exact bt_zero (x := 41) hLH.out hTs)
        rw [hc1] at hx1
        clear hc1
        have hTn := hTH.out
        by_cases h41 : c1 = 41
        · have n41 : ((c1 : Int) == 41) = true := by subst h41; rfl
          have hl41 := Lib.hid (hc41.out.1 h41)
          clear h41
          by_cases hTl : T + 1 = s.size
          · have hlast : ((T : Int) != (s.size : Int) - 1) = false := by
              rw [show (s.size : Int) - 1 = (T : Int) by omega]
              simp
            have hfin := Lib.hid (hdocH.out.last h32H.out hgood.out.1 hgood.out.2.1 hgood.out.2.2 (by rw [hTn]; exact hl41.out) (by rw [← hLsH.out]; omega))
            clear hTn hTl
            go_wp2_with (at_builtin; refine wpList_rowK rfl _ _ 23 Tryz.underlying23 rfl w.heap.size _ acc w _ _ [⟨k, bb, m, t⟩] (OwnK.alloc (OwnK.alloc hown3.out _) _) rfl hOne.out rfl (by have := h32H.out; simp; omega) ?_; intro v4 w4 hq4; have hown4 := Lib.hid hq4; clear hq4)
            exact bodyPost_ret (v := .tuple #[v4, .int .i64 0]) (by simp [results, Tryz.results25, go_sem]) rfl ⟨_, _, _, rfl, hfin.out, hown4.out⟩
          · have hlast : ((T : Int) != (s.size : Int) - 1) = true := by
              rw [bne_iff_ne]
              omega
            have hbz := Lib.hid (hdocH.out.bad (fun d q h1 h2 h3 _ => by
              obtain ⟨f1, f2, f3, f4⟩ := rest_form h1 q h3
              have hn : n = (printS d).length := by have := hFH.out; rw [f1] at this; exact (Option.some.inj this).symm
              rw [← hn, List.drop_drop, hTn] at f3 f4
              by_cases hq : q = []
              · have := congrArg List.length (f3 hq)
                rw [List.length_drop, ← hLsH.out] at this
                simp at this
                omega
              · obtain ⟨M, hM⟩ := f4 hq
                have e : L[T]? = some 44 := by rw [← List.head?_drop, hM]; rfl
                rw [hl41.out] at e
                cases e))
            clear hTn hTl
            go_wp2_with (at_builtin; refine wpList_rowK rfl _ _ 23 Tryz.underlying23 rfl w.heap.size _ acc w _ _ [⟨k, bb, m, t⟩] (OwnK.alloc (OwnK.alloc hown3.out _) _) rfl hOne.out rfl (by have := h32H.out; simp; omega) ?_; intro v4 w4 hq4; have hown4 := Lib.hid hq4; clear hq4)
            exact bodyPost_ret (v := .tuple #[.slice none 0 0, .int .i64 20]) (by simp [results, Tryz.results25, go_sem]) rfl ⟨_, _, _, rfl, hbz.out, OwnK.nothing hown4.out⟩
        · have n41 : ((c1 : Int) == 41) = false := by rw [beq_eq_false_iff_ne]; omega
          have hl44 := Lib.hid (show L[T]? = some 44 from hn2H.out.elim id (fun h => absurd (hc41.out.2 h) h41))
          clear h41
          have hmust := Lib.hid (show ∀ d q, okD d = true → L.drop p = joinR (d :: q) ++ [41] → L[T + 1]? = some 32 from fun d q h1 h3 => by
            obtain ⟨f1, f2, f3, f4⟩ := rest_form h1 q h3
            have hn : n = (printS d).length := by have := hFH.out; rw [f1] at this; exact (Option.some.inj this).symm
            rw [← hn, List.drop_drop, hTn] at f3 f4
            by_cases hq : q = []
            · have e : L[T]? = some 41 := by rw [← List.head?_drop, f3 hq]; rfl
              rw [hl44.out] at e
              cases e
            · obtain ⟨M, hM⟩ := f4 hq
              have e : (L.drop T)[1]? = some 32 := by rw [hM]; rfl
              rwa [List.getElem?_drop] at e)
          by_cases hTl : T + 1 < s.size
          · have hge : ¬ (s.size : Int) ≤ (T : Int) + 1 := by omega
            have hx2 := fun w' => idx_run s (T + 1) ((T : Int) + 1) (by omega) hTl w'
            obtain ⟨c2, hc2⟩ : ∃ c, bt s (T + 1) = c := ⟨_, rfl⟩
            have hc32 := Lib.hid (show c2 = 32 ↔ L[T + 1]? = some 32 by rw [← hc2]; exact bt_zero (x := 32) hLH.out hTl)
            rw [hc2] at hx2
            clear hc2
            by_cases h32 : c2 = 32
            · have n32 : ((c2 : Int) != 32) = false := by subst h32; rfl
              have hl32 := Lib.hid (hc32.out.1 h32)
              have hfin := Lib.hid (hdocH.out.next h32H.out hgood.out.1 hgood.out.2.1 hgood.out.2.2 (by rw [hTn]; exact hl44.out) (by rw [hTn]; exact hl32.out))
              clear h32
              go_wp2_with (at_builtin; refine wpList_rowK rfl _ _ 23 Tryz.underlying23 rfl w.heap.size _ acc w _ _ [⟨k, bb, m, t⟩] (OwnK.alloc (OwnK.alloc hown3.out _) _) rfl hOne.out rfl (by have := h32H.out; simp; omega) ?_; intro v4 w4 hq4; have hown4 := Lib.hid hq4; clear hq4)
              exact ⟨⟨_, T + 2, by go_num, by rw [← hTn]; exact hfin.out, hown4.out⟩, by have := hLsH.out; simp [Go.RowKit.intOf]; omega⟩
            · have n32 : ((c2 : Int) != 32) = true := by rw [bne_iff_ne]; omega
              have hbz := Lib.hid (hdocH.out.bad (fun d q h1 h2 h3 _ => h32 (hc32.out.2 (hmust.out d q h1 h3))))
              clear h32
              go_wp2_with (at_builtin; refine wpList_rowK rfl _ _ 23 Tryz.underlying23 rfl w.heap.size _ acc w _ _ [⟨k, bb, m, t⟩] (OwnK.alloc (OwnK.alloc hown3.out _) _) rfl hOne.out rfl (by have := h32H.out; simp; omega) ?_; intro v4 w4 hq4; have hown4 := Lib.hid hq4; clear hq4)
              exact bodyPost_ret (v := .tuple #[.slice none 0 0, .int .i64 20]) (by simp [results, Tryz.results25, go_sem]) rfl ⟨_, _, _, rfl, hbz.out, OwnK.nothing hown4.out⟩
          · have hge : (s.size : Int) ≤ (T : Int) + 1 := by omega
            have hbz := Lib.hid (hdocH.out.bad (fun d q h1 h2 h3 _ => by
              have := (List.getElem?_eq_some_iff.1 (hmust.out d q h1 h3)).1
              rw [← hLsH.out] at this
              exact hTl this))
            go_wp2_with (at_builtin; refine wpList_rowK rfl _ _ 23 Tryz.underlying23 rfl w.heap.size _ acc w _ _ [⟨k, bb, m, t⟩] (OwnK.alloc (OwnK.alloc hown3.out _) _) rfl hOne.out rfl (by have := h32H.out; simp; omega) ?_; intro v4 w4 hq4; have hown4 := Lib.hid hq4; clear hq4)
            exact bodyPost_ret (v := .tuple #[.slice none 0 0, .int .i64 20]) (by simp [results, Tryz.results25, go_sem]) rfl ⟨_, _, _, rfl, hbz.out, OwnK.nothing hown4.out⟩
end Go.Proofs.YtpmfbmigdpmloaaGreatDoor
end
section
/-
  What row.Cmp and the document's own answer, at this program: of any two rows. No condition.
-/
set_option linter.unusedVariables false
set_option linter.unusedSimpArgs false
namespace Go.Proofs.YtpmfbmigdpmloaaGreatDoor
open Go.RowKit Go.Lib

set_option maxHeartbeats 2000000 in
theorem cmpLen_any (x y : Int) (w : World) :
    Calls Tryz.prog 48 #[.int .i64 x, .int .i64 y] w fun e w' => e = .returned (.int .i64 (cmp3 x y)) ∧ w = w' := by
  by_cases h : x < y
  · have hr := Lib.hid (show cmp3 x y = -1 from if_pos h)
    have h2 : ¬ y < x := by omega
    have h3 : (x == y) = false := by simp; omega
    go_enter Tryz.func48, Tryz.ntmps48
    go_wp2
    go_ret
    exact ⟨ret_int hr.out.symm, rfl⟩
  · by_cases h2 : x = y
    · subst h2
      have hr := Lib.hid (show cmp3 x x = 0 by simp [cmp3])
      go_enter Tryz.func48, Tryz.ntmps48
      go_wp2
      go_ret
      exact ⟨ret_int hr.out.symm, rfl⟩
    · have hr := Lib.hid (show cmp3 x y = 1 by simp [cmp3, h, h2])
      have h3 : y < x := by omega
      have h4 : (x == y) = false := by simpa using h2
      clear h2
      go_enter Tryz.func48, Tryz.ntmps48
      go_wp2
      go_ret
      exact ⟨ret_int hr.out.symm, rfl⟩
theorem cmpR_at {l m : List Dat} {p : Nat} (hl : p < l.length) (hm : p < m.length) : cmpR (l.drop p) (m.drop p) = if cmpS l[p] m[p] = 0 then cmpR (l.drop (p + 1)) (m.drop (p + 1)) else cmpS l[p] m[p] := by
  rw [List.drop_eq_getElem_cons hl, List.drop_eq_getElem_cons hm, cmpR]
theorem cmpR_end {l m : List Dat} {p : Nat} (h : l.length ≤ p ∨ m.length ≤ p) (hl : p ≤ l.length) (hm : p ≤ m.length) : cmpR (l.drop p) (m.drop p) = cmp3 (l.length : Int) (m.length : Int) := by
  unfold cmp3
  cases h1 : l.drop p with
  | nil =>
    have e1 := congrArg List.length h1
    rw [List.length_drop, List.length_nil] at e1
    cases h2 : m.drop p with
    | nil =>
      have e2 := congrArg List.length h2
      rw [List.length_drop, List.length_nil] at e2
      rw [if_neg (by omega), if_pos (by omega)]; rfl
    | cons y m' =>
      have e2 := congrArg List.length h2
      rw [List.length_drop, List.length_cons] at e2
      rw [if_pos (by omega)]; rfl
  | cons x l' =>
    have e1 := congrArg List.length h1
    rw [List.length_drop, List.length_cons] at e1
    cases h2 : m.drop p with
    | nil =>
      have e2 := congrArg List.length h2
      rw [List.length_drop, List.length_nil] at e2
      rw [if_neg (by omega), if_neg (by omega)]; rfl
    | cons y m' =>
      have e2 := congrArg List.length h2
      rw [List.length_drop, List.length_cons] at e2
      omega
/-- What the rounds hold. -/
def RelC (l m : List Dat) (w0 : World) (i : Value) (wr : World) : Prop :=
  ∃ p : Nat, i = .int .i64 (p : Int) ∧ p ≤ l.length ∧ p ≤ m.length ∧ cmpR l m = cmpR (l.drop p) (m.drop p) ∧ Below w0.heap.size w0 wr
set_option maxHeartbeats 8000000 in
set_option maxRecDepth 1000000 in
theorem rowCmp_any (va vb : Value) (l m : List Dat) (w : World) (ha : RowV w va l) (hb : RowV w vb m) :
    Calls Tryz.prog 27 #[va, vb] w fun e w' => e = .returned (.int .i64 (cmpR l m)) ∧ Below w.heap.size w w' := by
  obtain ⟨A, ca, rfl, hla⟩ := ha.form
  obtain ⟨B, cb, rfl, hlb⟩ := hb.form
  have haH := Lib.hid ha; have hbH := Lib.hid hb
  clear ha hb
  obtain ⟨r, hr⟩ : ∃ r, cmpR l m = r := ⟨_, rfl⟩
  rw [hr]
  have hrH := Lib.hid hr
  clear hr
  obtain ⟨n, hn⟩ : ∃ n, min l.length m.length = n := ⟨_, rfl⟩
  have hmi : min (l.length : Int) (m.length : Int) = (n : Int) := by omega
  have hnl : n ≤ l.length := by omega
  have hnm : n ≤ m.length := by omega
  have hnH := Lib.hid (show l.length = n ∨ m.length = n by omega)
  clear hn
  go_enter Tryz.func27, Tryz.ntmps27
  go_wp2_with fail
  go_loopw [12] (fun i wr => RelC l m w i wr) (fun i _ => n - (Go.RowKit.intOf i).toNat)
  case atStart => exact ⟨0, rfl, Nat.zero_le _, Nat.zero_le _, rfl, Below.refl _ _⟩
  case round =>
    unfold RelC at hrel
    obtain ⟨p, rfl, hpl, hpm, hcmp, hbw⟩ := hrel
    have hcH := Lib.hid hcmp; have hbwH := Lib.hid hbw
    have hsz := hbw.size
    clear hcmp hbw
    by_cases hp : p < n
    · have h1 : p < l.length := by omega
      have h2 : p < m.length := by omega
      obtain ⟨x, hx⟩ : ∃ x, l[p] = x := ⟨_, rfl⟩
      obtain ⟨y, hy⟩ : ∃ y, m[p] = y := ⟨_, rfl⟩
      obtain ⟨ad, rfl, hba, a0_, a1_, a2_, a3_⟩ := (haH.out.below hbwH.out).at h1
      obtain ⟨bd, rfl, hbb, b0_, b1_, b2_, b3_⟩ := (hbH.out.below hbwH.out).at h2
      have hstep := cmpR_at h1 h2
      rw [hx] at a0_ a1_ a2_ a3_ hstep
      rw [hy] at b0_ b1_ b2_ b3_ hstep
      obtain ⟨k0, b0, n0, s0⟩ := x
      obtain ⟨k1, b1, n1, s1⟩ := y
      simp only at a0_ a1_ a2_ a3_ b0_ b1_ b2_ b3_
      obtain ⟨c, hc⟩ : ∃ c, cmpS ⟨k0, b0, n0, s0⟩ ⟨k1, b1, n1, s1⟩ = c := ⟨_, rfl⟩
      rw [hc] at hstep
      have hcS := Lib.hid hc
      have hstH := Lib.hid hstep
      clear hc hstep hx hy
      by_cases c0 : c = 0
      · have g : (c != 0) = false := by simp [c0]
        go_wp2_with fail
        refine wp_region_noPanic ?_
        refine wp_region_held_drew (S := (fun w' => w'.cell? (ad.add (p * 4)) = some (.int .u8 k0) ∧ w'.cell? ⟨(ad.add (p * 4)).block, (ad.add (p * 4)).off + 1, none⟩ = some (.bool b0) ∧ w'.cell? ⟨(ad.add (p * 4)).block, (ad.add (p * 4)).off + 2, none⟩ = some (.int .i64 n0) ∧ w'.cell? ⟨(ad.add (p * 4)).block, (ad.add (p * 4)).off + 3, none⟩ = some (.string s0) ∧ w'.cell? (bd.add (p * 4)) = some (.int .u8 k1) ∧ w'.cell? ⟨(bd.add (p * 4)).block, (bd.add (p * 4)).off + 1, none⟩ = some (.bool b1) ∧ w'.cell? ⟨(bd.add (p * 4)).block, (bd.add (p * 4)).off + 2, none⟩ = some (.int .i64 n1) ∧ w'.cell? ⟨(bd.add (p * 4)).block, (bd.add (p * 4)).off + 3, none⟩ = some (.string s1))) (by kernel_rfl) ⟨a0_, a1_, a2_, a3_, b0_, b1_, b2_, b3_⟩ (fun hHeld => ?_)
        refine' wpAnyH_take (i := 0) (v := .slice (some ad) l.length ca) ?hi0x1 ?hs0x1 ?hf0x1 ?hr0x1 ?hQ0x1 ?hy0x1 ?hS0x1 ?rest0x1
        case hi0x1 => (simp only [List.getElem?_toArray, List.getElem?_cons_succ, List.getElem?_cons_zero]; try rfl)
        case hs0x1 => kernel_rfl
        case hf0x1 => kernel_rfl
        case hr0x1 => kernel_rfl
        case hQ0x1 => exact fun _ _ _ h => h
        case hy0x1 => exact Or.inl ⟨by rfl, by (intro w hSw; (try dsimp only at hSw); go_simp)⟩
        case hS0x1 => assumption
        (try simp only [Act.put, List.setIfInBounds_toArray, List.set_cons_zero, List.set_cons_succ])
        refine' wpAnyH_take (i := 1) (v := .int .i64 (p : Int)) ?hi1x2 ?hs1x2 ?hf1x2 ?hr1x2 ?hQ1x2 ?hy1x2 ?hS1x2 ?rest1x2
        case hi1x2 => (simp only [List.getElem?_toArray, List.getElem?_cons_succ, List.getElem?_cons_zero]; try rfl)
        case hs1x2 => kernel_rfl
        case hf1x2 => kernel_rfl
        case hr1x2 => kernel_rfl
        case hQ1x2 => exact fun _ _ _ h => h
        case hy1x2 => exact Or.inl ⟨by rfl, by (intro w hSw; (try dsimp only at hSw); go_simp)⟩
        case hS1x2 => assumption
        (try simp only [Act.put, List.setIfInBounds_toArray, List.set_cons_zero, List.set_cons_succ])
        refine' wpAnyH_take (i := 2) (v := .pointer (some (ad.add (p * 4)))) ?hi2x3 ?hs2x3 ?hf2x3 ?hr2x3 ?hQ2x3 ?hy2x3 ?hS2x3 ?rest2x3
        case hi2x3 => (simp only [List.getElem?_toArray, List.getElem?_cons_succ, List.getElem?_cons_zero]; try rfl)
        case hs2x3 => kernel_rfl
        case hf2x3 => kernel_rfl
        case hr2x3 => kernel_rfl
        case hQ2x3 => exact fun _ _ _ h => h
        case hy2x3 => exact Or.inl ⟨by rfl, by (intro w hSw; (try dsimp only at hSw); go_simp)⟩
        case hS2x3 => assumption
        (try simp only [Act.put, List.setIfInBounds_toArray, List.set_cons_zero, List.set_cons_succ])
        refine' wpAnyH_take (i := 3) (v := .agg #[.int .u8 k0, .bool b0, .int .i64 n0, .string s0]) ?hi3x4 ?hs3x4 ?hf3x4 ?hr3x4 ?hQ3x4 ?hy3x4 ?hS3x4 ?rest3x4
        case hi3x4 => (simp only [List.getElem?_toArray, List.getElem?_cons_succ, List.getElem?_cons_zero]; try rfl)
        case hs3x4 => kernel_rfl
        case hf3x4 => kernel_rfl
        case hr3x4 => kernel_rfl
        case hQ3x4 => exact fun _ _ _ h => h
        case hy3x4 => exact Or.inl ⟨by rfl, by (intro w hSw; (try dsimp only at hSw); go_simp)⟩
        case hS3x4 => assumption
        (try simp only [Act.put, List.setIfInBounds_toArray, List.set_cons_zero, List.set_cons_succ])
        refine' wpAnyH_take (i := 4) (v := .slice (some bd) m.length cb) ?hi4x5 ?hs4x5 ?hf4x5 ?hr4x5 ?hQ4x5 ?hy4x5 ?hS4x5 ?rest4x5
        case hi4x5 => (simp only [List.getElem?_toArray, List.getElem?_cons_succ, List.getElem?_cons_zero]; try rfl)
        case hs4x5 => kernel_rfl
        case hf4x5 => kernel_rfl
        case hr4x5 => kernel_rfl
        case hQ4x5 => exact fun _ _ _ h => h
        case hy4x5 => exact Or.inl ⟨by rfl, by (intro w hSw; (try dsimp only at hSw); go_simp)⟩
        case hS4x5 => assumption
        (try simp only [Act.put, List.setIfInBounds_toArray, List.set_cons_zero, List.set_cons_succ])
        refine' wpAnyH_take (i := 5) (v := .int .i64 (p : Int)) ?hi5x6 ?hs5x6 ?hf5x6 ?hr5x6 ?hQ5x6 ?hy5x6 ?hS5x6 ?rest5x6
        case hi5x6 => (simp only [List.getElem?_toArray, List.getElem?_cons_succ, List.getElem?_cons_zero]; try rfl)
        case hs5x6 => kernel_rfl
        case hf5x6 => kernel_rfl
        case hr5x6 => kernel_rfl
        case hQ5x6 => exact fun _ _ _ h => h
        case hy5x6 => exact Or.inl ⟨by rfl, by (intro w hSw; (try dsimp only at hSw); go_simp)⟩
        case hS5x6 => assumption
        (try simp only [Act.put, List.setIfInBounds_toArray, List.set_cons_zero, List.set_cons_succ])
        refine' wpAnyH_take (i := 6) (v := .pointer (some (bd.add (p * 4)))) ?hi6x7 ?hs6x7 ?hf6x7 ?hr6x7 ?hQ6x7 ?hy6x7 ?hS6x7 ?rest6x7
        case hi6x7 => (simp only [List.getElem?_toArray, List.getElem?_cons_succ, List.getElem?_cons_zero]; try rfl)
        case hs6x7 => kernel_rfl
        case hf6x7 => kernel_rfl
        case hr6x7 => kernel_rfl
        case hQ6x7 => exact fun _ _ _ h => h
        case hy6x7 => exact Or.inl ⟨by rfl, by (intro w hSw; (try dsimp only at hSw); go_simp)⟩
        case hS6x7 => assumption
        (try simp only [Act.put, List.setIfInBounds_toArray, List.set_cons_zero, List.set_cons_succ])
        refine' wpAnyH_take (i := 7) (v := .agg #[.int .u8 k1, .bool b1, .int .i64 n1, .string s1]) ?hi7x8 ?hs7x8 ?hf7x8 ?hr7x8 ?hQ7x8 ?hy7x8 ?hS7x8 ?rest7x8
        case hi7x8 => (simp only [List.getElem?_toArray, List.getElem?_cons_succ, List.getElem?_cons_zero]; try rfl)
        case hs7x8 => kernel_rfl
        case hf7x8 => kernel_rfl
        case hr7x8 => kernel_rfl
        case hQ7x8 => exact fun _ _ _ h => h
        case hy7x8 => exact Or.inl ⟨by rfl, by (intro w hSw; (try dsimp only at hSw); go_simp)⟩
        case hS7x8 => assumption
        (try simp only [Act.put, List.setIfInBounds_toArray, List.set_cons_zero, List.set_cons_succ])
        refine wpAnyH_ready (rs := [8]) (by kernel_rfl) (by simp) ?_
        refine' AllReadyH.cons (i := 8) ?ho8x9 (fun K hK => ?st8x9) AllReadyH.nil
        case ho8x9 => (simp only [List.getElem?_toArray, List.getElem?_cons_succ, List.getElem?_cons_zero]; try rfl)
        go_simp
        refine (cmp_any k0 b0 n0 s0 k1 b1 n1 s1 _).mono ?_
        rw [hcS.out]
        rintro e w' ⟨rfl, hb'⟩
        refine hK.out _ _ ?_ (fun hHeld => ?_)
        · exact ⟨(hb'.cell (p := (ad.add (p * 4))) hba).trans a0_, (hb'.cell (p := ⟨(ad.add (p * 4)).block, (ad.add (p * 4)).off + 1, none⟩) hba).trans a1_, (hb'.cell (p := ⟨(ad.add (p * 4)).block, (ad.add (p * 4)).off + 2, none⟩) hba).trans a2_, (hb'.cell (p := ⟨(ad.add (p * 4)).block, (ad.add (p * 4)).off + 3, none⟩) hba).trans a3_, (hb'.cell (p := (bd.add (p * 4))) hbb).trans b0_, (hb'.cell (p := ⟨(bd.add (p * 4)).block, (bd.add (p * 4)).off + 1, none⟩) hbb).trans b1_, (hb'.cell (p := ⟨(bd.add (p * 4)).block, (bd.add (p * 4)).off + 2, none⟩) hbb).trans b2_, (hb'.cell (p := ⟨(bd.add (p * 4)).block, (bd.add (p * 4)).off + 3, none⟩) hbb).trans b3_⟩
        clear hK K
        (try simp only [Act.put, List.setIfInBounds_toArray, List.set_cons_zero, List.set_cons_succ])
        refine' wpAnyH_take (i := 9) (v := .int .i64 c) ?hi9x10 ?hs9x10 ?hf9x10 ?hr9x10 ?hQ9x10 ?hy9x10 ?hS9x10 ?rest9x10
        case hi9x10 => (simp only [List.getElem?_toArray, List.getElem?_cons_succ, List.getElem?_cons_zero]; try rfl)
        case hs9x10 => kernel_rfl
        case hf9x10 => kernel_rfl
        case hr9x10 => kernel_rfl
        case hQ9x10 => exact fun _ _ _ h => h
        case hy9x10 => exact Or.inl ⟨by rfl, by (intro w hSw; (try dsimp only at hSw); go_simp)⟩
        case hS9x10 => assumption
        (try simp only [Act.put, List.setIfInBounds_toArray, List.set_cons_zero, List.set_cons_succ])
        refine wpAnyH_done (by kernel_rfl) ?_ _
        refine NoPanic.normal ?_
        trace_state
        go_wp2_with fail
        go_roundw
        case rel => exact ⟨p + 1, by go_num, by omega, by omega, by rw [hcH.out, hstH.out, if_pos c0], hbwH.out.drew.trans (hb'.mono hsz)⟩
        case measure => simp [Go.RowKit.intOf]; omega
      · have g : (c != 0) = true := by simpa using c0
        go_wp2_with fail
        refine wp_region_noPanic ?_
        refine wp_region_held_drew (S := (fun w' => w'.cell? (ad.add (p * 4)) = some (.int .u8 k0) ∧ w'.cell? ⟨(ad.add (p * 4)).block, (ad.add (p * 4)).off + 1, none⟩ = some (.bool b0) ∧ w'.cell? ⟨(ad.add (p * 4)).block, (ad.add (p * 4)).off + 2, none⟩ = some (.int .i64 n0) ∧ w'.cell? ⟨(ad.add (p * 4)).block, (ad.add (p * 4)).off + 3, none⟩ = some (.string s0) ∧ w'.cell? (bd.add (p * 4)) = some (.int .u8 k1) ∧ w'.cell? ⟨(bd.add (p * 4)).block, (bd.add (p * 4)).off + 1, none⟩ = some (.bool b1) ∧ w'.cell? ⟨(bd.add (p * 4)).block, (bd.add (p * 4)).off + 2, none⟩ = some (.int .i64 n1) ∧ w'.cell? ⟨(bd.add (p * 4)).block, (bd.add (p * 4)).off + 3, none⟩ = some (.string s1))) (by kernel_rfl) ⟨a0_, a1_, a2_, a3_, b0_, b1_, b2_, b3_⟩ (fun hHeld => ?_)
        refine' wpAnyH_take (i := 0) (v := .slice (some ad) l.length ca) ?hi0x11 ?hs0x11 ?hf0x11 ?hr0x11 ?hQ0x11 ?hy0x11 ?hS0x11 ?rest0x11
        case hi0x11 => (simp only [List.getElem?_toArray, List.getElem?_cons_succ, List.getElem?_cons_zero]; try rfl)
        case hs0x11 => kernel_rfl
        case hf0x11 => kernel_rfl
        case hr0x11 => kernel_rfl
        case hQ0x11 => exact fun _ _ _ h => h
        case hy0x11 => exact Or.inl ⟨by rfl, by (intro w hSw; (try dsimp only at hSw); go_simp)⟩
        case hS0x11 => assumption
        (try simp only [Act.put, List.setIfInBounds_toArray, List.set_cons_zero, List.set_cons_succ])
        refine' wpAnyH_take (i := 1) (v := .int .i64 (p : Int)) ?hi1x12 ?hs1x12 ?hf1x12 ?hr1x12 ?hQ1x12 ?hy1x12 ?hS1x12 ?rest1x12
        case hi1x12 => (simp only [List.getElem?_toArray, List.getElem?_cons_succ, List.getElem?_cons_zero]; try rfl)
        case hs1x12 => kernel_rfl
        case hf1x12 => kernel_rfl
        case hr1x12 => kernel_rfl
        case hQ1x12 => exact fun _ _ _ h => h
        case hy1x12 => exact Or.inl ⟨by rfl, by (intro w hSw; (try dsimp only at hSw); go_simp)⟩
        case hS1x12 => assumption
        (try simp only [Act.put, List.setIfInBounds_toArray, List.set_cons_zero, List.set_cons_succ])
        refine' wpAnyH_take (i := 2) (v := .pointer (some (ad.add (p * 4)))) ?hi2x13 ?hs2x13 ?hf2x13 ?hr2x13 ?hQ2x13 ?hy2x13 ?hS2x13 ?rest2x13
        case hi2x13 => (simp only [List.getElem?_toArray, List.getElem?_cons_succ, List.getElem?_cons_zero]; try rfl)
        case hs2x13 => kernel_rfl
        case hf2x13 => kernel_rfl
        case hr2x13 => kernel_rfl
        case hQ2x13 => exact fun _ _ _ h => h
        case hy2x13 => exact Or.inl ⟨by rfl, by (intro w hSw; (try dsimp only at hSw); go_simp)⟩
        case hS2x13 => assumption
        (try simp only [Act.put, List.setIfInBounds_toArray, List.set_cons_zero, List.set_cons_succ])
        refine' wpAnyH_take (i := 3) (v := .agg #[.int .u8 k0, .bool b0, .int .i64 n0, .string s0]) ?hi3x14 ?hs3x14 ?hf3x14 ?hr3x14 ?hQ3x14 ?hy3x14 ?hS3x14 ?rest3x14
        case hi3x14 => (simp only [List.getElem?_toArray, List.getElem?_cons_succ, List.getElem?_cons_zero]; try rfl)
        case hs3x14 => kernel_rfl
        case hf3x14 => kernel_rfl
        case hr3x14 => kernel_rfl
        case hQ3x14 => exact fun _ _ _ h => h
        case hy3x14 => exact Or.inl ⟨by rfl, by (intro w hSw; (try dsimp only at hSw); go_simp)⟩
        case hS3x14 => assumption
        (try simp only [Act.put, List.setIfInBounds_toArray, List.set_cons_zero, List.set_cons_succ])
        refine' wpAnyH_take (i := 4) (v := .slice (some bd) m.length cb) ?hi4x15 ?hs4x15 ?hf4x15 ?hr4x15 ?hQ4x15 ?hy4x15 ?hS4x15 ?rest4x15
        case hi4x15 => (simp only [List.getElem?_toArray, List.getElem?_cons_succ, List.getElem?_cons_zero]; try rfl)
        case hs4x15 => kernel_rfl
        case hf4x15 => kernel_rfl
        case hr4x15 => kernel_rfl
        case hQ4x15 => exact fun _ _ _ h => h
        case hy4x15 => exact Or.inl ⟨by rfl, by (intro w hSw; (try dsimp only at hSw); go_simp)⟩
        case hS4x15 => assumption
        (try simp only [Act.put, List.setIfInBounds_toArray, List.set_cons_zero, List.set_cons_succ])
        refine' wpAnyH_take (i := 5) (v := .int .i64 (p : Int)) ?hi5x16 ?hs5x16 ?hf5x16 ?hr5x16 ?hQ5x16 ?hy5x16 ?hS5x16 ?rest5x16
        case hi5x16 => (simp only [List.getElem?_toArray, List.getElem?_cons_succ, List.getElem?_cons_zero]; try rfl)
        case hs5x16 => kernel_rfl
        case hf5x16 => kernel_rfl
        case hr5x16 => kernel_rfl
        case hQ5x16 => exact fun _ _ _ h => h
        case hy5x16 => exact Or.inl ⟨by rfl, by (intro w hSw; (try dsimp only at hSw); go_simp)⟩
        case hS5x16 => assumption
        (try simp only [Act.put, List.setIfInBounds_toArray, List.set_cons_zero, List.set_cons_succ])
        refine' wpAnyH_take (i := 6) (v := .pointer (some (bd.add (p * 4)))) ?hi6x17 ?hs6x17 ?hf6x17 ?hr6x17 ?hQ6x17 ?hy6x17 ?hS6x17 ?rest6x17
        case hi6x17 => (simp only [List.getElem?_toArray, List.getElem?_cons_succ, List.getElem?_cons_zero]; try rfl)
        case hs6x17 => kernel_rfl
        case hf6x17 => kernel_rfl
        case hr6x17 => kernel_rfl
        case hQ6x17 => exact fun _ _ _ h => h
        case hy6x17 => exact Or.inl ⟨by rfl, by (intro w hSw; (try dsimp only at hSw); go_simp)⟩
        case hS6x17 => assumption
        (try simp only [Act.put, List.setIfInBounds_toArray, List.set_cons_zero, List.set_cons_succ])
        refine' wpAnyH_take (i := 7) (v := .agg #[.int .u8 k1, .bool b1, .int .i64 n1, .string s1]) ?hi7x18 ?hs7x18 ?hf7x18 ?hr7x18 ?hQ7x18 ?hy7x18 ?hS7x18 ?rest7x18
        case hi7x18 => (simp only [List.getElem?_toArray, List.getElem?_cons_succ, List.getElem?_cons_zero]; try rfl)
        case hs7x18 => kernel_rfl
        case hf7x18 => kernel_rfl
        case hr7x18 => kernel_rfl
        case hQ7x18 => exact fun _ _ _ h => h
        case hy7x18 => exact Or.inl ⟨by rfl, by (intro w hSw; (try dsimp only at hSw); go_simp)⟩
        case hS7x18 => assumption
        (try simp only [Act.put, List.setIfInBounds_toArray, List.set_cons_zero, List.set_cons_succ])
        refine wpAnyH_ready (rs := [8]) (by kernel_rfl) (by simp) ?_
        refine' AllReadyH.cons (i := 8) ?ho8x19 (fun K hK => ?st8x19) AllReadyH.nil
        case ho8x19 => (simp only [List.getElem?_toArray, List.getElem?_cons_succ, List.getElem?_cons_zero]; try rfl)
        go_simp
        refine (cmp_any k0 b0 n0 s0 k1 b1 n1 s1 _).mono ?_
        rw [hcS.out]
        rintro e w' ⟨rfl, hb'⟩
        refine hK.out _ _ ?_ (fun hHeld => ?_)
        · exact ⟨(hb'.cell (p := (ad.add (p * 4))) hba).trans a0_, (hb'.cell (p := ⟨(ad.add (p * 4)).block, (ad.add (p * 4)).off + 1, none⟩) hba).trans a1_, (hb'.cell (p := ⟨(ad.add (p * 4)).block, (ad.add (p * 4)).off + 2, none⟩) hba).trans a2_, (hb'.cell (p := ⟨(ad.add (p * 4)).block, (ad.add (p * 4)).off + 3, none⟩) hba).trans a3_, (hb'.cell (p := (bd.add (p * 4))) hbb).trans b0_, (hb'.cell (p := ⟨(bd.add (p * 4)).block, (bd.add (p * 4)).off + 1, none⟩) hbb).trans b1_, (hb'.cell (p := ⟨(bd.add (p * 4)).block, (bd.add (p * 4)).off + 2, none⟩) hbb).trans b2_, (hb'.cell (p := ⟨(bd.add (p * 4)).block, (bd.add (p * 4)).off + 3, none⟩) hbb).trans b3_⟩
        clear hK K
        (try simp only [Act.put, List.setIfInBounds_toArray, List.set_cons_zero, List.set_cons_succ])
        refine' wpAnyH_take (i := 9) (v := .int .i64 c) ?hi9x20 ?hs9x20 ?hf9x20 ?hr9x20 ?hQ9x20 ?hy9x20 ?hS9x20 ?rest9x20
        case hi9x20 => (simp only [List.getElem?_toArray, List.getElem?_cons_succ, List.getElem?_cons_zero]; try rfl)
        case hs9x20 => kernel_rfl
        case hf9x20 => kernel_rfl
        case hr9x20 => kernel_rfl
        case hQ9x20 => exact fun _ _ _ h => h
        case hy9x20 => exact Or.inl ⟨by rfl, by (intro w hSw; (try dsimp only at hSw); go_simp)⟩
        case hS9x20 => assumption
        (try simp only [Act.put, List.setIfInBounds_toArray, List.set_cons_zero, List.set_cons_succ])
        refine wpAnyH_done (by kernel_rfl) ?_ _
        refine NoPanic.normal ?_
        go_wp2_with fail
        go_ret
        exact ⟨ret_int (by rw [← hrH.out, hcH.out, hstH.out, if_neg c0]), hbwH.out.drew.trans (hb'.mono hsz)⟩
    · obtain ⟨z, hz⟩ : ∃ z, cmp3 (l.length : Int) (m.length : Int) = z := ⟨_, rfl⟩
      have hzr := Lib.hid (show z = r by rw [← hz, ← hrH.out, hcH.out]; exact (cmpR_end (by have := hnH.out; omega) hpl hpm).symm)
      have hzH := Lib.hid hz
      clear hz
      go_wp2_with (go_at_call 48; go_must (refine (cmpLen_any _ _ _).mono ?_; rw [hzH.out]; rintro e w' ⟨rfl, rfl⟩))
      go_ret
      exact ⟨ret_int hzr.out, hbwH.out⟩

end Go.Proofs.YtpmfbmigdpmloaaGreatDoor
end
section
/-
  What datum.Cmp and row.Cmp answer, at this program, and that no draw is taken back: of any two data, of any two rows. No condition.
-/
set_option linter.unusedVariables false
set_option linter.unusedSimpArgs false
namespace Go.Proofs.YtpmfbmigdpmloaaGreatDoor
open Go.RowKit Go.Lib

set_option maxHeartbeats 2000000 in
theorem cmpD_any (ka : Int) (ba : Bool) (na : Int) (sa : ByteArray) (kb : Int) (bb : Bool) (nb : Int) (sb : ByteArray) (w : World) :
    Calls Tryz.prog 47 #[.agg #[.int .u8 ka, .bool ba, .int .i64 na, .string sa], .agg #[.int .u8 kb, .bool bb, .int .i64 nb, .string sb]] w
      fun e w' => e = .returned (.int .i64 (cmpS ⟨ka, ba, na, sa⟩ ⟨kb, bb, nb, sb⟩)) ∧ Rose w.heap.size w w' := by
  by_cases h : ka = kb
  · subst h
    by_cases h2 : ka = 2
    · subst h2
      have hr := Lib.hid (show cmpS ⟨2, ba, na, sa⟩ ⟨2, bb, nb, sb⟩ = cmpB ba bb from rfl)
      go_enter Tryz.func47, Tryz.ntmps47
      go_wp2_with fail
      refine (cmpBool_any ba bb _).mono ?_
      rintro e w1 ⟨rfl, rfl⟩
      go_wp2
      go_ret
      exact ⟨ret_int hr.out.symm, ⟨by go_grown, by simp⟩⟩
    · by_cases h3 : ka = 3
      · subst h3
        have hr := Lib.hid (show cmpS ⟨3, ba, na, sa⟩ ⟨3, bb, nb, sb⟩ = cmp3 na nb from rfl)
        go_enter Tryz.func47, Tryz.ntmps47
        go_wp2_with fail
        refine (cmpInt_any na nb _).mono ?_
        rintro e w1 ⟨rfl, rfl⟩
        go_wp2
        go_ret
        exact ⟨ret_int hr.out.symm, ⟨by go_grown, by simp⟩⟩
      · by_cases h4 : ka = 4
        · subst h4
          have hr := Lib.hid (show cmpS ⟨4, ba, na, sa⟩ ⟨4, bb, nb, sb⟩ = compareBytes sa.data.toList sb.data.toList from rfl)
          go_enter Tryz.func47, Tryz.ntmps47
          go_wp2_with fail
          refine (Tryz.strings_Compare sa sb _).mono ?_
          rintro e w1 ⟨rfl, rfl⟩
          go_wp2
          go_ret
          exact ⟨ret_int hr.out.symm, ⟨by go_grown, by simp⟩⟩
        · have hr := Lib.hid (show cmpS ⟨ka, ba, na, sa⟩ ⟨ka, bb, nb, sb⟩ = 0 by simp [cmpS, h2, h3, h4])
          have g2 : (ka == 2) = false := by simpa using h2
          have g3 : (ka == 3) = false := by simpa using h3
          have g4 : (ka == 4) = false := by simpa using h4
          clear h2 h3 h4
          go_enter Tryz.func47, Tryz.ntmps47
          go_wp2
          go_ret
          exact ⟨ret_int hr.out.symm, ⟨by go_grown, by simp⟩⟩
  · have hr := Lib.hid (show cmpS ⟨ka, ba, na, sa⟩ ⟨kb, bb, nb, sb⟩ = cmp3 ka kb by simp [cmpS, h])
    have g : (ka != kb) = true := by simpa using h
    clear h
    go_enter Tryz.func47, Tryz.ntmps47
    go_wp2_with fail
    refine (cmpKind_any ka kb _).mono ?_
    rintro e w1 ⟨rfl, rfl⟩
    go_wp2
    go_ret
    exact ⟨ret_int hr.out.symm, ⟨by go_grown, by simp⟩⟩
/-- What the rounds hold. -/
def RelCD (l m : List Dat) (w0 : World) (i : Value) (wr : World) : Prop :=
  ∃ p : Nat, i = .int .i64 (p : Int) ∧ p ≤ l.length ∧ p ≤ m.length ∧ cmpR l m = cmpR (l.drop p) (m.drop p) ∧ Rose w0.heap.size w0 wr
set_option maxHeartbeats 8000000 in
set_option maxRecDepth 1000000 in
theorem rowCmpD_any (va vb : Value) (l m : List Dat) (w : World) (ha : RowV w va l) (hb : RowV w vb m) :
    Calls Tryz.prog 27 #[va, vb] w fun e w' => e = .returned (.int .i64 (cmpR l m)) ∧ Rose w.heap.size w w' := by
  obtain ⟨A, ca, rfl, hla⟩ := ha.form
  obtain ⟨B, cb, rfl, hlb⟩ := hb.form
  have haH := Lib.hid ha; have hbH := Lib.hid hb
  clear ha hb
  obtain ⟨r, hr⟩ : ∃ r, cmpR l m = r := ⟨_, rfl⟩
  rw [hr]
  have hrH := Lib.hid hr
  clear hr
  obtain ⟨n, hn⟩ : ∃ n, min l.length m.length = n := ⟨_, rfl⟩
  have hmi : min (l.length : Int) (m.length : Int) = (n : Int) := by omega
  have hnl : n ≤ l.length := by omega
  have hnm : n ≤ m.length := by omega
  have hnH := Lib.hid (show l.length = n ∨ m.length = n by omega)
  clear hn
  go_enter Tryz.func27, Tryz.ntmps27
  go_wp2_with fail
  go_loopw [12] (fun i wr => RelCD l m w i wr) (fun i _ => n - (Go.RowKit.intOf i).toNat)
  case atStart => exact ⟨0, rfl, Nat.zero_le _, Nat.zero_le _, rfl, Rose.refl _ _⟩
  case round =>
    unfold RelCD at hrel
    obtain ⟨p, rfl, hpl, hpm, hcmp, hbw⟩ := hrel
    have hcH := Lib.hid hcmp; have hbwH := Lib.hid hbw
    have hsz := hbw.size
    clear hcmp hbw
    by_cases hp : p < n
    · have h1 : p < l.length := by omega
      have h2 : p < m.length := by omega
      obtain ⟨x, hx⟩ : ∃ x, l[p] = x := ⟨_, rfl⟩
      obtain ⟨y, hy⟩ : ∃ y, m[p] = y := ⟨_, rfl⟩
      obtain ⟨ad, rfl, hba, a0_, a1_, a2_, a3_⟩ := (haH.out.below hbwH.out.toBelow).at h1
      obtain ⟨bd, rfl, hbb, b0_, b1_, b2_, b3_⟩ := (hbH.out.below hbwH.out.toBelow).at h2
      have hstep := cmpR_at h1 h2
      rw [hx] at a0_ a1_ a2_ a3_ hstep
      rw [hy] at b0_ b1_ b2_ b3_ hstep
      obtain ⟨k0, b0, n0, s0⟩ := x
      obtain ⟨k1, b1, n1, s1⟩ := y
      simp only at a0_ a1_ a2_ a3_ b0_ b1_ b2_ b3_
      obtain ⟨c, hc⟩ : ∃ c, cmpS ⟨k0, b0, n0, s0⟩ ⟨k1, b1, n1, s1⟩ = c := ⟨_, rfl⟩
      rw [hc] at hstep
      have hcS := Lib.hid hc
      have hstH := Lib.hid hstep
      clear hc hstep hx hy
      by_cases c0 : c = 0
      · have g : (c != 0) = false := by simp [c0]
        go_wp2_with fail
        refine wp_region_noPanic ?_
        refine wp_region_held_drew (S := (fun w' => w'.cell? (ad.add (p * 4)) = some (.int .u8 k0) ∧ w'.cell? ⟨(ad.add (p * 4)).block, (ad.add (p * 4)).off + 1, none⟩ = some (.bool b0) ∧ w'.cell? ⟨(ad.add (p * 4)).block, (ad.add (p * 4)).off + 2, none⟩ = some (.int .i64 n0) ∧ w'.cell? ⟨(ad.add (p * 4)).block, (ad.add (p * 4)).off + 3, none⟩ = some (.string s0) ∧ w'.cell? (bd.add (p * 4)) = some (.int .u8 k1) ∧ w'.cell? ⟨(bd.add (p * 4)).block, (bd.add (p * 4)).off + 1, none⟩ = some (.bool b1) ∧ w'.cell? ⟨(bd.add (p * 4)).block, (bd.add (p * 4)).off + 2, none⟩ = some (.int .i64 n1) ∧ w'.cell? ⟨(bd.add (p * 4)).block, (bd.add (p * 4)).off + 3, none⟩ = some (.string s1))) (by kernel_rfl) ⟨a0_, a1_, a2_, a3_, b0_, b1_, b2_, b3_⟩ (fun hHeld => ?_)
        refine' wpAnyH_take (i := 0) (v := .slice (some ad) l.length ca) ?hi0x1 ?hs0x1 ?hf0x1 ?hr0x1 ?hQ0x1 ?hy0x1 ?hS0x1 ?rest0x1
        case hi0x1 => (simp only [List.getElem?_toArray, List.getElem?_cons_succ, List.getElem?_cons_zero]; try rfl)
        case hs0x1 => kernel_rfl
        case hf0x1 => kernel_rfl
        case hr0x1 => kernel_rfl
        case hQ0x1 => exact fun _ _ _ h => h
        case hy0x1 => exact Or.inl ⟨by rfl, by (intro w hSw; (try dsimp only at hSw); go_simp)⟩
        case hS0x1 => assumption
        (try simp only [Act.put, List.setIfInBounds_toArray, List.set_cons_zero, List.set_cons_succ])
        refine' wpAnyH_take (i := 1) (v := .int .i64 (p : Int)) ?hi1x2 ?hs1x2 ?hf1x2 ?hr1x2 ?hQ1x2 ?hy1x2 ?hS1x2 ?rest1x2
        case hi1x2 => (simp only [List.getElem?_toArray, List.getElem?_cons_succ, List.getElem?_cons_zero]; try rfl)
        case hs1x2 => kernel_rfl
        case hf1x2 => kernel_rfl
        case hr1x2 => kernel_rfl
        case hQ1x2 => exact fun _ _ _ h => h
        case hy1x2 => exact Or.inl ⟨by rfl, by (intro w hSw; (try dsimp only at hSw); go_simp)⟩
        case hS1x2 => assumption
        (try simp only [Act.put, List.setIfInBounds_toArray, List.set_cons_zero, List.set_cons_succ])
        refine' wpAnyH_take (i := 2) (v := .pointer (some (ad.add (p * 4)))) ?hi2x3 ?hs2x3 ?hf2x3 ?hr2x3 ?hQ2x3 ?hy2x3 ?hS2x3 ?rest2x3
        case hi2x3 => (simp only [List.getElem?_toArray, List.getElem?_cons_succ, List.getElem?_cons_zero]; try rfl)
        case hs2x3 => kernel_rfl
        case hf2x3 => kernel_rfl
        case hr2x3 => kernel_rfl
        case hQ2x3 => exact fun _ _ _ h => h
        case hy2x3 => exact Or.inl ⟨by rfl, by (intro w hSw; (try dsimp only at hSw); go_simp)⟩
        case hS2x3 => assumption
        (try simp only [Act.put, List.setIfInBounds_toArray, List.set_cons_zero, List.set_cons_succ])
        refine' wpAnyH_take (i := 3) (v := .agg #[.int .u8 k0, .bool b0, .int .i64 n0, .string s0]) ?hi3x4 ?hs3x4 ?hf3x4 ?hr3x4 ?hQ3x4 ?hy3x4 ?hS3x4 ?rest3x4
        case hi3x4 => (simp only [List.getElem?_toArray, List.getElem?_cons_succ, List.getElem?_cons_zero]; try rfl)
        case hs3x4 => kernel_rfl
        case hf3x4 => kernel_rfl
        case hr3x4 => kernel_rfl
        case hQ3x4 => exact fun _ _ _ h => h
        case hy3x4 => exact Or.inl ⟨by rfl, by (intro w hSw; (try dsimp only at hSw); go_simp)⟩
        case hS3x4 => assumption
        (try simp only [Act.put, List.setIfInBounds_toArray, List.set_cons_zero, List.set_cons_succ])
        refine' wpAnyH_take (i := 4) (v := .slice (some bd) m.length cb) ?hi4x5 ?hs4x5 ?hf4x5 ?hr4x5 ?hQ4x5 ?hy4x5 ?hS4x5 ?rest4x5
        case hi4x5 => (simp only [List.getElem?_toArray, List.getElem?_cons_succ, List.getElem?_cons_zero]; try rfl)
        case hs4x5 => kernel_rfl
        case hf4x5 => kernel_rfl
        case hr4x5 => kernel_rfl
        case hQ4x5 => exact fun _ _ _ h => h
        case hy4x5 => exact Or.inl ⟨by rfl, by (intro w hSw; (try dsimp only at hSw); go_simp)⟩
        case hS4x5 => assumption
        (try simp only [Act.put, List.setIfInBounds_toArray, List.set_cons_zero, List.set_cons_succ])
        refine' wpAnyH_take (i := 5) (v := .int .i64 (p : Int)) ?hi5x6 ?hs5x6 ?hf5x6 ?hr5x6 ?hQ5x6 ?hy5x6 ?hS5x6 ?rest5x6
        case hi5x6 => (simp only [List.getElem?_toArray, List.getElem?_cons_succ, List.getElem?_cons_zero]; try rfl)
        case hs5x6 => kernel_rfl
        case hf5x6 => kernel_rfl
        case hr5x6 => kernel_rfl
        case hQ5x6 => exact fun _ _ _ h => h
        case hy5x6 => exact Or.inl ⟨by rfl, by (intro w hSw; (try dsimp only at hSw); go_simp)⟩
        case hS5x6 => assumption
        (try simp only [Act.put, List.setIfInBounds_toArray, List.set_cons_zero, List.set_cons_succ])
        refine' wpAnyH_take (i := 6) (v := .pointer (some (bd.add (p * 4)))) ?hi6x7 ?hs6x7 ?hf6x7 ?hr6x7 ?hQ6x7 ?hy6x7 ?hS6x7 ?rest6x7
        case hi6x7 => (simp only [List.getElem?_toArray, List.getElem?_cons_succ, List.getElem?_cons_zero]; try rfl)
        case hs6x7 => kernel_rfl
        case hf6x7 => kernel_rfl
        case hr6x7 => kernel_rfl
        case hQ6x7 => exact fun _ _ _ h => h
        case hy6x7 => exact Or.inl ⟨by rfl, by (intro w hSw; (try dsimp only at hSw); go_simp)⟩
        case hS6x7 => assumption
        (try simp only [Act.put, List.setIfInBounds_toArray, List.set_cons_zero, List.set_cons_succ])
        refine' wpAnyH_take (i := 7) (v := .agg #[.int .u8 k1, .bool b1, .int .i64 n1, .string s1]) ?hi7x8 ?hs7x8 ?hf7x8 ?hr7x8 ?hQ7x8 ?hy7x8 ?hS7x8 ?rest7x8
        case hi7x8 => (simp only [List.getElem?_toArray, List.getElem?_cons_succ, List.getElem?_cons_zero]; try rfl)
        case hs7x8 => kernel_rfl
        case hf7x8 => kernel_rfl
        case hr7x8 => kernel_rfl
        case hQ7x8 => exact fun _ _ _ h => h
        case hy7x8 => exact Or.inl ⟨by rfl, by (intro w hSw; (try dsimp only at hSw); go_simp)⟩
        case hS7x8 => assumption
        (try simp only [Act.put, List.setIfInBounds_toArray, List.set_cons_zero, List.set_cons_succ])
        refine wpAnyH_ready (rs := [8]) (by kernel_rfl) (by simp) ?_
        refine' AllReadyH.cons (i := 8) ?ho8x9 (fun K hK => ?st8x9) AllReadyH.nil
        case ho8x9 => (simp only [List.getElem?_toArray, List.getElem?_cons_succ, List.getElem?_cons_zero]; try rfl)
        go_simp
        refine (cmpD_any k0 b0 n0 s0 k1 b1 n1 s1 _).mono ?_
        rw [hcS.out]
        rintro e w' ⟨rfl, hb'⟩
        refine hK.out _ _ ?_ (fun hHeld => ?_)
        · exact ⟨(hb'.cell (p := (ad.add (p * 4))) hba).trans a0_, (hb'.cell (p := ⟨(ad.add (p * 4)).block, (ad.add (p * 4)).off + 1, none⟩) hba).trans a1_, (hb'.cell (p := ⟨(ad.add (p * 4)).block, (ad.add (p * 4)).off + 2, none⟩) hba).trans a2_, (hb'.cell (p := ⟨(ad.add (p * 4)).block, (ad.add (p * 4)).off + 3, none⟩) hba).trans a3_, (hb'.cell (p := (bd.add (p * 4))) hbb).trans b0_, (hb'.cell (p := ⟨(bd.add (p * 4)).block, (bd.add (p * 4)).off + 1, none⟩) hbb).trans b1_, (hb'.cell (p := ⟨(bd.add (p * 4)).block, (bd.add (p * 4)).off + 2, none⟩) hbb).trans b2_, (hb'.cell (p := ⟨(bd.add (p * 4)).block, (bd.add (p * 4)).off + 3, none⟩) hbb).trans b3_⟩
        clear hK K
        (try simp only [Act.put, List.setIfInBounds_toArray, List.set_cons_zero, List.set_cons_succ])
        refine' wpAnyH_take (i := 9) (v := .int .i64 c) ?hi9x10 ?hs9x10 ?hf9x10 ?hr9x10 ?hQ9x10 ?hy9x10 ?hS9x10 ?rest9x10
        case hi9x10 => (simp only [List.getElem?_toArray, List.getElem?_cons_succ, List.getElem?_cons_zero]; try rfl)
        case hs9x10 => kernel_rfl
        case hf9x10 => kernel_rfl
        case hr9x10 => kernel_rfl
        case hQ9x10 => exact fun _ _ _ h => h
        case hy9x10 => exact Or.inl ⟨by rfl, by (intro w hSw; (try dsimp only at hSw); go_simp)⟩
        case hS9x10 => assumption
        (try simp only [Act.put, List.setIfInBounds_toArray, List.set_cons_zero, List.set_cons_succ])
        refine wpAnyH_done (by kernel_rfl) ?_ _
        refine NoPanic.normal ?_
        trace_state
        go_wp2_with fail
        go_roundw
        case rel => exact ⟨p + 1, by go_num, by omega, by omega, by rw [hcH.out, hstH.out, if_pos c0], hbwH.out.drew.trans (hb'.mono hsz)⟩
        case measure => simp [Go.RowKit.intOf]; omega
      · have g : (c != 0) = true := by simpa using c0
        go_wp2_with fail
        refine wp_region_noPanic ?_
        refine wp_region_held_drew (S := (fun w' => w'.cell? (ad.add (p * 4)) = some (.int .u8 k0) ∧ w'.cell? ⟨(ad.add (p * 4)).block, (ad.add (p * 4)).off + 1, none⟩ = some (.bool b0) ∧ w'.cell? ⟨(ad.add (p * 4)).block, (ad.add (p * 4)).off + 2, none⟩ = some (.int .i64 n0) ∧ w'.cell? ⟨(ad.add (p * 4)).block, (ad.add (p * 4)).off + 3, none⟩ = some (.string s0) ∧ w'.cell? (bd.add (p * 4)) = some (.int .u8 k1) ∧ w'.cell? ⟨(bd.add (p * 4)).block, (bd.add (p * 4)).off + 1, none⟩ = some (.bool b1) ∧ w'.cell? ⟨(bd.add (p * 4)).block, (bd.add (p * 4)).off + 2, none⟩ = some (.int .i64 n1) ∧ w'.cell? ⟨(bd.add (p * 4)).block, (bd.add (p * 4)).off + 3, none⟩ = some (.string s1))) (by kernel_rfl) ⟨a0_, a1_, a2_, a3_, b0_, b1_, b2_, b3_⟩ (fun hHeld => ?_)
        refine' wpAnyH_take (i := 0) (v := .slice (some ad) l.length ca) ?hi0x11 ?hs0x11 ?hf0x11 ?hr0x11 ?hQ0x11 ?hy0x11 ?hS0x11 ?rest0x11
        case hi0x11 => (simp only [List.getElem?_toArray, List.getElem?_cons_succ, List.getElem?_cons_zero]; try rfl)
        case hs0x11 => kernel_rfl
        case hf0x11 => kernel_rfl
        case hr0x11 => kernel_rfl
        case hQ0x11 => exact fun _ _ _ h => h
        case hy0x11 => exact Or.inl ⟨by rfl, by (intro w hSw; (try dsimp only at hSw); go_simp)⟩
        case hS0x11 => assumption
        (try simp only [Act.put, List.setIfInBounds_toArray, List.set_cons_zero, List.set_cons_succ])
        refine' wpAnyH_take (i := 1) (v := .int .i64 (p : Int)) ?hi1x12 ?hs1x12 ?hf1x12 ?hr1x12 ?hQ1x12 ?hy1x12 ?hS1x12 ?rest1x12
        case hi1x12 => (simp only [List.getElem?_toArray, List.getElem?_cons_succ, List.getElem?_cons_zero]; try rfl)
        case hs1x12 => kernel_rfl
        case hf1x12 => kernel_rfl
        case hr1x12 => kernel_rfl
        case hQ1x12 => exact fun _ _ _ h => h
        case hy1x12 => exact Or.inl ⟨by rfl, by (intro w hSw; (try dsimp only at hSw); go_simp)⟩
        case hS1x12 => assumption
        (try simp only [Act.put, List.setIfInBounds_toArray, List.set_cons_zero, List.set_cons_succ])
        refine' wpAnyH_take (i := 2) (v := .pointer (some (ad.add (p * 4)))) ?hi2x13 ?hs2x13 ?hf2x13 ?hr2x13 ?hQ2x13 ?hy2x13 ?hS2x13 ?rest2x13
        case hi2x13 => (simp only [List.getElem?_toArray, List.getElem?_cons_succ, List.getElem?_cons_zero]; try rfl)
        case hs2x13 => kernel_rfl
        case hf2x13 => kernel_rfl
        case hr2x13 => kernel_rfl
        case hQ2x13 => exact fun _ _ _ h => h
        case hy2x13 => exact Or.inl ⟨by rfl, by (intro w hSw; (try dsimp only at hSw); go_simp)⟩
        case hS2x13 => assumption
        (try simp only [Act.put, List.setIfInBounds_toArray, List.set_cons_zero, List.set_cons_succ])
        refine' wpAnyH_take (i := 3) (v := .agg #[.int .u8 k0, .bool b0, .int .i64 n0, .string s0]) ?hi3x14 ?hs3x14 ?hf3x14 ?hr3x14 ?hQ3x14 ?hy3x14 ?hS3x14 ?rest3x14
        case hi3x14 => (simp only [List.getElem?_toArray, List.getElem?_cons_succ, List.getElem?_cons_zero]; try rfl)
        case hs3x14 => kernel_rfl
        case hf3x14 => kernel_rfl
        case hr3x14 => kernel_rfl
        case hQ3x14 => exact fun _ _ _ h => h
        case hy3x14 => exact Or.inl ⟨by rfl, by (intro w hSw; (try dsimp only at hSw); go_simp)⟩
        case hS3x14 => assumption
        (try simp only [Act.put, List.setIfInBounds_toArray, List.set_cons_zero, List.set_cons_succ])
        refine' wpAnyH_take (i := 4) (v := .slice (some bd) m.length cb) ?hi4x15 ?hs4x15 ?hf4x15 ?hr4x15 ?hQ4x15 ?hy4x15 ?hS4x15 ?rest4x15
        case hi4x15 => (simp only [List.getElem?_toArray, List.getElem?_cons_succ, List.getElem?_cons_zero]; try rfl)
        case hs4x15 => kernel_rfl
        case hf4x15 => kernel_rfl
        case hr4x15 => kernel_rfl
        case hQ4x15 => exact fun _ _ _ h => h
        case hy4x15 => exact Or.inl ⟨by rfl, by (intro w hSw; (try dsimp only at hSw); go_simp)⟩
        case hS4x15 => assumption
        (try simp only [Act.put, List.setIfInBounds_toArray, List.set_cons_zero, List.set_cons_succ])
        refine' wpAnyH_take (i := 5) (v := .int .i64 (p : Int)) ?hi5x16 ?hs5x16 ?hf5x16 ?hr5x16 ?hQ5x16 ?hy5x16 ?hS5x16 ?rest5x16
        case hi5x16 => (simp only [List.getElem?_toArray, List.getElem?_cons_succ, List.getElem?_cons_zero]; try rfl)
        case hs5x16 => kernel_rfl
        case hf5x16 => kernel_rfl
        case hr5x16 => kernel_rfl
        case hQ5x16 => exact fun _ _ _ h => h
        case hy5x16 => exact Or.inl ⟨by rfl, by (intro w hSw; (try dsimp only at hSw); go_simp)⟩
        case hS5x16 => assumption
        (try simp only [Act.put, List.setIfInBounds_toArray, List.set_cons_zero, List.set_cons_succ])
        refine' wpAnyH_take (i := 6) (v := .pointer (some (bd.add (p * 4)))) ?hi6x17 ?hs6x17 ?hf6x17 ?hr6x17 ?hQ6x17 ?hy6x17 ?hS6x17 ?rest6x17
        case hi6x17 => (simp only [List.getElem?_toArray, List.getElem?_cons_succ, List.getElem?_cons_zero]; try rfl)
        case hs6x17 => kernel_rfl
        case hf6x17 => kernel_rfl
        case hr6x17 => kernel_rfl
        case hQ6x17 => exact fun _ _ _ h => h
        case hy6x17 => exact Or.inl ⟨by rfl, by (intro w hSw; (try dsimp only at hSw); go_simp)⟩
        case hS6x17 => assumption
        (try simp only [Act.put, List.setIfInBounds_toArray, List.set_cons_zero, List.set_cons_succ])
        refine' wpAnyH_take (i := 7) (v := .agg #[.int .u8 k1, .bool b1, .int .i64 n1, .string s1]) ?hi7x18 ?hs7x18 ?hf7x18 ?hr7x18 ?hQ7x18 ?hy7x18 ?hS7x18 ?rest7x18
        case hi7x18 => (simp only [List.getElem?_toArray, List.getElem?_cons_succ, List.getElem?_cons_zero]; try rfl)
        case hs7x18 => kernel_rfl
        case hf7x18 => kernel_rfl
        case hr7x18 => kernel_rfl
        case hQ7x18 => exact fun _ _ _ h => h
        case hy7x18 => exact Or.inl ⟨by rfl, by (intro w hSw; (try dsimp only at hSw); go_simp)⟩
        case hS7x18 => assumption
        (try simp only [Act.put, List.setIfInBounds_toArray, List.set_cons_zero, List.set_cons_succ])
        refine wpAnyH_ready (rs := [8]) (by kernel_rfl) (by simp) ?_
        refine' AllReadyH.cons (i := 8) ?ho8x19 (fun K hK => ?st8x19) AllReadyH.nil
        case ho8x19 => (simp only [List.getElem?_toArray, List.getElem?_cons_succ, List.getElem?_cons_zero]; try rfl)
        go_simp
        refine (cmpD_any k0 b0 n0 s0 k1 b1 n1 s1 _).mono ?_
        rw [hcS.out]
        rintro e w' ⟨rfl, hb'⟩
        refine hK.out _ _ ?_ (fun hHeld => ?_)
        · exact ⟨(hb'.cell (p := (ad.add (p * 4))) hba).trans a0_, (hb'.cell (p := ⟨(ad.add (p * 4)).block, (ad.add (p * 4)).off + 1, none⟩) hba).trans a1_, (hb'.cell (p := ⟨(ad.add (p * 4)).block, (ad.add (p * 4)).off + 2, none⟩) hba).trans a2_, (hb'.cell (p := ⟨(ad.add (p * 4)).block, (ad.add (p * 4)).off + 3, none⟩) hba).trans a3_, (hb'.cell (p := (bd.add (p * 4))) hbb).trans b0_, (hb'.cell (p := ⟨(bd.add (p * 4)).block, (bd.add (p * 4)).off + 1, none⟩) hbb).trans b1_, (hb'.cell (p := ⟨(bd.add (p * 4)).block, (bd.add (p * 4)).off + 2, none⟩) hbb).trans b2_, (hb'.cell (p := ⟨(bd.add (p * 4)).block, (bd.add (p * 4)).off + 3, none⟩) hbb).trans b3_⟩
        clear hK K
        (try simp only [Act.put, List.setIfInBounds_toArray, List.set_cons_zero, List.set_cons_succ])
        refine' wpAnyH_take (i := 9) (v := .int .i64 c) ?hi9x20 ?hs9x20 ?hf9x20 ?hr9x20 ?hQ9x20 ?hy9x20 ?hS9x20 ?rest9x20
        case hi9x20 => (simp only [List.getElem?_toArray, List.getElem?_cons_succ, List.getElem?_cons_zero]; try rfl)
        case hs9x20 => kernel_rfl
        case hf9x20 => kernel_rfl
        case hr9x20 => kernel_rfl
        case hQ9x20 => exact fun _ _ _ h => h
        case hy9x20 => exact Or.inl ⟨by rfl, by (intro w hSw; (try dsimp only at hSw); go_simp)⟩
        case hS9x20 => assumption
        (try simp only [Act.put, List.setIfInBounds_toArray, List.set_cons_zero, List.set_cons_succ])
        refine wpAnyH_done (by kernel_rfl) ?_ _
        refine NoPanic.normal ?_
        go_wp2_with fail
        go_ret
        exact ⟨ret_int (by rw [← hrH.out, hcH.out, hstH.out, if_neg c0]), hbwH.out.drew.trans (hb'.mono hsz)⟩
    · obtain ⟨z, hz⟩ : ∃ z, cmp3 (l.length : Int) (m.length : Int) = z := ⟨_, rfl⟩
      have hzr := Lib.hid (show z = r by rw [← hz, ← hrH.out, hcH.out]; exact (cmpR_end (by have := hnH.out; omega) hpl hpm).symm)
      have hzH := Lib.hid hz
      clear hz
      go_wp2_with (go_at_call 48; go_must (refine (cmpLen_any _ _ _).mono ?_; rw [hzH.out]; rintro e w' ⟨rfl, rfl⟩))
      go_ret
      exact ⟨ret_int hzr.out, hbwH.out⟩

end Go.Proofs.YtpmfbmigdpmloaaGreatDoor
end
section
/-
  The two function values of row.Sum, at this program: whether a count is 0; the order of the rows of two counted ones. No condition.
-/
set_option linter.unusedVariables false
set_option linter.unusedSimpArgs false
namespace Go.Proofs.YtpmfbmigdpmloaaGreatDoor
open Go.RowKit Go.Lib

set_option maxHeartbeats 2000000 in
theorem sumZero_any (A : Option Addr) (k c : Nat) (n : Int) (w : World) :
    Calls Tryz.prog 64 #[.agg #[.slice A k c, .int .i64 n]] w fun e w' => e = .returned (.bool (n == 0)) ∧ Below w.heap.size w w' := by
  go_enter Tryz.func64, Tryz.ntmps64
  go_wp2
  go_ret
  exact ⟨rfl, by go_grown⟩
set_option maxHeartbeats 2000000 in
theorem sumCmp_any (A : Option Addr) (k c : Nat) (n : Int) (B : Option Addr) (k' c' : Nat) (n' : Int) (l m : List Dat) (w : World) (ha : RowV w (.slice A k c) l) (hb : RowV w (.slice B k' c') m) :
    Calls Tryz.prog 66 #[.agg #[.slice A k c, .int .i64 n], .agg #[.slice B k' c', .int .i64 n']] w fun e w' => e = .returned (.int .i64 (cmpR l m)) ∧ Rose w.heap.size w w' := by
  have haH := Lib.hid ha; have hbH := Lib.hid hb
  clear ha hb
  obtain ⟨r, hr⟩ : ∃ r, cmpR l m = r := ⟨_, rfl⟩
  rw [hr]
  have hrH := Lib.hid hr
  clear hr
  go_enter Tryz.func66, Tryz.ntmps66
  go_wp2_with fail
  refine (rowCmpD_any _ _ l m _ (haH.out.below (by go_grown)) (hbH.out.below (by go_grown))).mono ?_
  rw [hrH.out]
  rintro e w' ⟨rfl, hb'⟩
  go_wp2
  go_ret
  exact ⟨rfl, (((Rose.refl _ _).alloc (Nat.le_refl _) _).alloc (by simp) _).trans (hb'.mono (by simp; omega))⟩
end Go.Proofs.YtpmfbmigdpmloaaGreatDoor
end
section
/-
  The library's DeleteFunc at counted rows, at this program: those of count 0 go, in place. Conditions: those written.
-/
set_option linter.unusedVariables false
set_option linter.unusedSimpArgs false
namespace Go.Proofs.YtpmfbmigdpmloaaGreatDoor
open Go.RowKit Go.Lib Go.Proofs Go.Shelf

/-- What the rounds hold: of the first j ones those that are kept lie in front; from j on nothing has turned. -/
def RelD (g cap : Nat) (xs : List Cv) (w0 : World) (s5 s6 : Value) (wr : World) : Prop :=
  ∃ (i j : Nat) (ys : List Cv), s5 = .int .i64 (i : Int) ∧ s6 = .int .i64 (j : Int) ∧ i < j ∧ j ≤ xs.length ∧ ys.length = xs.length ∧ ys.take i = (xs.take j).filter keepV ∧ (∀ t, j ≤ t → ys[t]? = xs[t]?) ∧ OwnC g cap ys wr ∧ w0.grownBy wr (some g)
theorem idx_split : ∀ (xs : List Cv) (i : Nat), (Lib.idxByFrom (fun _ y => !keepV y) default xs i = -1 ∧ xs.filter keepV = xs) ∨
    ∃ k, k < xs.length ∧ Lib.idxByFrom (fun _ y => !keepV y) default xs i = ((i + k : Nat) : Int) ∧ (xs.take (k + 1)).filter keepV = xs.take k
  | [], _ => .inl ⟨rfl, rfl⟩
  | x :: r, i => by
    cases hx : keepV x with
    | false => exact .inr ⟨0, by simp, by simp [Lib.idxByFrom, hx], by simp [hx]⟩
    | true =>
      rcases idx_split r (i + 1) with ⟨h1, h2⟩ | ⟨k, h1, h2, h3⟩
      · refine .inl ⟨by simp only [Lib.idxByFrom, hx]; simpa using h1, by simp [hx, h2]⟩
      · refine .inr ⟨k + 1, by simpa using h1, ?_, by simp [hx, h3]⟩
        simp only [Lib.idxByFrom, hx]
        rw [show i + (k + 1) = i + 1 + k by omega]
        simpa using h2
theorem idxBy_none {xs : List Cv} (h : Lib.idxBy (fun _ y => !keepV y) xs default = -1) : xs.filter keepV = xs := by
  rcases idx_split xs 0 with ⟨_, h2⟩ | ⟨k, _, h2, _⟩
  · exact h2
  · unfold Lib.idxBy at h
    rw [h] at h2
    omega
theorem idxBy_some {xs : List Cv} {k : Int} (h : Lib.idxBy (fun _ y => !keepV y) xs default = k) (hk : k ≠ -1) : ∃ i : Nat, k = (i : Int) ∧ i < xs.length ∧ (xs.take (i + 1)).filter keepV = xs.take i := by
  unfold Lib.idxBy at h
  rcases idx_split xs 0 with ⟨h2, _⟩ | ⟨i, h1, h2, h3⟩
  · rw [h] at h2
    exact absurd h2 hk
  · rw [h] at h2
    exact ⟨i, by rw [h2, Nat.zero_add], h1, h3⟩
theorem rel_skip {xs ys : List Cv} {i j : Nat} {x : Cv} (h : ys.take i = (xs.take j).filter keepV) (hx : xs[j]? = some x) (hk : keepV x = false) : ys.take i = (xs.take (j + 1)).filter keepV := by
  obtain ⟨hj, rfl⟩ := List.getElem?_eq_some_iff.1 hx
  rw [List.take_succ_eq_append_getElem hj, List.filter_append, ← h]
  simp [hk]
theorem rel_keep {xs ys : List Cv} {i j : Nat} {x : Cv} (hi : i < ys.length) (h : ys.take i = (xs.take j).filter keepV) (hx : xs[j]? = some x) (hk : keepV x = true) : (ys.set i x).take (i + 1) = (xs.take (j + 1)).filter keepV := by
  obtain ⟨hj, rfl⟩ := List.getElem?_eq_some_iff.1 hx
  rw [List.take_succ_eq_append_getElem hj, List.filter_append, ← h, List.take_succ_eq_append_getElem (by simpa using hi)]
  rw [List.take_set, List.set_eq_of_length_le (by rw [List.length_take]; omega)]
  simp [hk]
set_option maxHeartbeats 4000000 in
set_option maxRecDepth 1000000 in
theorem deleteC_any (g cap : Nat) (xs : List Cv) (w : World) (h : OwnC g cap xs w) (hn : xs.length ≤ 1099511627776) :
    Calls Tryz.prog 63 #[.slice (some ⟨g, 0, none⟩) xs.length cap, .func (.func 64) #[] #[]] w fun e w' =>
      e = .returned (.slice (some ⟨g, 0, none⟩) (xs.filter keepV).length cap) ∧ OwnC g cap (xs.filter keepV) w' ∧ w.grownBy w' (some g) := by
  have eg : ∀ args w, (callFunc 64 args).run Tryz.prog w = .ok (.enter 64 args) w := enters_of Tryz.func64 (by kernel_rfl) rfl
  have hI := AnyQ.slices_IndexFunc Tryz.idxC 2 (fun _ => by kernel_rfl) (fun _ => by kernel_rfl) cellsV cellsV_len (fun y => !keepV y) 64 #[] eg g 0 xs.length cap xs w
    (fun W x hb => (sumZero_any x.A x.k x.c x.n W).mono fun e w' ⟨he, hb'⟩ => ⟨by rw [he]; simp [keepV], hb.trans (hb'.mono hb.size)⟩) (Nat.le_refl _) (by omega) h.lt
    (fun j hj i v hv => by
      have := OwnL.cell h (i := j) (j := i) (x := cellsV xs[j]!) (v := v) (by rw [List.getElem?_map, List.getElem?_eq_getElem hj, getElem!_pos xs j hj]; rfl) hv
      simpa [Nat.zero_add] using this)
  rw [List.take_length] at hI
  change Calls Tryz.prog 93 _ _ _ at hI
  obtain ⟨q, hq⟩ : ∃ q, Lib.idxBy (fun _ y => !keepV y) xs default = q := ⟨_, rfl⟩
  rw [hq] at hI
  have hIH := Lib.hid hI; have hqH := Lib.hid hq; have hH := Lib.hid h
  have hcap := Lib.hid h.len
  clear hI hq h
  by_cases h0 : q = -1
  · subst h0
    have e1 := Lib.hid (idxBy_none hqH.out)
    go_enter Tryz.func63, Tryz.ntmps63
    go_wp2_with fail
    refine hIH.out.mono ?_
    rintro e w1 ⟨rfl, hb⟩
    go_wp2_with fail
    go_ret
    rw [e1.out]
    exact ⟨rfl, OwnL.below hH.out hb, grown_below hb _⟩
  · obtain ⟨i0, rfl, hi0, hf0⟩ := idxBy_some hqH.out h0
    have hf0H := Lib.hid hf0
    have hne : ((i0 : Int) == -1) = false := beq_eq_false_iff_ne.2 (by omega)
    clear hf0 h0
    go_enter Tryz.func63, Tryz.ntmps63
    go_wp2_with fail
    refine hIH.out.mono ?_
    rintro e w1 ⟨rfl, hb⟩
    have hbH := Lib.hid hb
    clear hb
    go_wp2_with fail
    go_loopw [5, 6, 7] (fun s5 s6 s7 wr => RelD g cap xs w s5 s6 wr) (fun _ s6 _ _ => xs.length - (Go.RowKit.intOf s6).toNat)
    case atStart => exact ⟨i0, i0 + 1, xs, rfl, by go_num, by omega, hi0, rfl, hf0H.out.symm, fun _ _ => rfl, OwnL.below hH.out hbH.out, grown_below hbH.out _⟩
    case round =>
      unfold RelD at hrel
      obtain ⟨i, j, ys, rfl, rfl, hij, hj, hys, htk, hdr, hown, hgr⟩ := hrel
      have hownH := Lib.hid hown; have hgrH := Lib.hid hgr; have htkH := Lib.hid htk; have hdrH := Lib.hid hdr; have hysH := Lib.hid hys
      clear hown hgr htk hdr hys
      by_cases hlt : j < xs.length
      · obtain ⟨x, hx⟩ : ∃ x, xs[j]? = some x := ⟨_, List.getElem?_eq_getElem hlt⟩
        have hyj := (hdrH.out j (Nat.le_refl _)).trans hx
        obtain ⟨c0, c1⟩ := hownH.out.cells hyj
        have hxH := Lib.hid hx
        obtain ⟨xA, xk, xc, xn⟩ := x
        simp only at c0 c1
        clear hx hyj
        have hgl := hownH.out.lt
        have hi : i < ys.length := by have := hysH.out; omega
        obtain ⟨y, hy⟩ : ∃ y, ys[i]? = some y := ⟨_, List.getElem?_eq_getElem hi⟩
        have hyH := Lib.hid hy
        clear hy
        go_wp2_with fail
        refine (sumZero_any xA xk xc xn _).mono ?_
        rintro e w2 ⟨rfl, hb2⟩
        have v0 := (hb2.cell (p := ⟨wr.heap.size, 0, none⟩) (by simp)).trans (cell_new wr #[.slice xA xk xc, .int .i64 xn] _ 0)
        have v1 := (hb2.cell (p := ⟨wr.heap.size, 1, none⟩) (by simp)).trans (cell_new wr #[.slice xA xk xc, .int .i64 xn] _ 1)
        have hown2 := Lib.hid (OwnL.below (OwnL.alloc hownH.out (.cells #[.slice xA xk xc, .int .i64 xn] 74)) hb2)
        have hgr2 := Lib.hid (grown_trans hgrH.out (grown_trans (World.grownBy_alloc wr _ _) (grown_below hb2 _)))
        obtain ⟨i0, i1⟩ := OwnC.cells (xs := ys) hown2.out hyH.out
        have f0 := OwnL.free hown2.out (i * 2)
        have f1 := OwnL.free hown2.out (i * 2 + 1)
        have hg2 := OwnL.lt hown2.out
        have hgv : g ≠ wr.heap.size := by omega
        have hsz2 : wr.heap.size < w2.heap.size := by have := hb2.size; simp at this; omega
        have hnot : Hid (keepV ⟨xA, xk, xc, xn⟩ = !(xn == 0)) := rfl
        clear hb2 c0 c1 hownH hgrH
        cases hz : (xn == 0) with
        | true =>
          have hkp := Lib.hid (show keepV ⟨xA, xk, xc, xn⟩ = false by rw [hnot.out, hz]; rfl)
          go_wp2_with fail
          go_roundw
          case rel => exact ⟨i, j + 1, ys, rfl, by go_num, by omega, by omega, hysH.out, rel_skip htkH.out hxH.out hkp.out, fun t ht => hdrH.out t (by omega), hown2.out, hgr2.out⟩
          case measure => simp [Go.RowKit.intOf]; omega
        | false =>
          have hkp := Lib.hid (show keepV ⟨xA, xk, xc, xn⟩ = true by rw [hnot.out, hz]; rfl)
          go_wp2_with fail
          go_roundw
          case rel => exact ⟨i + 1, j + 1, ys.set i ⟨xA, xk, xc, xn⟩, by go_num, by go_num, by omega, by omega, by rw [List.length_set]; exact hysH.out, rel_keep hi htkH.out hxH.out hkp.out, fun t ht => by rw [List.getElem?_set, if_neg (by omega)]; exact hdrH.out t (by omega), OwnC.put hown2.out hi ⟨xA, xk, xc, xn⟩, grown_setCell (grown_setCell hgr2.out _ _) _ _⟩
          case measure => simp [Go.RowKit.intOf]; omega
      · obtain rfl : j = xs.length := by omega
        have hicap : i < cap := by have := hcap.out; simp at this; omega
        have hilen : i ≤ (ys.map cellsV).length := by rw [List.length_map, hysH.out]; omega
        obtain ⟨w3, hcl, hown3, hgr3⟩ := OwnL.clear (P := Tryz.prog) hownH.out (i := i) (n := xs.length - i) hilen (by rw [List.length_map, hysH.out]) (cap - i) 71 (Nat.zero) (.agg #[.slice none 0 0, .int .i64 0]) Tryz.underlying71 (by kernel_rfl) rfl (by simp [Value.cells, Value.oneCell'])
        have hcl' : ∀ ty, (Builtin.clear_ #[71] ty #[.slice (some ⟨g, i * 2, none⟩) (xs.length - i) (cap - i)]).run Tryz.prog wr = .ok (.tuple #[]) w3 := fun ty => hcl
        have hfin := Lib.hid (show ys.take i = xs.filter keepV by rw [htkH.out, List.take_length])
        have hown3H := Lib.hid (show OwnC g cap (xs.filter keepV) w3 by unfold OwnC; rw [← hfin.out, List.map_take]; exact hown3)
        have hlenH := Lib.hid (show (xs.filter keepV).length = i by rw [← hfin.out, List.length_take, hysH.out]; omega)
        have hgr3H := Lib.hid (grown_trans hgrH.out hgr3)
        clear hcl hown3 hgr3
        go_wp2_with fail
        go_ret
        exact ⟨by rw [hlenH.out]; rfl, hown3H.out, hgr3H.out⟩
end Go.Proofs.YtpmfbmigdpmloaaGreatDoor
end
