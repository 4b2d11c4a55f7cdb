/-
  Texts that belong together: RwPr. What each one says stands ahead of it.
-/
import Derived.Test.YtpmfbmigdpmloaaGreatDoorPc03
import Derived.Test.YtpmfbmigdpmloaaGreatDoorPc04
import Derived.Test.YtpmfbmigdpmloaaGreatDoorPc05
/-
  How a row is written, at this program: row.Print; the document's Check and Print of a row. Condition: the tables of Go's library lie as their initialisers lay them.
-/
set_option linter.unusedVariables false
set_option linter.unusedSimpArgs false
namespace Go.Proofs.YtpmfbmigdpmloaaGreatDoor
open Go.RowKit Go.Lib

theorem Tabs.tab8 {w : World} (h : Tabs w) : Tab8 w := h.u8
/-- A datum, a row, as it is written. -/
def strD (d : Dat) : ByteArray := ⟨(printS d).toArray⟩
def strR (l : List Dat) : ByteArray := if chkR l = 0 then ⟨(printR l).toArray⟩ else ⟨#[]⟩
theorem bytes_eq {a b : ByteArray} (h : a.data.toList = b.data.toList) : a = b := bytes_ext h
theorem joinR_snoc (l : List Dat) (d : Dat) : joinR (l ++ [d]) = if l = [] then printS d else joinR l ++ 44 :: 32 :: printS d := by
  cases l with
  | nil => rw [if_pos rfl, List.nil_append, joinR_cons, tailR_nil, List.append_nil]
  | cons e m =>
    rw [if_neg (by simp), List.cons_append, joinR_cons, joinR_cons]
    unfold tailR Lib.joinTail
    simp
theorem joinR_len {l : List Dat} (ho : ∀ d ∈ l, okD d = true ∧ -9223372036854775808 ≤ d.n ∧ d.n ≤ 9223372036854775807) : (joinR l).length ≤ 5002 * l.length := by
  induction l with
  | nil => simp [joinR, Lib.join_nil]
  | cons d l ih =>
    have h1 := print_len (ho d (by simp)).1 (ho d (by simp)).2
    have h2 := ih (fun x hx => ho x (by simp [hx]))
    rw [joinR_cons, List.length_append, List.length_cons]
    cases l with
    | nil => rw [tailR_nil]; simp; omega
    | cons e m => rw [tailR_cons]; simp only [List.length_cons] at h2 ⊢; omega
/-- What the rounds hold: the forms of the data up to a place. -/
def RelPr (l : List Dat) (gf : Nat) (cs0 : List Value) (w0 : World) (s18 : Value) (wr : World) : Prop :=
  ∃ p : Nat, p ≤ l.length ∧ s18 = .int .i64 (p : Int) ∧ Below w0.heap.size w0 wr ∧ HasV wr gf ((l.take p).map (fun d => Value.string (strD d)) ++ cs0.drop p) 9
theorem info_str : ∃ i, Tryz.prog.info? 9 = some i ∧ i.zero = some (.string ⟨#[]⟩) ∧ i.size = 1 ∧ i.bytes = 16 := by
  have h : (Tryz.prog.info? 9).map (fun i => (i.zero, i.size, i.bytes)) = some (some (.string ⟨#[]⟩), 1, 16) := by kernel_rfl
  cases hi : Tryz.prog.info? 9 with
  | none => rw [hi] at h; cases h
  | some i => rw [hi] at h; simp at h; exact ⟨i, rfl, h.1, h.2.1, h.2.2⟩
theorem make_strs (n : Nat) (hn : n ≤ 32) (W : World) : ∃ c, c.size = n ∧ (Instr.makeSlice 64 (.int .i64 (n : Int)) (.int .i64 (n : Int))).run Tryz.prog W = .ok (.slice (some ⟨W.heap.size, 0, none⟩) n n) (W.alloc (.cells c 9)) := by
  obtain ⟨i, hi, hz, hs, hb⟩ := info_str
  have hr := run_make (P := Tryz.prog) W 64 9 i _ Tryz.underlying64 hi hz .i64 .i64 (n : Int) (n : Int) (by omega) (by omega) (by rw [hb]; omega) (by omega)
  rw [Int.toNat_natCast] at hr
  exact ⟨_, by rw [size_madeCells, hs, Nat.mul_one], hr⟩
theorem mix_next {l : List Dat} {cs0 : List Value} {p : Nat} (hp : p < l.length) (hc : cs0.length = l.length) :
    (((l.take p).map (fun d => Value.string (strD d)) ++ cs0.drop p).set p (Value.string (strD l[p]))) = (l.take (p + 1)).map (fun d => Value.string (strD d)) ++ cs0.drop (p + 1) := by
  have hl : ((l.take p).map (fun d => Value.string (strD d))).length = p := by rw [List.length_map, List.length_take]; omega
  rw [List.set_append_right _ _ (by omega), hl, Nat.sub_self, List.drop_eq_getElem_cons (by omega), List.set_cons_zero, List.take_succ_eq_append_getElem hp, List.map_append, List.append_assoc]
  rfl
set_option maxHeartbeats 8000000 in
set_option maxRecDepth 100000 in
theorem printRow_any (v : Value) (l : List Dat) (w : World) (h : RowV w v l) (hT : Tabs w) (hw : ∀ d ∈ l, Wide d ∧ d.s.size ≤ 9223372036854775807) :
    Calls Tryz.prog 11 #[v] w fun e w' => e = .returned (.tuple #[.string (strR l), .int .u16 (chkR l)]) ∧ Below w.heap.size w w' := by
  obtain ⟨A, c, rfl, hla⟩ := h.form
  have hH := Lib.hid h; have hTH := Lib.hid hT; have hwH := Lib.hid hw
  clear h hT hw
  obtain ⟨r, hr⟩ : ∃ r, chkR l = r := ⟨_, rfl⟩
  obtain ⟨t, ht⟩ : ∃ t, strR l = t := ⟨_, rfl⟩
  rw [hr, ht]
  have hrH := Lib.hid hr; have htH := Lib.hid ht
  clear hr ht
  go_enter Tryz.func11, Tryz.ntmps11
  go_wp2_with fail
  refine (rowCheck_any _ l w hH.out hTH.out.tab8 (fun d hd => (hwH.out d hd).2)).mono ?_
  rw [hrH.out]
  rintro e w1 ⟨rfl, hb1⟩
  have hb1H := Lib.hid hb1
  clear hb1
  by_cases hz : r = 0
  · subst hz
    obtain ⟨h32, hok⟩ := okL hrH.out
    have hokH := Lib.hid hok
    obtain ⟨c0, hc0, hmk⟩ := make_strs l.length h32 w1
    obtain ⟨cs0, hcs0⟩ : ∃ cs0, c0.toList = cs0 := ⟨_, rfl⟩
    obtain rfl : c0 = cs0.toArray := by rw [← hcs0]
    have hc0H := Lib.hid (show cs0.length = l.length by simpa using hc0)
    clear hcs0 hc0 hok
    obtain ⟨W2, hW2⟩ : ∃ W2, w1.alloc (.cells cs0.toArray 9) = W2 := ⟨_, rfl⟩
    have hgf := Lib.hid (show HasV W2 w1.heap.size cs0 9 from hW2 ▸ HasV.new w1 cs0 9)
    have hb2 := Lib.hid (show Below w.heap.size w W2 from hW2 ▸ hb1H.out.alloc hb1H.out.size _)
    rw [hW2] at hmk
    clear hW2
    obtain ⟨gf, hgfe⟩ : ∃ gf, w1.heap.size = gf := ⟨_, rfl⟩
    rw [hgfe] at hmk hgf
    have hgB := Lib.hid (show w.heap.size ≤ gf by rw [← hgfe]; exact hb1H.out.size)
    clear hgfe
    go_wp2_with fail
    go_loopw [18] (fun s18 wr => RelPr l gf cs0 w s18 wr) (fun s18 _ => l.length - (Go.RowKit.intOf s18).toNat)
    case atStart => exact ⟨0, by omega, rfl, hb2.out, by simpa using hgf.out⟩
    case round =>
      unfold RelPr at hrel
      obtain ⟨p, hp, rfl, hbw, hgp⟩ := hrel
      have hbwH := Lib.hid hbw; have hgpH := Lib.hid hgp
      clear hbw hgp
      by_cases hlt : p < l.length
      · obtain ⟨ad, rfl, hba, a0_, a1_, a2_, a3_⟩ := (hH.out.below hbwH.out).at hlt
        have hnx := Lib.hid (mix_next hlt hc0H.out)
        have hwd := Lib.hid (hwH.out _ (List.getElem_mem hlt))
        obtain ⟨d, hd⟩ : ∃ d, l[p] = d := ⟨_, rfl⟩
        rw [hd] at a0_ a1_ a2_ a3_ hnx hwd
        clear hd
        obtain ⟨k, b, n, s⟩ := d
        simp only at a0_ a1_ a2_ a3_
        obtain ⟨wd, hwdE⟩ : ∃ wd, wr.alloc (.cells #[.int .u8 k, .bool b, .int .i64 n, .string s] 60) = wd := ⟨_, rfl⟩
        have hD := Lib.hid (show Has wd wr.heap.size (.int .u8 k) (.bool b) (.int .i64 n) (.string s) from hwdE ▸ Has.new wr _ _ _ _)
        have hbd := Lib.hid (show Below w.heap.size w wd from hwdE ▸ hbwH.out.alloc hbwH.out.size _)
        have hgd := Lib.hid (hgpH.out.below (show Below wr.heap.size wr wd from hwdE ▸ (Below.refl _ _).alloc (Nat.le_refl _) _) hgpH.out.lt)
        obtain ⟨e0_, e1_, e2_, e3_⟩ := hD.out.cells
        have hltH := Lib.hid hlt
        go_wp2_with fail
        refine (print_any k b n s _ (hTH.out.below hbd.out) hwd.out.2 hwd.out.1.2).mono ?_
        rintro e w3 ⟨rfl, hb3⟩
        have hg3 := Lib.hid (hgd.out.below hb3 hgd.out.lt)
        have hb3H := Lib.hid (hbd.out.trans (hb3.mono hbd.out.size))
        clear hb3 e0_ e1_ e2_ e3_ a0_ a1_ a2_ a3_ hwdE
        obtain ⟨x, hx⟩ : ∃ x, ((l.take p).map (fun d => Value.string (strD d)) ++ cs0.drop p)[p]? = some x := ⟨_, List.getElem?_eq_getElem (by have := hc0H.out; rw [List.length_append, List.length_map, List.length_take, List.length_drop]; omega)⟩
        have q0_ := hg3.out.cell p hx
        have q1_ := hg3.out.free p
        clear hx
        go_wp2_with fail
        go_roundw
        case rel => exact ⟨p + 1, hltH.out, by go_num, hb3H.out.setCell (p := ⟨gf, p, none⟩) hgB.out _, by rw [← hnx.out]; exact hg3.out.set p _⟩
        case measure => have := hltH.out; simp [Go.RowKit.intOf]; omega
      · obtain rfl : p = l.length := by omega
        have hg2 := Lib.hid (show HasV wr gf (l.map (fun d => Value.string (strD d))) 9 by have := hgpH.out; rw [List.take_length, List.drop_eq_nil_iff.2 (by rw [hc0H.out]; omega), List.append_nil] at this; exact this)
        have hjl := joinR_len (l := l) (fun d hd => ⟨hokH.out d hd, (hwH.out d hd).1.2⟩)
        have hjo := Tryz.strings_Join gf 0 l.length (l.map strD) ⟨#[44, 32]⟩ wr (fun j x hj => by
            have := hg2.out.cell j (u := .string x) (by rw [List.getElem?_map] at hj ⊢; cases hl : l[j]? with
              | none => rw [hl] at hj; cases hj
              | some d => rw [hl] at hj; cases hj; rfl)
            simpa using this) hg2.out.lt (by rw [List.length_map]; omega) (by rw [List.length_map]; omega) (by
            have e : (l.map strD).map (·.data.toList) = l.map printS := by rw [List.map_map]; exact List.map_congr_left (fun d _ => by simp [strD])
            rw [e]
            show (joinR l).length ≤ _
            omega)
        have e : Lib.join ((l.map strD).map (·.data.toList)) ((⟨#[44, 32]⟩ : ByteArray).data.toList) = joinR l := by
          have e : (l.map strD).map (·.data.toList) = l.map printS := by rw [List.map_map]; exact List.map_congr_left (fun d _ => by simp [strD])
          rw [e]; rfl
        rw [e, List.length_map] at hjo
        have hjoH := Lib.hid hjo
        have hjlH := Lib.hid (show (joinR l).length ≤ 160064 by omega)
        clear hjo e hjl
        obtain ⟨J, hJ⟩ : ∃ J, joinR l = J := ⟨_, rfl⟩
        rw [hJ] at hjoH hjlH
        have hJ64 : J.length ≤ 160064 := hjlH.out
        have hJ65 : ¬ 9223372036854775807 < 1 + J.length := by omega
        have hJH := Lib.hid hJ
        clear hJ
        go_wp2_with fail
        refine hjoH.out.mono ?_
        rintro e w4 ⟨rfl, hb4⟩
        have hb4H := Lib.hid (hbwH.out.trans (hb4.mono hbwH.out.size))
        clear hb4
        go_wp2_with fail
        refine bodyPost_ret (v := .tuple #[.string t, .int .u16 0]) (by simp [results, Tryz.results11, go_sem]; rw [← htH.out]; unfold strR; rw [if_pos hrH.out]; unfold printR; rw [hJH.out]; exact bytes_eq (by simp)) rfl ⟨rfl, hb4H.out⟩
  · have hte := Lib.hid (show t = ⟨#[]⟩ by rw [← htH.out]; unfold strR; rw [if_neg (by rw [hrH.out]; exact hz)])
    have hne : (r != 0) = true := by simpa using hz
    clear hz
    go_wp2_with fail
    refine bodyPost_ret (v := .tuple #[.string ⟨#[]⟩, .int .u16 r]) (by simp [results, Tryz.results11, go_sem]) rfl ⟨by rw [hte.out], hb1H.out⟩
end Go.Proofs.YtpmfbmigdpmloaaGreatDoor
