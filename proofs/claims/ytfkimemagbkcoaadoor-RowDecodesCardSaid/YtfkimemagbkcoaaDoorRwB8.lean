/-
  What datum.Check, row.Check and row.Encode answer, at this program: for every row. Condition: unicode/utf8's two tables lie as their initialisers lay them.
-/
import Derived.Test.YtfkimemagbkcoaaDoorLite
import Derived.Test.YtfkimemagbkcoaaDoorShelf
import Derived.Test.YtfkimemagbkcoaaDoorRwG
import Derived.Test.YtfkimemagbkcoaaDoorRwN
import Derived.Test.YtfkimemagbkcoaaDoorSlA
import Derived.Lib.LaidU8T
set_option linter.unusedVariables false
set_option linter.unusedSimpArgs false
namespace Go.Proofs.YtfkimemagbkcoaaDoor
open Go.RowKit Go.Lib

/-- The tables of unicode/utf8 lie as the program's text lays them. -/
def Tab8 (w : World) : Prop := Lib.Utf8Tabs 1 2 w
theorem Tab8.below {w w' : World} (h : Tab8 w) (hb : Below w.heap.size w w') : Tab8 w' := Utf8Tabs_below h hb
theorem Tab8.alloc {w : World} (h : Tab8 w) (o : Obj) : Tab8 (w.alloc o) := h.below ((Below.refl _ _).alloc (Nat.le_refl _) _)
theorem Tab8.drew {w : World} (h : Tab8 w) : Tab8 w.drew := h.below (Below.refl _ _).drew

set_option maxHeartbeats 1000000 in
/-- datum.wellFormed -/
theorem wellFormed8_any (k : Int) (b : Bool) (n : Int) (s : ByteArray) (w : World) (hT : Tab8 w) (hs : s.size ≤ 9223372036854775807) :
    Calls Tryd.prog 83 #[.agg #[.int .u8 k, .bool b, .int .i64 n, .string s]] w fun e w' => e = .returned (.bool (form ⟨k, b, n, s⟩)) ∧ Below w.heap.size w w' := by
  have hTH := Lib.hid hT
  clear hT
  by_cases h1 : k = 1
  · subst h1
    by_cases hn : n = 0
    · subst hn
      cases b with
      | true =>
        have hf : form ⟨1, true, 0, s⟩ = false := rfl
        rw [hf]; clear hf
        go_enter Tryd.func83, Tryd.ntmps83
        go_wp2
        go_ret
        exact ⟨rfl, by go_grown⟩
      | false =>
        have hf : form ⟨1, false, 0, s⟩ = decide (s.size = 0) := by simp [form]
        rw [hf]; clear hf
        go_enter Tryd.func83, Tryd.ntmps83
        go_wp2
        go_ret
        exact ⟨ret_bool (toList_size s), by go_grown⟩
    · have hf : form ⟨1, b, n, s⟩ = false := by simp [form, hn]
      rw [hf]; clear hf
      go_enter Tryd.func83, Tryd.ntmps83
      go_wp2
      go_ret
      exact ⟨rfl, by go_grown⟩
  · by_cases h3 : k = 3
    · subst h3
      cases b with
      | true =>
        have hf : form ⟨3, true, n, s⟩ = false := rfl
        rw [hf]; clear hf
        go_enter Tryd.func83, Tryd.ntmps83
        go_wp2
        go_ret
        exact ⟨rfl, by go_grown⟩
      | false =>
        have hf : form ⟨3, false, n, s⟩ = decide (s.size = 0) := by simp [form]
        rw [hf]; clear hf
        go_enter Tryd.func83, Tryd.ntmps83
        go_wp2
        go_ret
        exact ⟨ret_bool (toList_size s), by go_grown⟩
    · by_cases h2 : k = 2
      · subst h2
        by_cases hn : n = 0
        · subst hn
          have hf : form ⟨2, b, 0, s⟩ = decide (s.size = 0) := by simp [form]
          rw [hf]; clear hf
          go_enter Tryd.func83, Tryd.ntmps83
          go_wp2
          go_ret
          exact ⟨ret_bool (toList_size s), by go_grown⟩
        · have hf : form ⟨2, b, n, s⟩ = false := by simp [form, hn]
          rw [hf]; clear hf
          go_enter Tryd.func83, Tryd.ntmps83
          go_wp2
          go_ret
          exact ⟨rfl, by go_grown⟩
      · by_cases h4 : k = 4
        · subst h4
          cases b with
          | true =>
            have hf : form ⟨4, true, n, s⟩ = false := rfl
            rw [hf]; clear hf
            go_enter Tryd.func83, Tryd.ntmps83
            go_wp2
            go_ret
            exact ⟨rfl, by go_grown⟩
          | false =>
            by_cases hn : n = 0
            · subst hn
              have hf : form ⟨4, false, 0, s⟩ = validD s.data.toList := by simp [form]
              rw [hf]; clear hf
              go_enter Tryd.func83, Tryd.ntmps83
              go_wp2_with fail
              refine (Tryd.utf8_ValidString s _ hs (hTH.out.alloc _)).mono ?_
              rintro e w' ⟨rfl, hb⟩
              go_wp2
              go_ret
              exact ⟨rfl, chainB (by go_grown) hb (by simp)⟩
            · have hf : form ⟨4, false, n, s⟩ = false := by simp [form, hn]
              rw [hf]; clear hf
              go_enter Tryd.func83, Tryd.ntmps83
              go_wp2
              go_ret
              exact ⟨rfl, by go_grown⟩
        · have hf : form ⟨k, b, n, s⟩ = false := by simp [form, h1, h2, h3, h4]
          rw [hf]; clear hf
          go_enter Tryd.func83, Tryd.ntmps83
          go_wp2
          go_ret
          exact ⟨rfl, by go_grown⟩

set_option maxHeartbeats 1000000 in
/-- datum.Check -/
theorem check8_any (k : Int) (b : Bool) (n : Int) (s : ByteArray) (w : World) (hT : Tab8 w) (hs : s.size ≤ 9223372036854775807) :
    Calls Tryd.prog 62 #[.agg #[.int .u8 k, .bool b, .int .i64 n, .string s]] w fun e w' => e = .returned (.int .u16 (chk ⟨k, b, n, s⟩)) ∧ Below w.heap.size w w' := by
  have hTH := Lib.hid hT
  clear hT
  cases hf : form ⟨k, b, n, s⟩ with
  | false =>
    have hc := Lib.hid (chk_bad hf)
    go_enter Tryd.func62, Tryd.ntmps62
    go_wp2_with fail
    refine (wellFormed8_any k b n s _ (hTH.out.alloc _) hs).mono ?_
    rintro e w' ⟨rfl, hb⟩
    go_wp2
    go_ret
    exact ⟨ret_int hc.out.symm, chainB (by go_grown) hb (by simp)⟩
  | true =>
    have hc := Lib.hid (chk_of_form hf)
    by_cases hl : 1000 < s.size
    · go_enter Tryd.func62, Tryd.ntmps62
      go_wp2_with fail
      refine (wellFormed8_any k b n s _ (hTH.out.alloc _) hs).mono ?_
      rintro e w' ⟨rfl, hb⟩
      have hcell : w'.cell? ⟨w.heap.size, 3, none⟩ = some (.string s) := by rw [hb.cell (by simp)]; exact cell_new w _ _ 3
      have hlz : (1000 : Int) < (s.size : Int) := by omega
      go_wp2
      go_ret
      exact ⟨ret_int (by rw [hc.out]; simp [hl]), chainB (by go_grown) hb (by simp)⟩
    · go_enter Tryd.func62, Tryd.ntmps62
      go_wp2_with fail
      refine (wellFormed8_any k b n s _ (hTH.out.alloc _) hs).mono ?_
      rintro e w' ⟨rfl, hb⟩
      have hcell : w'.cell? ⟨w.heap.size, 3, none⟩ = some (.string s) := by rw [hb.cell (by simp)]; exact cell_new w _ _ 3
      have hlz : ¬ (1000 : Int) < (s.size : Int) := by omega
      go_wp2
      go_ret
      exact ⟨ret_int (by rw [hc.out]; simp [hl]), chainB (by go_grown) hb (by simp)⟩

/-- What the rounds hold. -/
def RelCk (l : List Dat) (w0 : World) (s11 : Value) (wr : World) : Prop := ∃ p : Nat, p ≤ l.length ∧ s11 = .int .i64 (p : Int) ∧ chkL l = chkL (l.drop p) ∧ Below w0.heap.size w0 wr
theorem chkL_at {l : List Dat} {p : Nat} (h : p < l.length) : chkL (l.drop p) = if chk l[p] = 0 then chkL (l.drop (p + 1)) else chk l[p] := by
  rw [List.drop_eq_getElem_cons h, chkL]
set_option maxHeartbeats 4000000 in
set_option maxRecDepth 1000000 in
theorem rowCheck_any (v : Value) (l : List Dat) (w : World) (h : RowV w v l) (hT : Tab8 w) (hs : ∀ d ∈ l, d.s.size ≤ 9223372036854775807) :
    Calls Tryd.prog 32 #[v] w fun e w' => e = .returned (.int .u16 (chkR l)) ∧ Below w.heap.size w w' := by
  obtain ⟨A, c, rfl, hla⟩ := h.form
  have hH := Lib.hid h; have hTH := Lib.hid hT; have hsH := Lib.hid hs
  clear h hT hs
  by_cases hbig : 32 < l.length
  · have hr := Lib.hid (show chkR l = 20 by unfold chkR; rw [if_pos hbig])
    go_enter Tryd.func32, Tryd.ntmps32
    go_wp2_with fail
    go_ret
    exact ⟨ret_int hr.out.symm, by go_grown⟩
  · have hr := Lib.hid (show chkR l = chkL l by unfold chkR; rw [if_neg (by omega)])
    go_enter Tryd.func32, Tryd.ntmps32
    go_wp2_with fail
    go_loopw [4, 5, 11] (fun s4 s5 s11 wr => RelCk l w s11 wr) (fun _ _ s11 _ => l.length - (Go.RowKit.intOf s11).toNat)
    case atStart => exact ⟨0, by omega, rfl, rfl, Below.refl _ _⟩
    case round =>
      unfold RelCk at hrel
      obtain ⟨p, hp, rfl, hck, hb⟩ := hrel
      have hbH := Lib.hid hb; have hckH := Lib.hid hck
      have hB := hb.size
      clear hb hck
      by_cases hlt : p < l.length
      · obtain ⟨ad, rfl, hba, a0_, a1_, a2_, a3_⟩ := (hH.out.below hbH.out).at hlt
        have hat := Lib.hid (chkL_at hlt)
        have hsz := Lib.hid (hsH.out _ (List.getElem_mem hlt))
        obtain ⟨d, hd⟩ : ∃ d, l[p] = d := ⟨_, rfl⟩
        rw [hd] at a0_ a1_ a2_ a3_ hat hsz
        clear hd
        obtain ⟨k, b, m, s⟩ := d
        simp only at a0_ a1_ a2_ a3_ hsz
        obtain ⟨wd, hwdE⟩ : ∃ wd, wr.alloc (.cells #[.int .u8 k, .bool b, .int .i64 m, .string s] 79) = wd := ⟨_, rfl⟩
        have hD := Lib.hid (show Has wd wr.heap.size (.int .u8 k) (.bool b) (.int .i64 m) (.string s) from hwdE ▸ Has.new wr _ _ _ _)
        have hbD := Lib.hid (show Below w.heap.size w wd from hwdE ▸ hbH.out.alloc hB _)
        obtain ⟨e0_, e1_, e2_, e3_⟩ := hD.out.cells
        go_wp2_with fail
        refine (check8_any k b m s _ (hTH.out.below hbD.out) hsz.out).mono ?_
        obtain ⟨r, hr'⟩ : ∃ r, chk ⟨k, b, m, s⟩ = r := ⟨_, rfl⟩
        rw [hr'] at hat
        rw [hr']
        rintro e w2 ⟨rfl, hb2⟩
        have hb2H := Lib.hid (hbD.out.trans (hb2.mono hbD.out.size))
        clear hb2 a0_ a1_ a2_ a3_ e0_ e1_ e2_ e3_ hwdE hr'
        by_cases hz : r = 0
        · subst hz
          have hat2 := Lib.hid (show chkL l = chkL (l.drop (p + 1)) by rw [hckH.out, hat.out, if_pos rfl])
          go_wp2_with fail
          go_roundw
          case rel => exact ⟨p + 1, hlt, by go_num, hat2.out, hb2H.out⟩
          case measure => simp [Go.RowKit.intOf]; omega
        · have hat2 := Lib.hid (show chkR l = r by rw [hr.out, hckH.out, hat.out, if_neg hz])
          go_wp2_with fail
          go_ret
          exact ⟨ret_int hat2.out.symm, hb2H.out⟩
      · obtain rfl : p = l.length := by omega
        have hat2 := Lib.hid (show chkR l = 0 by rw [hr.out, hckH.out, List.drop_length]; rfl)
        go_wp2_with fail
        go_ret
        exact ⟨ret_int hat2.out.symm, hbH.out⟩
theorem chkL_all : ∀ {l : List Dat}, chkL l = 0 → ∀ d ∈ l, chk d = 0
  | [], _, d, hd => by cases hd
  | e :: l, h, d, hd => by
    unfold chkL at h
    by_cases h0 : chk e = 0
    · rw [if_pos h0] at h
      rcases List.mem_cons.1 hd with rfl | hd
      · exact h0
      · exact chkL_all h d hd
    · rw [if_neg h0] at h
      exact absurd h h0
theorem chkR_all {l : List Dat} (h : chkR l = 0) : l.length ≤ 32 ∧ ∀ d ∈ l, chk d = 0 := by
  unfold chkR at h
  split at h
  · omega
  · exact ⟨by omega, chkL_all h⟩
theorem chk_small {d : Dat} (h : chk d = 0) : d.s.size ≤ 1000 := by
  unfold chk at h
  split at h
  · split at h
    · omega
    · omega
  · omega
theorem szR_small : ∀ {l : List Dat}, (∀ d ∈ l, chk d = 0) → szR l ≤ l.length * 2016
  | [], _ => by simp [szR]
  | d :: l, h => by
    have h1 := chk_small (h d (by simp))
    have h2 := szR_small (l := l) (fun e he => h e (by simp [he]))
    rw [szR, szD, List.length_cons]
    omega
def RelEn (l : List Dat) (B : Nat) (w0 : World) (s5 s15 : Value) (wr : World) : Prop := ∃ p : Nat, p ≤ l.length ∧ s15 = .int .i64 (p : Int) ∧ OwnB B s5 ((l.take p).flatMap encD) w0 wr
set_option maxHeartbeats 4000000 in
set_option maxRecDepth 1000000 in
theorem encode_any (v : Value) (l : List Dat) (w : World) (h : RowV w v l) (hT : Tab8 w) (hw : ∀ d ∈ l, Wide d ∧ d.s.size ≤ 9223372036854775807) :
    Calls Tryd.prog 15 #[v] w fun e w' => ∃ v', e = .returned (.tuple #[v', .int .u16 (chkR l)]) ∧ ((chkR l = 0 ∧ OwnU w.heap.size v' (encR l) w') ∨ (chkR l ≠ 0 ∧ v' = .slice none 0 0)) ∧ Below w.heap.size w w' := by
  obtain ⟨A, c, rfl, hla⟩ := h.form
  have hH := Lib.hid h; have hTH := Lib.hid hT; have hwH := Lib.hid hw
  clear h hT hw
  obtain ⟨r, hr⟩ : ∃ r, chkR l = r := ⟨_, rfl⟩
  rw [hr]
  have hrH := Lib.hid hr
  clear hr
  go_enter Tryd.func15, Tryd.ntmps15
  go_wp2_with fail
  refine (rowCheck_any _ l w hH.out hTH.out (fun d hd => (hwH.out d hd).2)).mono ?_
  rw [hrH.out]
  rintro e w1 ⟨rfl, hb1⟩
  have hb1H := Lib.hid hb1
  clear hb1
  by_cases hz : r = 0
  · subst hz
    obtain ⟨h32, hall⟩ := chkR_all hrH.out
    have hszl := Lib.hid (szR_small hall)
    clear hall
    go_wp2_with fail
    go_loopw [5, 7, 15] (fun s5 s7 s15 wr => RelEn l w.heap.size w1 s5 s15 wr) (fun _ _ s15 _ => l.length - (Go.RowKit.intOf s15).toNat)
    case atStart => exact ⟨0, by omega, rfl, OwnK.start (World.ownsRow_nil _ _ _ _) hb1H.out.size⟩
    case round =>
      unfold RelEn at hrel
      obtain ⟨p, hp, rfl, hown⟩ := hrel
      obtain ⟨A0, c0, rfl⟩ := hown.form
      have hownH := Lib.hid hown
      clear hown
      by_cases hlt : p < l.length
      · obtain ⟨ad, rfl, hba, a0_, a1_, a2_, a3_⟩ := (hH.out.below (hb1H.out.trans hownH.out.2.1)).at hlt
        have hft := Lib.hid (flat_take (f := encD) hlt)
        have hsz := Lib.hid (show ((l.take p).flatMap encD).length + szD l[p].s ≤ 70368744177664 by
          have h1 := szR_take l p hlt
          have h2 := encR_le (l.take p)
          have h3 := hszl.out
          unfold encR at h2
          omega)
        have hwd := Lib.hid (hwH.out _ (List.getElem_mem hlt)).1
        obtain ⟨d, hd⟩ : ∃ d, l[p] = d := ⟨_, rfl⟩
        rw [hd] at a0_ a1_ a2_ a3_ hft hsz hwd
        clear hd
        obtain ⟨k, b, n, s⟩ := d
        obtain ⟨L, hL⟩ : ∃ L, (l.take p).flatMap encD = L := ⟨_, rfl⟩
        rw [hL] at hownH hft hsz ⊢
        clear hL
        simp only at a0_ a1_ a2_ a3_
        obtain ⟨wd, hwdE⟩ : ∃ wd, wr.alloc (.cells #[.int .u8 k, .bool b, .int .i64 n, .string s] 79) = wd := ⟨_, rfl⟩
        have hD := Lib.hid (show Has wd wr.heap.size (.int .u8 k) (.bool b) (.int .i64 n) (.string s) from hwdE ▸ Has.new wr _ _ _ _)
        have hownD := Lib.hid (show OwnB w.heap.size (.slice A0 L.length c0) L w1 wd from hwdE ▸ hownH.out.alloc _)
        obtain ⟨e0_, e1_, e2_, e3_⟩ := hD.out.cells
        have hltH := Lib.hid hlt
        go_wp2_with fail
        refine (appendDatum_any w.heap.size _ L k b n s _ hownD.out.again hwd.out.2 hsz.out).mono ?_
        rintro e w2 ⟨v2, rfl, h2⟩
        have h2H := Lib.hid h2
        clear h2 e0_ e1_ e2_ e3_ a0_ a1_ a2_ a3_ hwdE
        go_wp2_with fail
        go_roundw
        case rel => exact ⟨p + 1, hltH.out, by go_num, by rw [hft.out]; exact OwnK.trans hownD.out h2H.out⟩
        case measure => have := hltH.out; simp [Go.RowKit.intOf]; omega
      · obtain rfl : p = l.length := by omega
        rw [List.take_length] at hownH ⊢
        go_wp2_with fail
        refine bodyPost_ret (v := .tuple #[.slice A0 (l.flatMap encD).length c0, .int .u16 0]) (by simp [results, Tryd.results15, go_sem]) rfl ?_
        first | exact ⟨_, rfl, .inl ⟨rfl, hownH.out.1⟩, hb1H.out.trans hownH.out.2.1⟩ | exact ⟨_, rfl, hownH.out.1, hb1H.out.trans hownH.out.2.1⟩ | exact ⟨hownH.out.1, hb1H.out.trans hownH.out.2.1⟩
  · go_wp2_with fail
    refine bodyPost_ret (v := .tuple #[.slice none 0 0, .int .u16 r]) (by simp [results, Tryd.results15, go_sem]) rfl ?_
    first | exact ⟨_, rfl, .inr ⟨hz, rfl⟩, hb1H.out⟩ | exact ⟨_, rfl, rfl, hb1H.out⟩ | exact hb1H.out
end Go.Proofs.YtfkimemagbkcoaaDoor
