/-
  What the document's own digits of layer 4 answers, at this program: of every number below 2^64. No other condition.
-/
import Derived.Test.YtkpjbmbdndkalaaDoorStPr
import Derived.Deep.RegionHeld3
import Derived.Laws.IdiomStrings
set_option linter.unusedVariables false
set_option linter.unusedSimpArgs false
namespace Go.Proofs.YtkpjbmbdndkalaaDoor
open Go.RowKit Go.Lib

theorem bytes_ext {s t : ByteArray} (h : s.data.toList = t.data.toList) : s = t := by
  obtain ⟨⟨a⟩⟩ := s
  obtain ⟨⟨b⟩⟩ := t
  simp only at h
  rw [h]
/-- A byte, as a text of its own: read from a slice of one. -/
theorem convAt (b : Nat) (x : Nat) (hx : x < 256) (w : World) (hc : w.cell? ⟨b, 0, none⟩ = some (.int .u8 (x : Int))) :
    (convert 113 9 (.slice (some ⟨b, 0, none⟩) 1 1)).run Tryd.prog w = .ok (.string ⟨#[UInt8.ofNat x]⟩) w := by
  have h := run_convert_bytes_back (P := Tryd.prog) w 113 9 5 ⟨b, 0, none⟩ 1 [UInt8.ofNat x] Tryd.underlying113 Tryd.underlying5 Tryd.underlying9 (by
    intro j hj
    match j, hj with
    | 0, _ =>
      have e : (UInt8.ofNat x).toNat = x := by rw [UInt8.toNat_ofNat']; omega
      simpa [Addr.add, e] using hc)
  exact h
theorem convNew (x : Nat) (hx : x < 256) (T : TypeId) (w : World) :
    (convert 113 9 (.slice (some ⟨w.heap.size, 0, none⟩) 1 1)).run Tryd.prog (w.alloc (.cells #[.int .u8 (x : Int)] T)) = .ok (.string ⟨#[UInt8.ofNat x]⟩) (w.alloc (.cells #[.int .u8 (x : Int)] T)) :=
  convAt _ x hx _ (cell_new w #[.int .u8 (x : Int)] T 0)
theorem convNewD (x : Nat) (hx : x < 256) (T : TypeId) (w : World) :
    (convert 113 9 (.slice (some ⟨w.heap.size, 0, none⟩) 1 1)).run Tryd.prog (w.alloc (.cells #[.int .u8 (x : Int)] T)).drew = .ok (.string ⟨#[UInt8.ofNat x]⟩) (w.alloc (.cells #[.int .u8 (x : Int)] T)).drew :=
  convAt _ x hx _ (cell_new w #[.int .u8 (x : Int)] T 0)
theorem ret_strL {x y : List UInt8} (h : x = y) : Ending.returned (.string ⟨x.toArray⟩) = Ending.returned (.string ⟨y.toArray⟩) := by rw [h]

theorem u64_in (x : Nat) (h : x < 18446744073709551616) : IntKind.u64.wrap (x : Int) = (x : Int) := by
  simp [IntKind.wrap, IntKind.bits, IntKind.signed]; omega
theorem u8_in (x : Nat) (h : x < 256) : IntKind.u8.wrap (x : Int) = (x : Int) := by
  simp [IntKind.wrap, IntKind.bits, IntKind.signed]; omega
theorem decDigits_big2 {n : Nat} (h : ¬ n < 10) : decDigits n = decDigits (n / 10) ++ [UInt8.ofNat (48 + n % 10)] := by rw [decDigits, dif_neg h]
theorem decDigits_lenK : ∀ (k n : Nat), n < 10 ^ (k + 1) → (decDigits n).length ≤ k + 1
  | 0, n, h => by rw [decDigits_one (by omega)]; simp
  | k + 1, n, h => by
    by_cases g : n < 10
    · rw [decDigits_one g]; simp
    · have := decDigits_lenK k (n / 10) (by rw [Nat.pow_succ] at h; omega)
      rw [decDigits_big2 g, List.length_append, List.length_singleton]
      omega
theorem ret_str2 {x y : ByteArray} (h : x = y) : Ending.returned (.string x) = Ending.returned (.string y) := by rw [h]

set_option maxRecDepth 100000 in
set_option maxHeartbeats 8000000 in
theorem digits_small (n : Nat) (hn : n < 10) (w : World) :
    Calls Tryd.prog 46 #[.int .u64 (n : Int)] w fun e w' => e = .returned (.string ⟨(decDigits n).toArray⟩) ∧ Below w.heap.size w w' := by
  have hg : (n : Int) < 10 := by omega
  obtain ⟨d, hd⟩ : ∃ d, 48 + n = d := ⟨_, rfl⟩
  have hd2 : d < 256 := by omega
  obtain ⟨c, hc⟩ : ∃ c, UInt8.ofNat d = c := ⟨_, rfl⟩
  have hcv := fun T w0 => convNew d hd2 T w0
  rw [hc] at hcv
  have a1 : (48 : Int) + (n : Int) = (d : Int) := by omega
  have a2 := u8_in d hd2
  have a3 := u8_in n (by omega)
  have hr : (decDigits n) = [c] := by rw [decDigits_one hn, hd, hc]
  rw [hr]
  clear hr hc hd hd2
  go_enter Tryd.func46, Tryd.ntmps46
  go_wp2
  go_ret
  exact ⟨rfl, by go_grown⟩

set_option maxRecDepth 100000 in
set_option maxHeartbeats 8000000 in
theorem digits_big (n : Nat) (hn : ¬ n < 10) (hn2 : n < 18446744073709551616) (w : World)
    (ih : ∀ w, Calls Tryd.prog 46 #[.int .u64 ((n / 10 : Nat) : Int)] w fun e w' => e = .returned (.string ⟨(decDigits (n / 10)).toArray⟩) ∧ Below w.heap.size w w') :
    Calls Tryd.prog 46 #[.int .u64 (n : Int)] w fun e w' => e = .returned (.string ⟨(decDigits n).toArray⟩) ∧ Below w.heap.size w w' := by
  have hg : ¬ (n : Int) < 10 := by omega
  rw [decDigits_big2 hn]
  have hlen := decDigits_lenK 19 (n / 10) (by omega)
  obtain ⟨q, hq⟩ : ∃ q, n / 10 = q := ⟨_, rfl⟩
  obtain ⟨r, hr⟩ : ∃ r, n % 10 = r := ⟨_, rfl⟩
  obtain ⟨d, hd⟩ : ∃ d, 48 + r = d := ⟨_, rfl⟩
  have hd2 : d < 256 := by omega
  obtain ⟨c, hc⟩ : ∃ c, UInt8.ofNat d = c := ⟨_, rfl⟩
  have e1 : (n : Int).tdiv 10 = (q : Int) := by rw [show (n : Int).tdiv 10 = ((n / 10 : Nat) : Int) from rfl, hq]
  have e2 : (n : Int) / 10 = (q : Int) := by omega
  have e3 := u64_in q (by omega)
  have m1 : (n : Int).tmod 10 = (r : Int) := by rw [show (n : Int).tmod 10 = ((n % 10 : Nat) : Int) from rfl, hr]
  have m2 : (n : Int) % 10 = (r : Int) := by omega
  have m3 := u64_in r (by omega)
  have m4 := u8_in r (by omega)
  have a1 : (48 : Int) + (r : Int) = (d : Int) := by omega
  have a2 := u8_in d hd2
  rw [hr, hd, hc]
  rw [hq] at ih hlen ⊢
  have hdH := Lib.hid hd2
  have hcv := fun T w0 => convNew d hd2 T w0
  have hcvD := fun T w0 => convNewD d hd2 T w0
  rw [hc] at hcv hcvD
  have hcH := Lib.hid hc
  obtain ⟨ds, hds⟩ : ∃ ds, decDigits q = ds := ⟨_, rfl⟩
  rw [hds] at ih hlen ⊢
  have ihH := Lib.hid ih
  have hlen2 : ds.length ≤ 9223372036854775806 := by omega
  clear hq hr hd hc ih hds hlen hn hn2 hd2
  go_enter Tryd.func46, Tryd.ntmps46
  go_wp2_with fail
  refine wp_region_noPanic ?_
  refine wp_region_held_drew (S := (fun _ => True)) (by kernel_rfl) trivial (fun hHeld => ?_)
  refine' wpAnyH_take (i := 0) (v := .int .u64 (n : Int)) ?hi0x1 ?hs0x1 ?hf0x1 ?hr0x1 ?hQ0x1 ?hy0x1 ?hS0x1 ?rest0x1
  case hi0x1 => (simp only [List.getElem?_toArray, List.getElem?_cons_succ, List.getElem?_cons_zero]; try rfl)
  case hs0x1 => kernel_rfl
  case hf0x1 => kernel_rfl
  case hr0x1 => kernel_rfl
  case hQ0x1 => exact fun _ _ _ h => h
  case hy0x1 => exact Or.inl ⟨by rfl, by (intro w hSw; (try dsimp only at hSw); go_simp)⟩
  case hS0x1 => assumption
  (try simp only [Act.put, List.setIfInBounds_toArray, List.set_cons_zero, List.set_cons_succ])
  refine' wpAnyH_take (i := 1) (v := .int .u64 (q : Int)) ?hi1x2 ?hs1x2 ?hf1x2 ?hr1x2 ?hQ1x2 ?hy1x2 ?hS1x2 ?rest1x2
  case hi1x2 => (simp only [List.getElem?_toArray, List.getElem?_cons_succ, List.getElem?_cons_zero]; try rfl)
  case hs1x2 => kernel_rfl
  case hf1x2 => kernel_rfl
  case hr1x2 => kernel_rfl
  case hQ1x2 => exact fun _ _ _ h => h
  case hy1x2 => exact Or.inl ⟨by rfl, by (intro w hSw; (try dsimp only at hSw); go_simp)⟩
  case hS1x2 => assumption
  (try simp only [Act.put, List.setIfInBounds_toArray, List.set_cons_zero, List.set_cons_succ])
  refine' wpAnyH_take (i := 3) (v := .int .u64 (n : Int)) ?hi3x3 ?hs3x3 ?hf3x3 ?hr3x3 ?hQ3x3 ?hy3x3 ?hS3x3 ?rest3x3
  case hi3x3 => (simp only [List.getElem?_toArray, List.getElem?_cons_succ, List.getElem?_cons_zero]; try rfl)
  case hs3x3 => kernel_rfl
  case hf3x3 => kernel_rfl
  case hr3x3 => kernel_rfl
  case hQ3x3 => exact fun _ _ _ h => h
  case hy3x3 => exact Or.inl ⟨by rfl, by (intro w hSw; (try dsimp only at hSw); go_simp)⟩
  case hS3x3 => assumption
  (try simp only [Act.put, List.setIfInBounds_toArray, List.set_cons_zero, List.set_cons_succ])
  refine' wpAnyH_take (i := 4) (v := .int .u64 (r : Int)) ?hi4x4 ?hs4x4 ?hf4x4 ?hr4x4 ?hQ4x4 ?hy4x4 ?hS4x4 ?rest4x4
  case hi4x4 => (simp only [List.getElem?_toArray, List.getElem?_cons_succ, List.getElem?_cons_zero]; try rfl)
  case hs4x4 => kernel_rfl
  case hf4x4 => kernel_rfl
  case hr4x4 => kernel_rfl
  case hQ4x4 => exact fun _ _ _ h => h
  case hy4x4 => exact Or.inl ⟨by rfl, by (intro w hSw; (try dsimp only at hSw); go_simp)⟩
  case hS4x4 => assumption
  (try simp only [Act.put, List.setIfInBounds_toArray, List.set_cons_zero, List.set_cons_succ])
  refine' wpAnyH_take (i := 5) (v := .int .u8 (r : Int)) ?hi5x5 ?hs5x5 ?hf5x5 ?hr5x5 ?hQ5x5 ?hy5x5 ?hS5x5 ?rest5x5
  case hi5x5 => (simp only [List.getElem?_toArray, List.getElem?_cons_succ, List.getElem?_cons_zero]; try rfl)
  case hs5x5 => kernel_rfl
  case hf5x5 => kernel_rfl
  case hr5x5 => kernel_rfl
  case hQ5x5 => exact fun _ _ _ h => h
  case hy5x5 => exact Or.inl ⟨by rfl, by (intro w hSw; (try dsimp only at hSw); go_simp)⟩
  case hS5x5 => assumption
  (try simp only [Act.put, List.setIfInBounds_toArray, List.set_cons_zero, List.set_cons_succ])
  refine' wpAnyH_take (i := 6) (v := .int .u8 (d : Int)) ?hi6x6 ?hs6x6 ?hf6x6 ?hr6x6 ?hQ6x6 ?hy6x6 ?hS6x6 ?rest6x6
  case hi6x6 => (simp only [List.getElem?_toArray, List.getElem?_cons_succ, List.getElem?_cons_zero]; try rfl)
  case hs6x6 => kernel_rfl
  case hf6x6 => kernel_rfl
  case hr6x6 => kernel_rfl
  case hQ6x6 => exact fun _ _ _ h => h
  case hy6x6 => exact Or.inl ⟨by rfl, by (intro w hSw; (try dsimp only at hSw); go_simp)⟩
  case hS6x6 => assumption
  (try simp only [Act.put, List.setIfInBounds_toArray, List.set_cons_zero, List.set_cons_succ])
  refine wpAnyH_ready (rs := [2, 7]) (by kernel_rfl) (by simp) ?_
  refine' AllReadyH.cons (i := 2) ?ho2x7 (fun K hK => ?st2x7) (AllReadyH.cons (i := 7) ?ho7x8 (fun K hK => ?st7x8) AllReadyH.nil)
  case ho2x7 => (simp only [List.getElem?_toArray, List.getElem?_cons_succ, List.getElem?_cons_zero]; try rfl)
  case ho7x8 => (simp only [List.getElem?_toArray, List.getElem?_cons_succ, List.getElem?_cons_zero]; try rfl)
  case st2x7 =>
    go_simp
    refine (ihH.out _).mono ?_
    rintro e w' ⟨rfl, hb'⟩
    have hb := chainB (B := w.heap.size) (a := w) (by go_grown) hb' (by first | omega | (simp; done) | (simp; omega))
    have hs := hb.size
    refine hK.out _ _ ?_ (fun hHeld => ?_)
    · trivial
    clear hK K
    (try simp only [Act.put, List.setIfInBounds_toArray, List.set_cons_zero, List.set_cons_succ])
    refine wpAnyH_ready (rs := [7]) (by kernel_rfl) (by simp) ?_
    refine' AllReadyH.cons (i := 7) ?ho7x9 (fun K hK => ?st7x9) AllReadyH.nil
    case ho7x9 => (simp only [List.getElem?_toArray, List.getElem?_cons_succ, List.getElem?_cons_zero]; try rfl)
    go_simp
    refine hK.out _ _ ?_ (fun hHeld => ?_)
    · trivial
    clear hK K
    (try simp only [Act.put, List.setIfInBounds_toArray, List.set_cons_zero, List.set_cons_succ])
    refine wpAnyH_ready (rs := [8]) (by kernel_rfl) (by simp) ?_
    refine' AllReadyH.cons (i := 8) ?ho8x10 (fun K hK => ?st8x10) AllReadyH.nil
    case ho8x10 => (simp only [List.getElem?_toArray, List.getElem?_cons_succ, List.getElem?_cons_zero]; try rfl)
    go_simp
    refine hK.out _ _ ?_ (fun hHeld => ?_)
    · trivial
    clear hK K
    (try simp only [Act.put, List.setIfInBounds_toArray, List.set_cons_zero, List.set_cons_succ])
    refine' wpAnyH_take (i := 9) (v := .string (⟨ds.toArray⟩ ++ ⟨#[c]⟩)) ?hi9x11 ?hs9x11 ?hf9x11 ?hr9x11 ?hQ9x11 ?hy9x11 ?hS9x11 ?rest9x11
    case hi9x11 => (simp only [List.getElem?_toArray, List.getElem?_cons_succ, List.getElem?_cons_zero]; try rfl)
    case hs9x11 => kernel_rfl
    case hf9x11 => kernel_rfl
    case hr9x11 => kernel_rfl
    case hQ9x11 => exact fun _ _ _ h => h
    case hy9x11 => exact Or.inl ⟨by rfl, by (intro w hSw; (try dsimp only at hSw); go_simp)⟩
    case hS9x11 => assumption
    (try simp only [Act.put, List.setIfInBounds_toArray, List.set_cons_zero, List.set_cons_succ])
    refine' wpAnyH_take (i := 10) (v := .string (⟨ds.toArray⟩ ++ ⟨#[c]⟩)) ?hi10x12 ?hs10x12 ?hf10x12 ?hr10x12 ?hQ10x12 ?hy10x12 ?hS10x12 ?rest10x12
    case hi10x12 => (simp only [List.getElem?_toArray, List.getElem?_cons_succ, List.getElem?_cons_zero]; try rfl)
    case hs10x12 => kernel_rfl
    case hf10x12 => kernel_rfl
    case hr10x12 => kernel_rfl
    case hQ10x12 => exact fun _ _ _ h => h
    case hy10x12 => exact Or.inl ⟨by rfl, by (intro w hSw; (try dsimp only at hSw); go_simp)⟩
    case hS10x12 => assumption
    (try simp only [Act.put, List.setIfInBounds_toArray, List.set_cons_zero, List.set_cons_succ])
    refine wpAnyH_done (by kernel_rfl) ?_ _
    refine NoPanic.normal ?_
    go_wp2
    go_ret
    exact ⟨ret_str2 (bytes_ext (by simp)), by go_grown⟩
  case st7x8 =>
    go_simp
    refine hK.out _ _ ?_ (fun hHeld => ?_)
    · trivial
    clear hK K
    (try simp only [Act.put, List.setIfInBounds_toArray, List.set_cons_zero, List.set_cons_succ])
    refine wpAnyH_ready (rs := [2, 8]) (by kernel_rfl) (by simp) ?_
    refine' AllReadyH.cons (i := 2) ?ho2x13 (fun K hK => ?st2x13) (AllReadyH.cons (i := 8) ?ho8x14 (fun K hK => ?st8x14) AllReadyH.nil)
    case ho2x13 => (simp only [List.getElem?_toArray, List.getElem?_cons_succ, List.getElem?_cons_zero]; try rfl)
    case ho8x14 => (simp only [List.getElem?_toArray, List.getElem?_cons_succ, List.getElem?_cons_zero]; try rfl)
    case st2x13 =>
      go_simp
      refine (ihH.out _).mono ?_
      rintro e w' ⟨rfl, hb'⟩
      have hb := chainB (B := w.heap.size) (a := w) (by go_grown) hb' (by first | omega | (simp; done) | (simp; omega))
      have hs := hb.size
      have hcv2 := convAt w.heap.size d hdH.out w' ((hb'.cell (p := ⟨w.heap.size, 0, none⟩) (by simp)).trans (cell_new w #[.int .u8 (d : Int)] 5 0))
      rw [hcH.out] at hcv2
      refine hK.out _ _ ?_ (fun hHeld => ?_)
      · trivial
      clear hK K
      (try simp only [Act.put, List.setIfInBounds_toArray, List.set_cons_zero, List.set_cons_succ])
      refine wpAnyH_ready (rs := [8]) (by kernel_rfl) (by simp) ?_
      refine' AllReadyH.cons (i := 8) ?ho8x15 (fun K hK => ?st8x15) AllReadyH.nil
      case ho8x15 => (simp only [List.getElem?_toArray, List.getElem?_cons_succ, List.getElem?_cons_zero]; try rfl)
      go_simp
      refine hK.out _ _ ?_ (fun hHeld => ?_)
      · trivial
      clear hK K
      (try simp only [Act.put, List.setIfInBounds_toArray, List.set_cons_zero, List.set_cons_succ])
      refine' wpAnyH_take (i := 9) (v := .string (⟨ds.toArray⟩ ++ ⟨#[c]⟩)) ?hi9x16 ?hs9x16 ?hf9x16 ?hr9x16 ?hQ9x16 ?hy9x16 ?hS9x16 ?rest9x16
      case hi9x16 => (simp only [List.getElem?_toArray, List.getElem?_cons_succ, List.getElem?_cons_zero]; try rfl)
      case hs9x16 => kernel_rfl
      case hf9x16 => kernel_rfl
      case hr9x16 => kernel_rfl
      case hQ9x16 => exact fun _ _ _ h => h
      case hy9x16 => exact Or.inl ⟨by rfl, by (intro w hSw; (try dsimp only at hSw); go_simp)⟩
      case hS9x16 => assumption
      (try simp only [Act.put, List.setIfInBounds_toArray, List.set_cons_zero, List.set_cons_succ])
      refine' wpAnyH_take (i := 10) (v := .string (⟨ds.toArray⟩ ++ ⟨#[c]⟩)) ?hi10x17 ?hs10x17 ?hf10x17 ?hr10x17 ?hQ10x17 ?hy10x17 ?hS10x17 ?rest10x17
      case hi10x17 => (simp only [List.getElem?_toArray, List.getElem?_cons_succ, List.getElem?_cons_zero]; try rfl)
      case hs10x17 => kernel_rfl
      case hf10x17 => kernel_rfl
      case hr10x17 => kernel_rfl
      case hQ10x17 => exact fun _ _ _ h => h
      case hy10x17 => exact Or.inl ⟨by rfl, by (intro w hSw; (try dsimp only at hSw); go_simp)⟩
      case hS10x17 => assumption
      (try simp only [Act.put, List.setIfInBounds_toArray, List.set_cons_zero, List.set_cons_succ])
      refine wpAnyH_done (by kernel_rfl) ?_ _
      refine NoPanic.normal ?_
      go_wp2
      go_ret
      exact ⟨ret_str2 (bytes_ext (by simp)), by go_grown⟩
    case st8x14 =>
      go_simp
      refine hK.out _ _ ?_ (fun hHeld => ?_)
      · trivial
      clear hK K
      (try simp only [Act.put, List.setIfInBounds_toArray, List.set_cons_zero, List.set_cons_succ])
      refine wpAnyH_ready (rs := [2]) (by kernel_rfl) (by simp) ?_
      refine' AllReadyH.cons (i := 2) ?ho2x18 (fun K hK => ?st2x18) AllReadyH.nil
      case ho2x18 => (simp only [List.getElem?_toArray, List.getElem?_cons_succ, List.getElem?_cons_zero]; try rfl)
      go_simp
      refine (ihH.out _).mono ?_
      rintro e w' ⟨rfl, hb'⟩
      have hb := chainB (B := w.heap.size) (a := w) (by go_grown) hb' (by first | omega | (simp; done) | (simp; omega))
      have hs := hb.size
      refine hK.out _ _ ?_ (fun hHeld => ?_)
      · trivial
      clear hK K
      (try simp only [Act.put, List.setIfInBounds_toArray, List.set_cons_zero, List.set_cons_succ])
      refine' wpAnyH_take (i := 9) (v := .string (⟨ds.toArray⟩ ++ ⟨#[c]⟩)) ?hi9x19 ?hs9x19 ?hf9x19 ?hr9x19 ?hQ9x19 ?hy9x19 ?hS9x19 ?rest9x19
      case hi9x19 => (simp only [List.getElem?_toArray, List.getElem?_cons_succ, List.getElem?_cons_zero]; try rfl)
      case hs9x19 => kernel_rfl
      case hf9x19 => kernel_rfl
      case hr9x19 => kernel_rfl
      case hQ9x19 => exact fun _ _ _ h => h
      case hy9x19 => exact Or.inl ⟨by rfl, by (intro w hSw; (try dsimp only at hSw); go_simp)⟩
      case hS9x19 => assumption
      (try simp only [Act.put, List.setIfInBounds_toArray, List.set_cons_zero, List.set_cons_succ])
      refine' wpAnyH_take (i := 10) (v := .string (⟨ds.toArray⟩ ++ ⟨#[c]⟩)) ?hi10x20 ?hs10x20 ?hf10x20 ?hr10x20 ?hQ10x20 ?hy10x20 ?hS10x20 ?rest10x20
      case hi10x20 => (simp only [List.getElem?_toArray, List.getElem?_cons_succ, List.getElem?_cons_zero]; try rfl)
      case hs10x20 => kernel_rfl
      case hf10x20 => kernel_rfl
      case hr10x20 => kernel_rfl
      case hQ10x20 => exact fun _ _ _ h => h
      case hy10x20 => exact Or.inl ⟨by rfl, by (intro w hSw; (try dsimp only at hSw); go_simp)⟩
      case hS10x20 => assumption
      (try simp only [Act.put, List.setIfInBounds_toArray, List.set_cons_zero, List.set_cons_succ])
      refine wpAnyH_done (by kernel_rfl) ?_ _
      refine NoPanic.normal ?_
      go_wp2
      go_ret
      exact ⟨ret_str2 (bytes_ext (by simp)), by go_grown⟩

/-- The document's digits, of every number below 2^64. -/
theorem refDigits_any : ∀ (n : Nat), n < 18446744073709551616 → ∀ w, Calls Tryd.prog 46 #[.int .u64 (n : Int)] w fun e w' => e = .returned (.string ⟨(decDigits n).toArray⟩) ∧ Below w.heap.size w w' := by
  intro n
  induction n using Nat.strongRecOn with
  | ind n ih =>
    intro hn w
    by_cases h : n < 10
    · exact digits_small n h w
    · exact digits_big n h hn w (ih (n / 10) (by omega) (by omega))
end Go.Proofs.YtkpjbmbdndkalaaDoor
