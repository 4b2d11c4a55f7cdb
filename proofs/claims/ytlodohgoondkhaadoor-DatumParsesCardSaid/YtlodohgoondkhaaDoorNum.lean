/-
  What datum.Neg, Add, Sub, Mul, Div and Mod answer, at this program: for all data. Condition: the tables of Go's library lie as their initialisers lay them.
-/
import Derived.Test.YtlodohgoondkhaaDoorStrict
import Derived.Laws.EntriesVeiled
set_option linter.unusedVariables false
set_option linter.unusedSimpArgs false
namespace Go.Proofs.YtlodohgoondkhaaDoor
open Go.RowKit Go.Lib

set_option maxHeartbeats 2000000 in
theorem numClos_ok (ka : Int) (ba : Bool) (na : Int) (sa : ByteArray) (kb : Int) (bb : Bool) (nb : Int) (sb : ByteArray) (pb : Nat) (g : Nat) (n' : Int) (w : World)
    (hp : w.cell? ⟨pb, 0, none⟩ = some (.func (.func g) #[] #[])) (he : ∀ args w, (callFunc g args).run Tryd.prog w = .ok (.enter g args) w)
    (hg : ∀ W, Calls Tryd.prog g #[.int .i64 na, .int .i64 nb] W fun e W' => e = .returned (.tuple #[.int .i64 n', .int .u16 0]) ∧ W = W') :
    Calls Tryd.prog 107 #[.agg #[.int .u8 ka, .bool ba, .int .i64 na, .string sa], .agg #[.int .u8 kb, .bool bb, .int .i64 nb, .string sb], .pointer (some ⟨pb, 0, none⟩)] w
      fun e w' => e = .returned (.tuple #[.agg #[.int .u8 3, .bool false, .int .i64 n', .string ⟨#[]⟩], .int .u16 0]) ∧ Below w.heap.size w w' := by
  have hpl : pb < w.heap.size := by
    rcases Nat.lt_or_ge pb w.heap.size with h | h
    · exact h
    · simp [World.cell?, Array.getElem?_eq_none h] at hp
  have hgH := Lib.hid hg
  have hc3 : ∀ o1 o2 o3, (((w.alloc o1).alloc o2).alloc o3).cell? ⟨pb, 0, none⟩ = some (.func (.func g) #[] #[]) := fun o1 o2 o3 => by
    rw [(((Below.refl w.heap.size w).alloc (Nat.le_refl _) o1).alloc (by simp) o2 |>.alloc (by simp; omega) o3).cell (p := ⟨pb, 0, none⟩) hpl]
    exact hp
  clear hg hp
  go_enter Tryd.func107, Tryd.ntmps107
  go_wp2_with fail
  refine (hgH.out _).mono ?_
  rintro e w1 ⟨rfl, rfl⟩
  go_wp2
  go_returns
  exact ⟨rfl, by go_grown⟩

set_option maxHeartbeats 2000000 in
theorem numClos_bad (ka : Int) (ba : Bool) (na : Int) (sa : ByteArray) (kb : Int) (bb : Bool) (nb : Int) (sb : ByteArray) (pb : Nat) (g : Nat) (n' x' : Int) (w : World)
    (hp : w.cell? ⟨pb, 0, none⟩ = some (.func (.func g) #[] #[])) (he : ∀ args w, (callFunc g args).run Tryd.prog w = .ok (.enter g args) w)
    (hx : (x' != 0) = true)
    (hg : ∀ W, Calls Tryd.prog g #[.int .i64 na, .int .i64 nb] W fun e W' => e = .returned (.tuple #[.int .i64 n', .int .u16 x']) ∧ W = W') :
    Calls Tryd.prog 107 #[.agg #[.int .u8 ka, .bool ba, .int .i64 na, .string sa], .agg #[.int .u8 kb, .bool bb, .int .i64 nb, .string sb], .pointer (some ⟨pb, 0, none⟩)] w
      fun e w' => e = .returned (.tuple #[.agg #[.int .u8 0, .bool false, .int .i64 0, .string ⟨#[]⟩], .int .u16 x']) ∧ Below w.heap.size w w' := by
  have hpl : pb < w.heap.size := by
    rcases Nat.lt_or_ge pb w.heap.size with h | h
    · exact h
    · simp [World.cell?, Array.getElem?_eq_none h] at hp
  have hgH := Lib.hid hg
  have hc3 : ∀ o1 o2 o3, (((w.alloc o1).alloc o2).alloc o3).cell? ⟨pb, 0, none⟩ = some (.func (.func g) #[] #[]) := fun o1 o2 o3 => by
    rw [(((Below.refl w.heap.size w).alloc (Nat.le_refl _) o1).alloc (by simp) o2 |>.alloc (by simp; omega) o3).cell (p := ⟨pb, 0, none⟩) hpl]
    exact hp
  clear hg hp
  go_enter Tryd.func107, Tryd.ntmps107
  go_wp2_with fail
  refine (hgH.out _).mono ?_
  rintro e w1 ⟨rfl, rfl⟩
  go_wp2
  go_returns
  exact ⟨rfl, by go_grown⟩

theorem app1 (a b c : Value) : #[a, b] ++ #[c] = #[a, b, c] := rfl
theorem app0 (a b : Value) : #[a, b] ++ #[] = #[a, b] := rfl

/-- An operation of numbers, by what it comes to on the numbers. -/
def numS (a b : Dat) (r : Int × Int) : Dat × Int :=
  if fitsD 3 a = false then (zeroD, 13) else if fitsD 3 b = false then (zeroD, 13)
  else if a.k = 1 then (nullD, 0) else if b.k = 1 then (nullD, 0)
  else if r.2 = 0 then (intD r.1, 0) else (zeroD, r.2)

theorem numS_bad1 {a b : Dat} {r : Int × Int} (h : fitsD 3 a = false) : numS a b r = (zeroD, 13) := by simp [numS, h]
theorem numS_bad2 {a b : Dat} {r : Int × Int} (h : fitsD 3 a = true) (h2 : fitsD 3 b = false) : numS a b r = (zeroD, 13) := by simp [numS, h, h2]
theorem numS_null1 {a b : Dat} {r : Int × Int} (h : fitsD 3 a = true) (h2 : fitsD 3 b = true) (k : a.k = 1) : numS a b r = (nullD, 0) := by simp [numS, h, h2, k]
theorem numS_null2 {a b : Dat} {r : Int × Int} (h : fitsD 3 a = true) (h2 : fitsD 3 b = true) (k : ¬ a.k = 1) (k2 : b.k = 1) : numS a b r = (nullD, 0) := by simp [numS, h, h2, k, k2]
theorem numS_ok {a b : Dat} {r : Int × Int} (h : fitsD 3 a = true) (h2 : fitsD 3 b = true) (k : ¬ a.k = 1) (k2 : ¬ b.k = 1) (hr : r.2 = 0) : numS a b r = (intD r.1, 0) := by simp [numS, h, h2, k, k2, hr]
theorem numS_err {a b : Dat} {r : Int × Int} (h : fitsD 3 a = true) (h2 : fitsD 3 b = true) (k : ¬ a.k = 1) (k2 : ¬ b.k = 1) (hr : ¬ r.2 = 0) : numS a b r = (zeroD, r.2) := by simp [numS, h, h2, k, k2, hr]

/-- A result that is a datum and an error's number. -/
abbrev resV (r : Dat × Int) : Value := .tuple #[.agg #[.int .u8 r.1.k, .bool r.1.b, .int .i64 r.1.n, .string r.1.s], .int .u16 r.2]

set_option maxHeartbeats 2000000 in
theorem numbers_any (ka : Int) (ba : Bool) (na : Int) (sa : ByteArray) (kb : Int) (bb : Bool) (nb : Int) (sb : ByteArray) (g : Nat) (r : Int × Int) (w : World) (hT : Tabs w) (ha : sa.size ≤ 9223372036854775807) (hb : sb.size ≤ 9223372036854775807)
    (he : ∀ args w, (callFunc g args).run Tryd.prog w = .ok (.enter g args) w)
    (hg : ∀ W, Calls Tryd.prog g #[.int .i64 na, .int .i64 nb] W fun e W' => e = .returned (.tuple #[.int .i64 r.1, .int .u16 r.2]) ∧ W = W') :
    Calls Tryd.prog 69 #[.agg #[.int .u8 ka, .bool ba, .int .i64 na, .string sa], .agg #[.int .u8 kb, .bool bb, .int .i64 nb, .string sb], .func (.func g) #[] #[]] w
      fun e w' => e = .returned (resV (numS ⟨ka, ba, na, sa⟩ ⟨kb, bb, nb, sb⟩ r)) ∧ Below w.heap.size w w' := by
  have hTH := Lib.hid hT
  have hgH := Lib.hid hg
  have heH := Lib.hid he
  clear hT hg he
  by_cases f1 : fitsD 3 ⟨ka, ba, na, sa⟩ = false
  · have hS : numS ⟨ka, ba, na, sa⟩ ⟨kb, bb, nb, sb⟩ r = (zeroD, 13) := numS_bad1 f1
    rw [hS]
    clear hS
    have f1H := Lib.hid f1; clear f1
    go_enter Tryd.func69, Tryd.ntmps69
    go_wp2_with fail
    refine (strict_bad1 3 ka ba na sa kb bb nb sb _ _ ((((hTH.out.alloc _).alloc _).alloc _).alloc _) ha hb f1H.out).mono ?_
    rintro e w1 ⟨rfl, hb1⟩
    have hbw : Below w.heap.size w w1 := chainB (by go_grown) hb1 (by simp; omega)
    have hR := (Has.new (((w.alloc (.cells #[.int .u8 ka, .bool ba, .int .i64 na, .string sa] 24)).alloc (.cells #[.int .u8 kb, .bool bb, .int .i64 nb, .string sb] 24)).alloc (.cells #[.func (.func g) #[] #[]] 73)) (.int .u8 0) (.bool false) (.int .i64 0) (.string ⟨#[]⟩)).below hb1
    obtain ⟨r0, r1, r2, r3⟩ := hR.cells
    obtain ⟨rf0, rf1, rf2, rf3⟩ := hR.free
    simp only [World.size_alloc] at r0 r1 r2 r3 rf0 rf1 rf2 rf3
    have hz : w.heap.size + 3 < w1.heap.size := by have := hb1.size; simp at this; omega
    clear hR
    go_wp2
    refine bodyPost_ret (v := .tuple #[.agg #[.int .u8 0, .bool false, .int .i64 0, .string ⟨#[]⟩], .int .u16 13]) (by simp [results, Tryd.results69, go_sem, r0, r1, r2, r3, hz]) rfl ⟨rfl, ?_⟩
    go_grown
  have f1 : fitsD 3 ⟨ka, ba, na, sa⟩ = true := by simpa using f1
  by_cases f2 : fitsD 3 ⟨kb, bb, nb, sb⟩ = false
  · have hS : numS ⟨ka, ba, na, sa⟩ ⟨kb, bb, nb, sb⟩ r = (zeroD, 13) := numS_bad2 f1 f2
    rw [hS]
    clear hS
    have f1H := Lib.hid f1; have f2H := Lib.hid f2; clear f1 f2
    go_enter Tryd.func69, Tryd.ntmps69
    go_wp2_with fail
    refine (strict_bad2 3 ka ba na sa kb bb nb sb _ _ ((((hTH.out.alloc _).alloc _).alloc _).alloc _) ha hb f1H.out f2H.out).mono ?_
    rintro e w1 ⟨rfl, hb1⟩
    have hbw : Below w.heap.size w w1 := chainB (by go_grown) hb1 (by simp; omega)
    have hR := (Has.new (((w.alloc (.cells #[.int .u8 ka, .bool ba, .int .i64 na, .string sa] 24)).alloc (.cells #[.int .u8 kb, .bool bb, .int .i64 nb, .string sb] 24)).alloc (.cells #[.func (.func g) #[] #[]] 73)) (.int .u8 0) (.bool false) (.int .i64 0) (.string ⟨#[]⟩)).below hb1
    obtain ⟨r0, r1, r2, r3⟩ := hR.cells
    obtain ⟨rf0, rf1, rf2, rf3⟩ := hR.free
    simp only [World.size_alloc] at r0 r1 r2 r3 rf0 rf1 rf2 rf3
    have hz : w.heap.size + 3 < w1.heap.size := by have := hb1.size; simp at this; omega
    clear hR
    go_wp2
    refine bodyPost_ret (v := .tuple #[.agg #[.int .u8 0, .bool false, .int .i64 0, .string ⟨#[]⟩], .int .u16 13]) (by simp [results, Tryd.results69, go_sem, r0, r1, r2, r3, hz]) rfl ⟨rfl, ?_⟩
    go_grown
  have f2 : fitsD 3 ⟨kb, bb, nb, sb⟩ = true := by simpa using f2
  by_cases k1 : ka = 1
  · have hS : numS ⟨ka, ba, na, sa⟩ ⟨kb, bb, nb, sb⟩ r = (nullD, 0) := numS_null1 f1 f2 k1
    rw [hS]
    clear hS
    have f1H := Lib.hid f1; have f2H := Lib.hid f2; have k1H := Lib.hid k1; clear f1 f2 k1
    go_enter Tryd.func69, Tryd.ntmps69
    go_wp2_with fail
    refine (strict_null1 3 ka ba na sa kb bb nb sb _ _ ((((hTH.out.alloc _).alloc _).alloc _).alloc _) ha hb f1H.out f2H.out k1H.out).mono ?_
    rintro e w1 ⟨rfl, hb1⟩
    have hbw : Below w.heap.size w w1 := chainB (by go_grown) hb1 (by simp; omega)
    have hR := (Has.new (((w.alloc (.cells #[.int .u8 ka, .bool ba, .int .i64 na, .string sa] 24)).alloc (.cells #[.int .u8 kb, .bool bb, .int .i64 nb, .string sb] 24)).alloc (.cells #[.func (.func g) #[] #[]] 73)) (.int .u8 0) (.bool false) (.int .i64 0) (.string ⟨#[]⟩)).below hb1
    obtain ⟨r0, r1, r2, r3⟩ := hR.cells
    obtain ⟨rf0, rf1, rf2, rf3⟩ := hR.free
    simp only [World.size_alloc] at r0 r1 r2 r3 rf0 rf1 rf2 rf3
    have hz : w.heap.size + 3 < w1.heap.size := by have := hb1.size; simp at this; omega
    clear hR
    go_wp2
    refine bodyPost_ret (v := .tuple #[.agg #[.int .u8 1, .bool false, .int .i64 0, .string ⟨#[]⟩], .int .u16 0]) (by simp [results, Tryd.results69, go_sem, r0, r1, r2, r3, hz]) rfl ⟨rfl, ?_⟩
    go_grown
  by_cases k2 : kb = 1
  · have hS : numS ⟨ka, ba, na, sa⟩ ⟨kb, bb, nb, sb⟩ r = (nullD, 0) := numS_null2 f1 f2 k1 k2
    rw [hS]
    clear hS
    have f1H := Lib.hid f1; have f2H := Lib.hid f2; have k1H := Lib.hid k1; have k2H := Lib.hid k2; clear f1 f2 k1 k2
    go_enter Tryd.func69, Tryd.ntmps69
    go_wp2_with fail
    refine (strict_null2 3 ka ba na sa kb bb nb sb _ _ ((((hTH.out.alloc _).alloc _).alloc _).alloc _) ha hb f1H.out f2H.out (by simpa using k1H.out) k2H.out).mono ?_
    rintro e w1 ⟨rfl, hb1⟩
    have hbw : Below w.heap.size w w1 := chainB (by go_grown) hb1 (by simp; omega)
    have hR := (Has.new (((w.alloc (.cells #[.int .u8 ka, .bool ba, .int .i64 na, .string sa] 24)).alloc (.cells #[.int .u8 kb, .bool bb, .int .i64 nb, .string sb] 24)).alloc (.cells #[.func (.func g) #[] #[]] 73)) (.int .u8 0) (.bool false) (.int .i64 0) (.string ⟨#[]⟩)).below hb1
    obtain ⟨r0, r1, r2, r3⟩ := hR.cells
    obtain ⟨rf0, rf1, rf2, rf3⟩ := hR.free
    simp only [World.size_alloc] at r0 r1 r2 r3 rf0 rf1 rf2 rf3
    have hz : w.heap.size + 3 < w1.heap.size := by have := hb1.size; simp at this; omega
    clear hR
    go_wp2
    refine bodyPost_ret (v := .tuple #[.agg #[.int .u8 1, .bool false, .int .i64 0, .string ⟨#[]⟩], .int .u16 0]) (by simp [results, Tryd.results69, go_sem, r0, r1, r2, r3, hz]) rfl ⟨rfl, ?_⟩
    go_grown
  obtain ⟨n', x'⟩ := r
  have hcl : ∀ W, Below (((w.alloc (.cells #[.int .u8 ka, .bool ba, .int .i64 na, .string sa] 24)).alloc (.cells #[.int .u8 kb, .bool bb, .int .i64 nb, .string sb] 24)).alloc (.cells #[.func (.func g) #[] #[]] 73)).heap.size
      (((w.alloc (.cells #[.int .u8 ka, .bool ba, .int .i64 na, .string sa] 24)).alloc (.cells #[.int .u8 kb, .bool bb, .int .i64 nb, .string sb] 24)).alloc (.cells #[.func (.func g) #[] #[]] 73)) W → W.cell? ⟨w.heap.size + 1 + 1, 0, none⟩ = some (.func (.func g) #[] #[]) := fun W hW => by
    rw [hW.cell (by simp)]
    have h := cell_new ((w.alloc (.cells #[.int .u8 ka, .bool ba, .int .i64 na, .string sa] 24)).alloc (.cells #[.int .u8 kb, .bool bb, .int .i64 nb, .string sb] 24)) #[.func (.func g) #[] #[]] 73 0
    rw [World.size_alloc, World.size_alloc] at h
    exact h
  have hclH := Lib.hid hcl
  clear hcl
  by_cases hx : x' = 0
  · have hS : numS ⟨ka, ba, na, sa⟩ ⟨kb, bb, nb, sb⟩ (n', x') = (intD n', 0) := numS_ok f1 f2 k1 k2 hx
    rw [hS]
    clear hS
    have f1H := Lib.hid f1; have f2H := Lib.hid f2; have k1H := Lib.hid k1; have k2H := Lib.hid k2; have hxH := Lib.hid hx; clear f1 f2 k1 k2 hx
    go_enter Tryd.func69, Tryd.ntmps69
    go_wp2_with fail
    refine (strict_go 3 ka ba na sa kb bb nb sb _ _ ((((hTH.out.alloc _).alloc _).alloc _).alloc _) ha hb f1H.out f2H.out (by simpa using k1H.out) (by simpa using k2H.out) 107 _ (enters_of Tryd.func107 (by kernel_rfl) rfl) 3 false n' ⟨#[]⟩ 0 rfl
      (fun W hW => by rw [app1]; exact numClos_ok ka ba na sa kb bb nb sb _ g n' W (hclH.out W (((Below.refl _ _).alloc (Nat.le_refl _) _).trans (hW.mono (by simp)))) heH.out (by have h := hgH.out; rw [hxH.out] at h; exact h))).mono ?_
    rintro e w1 ⟨rfl, hb1⟩
    have hbw : Below w.heap.size w w1 := chainB (by go_grown) hb1 (by simp; omega)
    have hR := (Has.new (((w.alloc (.cells #[.int .u8 ka, .bool ba, .int .i64 na, .string sa] 24)).alloc (.cells #[.int .u8 kb, .bool bb, .int .i64 nb, .string sb] 24)).alloc (.cells #[.func (.func g) #[] #[]] 73)) (.int .u8 0) (.bool false) (.int .i64 0) (.string ⟨#[]⟩)).below hb1
    obtain ⟨r0, r1, r2, r3⟩ := hR.cells
    obtain ⟨rf0, rf1, rf2, rf3⟩ := hR.free
    simp only [World.size_alloc] at r0 r1 r2 r3 rf0 rf1 rf2 rf3
    have hz : w.heap.size + 3 < w1.heap.size := by have := hb1.size; simp at this; omega
    clear hR
    go_wp2
    refine bodyPost_ret (v := .tuple #[.agg #[.int .u8 3, .bool false, .int .i64 n', .string ⟨#[]⟩], .int .u16 0]) (by simp [results, Tryd.results69, go_sem, r0, r1, r2, r3, hz]) rfl ⟨rfl, ?_⟩
    go_grown
  · have hS : numS ⟨ka, ba, na, sa⟩ ⟨kb, bb, nb, sb⟩ (n', x') = (zeroD, x') := numS_err f1 f2 k1 k2 hx
    rw [hS]
    clear hS
    have f1H := Lib.hid f1; have f2H := Lib.hid f2; have k1H := Lib.hid k1; have k2H := Lib.hid k2; have hxH := Lib.hid hx; clear f1 f2 k1 k2 hx
    go_enter Tryd.func69, Tryd.ntmps69
    go_wp2_with fail
    refine (strict_go 3 ka ba na sa kb bb nb sb _ _ ((((hTH.out.alloc _).alloc _).alloc _).alloc _) ha hb f1H.out f2H.out (by simpa using k1H.out) (by simpa using k2H.out) 107 _ (enters_of Tryd.func107 (by kernel_rfl) rfl) 0 false 0 ⟨#[]⟩ x' rfl
      (fun W hW => by rw [app1]; exact numClos_bad ka ba na sa kb bb nb sb _ g n' x' W (hclH.out W (((Below.refl _ _).alloc (Nat.le_refl _) _).trans (hW.mono (by simp)))) heH.out (by simpa using hxH.out) hgH.out)).mono ?_
    rintro e w1 ⟨rfl, hb1⟩
    have hbw : Below w.heap.size w w1 := chainB (by go_grown) hb1 (by simp; omega)
    have hR := (Has.new (((w.alloc (.cells #[.int .u8 ka, .bool ba, .int .i64 na, .string sa] 24)).alloc (.cells #[.int .u8 kb, .bool bb, .int .i64 nb, .string sb] 24)).alloc (.cells #[.func (.func g) #[] #[]] 73)) (.int .u8 0) (.bool false) (.int .i64 0) (.string ⟨#[]⟩)).below hb1
    obtain ⟨r0, r1, r2, r3⟩ := hR.cells
    obtain ⟨rf0, rf1, rf2, rf3⟩ := hR.free
    simp only [World.size_alloc] at r0 r1 r2 r3 rf0 rf1 rf2 rf3
    have hz : w.heap.size + 3 < w1.heap.size := by have := hb1.size; simp at this; omega
    clear hR
    go_wp2
    refine bodyPost_ret (v := .tuple #[.agg #[.int .u8 0, .bool false, .int .i64 0, .string ⟨#[]⟩], .int .u16 x']) (by simp [results, Tryd.results69, go_sem, r0, r1, r2, r3, hz]) rfl ⟨rfl, ?_⟩
    go_grown
end Go.Proofs.YtlodohgoondkhaaDoor
