/-
  What datum.Cmp answers, at this program: of any two data. No condition.
-/
import Derived.Test.YtfkimemagbkcoaaDoorLite
import Derived.Test.YtfkimemagbkcoaaDoorShelf
import Derived.Lib.Bytealg
import Derived.Shelf.Small.Strs
set_option linter.unusedVariables false
set_option linter.unusedSimpArgs false
namespace Go.Proofs.YtfkimemagbkcoaaDoor
open Go.RowKit Go.Lib

def cmp3 (x y : Int) : Int := if x < y then -1 else if x = y then 0 else 1
def cmpB (x y : Bool) : Int := if x = y then 0 else if y = true then -1 else 1
/-- The order of data. -/
def cmpS (a b : Dat) : Int :=
  if a.k = b.k then (if a.k = 2 then cmpB a.b b.b else if a.k = 3 then cmp3 a.n b.n else if a.k = 4 then compareBytes a.s.data.toList b.s.data.toList else 0) else cmp3 a.k b.k

set_option maxHeartbeats 2000000 in
theorem cmpKind_any (x y : Int) (w : World) :
    Calls Tryd.prog 71 #[.int .u8 x, .int .u8 y] w fun e w' => e = .returned (.int .i64 (cmp3 x y)) ∧ w = w' := by
  by_cases h : x < y
  · have hr := Lib.hid (show cmp3 x y = -1 from if_pos h)
    have h2 : ¬ y < x := by omega
    have h3 : (x == y) = false := by simp; omega
    go_enter Tryd.func71, Tryd.ntmps71
    go_wp2
    go_ret
    exact ⟨ret_int hr.out.symm, rfl⟩
  · by_cases h2 : x = y
    · subst h2
      have hr := Lib.hid (show cmp3 x x = 0 by simp [cmp3])
      go_enter Tryd.func71, Tryd.ntmps71
      go_wp2
      go_ret
      exact ⟨ret_int hr.out.symm, rfl⟩
    · have hr := Lib.hid (show cmp3 x y = 1 by simp [cmp3, h, h2])
      have h3 : y < x := by omega
      have h4 : (x == y) = false := by simpa using h2
      clear h2
      go_enter Tryd.func71, Tryd.ntmps71
      go_wp2
      go_ret
      exact ⟨ret_int hr.out.symm, rfl⟩

set_option maxHeartbeats 2000000 in
theorem cmpInt_any (x y : Int) (w : World) :
    Calls Tryd.prog 73 #[.int .i64 x, .int .i64 y] w fun e w' => e = .returned (.int .i64 (cmp3 x y)) ∧ w = w' := by
  by_cases h : x < y
  · have hr := Lib.hid (show cmp3 x y = -1 from if_pos h)
    have h2 : ¬ y < x := by omega
    have h3 : (x == y) = false := by simp; omega
    go_enter Tryd.func73, Tryd.ntmps73
    go_wp2
    go_ret
    exact ⟨ret_int hr.out.symm, rfl⟩
  · by_cases h2 : x = y
    · subst h2
      have hr := Lib.hid (show cmp3 x x = 0 by simp [cmp3])
      go_enter Tryd.func73, Tryd.ntmps73
      go_wp2
      go_ret
      exact ⟨ret_int hr.out.symm, rfl⟩
    · have hr := Lib.hid (show cmp3 x y = 1 by simp [cmp3, h, h2])
      have h3 : y < x := by omega
      have h4 : (x == y) = false := by simpa using h2
      clear h2
      go_enter Tryd.func73, Tryd.ntmps73
      go_wp2
      go_ret
      exact ⟨ret_int hr.out.symm, rfl⟩

set_option maxHeartbeats 2000000 in
theorem cmpBool_any (x y : Bool) (w : World) :
    Calls Tryd.prog 72 #[.bool x, .bool y] w fun e w' => e = .returned (.int .i64 (cmpB x y)) ∧ w = w' := by
  cases x <;> cases y <;>
  · go_enter Tryd.func72, Tryd.ntmps72
    go_wp2
    go_ret
    exact ⟨rfl, rfl⟩

set_option maxHeartbeats 2000000 in
theorem cmp_any (ka : Int) (ba : Bool) (na : Int) (sa : ByteArray) (kb : Int) (bb : Bool) (nb : Int) (sb : ByteArray) (w : World) :
    Calls Tryd.prog 37 #[.agg #[.int .u8 ka, .bool ba, .int .i64 na, .string sa], .agg #[.int .u8 kb, .bool bb, .int .i64 nb, .string sb]] w
      fun e w' => e = .returned (.int .i64 (cmpS ⟨ka, ba, na, sa⟩ ⟨kb, bb, nb, sb⟩)) ∧ Below w.heap.size w w' := by
  by_cases h : ka = kb
  · subst h
    by_cases h2 : ka = 2
    · subst h2
      have hr := Lib.hid (show cmpS ⟨2, ba, na, sa⟩ ⟨2, bb, nb, sb⟩ = cmpB ba bb from rfl)
      go_enter Tryd.func37, Tryd.ntmps37
      go_wp2_with fail
      refine (cmpBool_any ba bb _).mono ?_
      rintro e w1 ⟨rfl, rfl⟩
      go_wp2
      go_ret
      exact ⟨ret_int hr.out.symm, by go_grown⟩
    · by_cases h3 : ka = 3
      · subst h3
        have hr := Lib.hid (show cmpS ⟨3, ba, na, sa⟩ ⟨3, bb, nb, sb⟩ = cmp3 na nb from rfl)
        go_enter Tryd.func37, Tryd.ntmps37
        go_wp2_with fail
        refine (cmpInt_any na nb _).mono ?_
        rintro e w1 ⟨rfl, rfl⟩
        go_wp2
        go_ret
        exact ⟨ret_int hr.out.symm, by go_grown⟩
      · by_cases h4 : ka = 4
        · subst h4
          have hr := Lib.hid (show cmpS ⟨4, ba, na, sa⟩ ⟨4, bb, nb, sb⟩ = compareBytes sa.data.toList sb.data.toList from rfl)
          go_enter Tryd.func37, Tryd.ntmps37
          go_wp2_with fail
          refine (Tryd.strings_Compare sa sb _).mono ?_
          rintro e w1 ⟨rfl, rfl⟩
          go_wp2
          go_ret
          exact ⟨ret_int hr.out.symm, by go_grown⟩
        · have hr := Lib.hid (show cmpS ⟨ka, ba, na, sa⟩ ⟨ka, bb, nb, sb⟩ = 0 by simp [cmpS, h2, h3, h4])
          have g2 : (ka == 2) = false := by simpa using h2
          have g3 : (ka == 3) = false := by simpa using h3
          have g4 : (ka == 4) = false := by simpa using h4
          clear h2 h3 h4
          go_enter Tryd.func37, Tryd.ntmps37
          go_wp2
          go_ret
          exact ⟨ret_int hr.out.symm, by go_grown⟩
  · have hr := Lib.hid (show cmpS ⟨ka, ba, na, sa⟩ ⟨kb, bb, nb, sb⟩ = cmp3 ka kb by simp [cmpS, h])
    have g : (ka != kb) = true := by simpa using h
    clear h
    go_enter Tryd.func37, Tryd.ntmps37
    go_wp2_with fail
    refine (cmpKind_any ka kb _).mono ?_
    rintro e w1 ⟨rfl, rfl⟩
    go_wp2
    go_ret
    exact ⟨ret_int hr.out.symm, by go_grown⟩
end Go.Proofs.YtfkimemagbkcoaaDoor
