/-
  What stamp.Then answers, at this program: of any two ways. Condition: neither enters more than 2^40 counters; numbers of their kinds.
-/
import Derived.Test.YtkpjbmbdndkalaaDoorStTh1
import Derived.Test.YtkpjbmbdndkalaaDoorStTh2
import Derived.Test.YtkpjbmbdndkalaaDoorStTh3
set_option linter.unusedVariables false
set_option linter.unusedSimpArgs false
namespace Go.Proofs.YtkpjbmbdndkalaaDoor
open Go.RowKit Go.Lib

theorem then_any (vp vq : Value) (p q : Pt) (w : World) (hp : PtV w vp p) (hq : PtV w vq q) (wp : PtW p) (wq : PtW q) (hsp : p.en.length ≤ 1099511627776) (hsq : q.en.length ≤ 1099511627776) :
    Calls Tryd.prog 29 #[vp, vq] w (OutP (thenP p q) (thenE p q) w) := by
  by_cases h : q.lv < 0
  · exact then_bad_any vp vq p q w hp hq wp wq hsp hsq h
  by_cases h1 : q.lv = (p.en.length : Int)
  · exact then_eq_any vp vq p q w hp hq wp wq hsp hsq (by omega) h1
  by_cases h2 : (p.en.length : Int) < q.lv
  · exact then_lt_any vp vq p q w hp hq wp wq hsp hsq h2
  · exact then_gt_any vp vq p q w hp hq wp wq hsp hsq (by omega) (p.en.length - q.lv.toNat - 1) (by omega)
end Go.Proofs.YtkpjbmbdndkalaaDoor
