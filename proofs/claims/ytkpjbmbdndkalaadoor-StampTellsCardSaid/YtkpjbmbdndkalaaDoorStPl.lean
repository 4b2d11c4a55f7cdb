/-
  What stamp.PathLeq answers, at this program: of any two ways (that enter no more than 2^40 counters), at any depth.
-/
import Derived.Test.YtkpjbmbdndkalaaDoorStPl1
import Derived.Test.YtkpjbmbdndkalaaDoorStPl2
set_option linter.unusedVariables false
set_option linter.unusedSimpArgs false
namespace Go.Proofs.YtkpjbmbdndkalaaDoor
open Go.RowKit Go.Lib

set_option maxHeartbeats 2000000 in
set_option maxRecDepth 1000000 in
theorem pathLeq_any (vp vq : Value) (p q : Pt) (d : Int) (w : World) (hp : PtV w vp p) (hq : PtV w vq q) (hpl : p.en.length ≤ 1099511627776) (hql : q.en.length ≤ 1099511627776) :
    Calls Tryd.prog 30 #[vp, vq, .int .i64 d] w fun e w' => e = .returned (.bool (pathLeq p q d)) ∧ Below w.heap.size w w' := by
  by_cases g0 : 0 ≤ d
  · by_cases g3 : d ≤ 3
    · cases g1 : leavesB p d with
      | false => exact pathLeq_bad vp vq p q d w hp hq hpl hql (.inr (.inr (.inl g1)))
      | true =>
        cases g2 : leavesB q d with
        | false => exact pathLeq_bad vp vq p q d w hp hq hpl hql (.inr (.inr (.inr g2)))
        | true =>
          by_cases hs : d - p.lv + p.en.length ≤ 3
          · by_cases he : d - p.lv + p.en.length = d - q.lv + q.en.length
            · exact pathLeq_eq vp vq p q d w hp hq hpl hql g0 g3 g1 g2 hs he
            · exact pathLeq_ne vp vq p q d w hp hq hpl hql g0 g3 g1 g2 hs he
          · exact pathLeq_long vp vq p q d w hp hq hpl hql g0 g3 g1 g2 (by omega)
    · exact pathLeq_bad vp vq p q d w hp hq hpl hql (.inr (.inl (by omega)))
  · exact pathLeq_bad vp vq p q d w hp hq hpl hql (.inl (by omega))
end Go.Proofs.YtkpjbmbdndkalaaDoor
