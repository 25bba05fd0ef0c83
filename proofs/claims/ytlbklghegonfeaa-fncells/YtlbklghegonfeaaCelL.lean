/- A cell has seven indices at most. No program is spoken of. -/
import Derived.Test.YtlbklghegonfeaaPaiM
namespace Go.Proofs.Ytlbklghegonfeaa.CelL
open Go.Proofs.Ytlbklghegonfeaa.Num Go.Proofs.Ytlbklghegonfeaa.PaiM
theorem cl_len (s v k : Int) (t : Bool) : (clL s v k t).length ≤ 7 := by
  unfold clL
  split
  · exact ceI_len s v k t 7
  · simp
end Go.Proofs.Ytlbklghegonfeaa.CelL
