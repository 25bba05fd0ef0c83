/- The walk through FnPairs. Condition: the program's contracts of SplitIndex, JoinIndex, SideIndex, SpreadOf, wherever nothing that was there before has turned. -/
import Derived.Test.YtlbklghegonfeaaPaiC
import Derived.Test.YtlbklghegonfeaaPaiD
import Derived.Test.YtlbklghegonfeaaBlk
import Derived.Deep.RegionHeld3
import Derived.Deep.DrawnRows
import Derived.Deep.DeepCutAuto
namespace Go.Proofs.Ytlbklghegonfeaa.PaiW
open Go.ChangeShapes Go.WideShapes Go.ChangeAt Go.RowKit Go.Proofs.Ytlbklghegonfeaa.Num Go.Proofs.Ytlbklghegonfeaa.Sli Go.Proofs.Ytlbklghegonfeaa.Div Go.Proofs.Ytlbklghegonfeaa.Blk Go.Proofs.Ytlbklghegonfeaa.HalM Go.Proofs.Ytlbklghegonfeaa.PaiM Go.Proofs.Ytlbklghegonfeaa.PaiS Go.Proofs.Ytlbklghegonfeaa.PaiC Go.Proofs.Ytlbklghegonfeaa.PaiD

theorem fieldI0 (c a : Value) (w : World) : (Instr.field 31 (.agg #[c, a]) 0).run Try.prog w = .ok c w := by kernel_rfl
theorem fieldI1 (c a : Value) (w : World) : (Instr.field 31 (.agg #[c, a]) 1).run Try.prog w = .ok a w := by kernel_rfl
theorem fieldP0 (c a b : Value) (w : World) : (Instr.field 34 (.agg #[c, a, b]) 0).run Try.prog w = .ok c w := by kernel_rfl
attribute [local go_sem] fieldI0 fieldI1 fieldP0
theorem lwAbs_calls (v : Int) (w : World) (h1 : -4611686018427387904 ≤ v) (h2 : v ≤ 4611686018427387904) :
    Calls Try.prog 11 #[.int .i64 v] w fun e w' => e = .returned (.int .i64 (absV v)) ∧ w' = w := by
  by_cases hm : v < 0
  · have H : Hid (absV v = -v) := if_pos hm
    go_enter Try.func11, Try.ntmps11
    go_wp2
    go_ret
    exact ⟨ret_int H.out.symm, rfl⟩
  · have H : Hid (absV v = v) := if_neg hm
    go_enter Try.func11, Try.ntmps11
    go_wp2
    go_ret
    exact ⟨ret_int H.out.symm, rfl⟩
end Go.Proofs.Ytlbklghegonfeaa.PaiW
