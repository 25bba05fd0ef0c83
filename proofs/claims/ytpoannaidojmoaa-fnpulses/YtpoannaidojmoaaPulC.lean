/- The walk through FnCounts. Condition: the program's contract of CountPulses, wherever nothing that was there before has turned. -/
import Derived.Test.YtpoannaidojmoaaPulD
import Derived.Test.YtpoannaidojmoaaBlk
import Derived.Deep.RegionHeld3
import Derived.Deep.DrawnRows
import Derived.Deep.DeepCutAuto
namespace Go.Proofs.Ytpoannaidojmoaa.PulC
open Go.ChangeShapes Go.WideShapes Go.ChangeAt Go.RowKit Go.Proofs.Ytpoannaidojmoaa.Num Go.Proofs.Ytpoannaidojmoaa.Sli Go.Proofs.Ytpoannaidojmoaa.Div Go.Proofs.Ytpoannaidojmoaa.App Go.Proofs.Ytpoannaidojmoaa.Blk Go.Proofs.Ytpoannaidojmoaa.PulM Go.Proofs.Ytpoannaidojmoaa.PulS Go.Proofs.Ytpoannaidojmoaa.PulT Go.Proofs.Ytpoannaidojmoaa.PulD

theorem fieldI0 (c a : Value) (w : World) : (Instr.field 28 (.agg #[c, a]) 0).run Try.prog w = .ok c w := by kernel_rfl
theorem fieldI1 (c a : Value) (w : World) : (Instr.field 28 (.agg #[c, a]) 1).run Try.prog w = .ok a w := by kernel_rfl
attribute [local go_sem] fieldI0 fieldI1
theorem cp_bd (d k : Int) : 0 ≤ cpV d k ∧ cpV d k ≤ 100000 := by
  by_cases h : cpC d k = 0
  · obtain ⟨e, _, _, _, _, g1, g2, _⟩ := counts_law h
    omega
  · have : cpV d k = 0 := if_neg (by intro e; exact h (if_pos e))
    omega
end Go.Proofs.Ytpoannaidojmoaa.PulC
