/- TurnOf, TurnPair and BackPair of the model: what they return at every argument. No conditions. -/
import Derived.Test.YtcanknlelbomnaaGb
namespace Go.Proofs.Ytcanknlelbomnaa.TurS
open Go.ChangeShapes Go.WideShapes Go.ChangeAt Go.RowKit Go.Proofs.Ytcanknlelbomnaa.Num Go.Proofs.Ytcanknlelbomnaa.Sli Go.Proofs.Ytcanknlelbomnaa.Div Go.Proofs.Ytcanknlelbomnaa.Samp Go.Proofs.Ytcanknlelbomnaa.Blk Go.Proofs.Ytcanknlelbomnaa.TurM Go.Proofs.Ytcanknlelbomnaa.Par

end Go.Proofs.Ytcanknlelbomnaa.TurS
