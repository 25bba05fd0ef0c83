/- TurnOf, TurnPair and BackPair of the model: what they return at every argument. No conditions. -/
import Derived.Test.YtnmjmknhlpmkoaaPar
namespace Go.Proofs.Ytnmjmknhlpmkoaa.TurS
open Go.ChangeShapes Go.WideShapes Go.ChangeAt Go.RowKit Go.Proofs.Ytnmjmknhlpmkoaa.Num Go.Proofs.Ytnmjmknhlpmkoaa.Sli Go.Proofs.Ytnmjmknhlpmkoaa.Div Go.Proofs.Ytnmjmknhlpmkoaa.Samp Go.Proofs.Ytnmjmknhlpmkoaa.Blk Go.Proofs.Ytnmjmknhlpmkoaa.TurM Go.Proofs.Ytnmjmknhlpmkoaa.Par

end Go.Proofs.Ytnmjmknhlpmkoaa.TurS
