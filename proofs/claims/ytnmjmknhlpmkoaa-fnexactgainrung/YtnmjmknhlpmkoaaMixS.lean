/- The model's mixing and parting of two numbers. Condition: the numbers lie within MaxWide. -/
import Derived.Test.YtnmjmknhlpmkoaaTurM
namespace Go.Proofs.Ytnmjmknhlpmkoaa.MixS
open Go.ChangeShapes Go.WideShapes Go.ChangeAt Go.RowKit Go.Proofs.Ytnmjmknhlpmkoaa.Num Go.Proofs.Ytnmjmknhlpmkoaa.Sli Go.Proofs.Ytnmjmknhlpmkoaa.Div Go.Proofs.Ytnmjmknhlpmkoaa.Samp Go.Proofs.Ytnmjmknhlpmkoaa.TurM

end Go.Proofs.Ytnmjmknhlpmkoaa.MixS
