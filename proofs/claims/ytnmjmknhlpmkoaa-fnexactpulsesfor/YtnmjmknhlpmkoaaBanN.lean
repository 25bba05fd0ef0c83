/- The mathematics of the bands themselves: where they lie, their norms, and that these are all of the upper half. No program is spoken of. -/
import Derived.Test.YtnmjmknhlpmkoaaBanM
namespace Go.Proofs.Ytnmjmknhlpmkoaa.BanN
open Go.ChangeShapes Go.WideShapes Go.ChangeAt Go.RowKit Go.Proofs.Ytnmjmknhlpmkoaa.Num Go.Proofs.Ytnmjmknhlpmkoaa.Div Go.Proofs.Ytnmjmknhlpmkoaa.Samp Go.Proofs.Ytnmjmknhlpmkoaa.Norm Go.Proofs.Ytnmjmknhlpmkoaa.HalM Go.Proofs.Ytnmjmknhlpmkoaa.LadM Go.Proofs.Ytnmjmknhlpmkoaa.BloS Go.Proofs.Ytnmjmknhlpmkoaa.BanM

end Go.Proofs.Ytnmjmknhlpmkoaa.BanN
