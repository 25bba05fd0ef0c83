/- The model's ladder: steps, halves of steps, what is nearest in steps, and back. No conditions. -/
import Derived.Test.YtodfkicmmcfkaaaLadM
import Derived.Test.YtodfkicmmcfkaaaDiv
import Derived.Test.YtodfkicmmcfkaaaSli
namespace Go.Proofs.Ytodfkicmmcfkaaa.LadS
open Go.ChangeShapes Go.WideShapes Go.ChangeAt Go.RowKit Go.Proofs.Ytodfkicmmcfkaaa.Num Go.Proofs.Ytodfkicmmcfkaaa.Div Go.Proofs.Ytodfkicmmcfkaaa.Sli Go.Proofs.Ytodfkicmmcfkaaa.HalM Go.Proofs.Ytodfkicmmcfkaaa.LadM

end Go.Proofs.Ytodfkicmmcfkaaa.LadS
