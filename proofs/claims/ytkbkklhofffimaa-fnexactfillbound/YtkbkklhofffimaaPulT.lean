/- The model's pulses: faults, their number, those of a number. Conditions: right pulses and numbers for what is called; lists of at most 1048576 numbers for what is exported. -/
import Derived.Test.YtkbkklhofffimaaPulS
namespace Go.Proofs.Ytkbkklhofffimaa.PulT
open Go.ChangeShapes Go.WideShapes Go.ChangeAt Go.RowKit Go.Proofs.Ytkbkklhofffimaa.Num Go.Proofs.Ytkbkklhofffimaa.Div Go.Proofs.Ytkbkklhofffimaa.Sli Go.Proofs.Ytkbkklhofffimaa.App Go.Proofs.Ytkbkklhofffimaa.Blk Go.Proofs.Ytkbkklhofffimaa.IntL Go.Proofs.Ytkbkklhofffimaa.IntA Go.Proofs.Ytkbkklhofffimaa.Norm Go.Proofs.Ytkbkklhofffimaa.HalM Go.Proofs.Ytkbkklhofffimaa.PulM Go.Proofs.Ytkbkklhofffimaa.PulS

end Go.Proofs.Ytkbkklhofffimaa.PulT
