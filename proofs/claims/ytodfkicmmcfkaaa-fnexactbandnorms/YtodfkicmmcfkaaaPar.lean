/- Pairs: an answer is made of a pair; both numbers of a pair are held against MaxWide, by the program and by the model. No conditions. -/
import Derived.Test.YtodfkicmmcfkaaaTurM
import Derived.Test.YtodfkicmmcfkaaaBlk
namespace Go.Proofs.Ytodfkicmmcfkaaa.Par
open Go.ChangeShapes Go.WideShapes Go.ChangeAt Go.RowKit Go.Proofs.Ytodfkicmmcfkaaa.Num Go.Proofs.Ytodfkicmmcfkaaa.Sli Go.Proofs.Ytodfkicmmcfkaaa.Div Go.Proofs.Ytodfkicmmcfkaaa.Samp Go.Proofs.Ytodfkicmmcfkaaa.Blk Go.Proofs.Ytodfkicmmcfkaaa.TurM

theorem ret_three {c a b c' a' b' : Int} (h1 : c = c') (h2 : a = a') (h3 : b = b') : Ending.returned (.agg #[.int .i64 c, .int .i64 a, .int .i64 b]) = .returned (.agg #[.int .i64 c', .int .i64 a', .int .i64 b']) := by rw [h1, h2, h3]
end Go.Proofs.Ytodfkicmmcfkaaa.Par
