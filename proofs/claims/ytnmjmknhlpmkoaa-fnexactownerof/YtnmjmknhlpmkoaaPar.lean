/- Pairs: an answer is made of a pair; both numbers of a pair are held against MaxWide, by the program and by the model. No conditions. -/
import Derived.Test.YtnmjmknhlpmkoaaTurM
import Derived.Test.YtnmjmknhlpmkoaaBlk
namespace Go.Proofs.Ytnmjmknhlpmkoaa.Par
open Go.ChangeShapes Go.WideShapes Go.ChangeAt Go.RowKit Go.Proofs.Ytnmjmknhlpmkoaa.Num Go.Proofs.Ytnmjmknhlpmkoaa.Sli Go.Proofs.Ytnmjmknhlpmkoaa.Div Go.Proofs.Ytnmjmknhlpmkoaa.Samp Go.Proofs.Ytnmjmknhlpmkoaa.Blk Go.Proofs.Ytnmjmknhlpmkoaa.TurM

theorem ret_three {c a b c' a' b' : Int} (h1 : c = c') (h2 : a = a') (h3 : b = b') : Ending.returned (.agg #[.int .i64 c, .int .i64 a, .int .i64 b]) = .returned (.agg #[.int .i64 c', .int .i64 a', .int .i64 b']) := by rw [h1, h2, h3]
end Go.Proofs.Ytnmjmknhlpmkoaa.Par
