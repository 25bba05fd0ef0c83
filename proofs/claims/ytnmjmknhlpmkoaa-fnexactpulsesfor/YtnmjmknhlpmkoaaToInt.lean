/- The copy that the laws make of a list of int64 holds the same numbers, in new memory; two slices that hold the same numbers are told alike. Condition: at most 1048576 numbers. -/
import Derived.Test.YtnmjmknhlpmkoaaSli
import Derived.RegionTactic
namespace Go.Proofs.Ytnmjmknhlpmkoaa.ToInt
open Go.ChangeShapes Go.WideShapes Go.ChangeAt Go.RowKit Go.Proofs.Ytnmjmknhlpmkoaa.Num Go.Proofs.Ytnmjmknhlpmkoaa.Sli


end Go.Proofs.Ytnmjmknhlpmkoaa.ToInt
