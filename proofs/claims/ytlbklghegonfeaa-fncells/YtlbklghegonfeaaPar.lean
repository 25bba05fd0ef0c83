/- Pairs: an answer is made of a pair; both numbers of a pair are held against MaxWide, by the program and by the model. No conditions. -/
import Derived.Test.YtlbklghegonfeaaTurM
import Derived.Test.YtlbklghegonfeaaBlk
namespace Go.Proofs.Ytlbklghegonfeaa.Par
open Go.ChangeShapes Go.WideShapes Go.ChangeAt Go.RowKit Go.Proofs.Ytlbklghegonfeaa.Num Go.Proofs.Ytlbklghegonfeaa.Sli Go.Proofs.Ytlbklghegonfeaa.Div Go.Proofs.Ytlbklghegonfeaa.Samp Go.Proofs.Ytlbklghegonfeaa.Blk Go.Proofs.Ytlbklghegonfeaa.TurM

theorem ret_three {c a b c' a' b' : Int} (h1 : c = c') (h2 : a = a') (h3 : b = b') : Ending.returned (.agg #[.int .i64 c, .int .i64 a, .int .i64 b]) = .returned (.agg #[.int .i64 c', .int .i64 a', .int .i64 b']) := by rw [h1, h2, h3]
theorem result_calls (a b : Int) (w : World) :
    Calls Try.prog 25 #[.agg #[.int .i64 a, .int .i64 b]] w fun e w' => e = .returned (.agg #[.int .i64 0, .int .i64 a, .int .i64 b]) ∧ Below w.heap.size w w' := by
  go_enter Try.func25, Try.ntmps25
  go_wp2
  exact bodyPost_ret (v := .agg #[.int .i64 0, .int .i64 a, .int .i64 b]) (by simp [results, Try.results25, go_sem]) rfl ⟨rfl, bmore (bmore (Below.refl _ _) _) _⟩
end Go.Proofs.Ytlbklghegonfeaa.Par
