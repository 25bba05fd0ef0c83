/- The model's ladder: steps, halves of steps, what is nearest in steps, and back. No conditions. -/
import Derived.Test.YtnmjmknhlpmkoaaLadM
import Derived.Test.YtnmjmknhlpmkoaaDiv
import Derived.Test.YtnmjmknhlpmkoaaSli
namespace Go.Proofs.Ytnmjmknhlpmkoaa.LadS
open Go.ChangeShapes Go.WideShapes Go.ChangeAt Go.RowKit Go.Proofs.Ytnmjmknhlpmkoaa.Num Go.Proofs.Ytnmjmknhlpmkoaa.Div Go.Proofs.Ytnmjmknhlpmkoaa.Sli Go.Proofs.Ytnmjmknhlpmkoaa.HalM Go.Proofs.Ytnmjmknhlpmkoaa.LadM

theorem l9Rung_calls (r : Int) (w : World) : Calls Try.prog 26 #[.int .i64 r] w fun e w' => e = .returned (.bool (rgB r)) ∧ w' = w := by
  have HI := hid (l1In_calls r 0 47)
  go_enter Try.func26, Try.ntmps26
  go_wp2_with (go_at_call 25; refine (HI.out _).mono ?_; rintro e w' ⟨rfl, rfl⟩)
  go_ret
  exact ⟨rfl, rfl⟩
end Go.Proofs.Ytnmjmknhlpmkoaa.LadS
