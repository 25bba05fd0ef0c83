/- The model's list of coefficients. Conditions: 1, 2, 4, 8 or 16 coefficients, not too great. -/
import Derived.Test.YtnmjmknhlpmkoaaUniS
namespace Go.Proofs.Ytnmjmknhlpmkoaa.GatS
open Go.ChangeShapes Go.WideShapes Go.ChangeAt Go.RowKit Go.Proofs.Ytnmjmknhlpmkoaa.Num Go.Proofs.Ytnmjmknhlpmkoaa.Sli Go.Proofs.Ytnmjmknhlpmkoaa.App Go.Proofs.Ytnmjmknhlpmkoaa.Div Go.Proofs.Ytnmjmknhlpmkoaa.TurM Go.Proofs.Ytnmjmknhlpmkoaa.HalM Go.Proofs.Ytnmjmknhlpmkoaa.IntL Go.Proofs.Ytnmjmknhlpmkoaa.IntA Go.Proofs.Ytnmjmknhlpmkoaa.HalS Go.Proofs.Ytnmjmknhlpmkoaa.UniS

def evE (c : List Int) (i : Nat) : Int := c.getD (2 * i) 0
def odE (c : List Int) (i : Nat) : Int := c.getD (2 * i + 1) 0
theorem le_bG : ∀ (k : Nat) {M : Int}, 0 ≤ M → 0 ≤ bG k M ∧ M ≤ bG k M
  | 0, _, h => ⟨h, Int.le_refl _⟩
  | k + 1, M, h => by have := le_bG k h; show 0 ≤ 2 * bG k M + 3 ∧ M ≤ 2 * bG k M + 3; omega
end Go.Proofs.Ytnmjmknhlpmkoaa.GatS
