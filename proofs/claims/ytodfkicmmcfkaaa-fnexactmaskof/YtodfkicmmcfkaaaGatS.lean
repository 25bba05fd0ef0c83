/- The model's list of coefficients. Conditions: 1, 2, 4, 8 or 16 coefficients, not too great. -/
import Derived.Test.YtodfkicmmcfkaaaUniS
namespace Go.Proofs.Ytodfkicmmcfkaaa.GatS
open Go.ChangeShapes Go.WideShapes Go.ChangeAt Go.RowKit Go.Proofs.Ytodfkicmmcfkaaa.Num Go.Proofs.Ytodfkicmmcfkaaa.Sli Go.Proofs.Ytodfkicmmcfkaaa.App Go.Proofs.Ytodfkicmmcfkaaa.Div Go.Proofs.Ytodfkicmmcfkaaa.TurM Go.Proofs.Ytodfkicmmcfkaaa.HalM Go.Proofs.Ytodfkicmmcfkaaa.IntL Go.Proofs.Ytodfkicmmcfkaaa.IntA Go.Proofs.Ytodfkicmmcfkaaa.HalS Go.Proofs.Ytodfkicmmcfkaaa.UniS

def evE (c : List Int) (i : Nat) : Int := c.getD (2 * i) 0
def odE (c : List Int) (i : Nat) : Int := c.getD (2 * i + 1) 0
theorem le_bG : ∀ (k : Nat) {M : Int}, 0 ≤ M → 0 ≤ bG k M ∧ M ≤ bG k M
  | 0, _, h => ⟨h, Int.le_refl _⟩
  | k + 1, M, h => by have := le_bG k h; show 0 ≤ 2 * bG k M + 3 ∧ M ≤ 2 * bG k M + 3; omega
end Go.Proofs.Ytodfkicmmcfkaaa.GatS
