/- The mathematics of bands: how many are low, the mask, what it asks for, who owns. No program is spoken of. -/
import Derived.Test.YtnmjmknhlpmkoaaLadM
import Derived.Test.YtnmjmknhlpmkoaaSamp
import Derived.Test.YtnmjmknhlpmkoaaDiv
import Derived.Test.YtnmjmknhlpmkoaaNorm
import Derived.Test.YtnmjmknhlpmkoaaHalM
import Derived.Test.YtnmjmknhlpmkoaaBloS
namespace Go.Proofs.Ytnmjmknhlpmkoaa.BanM
open Go.ChangeShapes Go.WideShapes Go.ChangeAt Go.RowKit Go.Proofs.Ytnmjmknhlpmkoaa.Num Go.Proofs.Ytnmjmknhlpmkoaa.Div Go.Proofs.Ytnmjmknhlpmkoaa.Samp Go.Proofs.Ytnmjmknhlpmkoaa.Norm Go.Proofs.Ytnmjmknhlpmkoaa.HalM Go.Proofs.Ytnmjmknhlpmkoaa.LadM Go.Proofs.Ytnmjmknhlpmkoaa.BloS

/-- How many are low. -/
def lcC (s : Int) : Int := szF s
def lcV (s : Int) : Int := if szF s = 0 then s / 2 else 0
/-- Pulses of a mask; the gain's rung; the owner. -/
def mkB (m : Int) : Bool := inB 0 3 m
def pqC (m : Int) : Int := if mkB m = true then 0 else 3
def pqV (m : Int) : Int := if mkB m = true then 8 - 2 * m else 0
def grO (r m : Int) : Bool := rgB r && mkB m
def grC (r m : Int) : Int := if grO r m = true then 0 else 3
def grV (r m : Int) : Int := if grO r m = true then min 47 (r + 2 * m) else 0
def owO (a b : Int) : Bool := inB 0 9999 a && inB 0 1 b
def owC (a b : Int) : Int := if owO a b = true then 0 else 3
def owV (a b : Int) : Int := if owO a b = true then (a + b) % 2 else 0
def loN (l : List Int) : Int := sumAbs (l.take (l.length / 2))
def hiN (l : List Int) : Int := sumAbs (l.drop (l.length / 2))
def mskV (l h : Int) : Int := if l ≤ 4 * h then 0 else if l ≤ 16 * h then 1 else if l ≤ 64 * h then 2 else 3
theorem msk_bd (l h : Int) : 0 ≤ mskV l h ∧ mskV l h ≤ 3 := by
  unfold mskV
  split
  · omega
  · split
    · omega
    · split <;> omega
end Go.Proofs.Ytnmjmknhlpmkoaa.BanM
