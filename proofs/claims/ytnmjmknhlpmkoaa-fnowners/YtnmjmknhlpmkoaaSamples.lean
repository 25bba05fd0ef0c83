/- The samples that are drawn: a list of its own, each number a sample. -/
import Derived.Test.YtnmjmknhlpmkoaaLists
namespace Go.Proofs.Ytnmjmknhlpmkoaa.Samples
open Go.ChangeShapes Go.WideShapes Go.ChangeAt Go.RowKit Go.Proofs.Ytnmjmknhlpmkoaa.Num Go.Proofs.Ytnmjmknhlpmkoaa.Sli Go.Proofs.Ytnmjmknhlpmkoaa.Src Go.Proofs.Ytnmjmknhlpmkoaa.Lists

def clampV (v : Int) : Int := if v < -32768 then -32768 else if 32767 < v then 32767 else v
theorem clampV_bd (v : Int) : -32768 ≤ clampV v ∧ clampV v ≤ 32767 := by unfold clampV; split <;> (try split) <;> omega
theorem ne_some {a b : Nat} (h : a ≠ b) : some a ≠ some b := fun e => h (by simpa using e)
theorem step_bd (s : Int) (i : Nat) (h1 : -300 ≤ s) (h2 : s ≤ 700) (hi : i ≤ 20) : -6000 ≤ s * (i : Int) ∧ s * (i : Int) ≤ 14000 := by
  have a := Int.mul_le_mul_of_nonneg_right h2 (show (0 : Int) ≤ i by omega)
  have b := Int.mul_le_mul_of_nonneg_right h1 (show (0 : Int) ≤ i by omega)
  omega

end Go.Proofs.Ytnmjmknhlpmkoaa.Samples
