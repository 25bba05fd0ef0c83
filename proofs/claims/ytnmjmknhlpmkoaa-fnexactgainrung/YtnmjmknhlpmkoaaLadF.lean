/- The model's finest rung. Condition: none for FinestRung; lists of at most 1048576 coefficients for l9Finest. -/
import Derived.Test.YtnmjmknhlpmkoaaLadS
import Derived.Test.YtnmjmknhlpmkoaaNorm
import Derived.Test.YtnmjmknhlpmkoaaIntA
import Derived.Test.YtnmjmknhlpmkoaaBlk
import Derived.BigQuiet
namespace Go.Proofs.Ytnmjmknhlpmkoaa.LadF
open Go.ChangeShapes Go.WideShapes Go.ChangeAt Go.RowKit Go.Proofs.Ytnmjmknhlpmkoaa.Num Go.Proofs.Ytnmjmknhlpmkoaa.Sli Go.Proofs.Ytnmjmknhlpmkoaa.App Go.Proofs.Ytnmjmknhlpmkoaa.Div Go.Proofs.Ytnmjmknhlpmkoaa.Norm Go.Proofs.Ytnmjmknhlpmkoaa.Blk Go.Proofs.Ytnmjmknhlpmkoaa.HalM Go.Proofs.Ytnmjmknhlpmkoaa.IntL Go.Proofs.Ytnmjmknhlpmkoaa.IntA Go.Proofs.Ytnmjmknhlpmkoaa.LadM Go.Proofs.Ytnmjmknhlpmkoaa.LadS

/-- A number is small enough by a step. -/
def ok1 (m st x : Int) : Bool := decide (absV (nearV x st) ≤ m)
theorem okR_eq (l : List Int) (m : Int) (r : Nat) : okR l m r = l.all (ok1 m (stN r : Int)) := rfl
theorem all_next {f : Int → Bool} {xs : List Int} {k : Nat} (h : k < xs.length) : (xs.take (k + 1)).all f = ((xs.take k).all f && f (xs.getD k 0)) := by
  rw [List.take_succ_eq_append_getElem h, List.all_append]
  simp [List.getD_eq_getElem?_getD, List.getElem?_eq_getElem h]
theorem co_get {xs : List Int} (h : xs.all coB = true) {k : Nat} (hk : k < xs.length) : -16777216 ≤ xs.getD k 0 ∧ xs.getD k 0 ≤ 16777216 := by
  rw [List.all_eq_true] at h
  have := h (xs.getD k 0) (by rw [List.getD_eq_getElem?_getD, List.getElem?_eq_getElem hk]; exact List.getElem_mem hk)
  exact of_inB this
theorem abs_small {x s : Int} (hs : 1 ≤ s) (hx : -16777216 ≤ x ∧ x ≤ 16777216) : 0 ≤ absV (nearV x s) ∧ absV (nearV x s) ≤ 16777216 := by
  have := near_small hs hx
  unfold absV; split <;> omega
end Go.Proofs.Ytnmjmknhlpmkoaa.LadF
