/- NormOf, the program's and the model's: both return the same code and the same value at any list of int64. Condition: none but that the slice holds its numbers. -/
import Derived.Test.YtnmjmknhlpmkoaaSli
import Derived.Test.YtnmjmknhlpmkoaaDiv
namespace Go.Proofs.Ytnmjmknhlpmkoaa.Norm
open Go.ChangeShapes Go.WideShapes Go.ChangeAt Go.RowKit Go.Proofs.Ytnmjmknhlpmkoaa.Num Go.Proofs.Ytnmjmknhlpmkoaa.Sli Go.Proofs.Ytnmjmknhlpmkoaa.Div

def sumAbs (xs : List Int) : Int := (xs.map absV).sum
def nmC (xs : List Int) : Int := if 64 < xs.length then 2 else if xs.all topB = true then 0 else 3
def nmV (xs : List Int) : Int := if 64 < xs.length then 0 else if xs.all topB = true then sumAbs xs else 0

theorem nm_many {xs : List Int} (h : 64 < xs.length) : 2 = nmC xs ∧ 0 = nmV xs := by
  unfold nmC nmV; rw [if_pos h, if_pos h]; exact ⟨rfl, rfl⟩
theorem nm_yes {xs : List Int} (h : ¬ 64 < xs.length) (ha : xs.all topB = true) : 0 = nmC xs ∧ sumAbs xs = nmV xs := by
  unfold nmC nmV; rw [if_neg h, if_neg h, if_pos ha, if_pos ha]; exact ⟨rfl, rfl⟩
theorem nm_no {xs : List Int} (h : ¬ 64 < xs.length) (k : Nat) (hk : k < xs.length) (hx : topB (xs.getD k 0) = false) : 3 = nmC xs ∧ 0 = nmV xs := by
  have ha : ¬ xs.all topB = true := by
    intro ha
    have := List.all_eq_true.1 ha xs[k] (List.getElem_mem hk)
    rw [List.getD_eq_getElem?_getD, List.getElem?_eq_getElem hk, Option.getD_some] at hx
    rw [this] at hx; cases hx
  unfold nmC nmV; rw [if_neg h, if_neg h, if_neg ha, if_neg ha]; exact ⟨rfl, rfl⟩
theorem take_snoc (xs : List Int) (k : Nat) (h : k < xs.length) : xs.take (k + 1) = xs.take k ++ [xs.getD k 0] := by
  rw [List.take_succ_eq_append_getElem h, List.getD_eq_getElem?_getD, List.getElem?_eq_getElem h, Option.getD_some]
theorem sum_snoc (xs : List Int) (k : Nat) (h : k < xs.length) : sumAbs (xs.take (k + 1)) = sumAbs (xs.take k) + absV (xs.getD k 0) := by
  unfold sumAbs; rw [take_snoc xs k h]; simp
theorem all_snoc (xs : List Int) (k : Nat) (h : k < xs.length) (ha : (xs.take k).all topB = true) (hx : topB (xs.getD k 0) = true) : (xs.take (k + 1)).all topB = true := by
  rw [take_snoc xs k h, List.all_append, ha]; simp only [List.all_cons, List.all_nil, hx]; rfl
theorem sum_bd (xs : List Int) (ha : xs.all topB = true) : 0 ≤ sumAbs xs ∧ sumAbs xs ≤ xs.length * 1099511627776 := by
  induction xs with
  | nil => simp [sumAbs]
  | cons x r ih =>
    simp only [List.all_cons, Bool.and_eq_true] at ha
    have := ih ha.2
    have hb := absV_bd x
    have ht := of_inB ha.1
    unfold sumAbs at this ⊢
    simp only [List.map_cons, List.sum_cons, List.length_cons]
    omega




end Go.Proofs.Ytnmjmknhlpmkoaa.Norm
