/- The laws' helpers over lists of int64: a copy holds the same numbers in new memory; what was marked is held; answers with such a list. Condition: at most 1048576 numbers. -/
import Derived.Test.YtnmjmknhlpmkoaaApp
import Derived.Test.YtnmjmknhlpmkoaaToInt
import Derived.RegionTactic
import Derived.WalkSpells
namespace Go.Proofs.Ytnmjmknhlpmkoaa.IntL
open Go.ChangeShapes Go.WideShapes Go.ChangeAt Go.RowKit Go.Proofs.Ytnmjmknhlpmkoaa.Num Go.Proofs.Ytnmjmknhlpmkoaa.Sli Go.Proofs.Ytnmjmknhlpmkoaa.App

theorem infoI : (Try.prog.info? 2).map (fun i => (i.zero, i.size, i.bytes)) = some (some (.int .i64 0), 1, 8) := by kernel_rfl
/-- An owned list of numbers. -/
abbrev OwI (base : Nat) (w : World) (v : Value) (ys : List Int) : Prop := Ow .i64 2 base w v ys



/-- The marks that are written: the numbers from k on, as bytes. -/
def marks (k n : Nat) : List Int := (List.range n).map fun i => ((k + i : Nat) : Int)
theorem marks_len (k n : Nat) : (marks k n).length = n := by simp [marks]
theorem marks_get (k n i : Nat) (h : i < n) : (marks k n).getD i 0 = ((k + i : Nat) : Int) := by simp [marks, h]
/-- What a list holds once i marks are written into it. -/
def marked (k : Nat) (xs : List Int) (i : Nat) : List Int := marks k i ++ xs.drop i
theorem marked_len (k : Nat) (xs : List Int) (i : Nat) (h : i ≤ xs.length) : (marked k xs i).length = xs.length := by simp [marked, marks_len]; omega
theorem marked_all (k : Nat) (xs : List Int) : marked k xs xs.length = marks k xs.length := by simp [marked]
theorem marked_set (k : Nat) (xs : List Int) (i : Nat) (h : i < xs.length) : (marked k xs i).set i (((k + i : Nat) : Int)) = marked k xs (i + 1) := by
  apply List.ext_getElem
  · rw [List.length_set, marked_len _ _ _ (by omega), marked_len _ _ _ (by omega)]
  · intro j h1 h2
    simp only [marked, marks, List.getElem_set, List.getElem_append, List.length_map, List.length_range, List.getElem_map, List.getElem_range, List.getElem_drop]
    by_cases e : i = j
    · subst e; simp
    · simp only [e, if_false]
      by_cases hj : j < i
      · simp [hj, show j < i + 1 by omega]
      · simp only [hj, show ¬ j < i + 1 by omega, dite_false]
        congr 1; omega





end Go.Proofs.Ytnmjmknhlpmkoaa.IntL
