/- What FnTens draws: a number, a list of numbers, a size and a list. Each list is new memory. -/
import Derived.Test.YtnmjmknhlpmkoaaSamples
namespace Go.Proofs.Ytnmjmknhlpmkoaa.Draws
open Go.ChangeShapes Go.WideShapes Go.ChangeAt Go.RowKit Go.Proofs.Ytnmjmknhlpmkoaa.Num Go.Proofs.Ytnmjmknhlpmkoaa.Sli Go.Proofs.Ytnmjmknhlpmkoaa.Src Go.Proofs.Ytnmjmknhlpmkoaa.Lists Go.Proofs.Ytnmjmknhlpmkoaa.Samples

theorem own_cell {base : Nat} {w : World} {g cap : Nat} {ys : List Int} (h : Lists.Own base w g cap ys) (i : Nat) (hi : i < ys.length) : w.cell? ⟨g, i, none⟩ = some (.int .i64 (ys.getD i 0)) := by
  have h' : w.ownsRow base 2 1 (.slice (some ⟨g, 0, none⟩) ys.length cap) ys.length (ys.map (Value.int .i64)) := h
  rw [h'.cellAt i (by omega)]
  simp [hi]
theorem own_frozen {base : Nat} {w : World} {g cap : Nat} {ys : List Int} (h : Lists.Own base w g cap ys) (i : Nat) : w.frozen? ⟨g, i, none⟩ = false := by
  have h' : w.ownsRow base 2 1 (.slice (some ⟨g, 0, none⟩) ys.length cap) ys.length (ys.map (Value.int .i64)) := h
  exact h'.frozenAt i
theorem own_set {base : Nat} {w : World} {g cap : Nat} {ys : List Int} (h : Lists.Own base w g cap ys) (i : Nat) (x : Int) : Lists.Own base (w.setCell ⟨g, i, none⟩ (.int .i64 x)) g cap (ys.set i x) ∧ w.grownBy (w.setCell ⟨g, i, none⟩ (.int .i64 x)) (some g) := by
  have h' : w.ownsRow base 2 1 (.slice (some ⟨g, 0, none⟩) ys.length cap) ys.length (ys.map (Value.int .i64)) := h
  have := h'.stored i (.int .i64 x)
  refine ⟨?_, this.2⟩
  unfold Lists.Own
  rw [List.length_set, List.map_set]
  exact this.1

theorem l1Min_calls (a b : Int) (w : World) :
    Calls Try.prog 32 #[.int .i64 a, .int .i64 b] w fun e w' => e = .returned (.int .i64 (min a b)) ∧ w' = w := by
  by_cases h : a < b
  · have H : Hid (min a b = a) := Int.min_eq_left (by omega)
    go_enter Try.func32, Try.ntmps32
    go_wp2
    go_ret
    exact ⟨ret_int H.out.symm, rfl⟩
  · have H : Hid (min a b = b) := Int.min_eq_right (by omega)
    go_enter Try.func32, Try.ntmps32
    go_wp2
    go_ret
    exact ⟨ret_int H.out.symm, rfl⟩


end Go.Proofs.Ytnmjmknhlpmkoaa.Draws
