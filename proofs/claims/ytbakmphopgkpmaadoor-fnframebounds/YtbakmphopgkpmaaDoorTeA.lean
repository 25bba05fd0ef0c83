/- The program turns, in a part of a block, the numbers that are as far from its two ends as each other, ahead. Condition: the table of turns, and numbers within MaxWide. -/
import Derived.Test.YtbakmphopgkpmaaDoorBkI
import Derived.Test.YtbakmphopgkpmaaDoorTurA
namespace Go.Proofs.YtbakmphopgkpmaaDoor.TeA
open Go.ChangeShapes Go.WideShapes Go.ChangeAt Go.RowKit Go.Proofs.YtbakmphopgkpmaaDoor.Num Go.Proofs.YtbakmphopgkpmaaDoor.Sli Go.Proofs.YtbakmphopgkpmaaDoor.App Go.Proofs.YtbakmphopgkpmaaDoor.Samp Go.Proofs.YtbakmphopgkpmaaDoor.Blk Go.Proofs.YtbakmphopgkpmaaDoor.TurM Go.Proofs.YtbakmphopgkpmaaDoor.HalM Go.Proofs.YtbakmphopgkpmaaDoor.TurI Go.Proofs.YtbakmphopgkpmaaDoor.TurA Go.Proofs.YtbakmphopgkpmaaDoor.Par Go.Proofs.YtbakmphopgkpmaaDoor.BkI

theorem grown_of_below {w w' : World} (h : Below w.heap.size w w') (r : Option Nat) : w.grownBy w' r := ⟨h.os, h.tape, h.output, h.size, fun j hj _ => h.block j hj⟩
/-- The pairs of a part: how they stand at the beginning, what they become, and how they stand at the end. -/
theorem te_end {F : Nat → Int → Int → Int × Int} {m : Nat} {D : List Int} (hn : sz4 (2 * m)) (hD : D.length = m) : pS m (m / 2) (prE F (2 * m) D) (fun i => D.getD i 0) = prL F (2 * m) D := by
  by_cases h2 : 2 * m ≤ 2
  · rw [prL_two F h2 (by omega), show m / 2 = 0 by omega, pS_zero, ← hD, mkL_self]
  · have := prL_state (F := F) hn (by omega) D
    rw [show 2 * m / 2 = m by omega, show 2 * m / 4 = m / 2 by omega] at this
    exact this
theorem te_step {F : Nat → Int → Int → Int × Int} {m j : Nat} (hn : sz4 (2 * m)) (hj : j < m / 2) (D : List Int) :
    prE F (2 * m) D j = (F j (D.getD j 0) (D.getD (m - 1 - j) 0)).1 ∧ prE F (2 * m) D (m - 1 - j) = (F j (D.getD j 0) (D.getD (m - 1 - j) 0)).2 := by
  have e1 := prE_lo (F := F) (n := 2 * m) (j := j) (by omega) (by omega) D
  have e2 := prE_hi (F := F) (n := 2 * m) (j := j) hn (by omega) (by omega) D
  rw [show 2 * m / 2 = m by omega] at e1 e2
  exact ⟨e1, e2⟩
/-- What the rounds keep: the list in its block, the table, and all else. -/
structure TE (w : World) (g : Nat) (L : List Int) (W : World) : Prop where
  b : Bi W g L
  t : Tab W
  k : w.grownBy W (some g)
theorem TE.later {w : World} {g : Nat} {L : List Int} {W W' : World} (h : TE w g L W) (hb : Below W.heap.size W W') : TE w g L W' := ⟨h.b.later hb, h.t.later hb, grown_same h.k (grown_of_below hb _)⟩
theorem tab_set {w : World} (h : Tab w) {g : Nat} (hg : g ≠ 0) (i : Nat) (v : Value) : Tab (w.setCell ⟨g, i, none⟩ v) := by obtain ⟨t, h⟩ := h; exact ⟨t, h.other hg i v⟩
end Go.Proofs.YtbakmphopgkpmaaDoor.TeA
