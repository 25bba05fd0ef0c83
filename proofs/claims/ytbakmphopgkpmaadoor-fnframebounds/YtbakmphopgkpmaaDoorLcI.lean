/- The program's seam, turned ahead: both sides of it are told anew. Conditions: the table of turns, a right size, lists of half of it, numbers within MaxWide. -/
import Derived.Test.YtbakmphopgkpmaaDoorLbI
import Derived.Test.YtbakmphopgkpmaaDoorTeA
import Derived.Test.YtbakmphopgkpmaaDoorHvI
import Derived.Test.YtbakmphopgkpmaaDoorHalS
import Derived.Test.YtbakmphopgkpmaaDoorGb
namespace Go.Proofs.YtbakmphopgkpmaaDoor.LcI
open Go.ChangeShapes Go.WideShapes Go.ChangeAt Go.RowKit Go.Proofs.YtbakmphopgkpmaaDoor.Num Go.Proofs.YtbakmphopgkpmaaDoor.Sli Go.Proofs.YtbakmphopgkpmaaDoor.App Go.Proofs.YtbakmphopgkpmaaDoor.Samp Go.Proofs.YtbakmphopgkpmaaDoor.Blk Go.Proofs.YtbakmphopgkpmaaDoor.TurM Go.Proofs.YtbakmphopgkpmaaDoor.HalM Go.Proofs.YtbakmphopgkpmaaDoor.LapM Go.Proofs.YtbakmphopgkpmaaDoor.LapN Go.Proofs.YtbakmphopgkpmaaDoor.IntL Go.Proofs.YtbakmphopgkpmaaDoor.IntA Go.Proofs.YtbakmphopgkpmaaDoor.TurI Go.Proofs.YtbakmphopgkpmaaDoor.TurA Go.Proofs.YtbakmphopgkpmaaDoor.Par Go.Proofs.YtbakmphopgkpmaaDoor.BkI Go.Proofs.YtbakmphopgkpmaaDoor.HalS Go.Proofs.YtbakmphopgkpmaaDoor.LaI Go.Proofs.YtbakmphopgkpmaaDoor.LbI
open Go.Proofs.YtbakmphopgkpmaaDoor.HvI (mx mx_len mx_zero mx_end mx_get mx_set)

/-- A list that is written from its end on. -/
def sx (m k : Nat) (v o : Nat → Int) : List Int := mkL m (fun j => if m - 1 - j < k then v j else o j)
theorem sx_len (m k : Nat) (v o : Nat → Int) : (sx m k v o).length = m := mkL_len _ _
theorem sx_zero (m : Nat) (v o : Nat → Int) : sx m 0 v o = mkL m o := mkL_congr (fun _ _ => if_neg (by omega))
theorem sx_end (m : Nat) (v o : Nat → Int) : sx m m v o = mkL m v := mkL_congr (fun _ _ => if_pos (by omega))
theorem sx_get {m k : Nat} (v o : Nat → Int) (h : k < m) : (sx m k v o).getD (m - 1 - k) 0 = o (m - 1 - k) := by unfold sx; rw [mkL_get _ (by omega), if_neg (by omega)]
theorem sx_set {m k : Nat} (hk : k < m) (v o : Nat → Int) : (sx m k v o).set (m - 1 - k) (v (m - 1 - k)) = sx m (k + 1) v o := by
  apply ext_g (by simp [sx_len])
  intro j hj
  simp only [List.length_set, sx_len] at hj
  rw [getD_set _ _ _ _ (by simpa [sx_len] using hj)]
  unfold sx
  rw [mkL_get _ hj, mkL_get _ hj]
  by_cases e : m - 1 - k = j
  · subst e; rw [if_pos rfl, if_pos (by omega)]
  · rw [if_neg e]
    by_cases e2 : m - 1 - j < k
    · rw [if_pos e2, if_pos (by omega)]
    · rw [if_neg e2, if_neg (by omega)]
end Go.Proofs.YtbakmphopgkpmaaDoor.LcI
