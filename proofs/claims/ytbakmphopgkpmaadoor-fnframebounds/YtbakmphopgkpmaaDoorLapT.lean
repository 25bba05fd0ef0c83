/- The model's seam: both sides of it, turned ahead or turned back. Conditions: a right size, lists of half of it, numbers within MaxWide. -/
import Derived.Test.YtbakmphopgkpmaaDoorLapS
import Derived.Test.YtbakmphopgkpmaaDoorHalS
namespace Go.Proofs.YtbakmphopgkpmaaDoor.LapT
open Go.ChangeShapes Go.WideShapes Go.ChangeAt Go.RowKit Go.Proofs.YtbakmphopgkpmaaDoor.Num Go.Proofs.YtbakmphopgkpmaaDoor.Sli Go.Proofs.YtbakmphopgkpmaaDoor.App Go.Proofs.YtbakmphopgkpmaaDoor.Div Go.Proofs.YtbakmphopgkpmaaDoor.Samp Go.Proofs.YtbakmphopgkpmaaDoor.Blk Go.Proofs.YtbakmphopgkpmaaDoor.TurM Go.Proofs.YtbakmphopgkpmaaDoor.TurS Go.Proofs.YtbakmphopgkpmaaDoor.HalM Go.Proofs.YtbakmphopgkpmaaDoor.LapM Go.Proofs.YtbakmphopgkpmaaDoor.LapN Go.Proofs.YtbakmphopgkpmaaDoor.IntL Go.Proofs.YtbakmphopgkpmaaDoor.IntA Go.Proofs.YtbakmphopgkpmaaDoor.HalS
/-- The second list is written from its beginning on. -/
def sbS (m k : Nat) (v : Nat → Int) : List Int := mkL m (fun j => if j < k then v j else 0)
theorem sbS_len (m k : Nat) (v : Nat → Int) : (sbS m k v).length = m := mkL_len _ _
theorem sbS_zero (m : Nat) (v : Nat → Int) : sbS m 0 v = List.replicate m 0 := by
  apply ext_g (by rw [sbS_len, List.length_replicate])
  intro i hi
  rw [sbS_len] at hi
  rw [show (sbS m 0 v).getD i 0 = if i < 0 then v i else 0 from mkL_get _ hi, if_neg (by omega), zero_get]
theorem sbS_end (m : Nat) (v : Nat → Int) : sbS m m v = mkL m v := mkL_congr (fun _ hi => if_pos hi)
theorem sbS_set (m k : Nat) (v : Nat → Int) : (sbS m k v).set k (v k) = sbS m (k + 1) v := by
  apply ext_g (by simp [sbS_len])
  intro j hj
  simp only [List.length_set, sbS_len] at hj
  rw [getD_set _ _ _ _ (by simpa [sbS_len] using hj)]
  unfold sbS
  rw [mkL_get _ hj, mkL_get _ hj]
  by_cases e : k = j
  · subst e; rw [if_pos rfl, if_pos (by omega)]
  · rw [if_neg e]
    by_cases e2 : j < k
    · rw [if_pos e2, if_pos (by omega)]
    · rw [if_neg e2, if_neg (by omega)]
end Go.Proofs.YtbakmphopgkpmaaDoor.LapT
