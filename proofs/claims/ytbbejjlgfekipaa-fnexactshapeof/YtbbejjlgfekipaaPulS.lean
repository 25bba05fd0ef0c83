/- The model's pulses: how many there are. Conditions: right lengths and numbers of pulses for what is called; none for what is exported. -/
import Derived.Test.YtbbejjlgfekipaaPulM
import Derived.Test.YtbbejjlgfekipaaDiv
import Derived.Test.YtbbejjlgfekipaaSli
import Derived.Test.YtbbejjlgfekipaaIntA
import Derived.Test.YtbbejjlgfekipaaBkI
import Derived.Test.YtbbejjlgfekipaaBlk
namespace Go.Proofs.Ytbbejjlgfekipaa.PulS
open Go.ChangeShapes Go.WideShapes Go.ChangeAt Go.RowKit Go.Proofs.Ytbbejjlgfekipaa.Num Go.Proofs.Ytbbejjlgfekipaa.Div Go.Proofs.Ytbbejjlgfekipaa.Sli Go.Proofs.Ytbbejjlgfekipaa.App Go.Proofs.Ytbbejjlgfekipaa.Blk Go.Proofs.Ytbbejjlgfekipaa.IntL Go.Proofs.Ytbbejjlgfekipaa.IntA Go.Proofs.Ytbbejjlgfekipaa.BkI Go.Proofs.Ytbbejjlgfekipaa.Norm Go.Proofs.Ytbbejjlgfekipaa.HalM Go.Proofs.Ytbbejjlgfekipaa.PulM

theorem cs_set (ys : List Int) (i : Nat) (x : Int) : (cs ys).setIfInBounds i (.int .i64 x) = cs (ys.set i x) := by simp [cs, List.map_set]
/-- A row: how many pulses there are of a length. -/
def cnI (e : Nat) (j : Nat) : Int := (cnt e j : Int)
def rwL (e k : Nat) : List Int := mkL (k + 1) (cnI e)
theorem rw_zero (k : Nat) : (List.replicate (k + 1) (0 : Int)).set 0 1 = rwL 0 k := by
  unfold rwL
  apply ext_g
  · rw [List.length_set, List.length_replicate, mkL_len]
  · intro i hi
    rw [List.length_set, List.length_replicate] at hi
    rw [mkL_get _ hi, getD_set _ _ _ _ (by rw [List.length_replicate]; exact hi)]
    unfold cnI
    by_cases h : i = 0
    · subst h; rfl
    · rw [if_neg (by omega), show cnt 0 i = if i = 0 then 1 else 0 from rfl, if_neg h]
      rw [List.getD_eq_getElem?_getD, List.getElem?_replicate, if_pos hi]; rfl
theorem rw_get {e k j : Nat} (h : j < k + 1) : (rwL e k).getD j 0 = (cnt e j : Int) := mkL_get _ h
end Go.Proofs.Ytbbejjlgfekipaa.PulS
