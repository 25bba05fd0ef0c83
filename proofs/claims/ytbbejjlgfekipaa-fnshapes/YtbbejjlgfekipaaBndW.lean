/- IsWithin of the model. Conditions: lists of at most 1048576 numbers. -/
import Derived.Test.YtbbejjlgfekipaaBndM
import Derived.Test.YtbbejjlgfekipaaNorm
import Derived.Test.YtbbejjlgfekipaaLapS
import Derived.BigQuiet
namespace Go.Proofs.Ytbbejjlgfekipaa.BndW
open Go.ChangeShapes Go.WideShapes Go.ChangeAt Go.RowKit Go.Proofs.Ytbbejjlgfekipaa.Num Go.Proofs.Ytbbejjlgfekipaa.Sli Go.Proofs.Ytbbejjlgfekipaa.App Go.Proofs.Ytbbejjlgfekipaa.Div Go.Proofs.Ytbbejjlgfekipaa.Norm Go.Proofs.Ytbbejjlgfekipaa.Samp Go.Proofs.Ytbbejjlgfekipaa.SampF Go.Proofs.Ytbbejjlgfekipaa.Blk Go.Proofs.Ytbbejjlgfekipaa.TurM Go.Proofs.Ytbbejjlgfekipaa.HalM Go.Proofs.Ytbbejjlgfekipaa.LapM Go.Proofs.Ytbbejjlgfekipaa.LapN Go.Proofs.Ytbbejjlgfekipaa.IntL Go.Proofs.Ytbbejjlgfekipaa.IntA Go.Proofs.Ytbbejjlgfekipaa.LapS Go.Proofs.Ytbbejjlgfekipaa.BndM
/-- One number of three lists. -/
def wiE (x y z : Int) : Prop := topB x = true ∧ topB y = true ∧ absV (x - y) ≤ z
theorem wi_all {a b e : List Int} (h1 : a.length = b.length) (h2 : a.length = e.length) (h : ∀ i, i < a.length → wiE (a.getD i 0) (b.getD i 0) (e.getD i 0)) : wiB a b e = true :=
  decide_eq_true ⟨h1, h2, fun i hi => ⟨of_inB (h i hi).1, of_inB (h i hi).2.1, (h i hi).2.2⟩⟩
theorem wi_not {a b e : List Int} {i : Nat} (hi : i < a.length) (h : ¬ wiE (a.getD i 0) (b.getD i 0) (e.getD i 0)) : wiB a b e = false :=
  decide_eq_false (fun ⟨_, _, H⟩ => h ⟨inB_yes (H i hi).1.1 (H i hi).1.2, inB_yes (H i hi).2.1.1 (H i hi).2.1.2, (H i hi).2.2⟩)
theorem wi_len {a b e : List Int} (h : ¬ (a.length = b.length ∧ a.length = e.length)) : wiB a b e = false := decide_eq_false (fun ⟨h1, h2, _⟩ => h ⟨h1, h2⟩)
theorem nat_wi (x y : Int) (h1 : topB x = true) (h2 : topB y = true) : (-2199023255552 ≤ x - y ∧ x - y ≤ 2199023255552) := by
  have := of_inB h1; have := of_inB h2; omega
end Go.Proofs.Ytbbejjlgfekipaa.BndW
