/- SizeFault and SamplesFault, the program's and the model's: both return the same code at every size and list. -/
import Derived.Test.YtfgjkaahjclkoaaSli
import Derived.Test.YtfgjkaahjclkoaaDiv
import Derived.Laws.Rows
import Derived.Laws.Tables
import Derived.Laws.CopyOwn
namespace Go.Proofs.Ytfgjkaahjclkoaa.Samp
open Go.ChangeShapes Go.WideShapes Go.ChangeAt Go.RowKit Go.Proofs.Ytfgjkaahjclkoaa.Num Go.Proofs.Ytfgjkaahjclkoaa.Sli Go.Proofs.Ytfgjkaahjclkoaa.Div

/-- The code of a size. -/
def szF (s : Int) : Int := if s = 4 ∨ s = 8 ∨ s = 16 then 0 else 3
theorem szF_no {s : Int} (h4 : (s == 4) = false) (h8 : (s == 8) = false) (h16 : (s == 16) = false) : szF s = 3 := by
  simp at h4 h8 h16; unfold szF; rw [if_neg (by omega)]



end Go.Proofs.Ytfgjkaahjclkoaa.Samp
