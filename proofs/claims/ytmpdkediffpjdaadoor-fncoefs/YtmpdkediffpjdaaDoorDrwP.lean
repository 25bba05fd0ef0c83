/- The draws of turns and of pairs: numbers are told, and nothing that was there turns. Conditions: those of the source. -/
import Derived.Test.YtmpdkediffpjdaaDoorGe
import Derived.Test.YtmpdkediffpjdaaDoorGa
namespace Go.Proofs.YtmpdkediffpjdaaDoor.DrwP
open Go.ChangeShapes Go.WideShapes Go.ChangeAt Go.RowKit Go.Proofs.YtmpdkediffpjdaaDoor.Num Go.Proofs.YtmpdkediffpjdaaDoor.Sli Go.Proofs.YtmpdkediffpjdaaDoor.App Go.Proofs.YtmpdkediffpjdaaDoor.Src

theorem src_later {w0 w w' : World} {g : Nat} {a : Option Addr} {cap : Nat} {bs : List Int} {at' : Nat} (h : Src w0 w g a cap bs at') (hb : Below w.heap.size w w') : Src w0 w' g a cap bs at' :=
  ⟨h.1, bthen h.2.1 hb, h.2.2.1, h.2.2.2.1, h.2.2.2.2.1, (hb.block g (src_lt h)).trans h.2.2.2.2.2⟩
end Go.Proofs.YtmpdkediffpjdaaDoor.DrwP
