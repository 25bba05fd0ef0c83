/- FeedFrame of the program: what it tells at every argument of lists of at most 1048576 numbers. Condition: the table of turns. -/
import Derived.Test.YtbakmphopgkpmaaDoorLeI
import Derived.Test.YtbakmphopgkpmaaDoorFcI
import Derived.Test.YtbakmphopgkpmaaDoorGk
import Derived.Test.YtbakmphopgkpmaaDoorGa
namespace Go.Proofs.YtbakmphopgkpmaaDoor.LfI
open Go.ChangeShapes Go.WideShapes Go.ChangeAt Go.RowKit Go.Proofs.YtbakmphopgkpmaaDoor.Num Go.Proofs.YtbakmphopgkpmaaDoor.Sli Go.Proofs.YtbakmphopgkpmaaDoor.App Go.Proofs.YtbakmphopgkpmaaDoor.Samp Go.Proofs.YtbakmphopgkpmaaDoor.SampF Go.Proofs.YtbakmphopgkpmaaDoor.Blk Go.Proofs.YtbakmphopgkpmaaDoor.TurM Go.Proofs.YtbakmphopgkpmaaDoor.HalM Go.Proofs.YtbakmphopgkpmaaDoor.LapM Go.Proofs.YtbakmphopgkpmaaDoor.LapN Go.Proofs.YtbakmphopgkpmaaDoor.IntL Go.Proofs.YtbakmphopgkpmaaDoor.IntA Go.Proofs.YtbakmphopgkpmaaDoor.LapS Go.Proofs.YtbakmphopgkpmaaDoor.TurI Go.Proofs.YtbakmphopgkpmaaDoor.BkI Go.Proofs.YtbakmphopgkpmaaDoor.OwsG Go.Proofs.YtbakmphopgkpmaaDoor.LapW Go.Proofs.YtbakmphopgkpmaaDoor.LaI Go.Proofs.YtbakmphopgkpmaaDoor.LaN Go.Proofs.YtbakmphopgkpmaaDoor.LeI

/-- Three lists behind an answer that is stored into block R. -/
theorem ows_set5 {R : Nat} {W : World} {ps : List (Value × List Int)} (h : OWS (R + 1) W ps) (x y z u v : Value) : OWS (R + 1) (((((W.setCell ⟨R, 0, none⟩ x).setCell ⟨R, 1, none⟩ y).setCell ⟨R, 2, none⟩ z).setCell ⟨R, 3, none⟩ u).setCell ⟨R, 4, none⟩ v) ps :=
  h.on (On.of_grown (grown_set5 W R x y z u v)) (fun j hj e => by have := (h.blocks hj).1; cases e; omega)
theorem ows_none (base : Nat) (W : World) : OWS base W [(.slice none 0 0, []), (.slice none 0 0, []), (.slice none 0 0, [])] :=
  (OWS.two (ow_nil _ _) (ow_nil _ _) (fun _ e => by cases e)).three (ow_nil _ _) (fun _ e => by cases e) (fun _ e => by cases e)
end Go.Proofs.YtbakmphopgkpmaaDoor.LfI
