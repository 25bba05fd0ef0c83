/- The walks through the exact laws of faults of laps and synths, and of whether two are the same, for a program that answers by the common answers. Condition: the program's own contract, wherever nothing that was there before has turned. -/
import Derived.Test.YtobmngoodjmdaaaDoorLapZ
import Derived.Deep.RegionHeld3
namespace Go.Proofs.YtobmngoodjmdaaaDoor.ExLf
open Go.ChangeShapes Go.WideShapes Go.ChangeAt Go.RowKit Go.Proofs.YtobmngoodjmdaaaDoor.Num Go.Proofs.YtobmngoodjmdaaaDoor.Sli Go.Proofs.YtobmngoodjmdaaaDoor.App Go.Proofs.YtobmngoodjmdaaaDoor.Blk Go.Proofs.YtobmngoodjmdaaaDoor.LapM Go.Proofs.YtobmngoodjmdaaaDoor.IntL Go.Proofs.YtobmngoodjmdaaaDoor.OwsG Go.Proofs.YtobmngoodjmdaaaDoor.LapS Go.Proofs.YtobmngoodjmdaaaDoor.LapX Go.Proofs.YtobmngoodjmdaaaDoor.LapY Go.Proofs.YtobmngoodjmdaaaDoor.LapZ

/-- A lap or a synth in its block, and what its lists hold. -/
structure PL (w : World) (b : Nat) (s : Int) (v1 v2 : Value) (x1 x2 : List Int) (t : TypeId) (W : World) : Prop where
  p : Blk W b #[.int .i64 s, v1, v2] t
  s1 : Sl .i64 W v1 x1
  s2 : Sl .i64 W v2 x2
  l : Below w.heap.size w W
section
variable {w W W' : World} {b : Nat} {s : Int} {v1 v2 : Value} {x1 x2 : List Int} {t : TypeId}
theorem PL.later (h : PL w b s v1 v2 x1 x2 t W) (hb : Below W.heap.size W W') : PL w b s v1 v2 x1 x2 t W' := ⟨h.p.later hb, h.s1.later hb, h.s2.later hb, bthen h.l hb⟩
theorem PL.alloc (h : PL w b s v1 v2 x1 x2 t W) (o : Obj) : PL w b s v1 v2 x1 x2 t (W.alloc o) := h.later (bmore (Below.refl _ _) o)
theorem PL.drew (h : PL w b s v1 v2 x1 x2 t W) : PL w b s v1 v2 x1 x2 t W.drew := ⟨h.p, h.s1, h.s2, h.l.drew⟩
theorem PL.new (s : Int) (t : TypeId) (h1 : Sl .i64 w v1 x1) (h2 : Sl .i64 w v2 x2) : PL w w.heap.size s v1 v2 x1 x2 t (w.alloc (.cells #[.int .i64 s, v1, v2] t)) :=
  let hb := bmore (Below.refl _ w) (.cells #[.int .i64 s, v1, v2] t)
  ⟨Blk.new _ _ _, h1.later hb, h2.later hb, hb⟩
/-- A copy that was just boxed. -/
theorem PL.boxed {w1 : World} (s : Int) (t : TypeId) (h1 : Sl .i64 w1 v1 x1) (h2 : Sl .i64 w1 v2 x2) (hl : Below w.heap.size w w1) : PL w w1.heap.size s v1 v2 x1 x2 t (w1.alloc (.cells #[.int .i64 s, v1, v2] t)) :=
  let hb := bmore (Below.refl _ w1) (.cells #[.int .i64 s, v1, v2] t)
  ⟨Blk.new _ _ _, h1.later hb, h2.later hb, bthen hl hb⟩
end
end Go.Proofs.YtobmngoodjmdaaaDoor.ExLf
