/- The model's faults of laps and synths, new ones, and whether two are the same. Conditions: lists of at most 1048576 numbers. -/
import Derived.Test.YtbbejjlgfekipaaLapN
import Derived.Test.YtbbejjlgfekipaaIntA
import Derived.Test.YtbbejjlgfekipaaBlk
import Derived.Shelf.RegionOpenPlain
namespace Go.Proofs.Ytbbejjlgfekipaa.LapS
open Go.ChangeShapes Go.WideShapes Go.ChangeAt Go.RowKit Go.Proofs.Ytbbejjlgfekipaa.Num Go.Proofs.Ytbbejjlgfekipaa.Sli Go.Proofs.Ytbbejjlgfekipaa.App Go.Proofs.Ytbbejjlgfekipaa.Div Go.Proofs.Ytbbejjlgfekipaa.Samp Go.Proofs.Ytbbejjlgfekipaa.SampF Go.Proofs.Ytbbejjlgfekipaa.Blk Go.Proofs.Ytbbejjlgfekipaa.TurM Go.Proofs.Ytbbejjlgfekipaa.HalM Go.Proofs.Ytbbejjlgfekipaa.LapM Go.Proofs.Ytbbejjlgfekipaa.LapN Go.Proofs.Ytbbejjlgfekipaa.IntL Go.Proofs.Ytbbejjlgfekipaa.IntA

theorem mixed7 : Try.prog.follows Departure.mixedOrders = true := by kernel_rfl
theorem ow_nil (base : Nat) (w : World) : OwI base w (.slice none 0 0) [] := ⟨rfl, .inl ⟨rfl, rfl⟩⟩
/-- What lies above block R stays while R turns. -/
theorem _root_.Go.Proofs.Ytbbejjlgfekipaa.App.Ow.over {k : IntKind} {t base R : Nat} {w w' : World} {v : Value} {ys : List Int} (h : Ow k t base w v ys) (hR : R < base) (hg : w.grownBy w' (some R)) : Ow k t base w' v ys :=
  h.kept hg (fun j e => by cases e; exact hR)
theorem grown_set3 (w : World) (R : Nat) (x y z : Value) : w.grownBy (((w.setCell ⟨R, 0, none⟩ x).setCell ⟨R, 1, none⟩ y).setCell ⟨R, 2, none⟩ z) (some R) := grown_same (grown_same (grown_set w R 0 x) (grown_set _ R 1 y)) (grown_set _ R 2 z)
theorem grown_set4 (w : World) (R : Nat) (x y z u : Value) : w.grownBy ((((w.setCell ⟨R, 0, none⟩ x).setCell ⟨R, 1, none⟩ y).setCell ⟨R, 2, none⟩ z).setCell ⟨R, 3, none⟩ u) (some R) := grown_same (grown_set3 w R x y z) (grown_set _ R 3 u)
theorem grown_set5 (w : World) (R : Nat) (x y z u v : Value) : w.grownBy (((((w.setCell ⟨R, 0, none⟩ x).setCell ⟨R, 1, none⟩ y).setCell ⟨R, 2, none⟩ z).setCell ⟨R, 3, none⟩ u).setCell ⟨R, 4, none⟩ v) (some R) := grown_same (grown_set4 w R x y z u) (grown_set _ R 4 v)
/-- Two owned lists that share no block. -/
structure TW (base : Nat) (u t : Value) (S D : List Int) (W : World) : Prop where
  s : OwI base W u S
  d : OwI base W t D
  ne : ∀ g, u.ownBlock = some g → t.ownBlock ≠ some g
section
variable {base R : Nat} {u t : Value} {S D : List Int} {W W' : World}
theorem TW.nil (base : Nat) (W : World) : TW base (.slice none 0 0) (.slice none 0 0) [] [] W := ⟨ow_nil _ _, ow_nil _ _, fun _ e => by cases e⟩
theorem TW.later (h : TW base u t S D W) (hb : Below W.heap.size W W') : TW base u t S D W' := ⟨h.s.later hb, h.d.later hb, h.ne⟩
theorem TW.mono {base' : Nat} (h : TW base u t S D W) (hb : base' ≤ base) : TW base' u t S D W := ⟨h.s.mono hb, h.d.mono hb, h.ne⟩
theorem TW.over (h : TW base u t S D W) (hR : R < base) (hg : W.grownBy W' (some R)) : TW base u t S D W' := ⟨h.s.over hR hg, h.d.over hR hg, h.ne⟩
theorem TW.set4 (h : TW base u t S D W) (hR : R < base) (x y z v : Value) : TW R u t S D ((((W.setCell ⟨R, 0, none⟩ x).setCell ⟨R, 1, none⟩ y).setCell ⟨R, 2, none⟩ z).setCell ⟨R, 3, none⟩ v) := (h.over hR (grown_set4 W R x y z v)).mono (by omega)
end
/-- What a new one tells. -/
def nlS (s : Int) : Int := if szF s = 0 then s else 0
def nlL (s : Int) : List Int := if szF s = 0 then List.replicate (hN s) 0 else []
end Go.Proofs.Ytbbejjlgfekipaa.LapS
