/- HalveList, UniteHalves, SpreadBlock and GatherBlock of the model: what they return at every argument of at most 1048576 numbers. -/
import Derived.Test.YtnmjmknhlpmkoaaSprS
import Derived.Test.YtnmjmknhlpmkoaaGatS
import Derived.Test.YtnmjmknhlpmkoaaBlk
namespace Go.Proofs.Ytnmjmknhlpmkoaa.BloS
open Go.ChangeShapes Go.WideShapes Go.ChangeAt Go.RowKit Go.Proofs.Ytnmjmknhlpmkoaa.Num Go.Proofs.Ytnmjmknhlpmkoaa.Sli Go.Proofs.Ytnmjmknhlpmkoaa.App Go.Proofs.Ytnmjmknhlpmkoaa.Div Go.Proofs.Ytnmjmknhlpmkoaa.Samp Go.Proofs.Ytnmjmknhlpmkoaa.Blk Go.Proofs.Ytnmjmknhlpmkoaa.TurM Go.Proofs.Ytnmjmknhlpmkoaa.HalM Go.Proofs.Ytnmjmknhlpmkoaa.IntL Go.Proofs.Ytnmjmknhlpmkoaa.IntA Go.Proofs.Ytnmjmknhlpmkoaa.HalS Go.Proofs.Ytnmjmknhlpmkoaa.UniS Go.Proofs.Ytnmjmknhlpmkoaa.SprS Go.Proofs.Ytnmjmknhlpmkoaa.GatS

theorem ow_nil (base : Nat) (w : World) : OwI base w (.slice none 0 0) [] := ⟨rfl, .inl ⟨rfl, rfl⟩⟩
/-- What lies above block R stays while R turns. -/
theorem Ow.over {k : IntKind} {t base R : Nat} {w w' : World} {v : Value} {ys : List Int} (h : Ow k t base w v ys) (hR : R < base) (hg : w.grownBy w' (some R)) : Ow k t base w' v ys :=
  h.kept hg (fun j e => by cases e; exact hR)
theorem grown_set2 (w : World) (R : Nat) (x y : Value) : w.grownBy ((w.setCell ⟨R, 0, none⟩ x).setCell ⟨R, 1, none⟩ y) (some R) := grown_same (grown_set w R 0 x) (grown_set _ R 1 y)
theorem grown_set3 (w : World) (R : Nat) (x y z : Value) : w.grownBy (((w.setCell ⟨R, 0, none⟩ x).setCell ⟨R, 1, none⟩ y).setCell ⟨R, 2, none⟩ z) (some R) := grown_same (grown_set2 w R x y) (grown_set _ R 2 z)
theorem sz_len {n : Nat} : (szF (n : Int) = 0) ↔ is3 n = true := by
  unfold szF is3
  by_cases h : n = 4 ∨ n = 8 ∨ n = 16
  · rw [if_pos (by omega), decide_eq_true h]; simp
  · rw [if_neg (by omega), decide_eq_false h]; simp

end Go.Proofs.Ytnmjmknhlpmkoaa.BloS
