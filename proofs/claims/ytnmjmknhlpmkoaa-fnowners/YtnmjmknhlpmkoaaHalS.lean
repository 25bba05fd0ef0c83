/- The model halves a list. Conditions: the list has 2, 4, 8 or 16 numbers, none of them beyond 68719476736. -/
import Derived.Test.YtnmjmknhlpmkoaaHalM
import Derived.Test.YtnmjmknhlpmkoaaIntA
import Derived.Test.YtnmjmknhlpmkoaaTurS
import Derived.Test.YtnmjmknhlpmkoaaMixS
import Derived.Deep.RegionHeld3
import Derived.Deep.CutBlock
import Derived.Deep.DeepCutAuto
namespace Go.Proofs.Ytnmjmknhlpmkoaa.HalS
open Go.ChangeShapes Go.WideShapes Go.ChangeAt Go.RowKit Go.Proofs.Ytnmjmknhlpmkoaa.Num Go.Proofs.Ytnmjmknhlpmkoaa.Sli Go.Proofs.Ytnmjmknhlpmkoaa.App Go.Proofs.Ytnmjmknhlpmkoaa.Div Go.Proofs.Ytnmjmknhlpmkoaa.TurM Go.Proofs.Ytnmjmknhlpmkoaa.HalM Go.Proofs.Ytnmjmknhlpmkoaa.IntL Go.Proofs.Ytnmjmknhlpmkoaa.IntA Go.Proofs.Ytnmjmknhlpmkoaa.TurS Go.Proofs.Ytnmjmknhlpmkoaa.MixS

/-- Two lists of m numbers, each in a block of its own. -/
structure HK (w : World) (m gs cs gd cd : Nat) (S D : List Int) (W : World) : Prop where
  ne : gs ≠ gd
  s : OwI w.heap.size W (.slice (some ⟨gs, 0, none⟩) m cs) S
  d : OwI w.heap.size W (.slice (some ⟨gd, 0, none⟩) m cd) D
  b : Below w.heap.size w W
theorem HK.drew {w : World} {m gs cs gd cd : Nat} {S D : List Int} {W : World} (h : HK w m gs cs gd cd S D W) : HK w m gs cs gd cd S D W.drew := ⟨h.ne, h.s, h.d, h.b.drew⟩
theorem HK.new (w : World) : HK w 0 w.heap.size 0 (w.heap.size + 1) 0 [] [] ((w.alloc (.cells #[] 2)).alloc (.cells #[] 2)) := by
  refine ⟨by omega, (ow_new .i64 2 w.heap.size w (Nat.le_refl _)).alloc _, ?_, bmore (bmore (Below.refl _ _) _) _⟩
  have := ow_new .i64 2 w.heap.size (w.alloc (.cells #[] 2)) (by simp)
  rwa [World.size_alloc] at this
theorem sz4_le {n : Nat} (h : sz4 n) : 2 ≤ n ∧ n ≤ 16 := by rcases h with rfl | rfl | rfl | rfl <;> omega
theorem blk_of {k : IntKind} {t base : Nat} {w : World} {g n cap : Nat} {ys : List Int} (h : Ow k t base w (.slice (some ⟨g, 0, none⟩) n cap) ys) : base ≤ g ∧ g < w.heap.size := h.block g rfl

end Go.Proofs.Ytnmjmknhlpmkoaa.HalS
