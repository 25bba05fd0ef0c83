/- The model's bands: coefficients of a size, the bands, their norms, the mask. Conditions: lists of at most 1048576 numbers that fit their memory. -/
import Derived.Test.YtnmjmknhlpmkoaaBanN
import Derived.Test.YtnmjmknhlpmkoaaBaL
namespace Go.Proofs.Ytnmjmknhlpmkoaa.BanT
open Go.ChangeShapes Go.WideShapes Go.ChangeAt Go.RowKit Go.Proofs.Ytnmjmknhlpmkoaa.Num Go.Proofs.Ytnmjmknhlpmkoaa.Div Go.Proofs.Ytnmjmknhlpmkoaa.Samp Go.Proofs.Ytnmjmknhlpmkoaa.Sli Go.Proofs.Ytnmjmknhlpmkoaa.App Go.Proofs.Ytnmjmknhlpmkoaa.Blk Go.Proofs.Ytnmjmknhlpmkoaa.Norm Go.Proofs.Ytnmjmknhlpmkoaa.IntL Go.Proofs.Ytnmjmknhlpmkoaa.IntA Go.Proofs.Ytnmjmknhlpmkoaa.HalM Go.Proofs.Ytnmjmknhlpmkoaa.BloS Go.Proofs.Ytnmjmknhlpmkoaa.BanM Go.Proofs.Ytnmjmknhlpmkoaa.BanN Go.Proofs.Ytnmjmknhlpmkoaa.BaL

/-- A part of a list. -/
theorem sl_part {W : World} {b off n c c2 f m : Nat} {l : List Int} (h : Sl .i64 W (.slice (some ⟨b, off, none⟩) n c) l) (hf : f + m ≤ n) (hm1 : 1 ≤ m) : Sl .i64 W (.slice (some ⟨b, off + f, none⟩) m c2) ((l.drop f).take m) := by
  obtain ⟨a', c', e, hc⟩ := h
  have e1 : l.length = n ∧ a' = some ⟨b, off, none⟩ := by cases e; exact ⟨rfl, rfl⟩
  obtain ⟨hl, rfl⟩ := e1
  have hne : l ≠ [] := by intro e; rw [e] at hl; simp at hl; omega
  obtain ⟨b2, o2, e2, hlt, hcell⟩ := hc hne
  cases e2
  have hlen : ((l.drop f).take m).length = m := by rw [List.length_take, List.length_drop]; omega
  refine ⟨_, c2, by rw [hlen], fun _ => ⟨b, off + f, rfl, hlt, fun i hi => ?_⟩⟩
  rw [hlen] at hi
  rw [Nat.add_assoc, hcell (f + i) (by omega)]
  congr 2
  simp [List.getD_eq_getElem?_getD, List.getElem?_drop, hi]
end Go.Proofs.Ytnmjmknhlpmkoaa.BanT
