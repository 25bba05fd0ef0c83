/- SamplesFault, the program's and the model's: both return the same code at every size and list. Condition: none but that the slice holds its numbers. -/
import Derived.Test.YtodfkicmmcfkaaaSamp
namespace Go.Proofs.Ytodfkicmmcfkaaa.SampF
open Go.ChangeShapes Go.WideShapes Go.ChangeAt Go.RowKit Go.Proofs.Ytodfkicmmcfkaaa.Num Go.Proofs.Ytodfkicmmcfkaaa.Sli Go.Proofs.Ytodfkicmmcfkaaa.Div Go.Proofs.Ytodfkicmmcfkaaa.Samp

def smF (s : Int) (xs : List Int) : Int := if szF s = 0 then (if (xs.length : Int) = s then (if xs.all sampB = true then 0 else 3) else 2) else 3
theorem szF_03 (s : Int) : szF s = 0 ∨ szF s = 3 := by unfold szF; split <;> simp
theorem szF_bd {s : Int} (h : szF s = 0) : 4 ≤ s ∧ s ≤ 16 := by
  unfold szF at h; split at h
  · omega
  · cases h
theorem smF_size {s : Int} {xs : List Int} (h : szF s = 3) : 3 = smF s xs := by unfold smF; rw [h]; rfl
theorem smF_many {s : Int} {xs : List Int} (h : szF s = 0) (hl : ¬ (xs.length : Int) = s) : 2 = smF s xs := by unfold smF; rw [if_pos h, if_neg hl]
theorem smF_yes {s : Int} {xs : List Int} (h : szF s = 0) (hl : (xs.length : Int) = s) (ha : xs.all sampB = true) : 0 = smF s xs := by unfold smF; rw [if_pos h, if_pos hl, if_pos ha]
theorem smF_no {s : Int} {xs : List Int} (h : szF s = 0) (hl : (xs.length : Int) = s) (ha : xs.all sampB = false) : 3 = smF s xs := by unfold smF; rw [if_pos h, if_pos hl, if_neg (by rw [ha]; simp)]
theorem half16_all (xs : List Int) : (half16 xs xs.length).all sampB = xs.all sampB := by
  unfold half16
  rw [List.take_length, List.all_append, List.all_replicate]
  have : sampB 0 = true := rfl
  rw [this]; simp


end Go.Proofs.Ytodfkicmmcfkaaa.SampF
