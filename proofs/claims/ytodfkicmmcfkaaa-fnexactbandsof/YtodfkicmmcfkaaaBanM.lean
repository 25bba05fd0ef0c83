/- The mathematics of bands: how many are low, the mask, what it asks for, who owns. No program is spoken of. -/
import Derived.Test.YtodfkicmmcfkaaaLadM
import Derived.Test.YtodfkicmmcfkaaaSamp
import Derived.Test.YtodfkicmmcfkaaaDiv
import Derived.Test.YtodfkicmmcfkaaaNorm
import Derived.Test.YtodfkicmmcfkaaaHalM
import Derived.Test.YtodfkicmmcfkaaaBloS
namespace Go.Proofs.Ytodfkicmmcfkaaa.BanM
open Go.ChangeShapes Go.WideShapes Go.ChangeAt Go.RowKit Go.Proofs.Ytodfkicmmcfkaaa.Num Go.Proofs.Ytodfkicmmcfkaaa.Div Go.Proofs.Ytodfkicmmcfkaaa.Samp Go.Proofs.Ytodfkicmmcfkaaa.Norm Go.Proofs.Ytodfkicmmcfkaaa.HalM Go.Proofs.Ytodfkicmmcfkaaa.LadM Go.Proofs.Ytodfkicmmcfkaaa.BloS

/-- How many are low. -/
def lcC (s : Int) : Int := szF s
def lcV (s : Int) : Int := if szF s = 0 then s / 2 else 0
/-- Pulses of a mask; the gain's rung; the owner. -/
def mkB (m : Int) : Bool := inB 0 3 m
def pqC (m : Int) : Int := if mkB m = true then 0 else 3
def pqV (m : Int) : Int := if mkB m = true then 8 - 2 * m else 0
def grO (r m : Int) : Bool := rgB r && mkB m
def grC (r m : Int) : Int := if grO r m = true then 0 else 3
def grV (r m : Int) : Int := if grO r m = true then min 47 (r + 2 * m) else 0
def owO (a b : Int) : Bool := inB 0 9999 a && inB 0 1 b
def owC (a b : Int) : Int := if owO a b = true then 0 else 3
def owV (a b : Int) : Int := if owO a b = true then (a + b) % 2 else 0
/-- Coefficients of a size; the norms of both halves; the mask. -/
def cfC (s : Int) (l : List Int) : Int := if szF s = 0 then (if (l.length : Int) = s then akC 16777216 l else 2) else szF s
def loN (l : List Int) : Int := sumAbs (l.take (l.length / 2))
def hiN (l : List Int) : Int := sumAbs (l.drop (l.length / 2))
def mskV (l h : Int) : Int := if l ≤ 4 * h then 0 else if l ≤ 16 * h then 1 else if l ≤ 64 * h then 2 else 3
def mkC (s : Int) (l : List Int) : Int := cfC s l
def mkV (s : Int) (l : List Int) : Int := if cfC s l = 0 then mskV (loN l) (hiN l) else 0
theorem cf_yes {s : Int} {l : List Int} (h : cfC s l = 0) : (s = 4 ∨ s = 8 ∨ s = 16) ∧ (l.length : Int) = s ∧ l.all coB = true := by
  unfold cfC at h
  by_cases h1 : szF s = 0
  · rw [if_pos h1] at h
    by_cases h2 : (l.length : Int) = s
    · rw [if_pos h2] at h
      have h3 : s = 4 ∨ s = 8 ∨ s = 16 := by
        unfold szF at h1
        by_cases q : s = 4 ∨ s = 8 ∨ s = 16
        · exact q
        · rw [if_neg q] at h1; omega
      have h4 : is3 l.length = true := decide_eq_true (by omega)
      unfold akC at h
      rw [if_pos h4] at h
      by_cases h5 : l.all (inB (-16777216) 16777216) = true
      · exact ⟨h3, h2, h5⟩
      · rw [if_neg h5] at h; omega
    · rw [if_neg h2] at h; omega
  · rw [if_neg h1] at h; exact absurd h h1
theorem msk_bd (l h : Int) : 0 ≤ mskV l h ∧ mskV l h ≤ 3 := by
  unfold mskV
  split
  · omega
  · split
    · omega
    · split <;> omega
end Go.Proofs.Ytodfkicmmcfkaaa.BanM
