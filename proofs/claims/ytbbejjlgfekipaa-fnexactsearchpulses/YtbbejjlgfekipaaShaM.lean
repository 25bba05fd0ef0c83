/- The mathematics of gains and shapes: what coefficients are told by, and how near; what stands where only the gain is known. No program is spoken of. -/
import Derived.Test.YtbbejjlgfekipaaPulM
import Derived.Test.YtbbejjlgfekipaaLadM
import Derived.Test.YtbbejjlgfekipaaDiv
namespace Go.Proofs.Ytbbejjlgfekipaa.ShaM
open Go.ChangeShapes Go.WideShapes Go.ChangeAt Go.RowKit Go.Proofs.Ytbbejjlgfekipaa.Num Go.Proofs.Ytbbejjlgfekipaa.Div Go.Proofs.Ytbbejjlgfekipaa.Norm Go.Proofs.Ytbbejjlgfekipaa.HalM Go.Proofs.Ytbbejjlgfekipaa.LadM Go.Proofs.Ytbbejjlgfekipaa.PulM

def gnB (g : Int) : Bool := inB 0 67108864 g
def pk1 (k : Int) : Bool := inB 1 8 k
/-- Fills. -/
def flE (d : Nat) (g : Int) (i : Nat) : Int := (if i % 2 = 1 then -1 else 1) * (g / d + if (i : Int) < g % d then 1 else 0)
def flO (d g : Int) : Bool := pdB d && gnB g
def flC (d g : Int) : Int := if flO d g = true then 0 else 3
def flL (d g : Int) : List Int := if flO d g = true then mkL d.toNat (flE d.toNat g) else []
def fbO (n g : Int) : Bool := gnB n && gnB g
def fbC (n g : Int) : Int := if fbO n g = true then 0 else 3
def fbV (n g : Int) : Int := if fbO n g = true then n + g else 0
/-- Bounds of shapes. -/
def sbO (n k g : Int) : Bool := gnB n && (gnB g && pk1 k)
def sbC (n k g : Int) : Int := if sbO n k g = true then 0 else 3
def sbV (n k g : Int) : Int := if sbO n k g = true then ceilV n k + g + 1 else 0
/-- Shapes. -/
def shL0 (l : List Int) (k g : Int) : List Int := l.map (fun x => nearV (g * x) k)
def shC (l : List Int) (k g : Int) : Int := if pfC l k = 0 then (if (pk1 k && gnB g) = true then 0 else 3) else pfC l k
def shL (l : List Int) (k g : Int) : List Int := if shC l k g = 0 then shL0 l k g else []
/-- Searches: what a place has first, its rest, how many places stand ahead of it, and its pulses. -/
def nrm (l : List Int) : Int := sumAbs l
def bsV (l : List Int) (k : Int) (i : Nat) : Int := k * absV (l.getD i 0) / nrm l
def rsV (l : List Int) (k : Int) (i : Nat) : Int := k * absV (l.getD i 0) % nrm l
def bef (r : Nat → Int) (j i : Nat) : Bool := decide (r i < r j) || (decide (r i = r j) && decide (j < i))
def cntL : Nat → (Nat → Bool) → Nat
  | 0, _ => 0
  | n + 1, P => cntL n P + (if P n = true then 1 else 0)
def rkN (n : Nat) (r : Nat → Int) (i : Nat) : Nat := cntL n (fun j => bef r j i)
def smF (f : Nat → Int) : Nat → Int
  | 0 => 0
  | n + 1 => smF f n + f n
def lfV (l : List Int) (k : Int) : Int := k - smF (bsV l k) l.length
def upV (l : List Int) (k : Int) (i : Nat) : Int := bsV l k i + if ((rkN l.length (rsV l k) i : Nat) : Int) < lfV l k then 1 else 0
def sgV (x v : Int) : Int := if x < 0 then -v else v
def srE (l : List Int) (k : Int) (i : Nat) : Int := if nrm l = 0 then (if i = 0 then k else 0) else sgV (l.getD i 0) (upV l k i)
def srO (l : List Int) (k : Int) : Bool := pk1 k && l.all coB
def srC (l : List Int) (k : Int) : Int := if 1 ≤ l.length ∧ l.length ≤ 4 then (if srO l k = true then 0 else 3) else 2
def srL (l : List Int) (k : Int) : List Int := if srC l k = 0 then mkL l.length (srE l k) else []
/-- Fills are what is told. -/
theorem fl_yes {d g : Int} (h : flC d g = 0) : 1 ≤ d ∧ d ≤ 4 ∧ 0 ≤ g ∧ g ≤ 67108864 ∧ flL d g = mkL d.toNat (flE d.toNat g) := by
  cases e : flO d g
  · unfold flC at h; rw [if_neg (by rw [e]; decide)] at h; omega
  · have e2 := e
    unfold flO at e2
    simp at e2
    have a := of_inB e2.1
    have b := of_inB e2.2
    exact ⟨a.1, a.2, b.1, b.2, if_pos e⟩
theorem flE_abs {d : Nat} {g : Int} (hd : 1 ≤ d) (hg : 0 ≤ g) (i : Nat) : absV (flE d g i) = g / d + (if (i : Int) < g % d then 1 else 0) := by
  have h0 : 0 ≤ g / (d : Int) := Int.ediv_nonneg hg (by omega)
  unfold flE absV
  generalize g / (d : Int) = q at *
  split <;> split <;> split <;> omega
theorem fill_law {d g : Int} (h : flC d g = 0) : ((flL d g).length : Int) = d ∧ sumAbs (flL d g) = g ∧ (flL d g).all topB = true ∧ (∀ i, i < (flL d g).length → -100000000 ≤ (flL d g).getD i 0 ∧ (flL d g).getD i 0 ≤ 100000000) ∧
    ∀ i, i < (flL d g).length → 1 ≤ i → absV ((flL d g).getD i 0) ≤ absV ((flL d g).getD (i - 1) 0) ∧ absV ((flL d g).getD (i - 1) 0) - absV ((flL d g).getD i 0) ≤ 1 := by
  obtain ⟨d1, d2, g1, g2, e⟩ := fl_yes h
  obtain ⟨n, rfl⟩ := Int.eq_ofNat_of_zero_le (show 0 ≤ d by omega)
  rw [e, Int.toNat_natCast]
  have hA := flE_abs (d := n) (g := g) (by omega) g1
  have hq0 : 0 ≤ g / (n : Int) := Int.ediv_nonneg g1 (by omega)
  have hq1 : g / (n : Int) ≤ g := Int.ediv_le_self _ g1
  have hbd : ∀ i, -100000000 ≤ flE n g i ∧ flE n g i ≤ 100000000 := by
    intro i
    have := hA i
    have b := absV_bd (flE n g i)
    split at this <;> omega
  refine ⟨by rw [mkL_len], ?_, ?_, ?_, ?_⟩
  · have hm := Int.mul_ediv_add_emod g n
    have hr0 := Int.emod_nonneg g (show (n : Int) ≠ 0 by omega)
    have hr1 := Int.emod_lt_of_pos g (show 0 < (n : Int) by omega)
    have hn : n = 1 ∨ n = 2 ∨ n = 3 ∨ n = 4 := by omega
    unfold sumAbs
    rcases hn with rfl | rfl | rfl | rfl
    · simp only [mkL, List.range, List.range.loop, List.map_cons, List.map_nil, List.sum_cons, List.sum_nil, hA]
      split <;> omega
    · simp only [mkL, List.range, List.range.loop, List.map_cons, List.map_nil, List.sum_cons, List.sum_nil, hA]
      split <;> split <;> omega
    · simp only [mkL, List.range, List.range.loop, List.map_cons, List.map_nil, List.sum_cons, List.sum_nil, hA]
      split <;> split <;> split <;> omega
    · simp only [mkL, List.range, List.range.loop, List.map_cons, List.map_nil, List.sum_cons, List.sum_nil, hA]
      split <;> split <;> split <;> split <;> omega
  · rw [List.all_eq_true]
    intro x hx
    unfold mkL at hx
    rw [List.mem_map] at hx
    obtain ⟨i, _, rfl⟩ := hx
    have := hbd i
    exact inB_yes (by omega) (by omega)
  · intro i hi
    rw [mkL_len] at hi
    rw [mkL_get _ hi]
    exact hbd i
  · intro i hi h1
    rw [mkL_len] at hi
    rw [mkL_get _ hi, mkL_get _ (show i - 1 < n by omega), hA, hA]
    split <;> split <;> omega
end Go.Proofs.Ytbbejjlgfekipaa.ShaM
