/- How long the answers of blocks are. -/
import Derived.Test.YtmkpfofjeefaoaaDoorHalM
namespace Go.Proofs.YtmkpfofjeefaoaaDoor.HalN
open Go.ChangeShapes Go.WideShapes Go.ChangeAt Go.RowKit Go.Proofs.YtmkpfofjeefaoaaDoor.Num Go.Proofs.YtmkpfofjeefaoaaDoor.Samp Go.Proofs.YtmkpfofjeefaoaaDoor.TurM Go.Proofs.YtmkpfofjeefaoaaDoor.HalM

theorem is3_le {n : Nat} (h : is3 n = true) : n ≤ 16 := by have := of_decide_eq_true h; omega
theorem sbL_small (l : List Int) : (sbL l).length ≤ 1048576 := by
  by_cases h : sbC l = 0
  · have := (law_blocks h).2.1
    have := is3_le (sb_ok h).1
    omega
  · rw [show sbL l = [] from if_neg h]; decide
theorem gbL_small (c : List Int) : (gbL c).length ≤ 1048576 := by
  by_cases h : gbC c = 0
  · obtain ⟨e1, _⟩ := dep_pow (is3_sz (gb_ok h).1)
    have := is3_le (gb_ok h).1
    rw [show gbL c = ga (dep c.length) c from if_pos h, ga_len _ _ e1, ← e1]; omega
  · rw [show gbL c = [] from if_neg h]; decide
theorem sz4_16 {n : Nat} (h : sz4 n) : n ≤ 16 := by rcases h with rfl | rfl | rfl | rfl <;> decide
theorem uhL_small (s d : List Int) : (uhL s d).length ≤ 1048576 := by
  by_cases h : uhC s d = 0
  · have := sz4_16 (uh_ok h).1
    rw [show uhL s d = un s d from if_pos h, un_len]; omega
  · rw [show uhL s d = [] from if_neg h]; decide
theorem hvS_small (l : List Int) : (hvS l).length ≤ 1048576 := by
  by_cases h : hvC l = 0
  · have := sz4_16 (hv_ok h).1
    rw [show hvS l = hS l from if_pos h, hS_len]; omega
  · rw [show hvS l = [] from if_neg h]; decide
theorem hvD_small (l : List Int) : (hvD l).length ≤ 1048576 := by
  by_cases h : hvC l = 0
  · have := sz4_16 (hv_ok h).1
    rw [show hvD l = hD l from if_pos h, hD_len]; omega
  · rw [show hvD l = [] from if_neg h]; decide
end Go.Proofs.YtmkpfofjeefaoaaDoor.HalN
