/- How long shapes and fills may be. No program is spoken of. -/
import Derived.Test.YtbbejjlgfekipaaShaM
namespace Go.Proofs.Ytbbejjlgfekipaa.ShaL
open Go.Proofs.Ytbbejjlgfekipaa.Num Go.Proofs.Ytbbejjlgfekipaa.Div Go.Proofs.Ytbbejjlgfekipaa.HalM Go.Proofs.Ytbbejjlgfekipaa.PulM Go.Proofs.Ytbbejjlgfekipaa.ShaM

theorem sh_len (l : List Int) (k g : Int) : (shL l k g).length ≤ 4 := by
  unfold shL
  split
  · rename_i h
    by_cases e : pfC l k = 0
    · have := (pf_yes e).2.1
      unfold shL0
      rw [List.length_map]
      exact this
    · unfold shC at h
      rw [if_neg e] at h
      exact absurd h e
  · simp
theorem fl_len (d g : Int) : (flL d g).length ≤ 4 := by
  by_cases h : flC d g = 0
  · obtain ⟨d1, d4, _, _, e⟩ := fl_yes h
    rw [e, mkL_len]
    omega
  · have e : flL d g = [] := by
      unfold flL
      rw [if_neg]
      intro e
      exact h (by unfold flC; rw [if_pos e])
    rw [e]
    simp
end Go.Proofs.Ytbbejjlgfekipaa.ShaL
