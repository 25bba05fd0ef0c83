/- What FnShapes says, in numbers. No program is spoken of. -/
import Derived.Test.YtbbejjlgfekipaaSeaM
import Derived.Test.YtbbejjlgfekipaaBndM
namespace Go.Proofs.Ytbbejjlgfekipaa.SeaN
open Go.ChangeShapes Go.WideShapes Go.ChangeAt Go.RowKit Go.Proofs.Ytbbejjlgfekipaa.Num Go.Proofs.Ytbbejjlgfekipaa.Div Go.Proofs.Ytbbejjlgfekipaa.Norm Go.Proofs.Ytbbejjlgfekipaa.HalM Go.Proofs.Ytbbejjlgfekipaa.PulM Go.Proofs.Ytbbejjlgfekipaa.ShaM Go.Proofs.Ytbbejjlgfekipaa.SeaM Go.Proofs.Ytbbejjlgfekipaa.BndM

theorem sum_le : ∀ l : List Int, l.all coB = true → sumAbs l ≤ 16777216 * (l.length : Int)
  | [], _ => by simp [sumAbs]
  | x :: l, h => by
    rw [List.all_cons, Bool.and_eq_true] at h
    have a := of_inB (show inB (-16777216) 16777216 x = true from h.1)
    have b := sum_le l h.2
    have c := absV_bd x
    have e : sumAbs (x :: l) = absV x + sumAbs l := by simp [sumAbs]
    rw [e, List.length_cons]
    omega
theorem sea_facts {l : List Int} {k : Int} (h : srC l k = 0) : nmV l = nrm l ∧ 0 ≤ nrm l ∧ nrm l ≤ 67108864 ∧ 1 ≤ k ∧ k ≤ 8 ∧ 1 ≤ l.length ∧ l.length ≤ 4 ∧ lim 16777216 l := by
  obtain ⟨l1, l4, k1, k8, hc, _⟩ := sr_yes h
  have hl : lim 16777216 l := (lim_all (M := 16777216) (by omega)).1 hc
  have ht : l.all topB = true := by
    rw [List.all_eq_true] at hc ⊢
    intro x hx
    have := of_inB (show inB (-16777216) 16777216 x = true from hc x hx)
    exact inB_yes (by omega) (by omega)
  refine ⟨?_, nrm_pos l, ?_, k1, k8, l1, l4, hl⟩
  · unfold nmV nrm
    rw [if_neg (by omega), if_pos ht]
  · have := sum_le l hc
    unfold nrm
    omega
theorem sb_ok {n k gap : Int} (h1 : 0 ≤ n ∧ n ≤ 67108864) (h2 : 0 ≤ gap ∧ gap ≤ 400) (h3 : 1 ≤ k ∧ k ≤ 8) : sbC n k gap = 0 ∧ sbV n k gap = ceilV n k + gap + 1 := by
  have q : sbO n k gap = true := by
    unfold sbO gnB pk1
    rw [inB_yes (by omega) (by omega), inB_yes (by omega) (by omega), inB_yes (by omega) (by omega)]
    rfl
  exact ⟨if_pos q, if_pos q⟩
theorem far_get {l : List Int} {i : Nat} (h : l.length ≤ i) : l.getD i 0 = 0 := by
  rw [List.getD_eq_getElem?_getD, List.getElem?_eq_none h]
  rfl
theorem rep_get {n i : Nat} {x : Int} (h : i < n) : (List.replicate n x).getD i 0 = x := by
  rw [List.getD_eq_getElem?_getD, List.getElem?_replicate, if_pos h]
  rfl
theorem shape_ok {l : List Int} {k g gap : Int} (h : srC l k = 0) (hg : -gap ≤ g - nrm l ∧ g - nrm l ≤ gap) (hgap : 0 ≤ gap ∧ gap ≤ 400) (hs : shC (srL l k) k g = 0) :
    wiB (shL (srL l k) k g) l (List.replicate l.length (sbV (nrm l) k gap)) = true := by
  obtain ⟨-, n0, n1, k1, k8, l1, l4, hl⟩ := sea_facts h
  have e1 : shL (srL l k) k g = shL0 (srL l k) k g := if_pos hs
  have e2 := (sb_ok ⟨n0, n1⟩ hgap ⟨k1, k8⟩).2
  have len : (shL0 (srL l k) k g).length = l.length := by unfold shL0; rw [List.length_map]; exact (sr_sum h).2
  have near := fun i hi => shape_near h hg hgap.1 i hi
  have c := ceilV_bd (nrm l) k n0 (by omega)
  rw [e1, e2]
  have hB : 0 ≤ ceilV (nrm l) k + gap + 1 ∧ ceilV (nrm l) k + gap + 1 ≤ 68000000 := by omega
  generalize ceilV (nrm l) k + gap + 1 = B at *
  generalize shL0 (srL l k) k g = s at *
  have hs1 : ∀ i, -B ≤ s.getD i 0 - l.getD i 0 ∧ s.getD i 0 - l.getD i 0 ≤ B := fun i => by
    by_cases hi : i < l.length
    · have := near i hi
      unfold absV at this
      split at this <;> omega
    · rw [far_get (l := s) (by omega), far_get (l := l) (by omega)]
      omega
  refine wi_yes len (by rw [List.length_replicate]; exact len) (fun i => ?_) (fun i => ?_) (fun i => ?_)
  · have := hs1 i
    have := hl i
    omega
  · have := hl i
    omega
  · by_cases hi : i < l.length
    · rw [rep_get hi]
      exact hs1 i
    · rw [far_get (l := s) (by omega), far_get (l := l) (by omega), far_get (l := List.replicate l.length B) (by rw [List.length_replicate]; omega)]
      unfold nr
      omega
end Go.Proofs.Ytbbejjlgfekipaa.SeaN
