/- The numbers of FnFrameBounds: synths that were played one list of coefficients after the other, and the third frame. No program is spoken of. -/
import Derived.Test.YtbakmphopgkpmaaDoorLwB
namespace Go.Proofs.YtbakmphopgkpmaaDoor.FbM
open Go.ChangeShapes Go.WideShapes Go.ChangeAt Go.RowKit Go.Proofs.YtbakmphopgkpmaaDoor.Num Go.Proofs.YtbakmphopgkpmaaDoor.Samp Go.Proofs.YtbakmphopgkpmaaDoor.SampF Go.Proofs.YtbakmphopgkpmaaDoor.TurM Go.Proofs.YtbakmphopgkpmaaDoor.HalM Go.Proofs.YtbakmphopgkpmaaDoor.LapM Go.Proofs.YtbakmphopgkpmaaDoor.LapN Go.Proofs.YtbakmphopgkpmaaDoor.BndM Go.Proofs.YtbakmphopgkpmaaDoor.LwB

/-- Head and tail behind k lists, and the frame that was told last. -/
def tlK (s : Int) (c : Nat → List Int) : Nat → List Int
  | 0 => List.replicate (hN s) 0
  | k + 1 => (plB s (c k)).drop (hN s)
def hdK (s : Int) (c : Nat → List Int) : Nat → List Int
  | 0 => List.replicate (hN s) 0
  | k + 1 => plH s (tlK s c k) (c k)
def frK (s : Int) (c : Nat → List Int) : Nat → List Int
  | 0 => []
  | k + 1 => hdK s c k ++ plT s (tlK s c k) (c k)
def cOk (s : Int) (l : List Int) : Prop := (l.length : Int) = s ∧ gbC l = 0
def upd (c : Nat → List Int) (k : Nat) (v : List Int) : Nat → List Int := fun j => if j = k then v else c j
theorem upd_at (c : Nat → List Int) (k : Nat) (v : List Int) : upd c k v k = v := if_pos rfl
theorem upd_lo {c : Nat → List Int} {k j : Nat} {v : List Int} (h : j < k) : upd c k v j = c j := if_neg (by omega)
theorem tlK_upd (s : Int) (c : Nat → List Int) (k : Nat) (v : List Int) : ∀ j, j ≤ k → tlK s (upd c k v) j = tlK s c j
  | 0, _ => rfl
  | j + 1, h => by show (plB s (upd c k v j)).drop _ = (plB s (c j)).drop _; rw [upd_lo (by omega)]
theorem hdK_upd (s : Int) (c : Nat → List Int) (k : Nat) (v : List Int) : ∀ j, j ≤ k → hdK s (upd c k v) j = hdK s c j
  | 0, _ => rfl
  | j + 1, h => by show plH s (tlK s (upd c k v) j) (upd c k v j) = plH s (tlK s c j) (c j); rw [upd_lo (by omega), tlK_upd s c k v j (by omega)]
/-- One list more. -/
theorem upd_new (s : Int) (c : Nat → List Int) (k : Nat) (v : List Int) :
    hdK s (upd c k v) (k + 1) = plH s (tlK s c k) v ∧ tlK s (upd c k v) (k + 1) = (plB s v).drop (hN s) ∧ frK s (upd c k v) (k + 1) = hdK s c k ++ plT s (tlK s c k) v := by
  refine ⟨?_, ?_, ?_⟩
  · show plH s (tlK s (upd c k v) k) (upd c k v k) = _; rw [upd_at, tlK_upd s c k v k (Nat.le_refl _)]
  · show (plB s (upd c k v k)).drop _ = _; rw [upd_at]
  · show hdK s (upd c k v) k ++ plT s (tlK s (upd c k v) k) (upd c k v k) = _; rw [upd_at, tlK_upd s c k v k (Nat.le_refl _), hdK_upd s c k v k (Nat.le_refl _)]
theorem lim_zero {M : Int} (h : 0 ≤ M) (n : Nat) : lim M (List.replicate n 0) := fun i => by rw [zero_get]; omega
theorem plC_of {s : Int} {hd tl l : List Int} (h : syC s hd tl = 0) (hl : (l.length : Int) = s) : plC s hd tl l = gbC l := by unfold plC; rw [if_pos h, if_pos hl]
theorem syK {s : Int} (hz : szF s = 0) {c : Nat → List Int} : ∀ k, (∀ j, j < k → cOk s (c j)) → syC s (hdK s c k) (tlK s c k) = 0
  | 0, _ => sy_yes hz (List.length_replicate ..) (List.length_replicate ..) (lim_zero (by omega) _) (lim_zero (by omega) _)
  | k + 1, h => by
    have ih := syK hz k (fun j hj => h j (by omega))
    obtain ⟨h1, h2⟩ := h k (by omega)
    exact (played_right (head := hdK s c k) (tail := tlK s c k) (co := c k) (by rw [plC_of ih h1]; exact h2)).1
/-- Small coefficients are a block's. -/
theorem small_ok {s : Int} (hz : szF s = 0) {l : List Int} (hl : (l.length : Int) = s) (h : lim 2000 l) : cOk s l := by
  refine ⟨hl, ?_⟩
  have h3 : is3 l.length = true := by have := (sz_nat hz).1; rwa [show s.toNat = l.length by omega] at this
  unfold gbC
  rw [if_pos h3, if_pos]
  exact (lim_all (M := 16777216) (by omega)).2 (h.mono (by omega))
theorem gbC_cases {s : Int} (hz : szF s = 0) {l : List Int} (hl : (l.length : Int) = s) : gbC l = 0 ∨ gbC l = 3 := by
  have h3 : is3 l.length = true := by have := (sz_nat hz).1; rwa [show s.toNat = l.length by omega] at this
  unfold gbC
  rw [if_pos h3]
  split
  · exact .inl rfl
  · exact .inr rfl
theorem far0 {l : List Int} {i : Nat} (h : l.length ≤ i) : l.getD i 0 = 0 := by rw [List.getD_eq_getElem?_getD, List.getElem?_eq_none h, Option.getD_none]
theorem bent_nr {ys es ts : List Int} (he : ∀ i, 0 ≤ es.getD i 0) (hy : lim 2000 ys) (hl : ys.length = es.length) (ht : ts.length = ys.length) (hb : bent ys es ts) : nrL es ys ts := fun i => by
  by_cases hi : i < ts.length
  · have h1 := hb i hi (by have := hy i; unfold smallI; omega)
    have h2 := he i
    unfold nr at *
    unfold absV at h1
    split at h1 <;> omega
  · rw [far0 (by omega), far0 (by omega), far0 (by omega)]; unfold nr; omega
theorem fr_lim {s : Int} (hz : szF s = 0) {x y z : List Int} (h1 : cOk s x) (h2 : cOk s y) (h3 : cOk s z) : lim 1099511627776 (frV s x y z) := by
  have g1 := (gath_ok hz h1.1 h1.2).2.2
  have g2 := (gath_ok hz h2.1 h2.2).2.2
  have g3 := (gath_ok hz h3.1 h3.2).2.2
  exact lim_app ((back_lim hz (lim_drop g1 _) (lim_take g2 _)).2.mono (by omega)) ((back_lim hz (lim_drop g2 _) (lim_take g3 _)).1.mono (by omega))
/-- The three lists of bounds. -/
def bsK (x y z : List Int) (k : Nat) : List Int := if k = 0 then x else if k = 1 then y else z
/-- The law. -/
theorem frame_law {s : Int} (hz : szF s = 0) {x y z : List Int} (hc : frC s x y z = 0) {c t : Nat → List Int} (h1 : ∀ j, j < 3 → cOk s (c j)) (h2 : ∀ j, j < 3 → cOk s (t j)) (h3 : ∀ j, j < 3 → nrL (bsK x y z j) (c j) (t j)) :
    wiB (frK s c 3) (frK s t 3) (frL s x y z) = true ∧ ((frK s c 3).length : Int) = s := by
  have hl : (x.length : Int) = s ∧ (y.length : Int) = s ∧ (z.length : Int) = s := by
    unfold frC at hc
    rw [if_pos hz] at hc
    split at hc
    · assumption
    · cases hc
  obtain ⟨_, e1, e2, e3, e4, _⟩ := sz_nat hz
  have f1 : frK s c 3 = frV s (c 0) (c 1) (c 2) := rfl
  have f2 : frK s t 3 = frV s (t 0) (t 1) (t 2) := rfl
  have f3 : frL s x y z = frB s x y z := if_pos hc
  rw [f1, f2, f3]
  have L := fun j (hj : j < 3) => (h1 j hj).1
  have L2 := fun j (hj : j < 3) => (h2 j hj).1
  have a0 := L 0 (by omega); have a1 := L 1 (by omega); have a2 := L 2 (by omega)
  have b0 := L2 0 (by omega); have b1 := L2 1 (by omega); have b2 := L2 2 (by omega)
  refine ⟨wi_yes (by rw [frV_len, frV_len]) (by rw [frV_len, frB_len]) (fr_lim hz (h1 0 (by omega)) (h1 1 (by omega)) (h1 2 (by omega))) (fr_lim hz (h2 0 (by omega)) (h2 1 (by omega)) (h2 2 (by omega))) ?_, by rw [frV_len]; omega⟩
  exact fr_nr hz ⟨by omega, by omega, by omega⟩ ⟨by omega, by omega, by omega⟩ ⟨by omega, by omega, by omega⟩ (h3 0 (by omega)) (h3 1 (by omega)) (h3 2 (by omega))
end Go.Proofs.YtbakmphopgkpmaaDoor.FbM
