/- The numbers of FnPairBounds: what is turned back, and parted, out of two numbers that are off by no more than their bounds. No program is spoken of. -/
import Derived.Test.YtbakmphopgkpmaaDoorLwB
namespace Go.Proofs.YtbakmphopgkpmaaDoor.PrM
open Go.ChangeShapes Go.WideShapes Go.ChangeAt Go.RowKit Go.Proofs.YtbakmphopgkpmaaDoor.Num Go.Proofs.YtbakmphopgkpmaaDoor.TurM Go.Proofs.YtbakmphopgkpmaaDoor.BndM Go.Proofs.YtbakmphopgkpmaaDoor.LwB
theorem abs_of {d x y : Int} (h : nr d x y) : absV (x - y) ≤ d := by unfold nr at h; unfold absV; split <;> omega
theorem nr_back {d x y : Int} (h : nr d x y) : nr d y x := by unfold nr at *; omega
theorem abs_pos {e : Int} (h : 0 ≤ e) : absV e = e := by unfold absV; rw [if_neg (by omega)]
theorem wd_of {a : Int} (h : -137438953472 ≤ a ∧ a ≤ 137438953472) : wd a = true := by unfold wd; exact inB_yes h.1 h.2
/-- The law. -/
theorem pair_law {s n a b x y e f : Int} (h : tbO s n e f = true) (he : e ≤ 16777216) (hf : f ≤ 16777216) (ha : absV a ≤ 268435456) (hb : absV b ≤ 268435456) (hx : nr (absV e) x a) (hy : nr (absV f) y b) :
    (tpC s n a b = 0 ∧ tpC s n x y = 0 ∧ mxC a b = 0 ∧ mxC x y = 0) ∧
    (absV (bpA s n a b - bpA s n x y) ≤ tbX s n e f ∧ absV (bpB s n a b - bpB s n x y) ≤ tbY s n e f) ∧
    (absV (ptA a b - ptA x y) ≤ pbE e f ∧ absV (ptB a b - ptB x y) ≤ pbE e f) := by
  have hO : tOk s n = true ∧ bdB e = true ∧ bdB f = true := by unfold tbO at h; simpa using h
  have he0 := of_inB hO.2.1
  have hf0 := of_inB hO.2.2
  rw [abs_pos he0.1] at hx
  rw [abs_pos hf0.1] at hy
  have ha2 : -268435456 ≤ a ∧ a ≤ 268435456 := by unfold absV at ha; split at ha <;> omega
  have hb2 : -268435456 ≤ b ∧ b ≤ 268435456 := by unfold absV at hb; split at hb <;> omega
  have hx2 : -285212672 ≤ x ∧ x ≤ 285212672 := by unfold nr at hx; omega
  have hy2 : -285212672 ≤ y ∧ y ≤ 285212672 := by unfold nr at hy; omega
  have t1 : tpO s n a b = true := by unfold tpO; rw [hO.1, wd_of (by omega), wd_of (by omega)]; rfl
  have t2 : tpO s n x y = true := by unfold tpO; rw [hO.1, wd_of (by omega), wd_of (by omega)]; rfl
  have m1 : mxO a b = true := by unfold mxO; rw [wd_of (by omega), wd_of (by omega)]; rfl
  have m2 : mxO x y = true := by unfold mxO; rw [wd_of (by omega), wd_of (by omega)]; rfl
  obtain ⟨c1, -, A1, B1⟩ := tp_yes t1
  obtain ⟨c2, -, A2, B2⟩ := tp_yes t2
  obtain ⟨d1, -, p1, q1⟩ := mx_yes m1
  obtain ⟨d2, -, p2, q2⟩ := mx_yes m2
  have hpe : pbE e f = e + ceilV f 2 := if_pos (by rw [hO.2.1, hO.2.2]; rfl)
  have htx : tbX s n e f = tbA (pV s n) (uV s n) e f ∧ tbY s n e f = tbB (pV s n) (uV s n) e f := ⟨if_pos h, if_pos h⟩
  have hpu := pu_bd hO.1
  have hn := bk_nr (p := pV s n) (u := uV s n) (by omega) (by omega) (nr_back hx) (nr_back hy)
  have hp := pt_nr (nr_back hx) (nr_back hy)
  rw [A1, A2, B1, B2, p1, p2, q1, q2, hpe, htx.1, htx.2]
  exact ⟨⟨c1, c2, d1, d2⟩, ⟨abs_of hn.1, abs_of hn.2⟩, ⟨abs_of hp.1, abs_of hp.2⟩⟩
end Go.Proofs.YtbakmphopgkpmaaDoor.PrM
