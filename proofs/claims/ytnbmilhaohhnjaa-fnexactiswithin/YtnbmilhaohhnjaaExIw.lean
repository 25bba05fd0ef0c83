/- The walk through the exact law of IsWithin, for a program that answers by the common answer. Condition: the program's own contract, wherever nothing that was there before has turned. -/
import Derived.Test.YtnbmilhaohhnjaaExJ
import Derived.Test.YtnbmilhaohhnjaaBndW
namespace Go.Proofs.Ytnbmilhaohhnjaa.ExIw
open Go.ChangeShapes Go.WideShapes Go.ChangeAt Go.RowKit Go.Proofs.Ytnbmilhaohhnjaa.Num Go.Proofs.Ytnbmilhaohhnjaa.Sli Go.Proofs.Ytnbmilhaohhnjaa.App Go.Proofs.Ytnbmilhaohhnjaa.HalM Go.Proofs.Ytnbmilhaohhnjaa.BndM Go.Proofs.Ytnbmilhaohhnjaa.BndW
open Go.Proofs.Ytnbmilhaohhnjaa.IntL (OwI toInt64S_calls)
open Go.Proofs.Ytnbmilhaohhnjaa.ToInt (eqInt64S_calls)

set_option maxHeartbeats 2000000 in
theorem exactIsWithin_calls (a1 a2 a3 : Option Addr) (k1 k2 k3 : Nat) (x y z : List Int) (w : World) (h1 : Sl .i64 w (.slice a1 x.length k1) x) (h2 : Sl .i64 w (.slice a2 y.length k2) y) (h3 : Sl .i64 w (.slice a3 z.length k3) z)
    (HI0 : ∀ (v1 v2 v3 : Value) (l1 l2 l3 : List Int) (W : World), Below w.heap.size w W → Sl .i64 W v1 l1 → Sl .i64 W v2 l2 → Sl .i64 W v3 l3 → l1.length ≤ 1048576 → l2.length ≤ 1048576 → l3.length ≤ 1048576 → Calls Try.prog 18 #[v1, v2, v3] W fun e w' => e = .returned (.bool (wiB l1 l2 l3)) ∧ Below W.heap.size W w') :
    Calls Try.prog 5 #[.slice a1 x.length k1, .slice a2 y.length k2, .slice a3 z.length k3] w fun e w' => e = .returned (.bool true) ∧ Below w.heap.size w w' := by
  have HI := hid HI0
  have H1 := hid h1
  have H2 := hid h2
  have H3 := hid h3
  clear HI0 h1 h2 h3
  by_cases g1 : 1048576 < x.length
  · have hb' : (1048576 : Int) < x.length := by omega
    go_enter Try.func5, Try.ntmps5
    go_wp2
    go_ret
    exact ⟨rfl, Below.refl _ _⟩
  have f1 : (x.length : Int) ≤ 1048576 := by omega
  by_cases g2 : 1048576 < y.length
  · have hb' : (1048576 : Int) < y.length := by omega
    go_enter Try.func5, Try.ntmps5
    go_wp2
    go_ret
    exact ⟨rfl, Below.refl _ _⟩
  have f2 : (y.length : Int) ≤ 1048576 := by omega
  by_cases g3 : 1048576 < z.length
  · have hb' : (1048576 : Int) < z.length := by omega
    go_enter Try.func5, Try.ntmps5
    go_wp2
    go_ret
    exact ⟨rfl, Below.refl _ _⟩
  have f3 : (z.length : Int) ≤ 1048576 := by omega
  have HB0 : Hid (Below w.heap.size w w) := Below.refl _ _
  go_enter Try.func5, Try.ntmps5
  go_wp2_with fail
  refine (toInt64S_calls _ x _ (H1.out.later HB0.out) (by omega)).mono ?_
  rintro e w1 ⟨gP1, rfl, ho, hb⟩
  have P1 := hid ho.sl
  have HB1 := hid (bthen HB0.out hb)
  clear ho hb HB0
  go_wp2_with fail
  refine (toInt64S_calls _ y _ (H2.out.later HB1.out) (by omega)).mono ?_
  rintro e w2 ⟨gP2, rfl, ho, hb⟩
  have P2 := hid ho.sl
  have HB2 := hid (bthen HB1.out hb)
  have P1 := hid (P1.out.later hb)
  clear ho hb HB1
  go_wp2_with fail
  refine (toInt64S_calls _ z _ (H3.out.later HB2.out) (by omega)).mono ?_
  rintro e w3 ⟨gP3, rfl, ho, hb⟩
  have P3 := hid ho.sl
  have HB3 := hid (bthen HB2.out hb)
  have P1 := hid (P1.out.later hb)
  have P2 := hid (P2.out.later hb)
  clear ho hb HB2
  go_wp2_with fail
  refine (specIsWithin_calls _ _ _ x y z _ P1.out P2.out P3.out (by omega) (by omega) (by omega)).mono ?_
  rintro e w4 ⟨rfl, hb⟩
  have HB4 := hid (bthen HB3.out hb)
  clear hb HB3 P1 P2 P3
  go_wp2_with fail
  refine (toInt64S_calls _ x _ (H1.out.later HB4.out) (by omega)).mono ?_
  rintro e w5 ⟨gX1, rfl, ho, hb⟩
  have X1 := hid ho.sl
  have HB5 := hid (bthen HB4.out hb)
  clear ho hb HB4
  go_wp2_with fail
  refine (toInt64S_calls _ y _ (H2.out.later HB5.out) (by omega)).mono ?_
  rintro e w6 ⟨gX2, rfl, ho, hb⟩
  have X2 := hid ho.sl
  have HB6 := hid (bthen HB5.out hb)
  have X1 := hid (X1.out.later hb)
  clear ho hb HB5
  go_wp2_with fail
  refine (toInt64S_calls _ z _ (H3.out.later HB6.out) (by omega)).mono ?_
  rintro e w7 ⟨gX3, rfl, ho, hb⟩
  have X3 := hid ho.sl
  have HB7 := hid (bthen HB6.out hb)
  have X1 := hid (X1.out.later hb)
  have X2 := hid (X2.out.later hb)
  clear ho hb HB6
  go_wp2_with fail
  refine (HI.out _ _ _ x y z _ HB7.out X1.out X2.out X3.out (by omega) (by omega) (by omega)).mono ?_
  rintro e w8 ⟨rfl, hb⟩
  have HB8 := hid (bthen HB7.out hb)
  have X1 := hid (X1.out.later hb)
  have X2 := hid (X2.out.later hb)
  have X3 := hid (X3.out.later hb)
  clear hb HB7 HI
  generalize wiB x y z = r at *
  have hrr : (r != r) = false := by simp
  go_wp2_with fail
  refine (toInt64S_calls _ x _ (H1.out.later HB8.out) (by omega)).mono ?_
  rintro e w9 ⟨gQx, rfl, ho, hb⟩
  have Qx := hid ho.sl
  have HB9 := hid (bthen HB8.out hb)
  have X1 := hid (X1.out.later hb)
  have X2 := hid (X2.out.later hb)
  have X3 := hid (X3.out.later hb)
  clear ho hb HB8
  go_wp2_with fail
  refine (eqInt64S_calls _ _ x _ X1.out Qx.out (by omega)).mono ?_
  rintro e w10 ⟨rfl, hb⟩
  have HB10 := hid (bthen HB9.out hb)
  have X2 := hid (X2.out.later hb)
  have X3 := hid (X3.out.later hb)
  clear hb HB9 X1 Qx
  go_wp2_with fail
  refine (toInt64S_calls _ y _ (H2.out.later HB10.out) (by omega)).mono ?_
  rintro e w11 ⟨gQy, rfl, ho, hb⟩
  have Qy := hid ho.sl
  have HB11 := hid (bthen HB10.out hb)
  have X2 := hid (X2.out.later hb)
  have X3 := hid (X3.out.later hb)
  clear ho hb HB10
  go_wp2_with fail
  refine (eqInt64S_calls _ _ y _ X2.out Qy.out (by omega)).mono ?_
  rintro e w12 ⟨rfl, hb⟩
  have HB12 := hid (bthen HB11.out hb)
  have X3 := hid (X3.out.later hb)
  clear hb HB11 X2 Qy
  go_wp2_with fail
  refine (toInt64S_calls _ z _ (H3.out.later HB12.out) (by omega)).mono ?_
  rintro e w13 ⟨gQz, rfl, ho, hb⟩
  have Qz := hid ho.sl
  have HB13 := hid (bthen HB12.out hb)
  have X3 := hid (X3.out.later hb)
  clear ho hb HB12
  go_wp2_with fail
  refine (eqInt64S_calls _ _ z _ X3.out Qz.out (by omega)).mono ?_
  rintro e w14 ⟨rfl, hb⟩
  have HB14 := hid (bthen HB13.out hb)
  clear hb HB13 X3 Qz
  go_wp2
  go_ret
  exact ⟨rfl, HB14.out⟩
end Go.Proofs.Ytnbmilhaohhnjaa.ExIw
