/- The exact law of BandsOf, for a program that answers by the common answers. Condition: the program's own contract, wherever nothing that was there before has turned. -/
import Derived.Test.YtodfkicmmcfkaaaBanT
namespace Go.Proofs.Ytodfkicmmcfkaaa.ExBb
open Go.ChangeShapes Go.WideShapes Go.ChangeAt Go.RowKit Go.Proofs.Ytodfkicmmcfkaaa.Num Go.Proofs.Ytodfkicmmcfkaaa.Sli Go.Proofs.Ytodfkicmmcfkaaa.App Go.Proofs.Ytodfkicmmcfkaaa.Blk Go.Proofs.Ytodfkicmmcfkaaa.BanM Go.Proofs.Ytodfkicmmcfkaaa.BanN Go.Proofs.Ytodfkicmmcfkaaa.BaL Go.Proofs.Ytodfkicmmcfkaaa.BanT
theorem bs_len (s : Int) : (bsL s).length ≤ 2 := by
  unfold bsL bnL
  split
  · split
    · decide
    · split <;> decide
  · decide
set_option maxHeartbeats 2000000 in
theorem exactBandsOf_calls (s : Int) (w : World) (hyl : (bsL s).length ≤ 1048576)
    (HI0 : ∀ (W : World), Below w.heap.size w W → Calls Try.prog 12 #[.int .i64 s] W fun e w' => ∃ u, e = .returned (.agg #[.int .i64 (bsC s), u]) ∧ OwB W.heap.size w' u (bsL s) ∧ Below W.heap.size W w') :
    Calls Try.prog 5 #[.int .i64 s] w fun e w' => e = .returned (.bool true) ∧ Below w.heap.size w w' := by
  have HI := hid HI0
  have HM := hid (specBandsOf_calls s)
  clear HI0
  generalize bsL s = ls at *
  generalize bsC s = c at *
  go_enter Try.func5, Try.ntmps5
  go_wp2_with fail
  refine (HM.out _).mono ?_
  rintro e w2 ⟨W, rfl, hoW, hb2⟩
  have HOW := hid hoW
  have HB2 := hid hb2
  obtain ⟨aW, cW, rfl, _⟩ := hoW.slb
  clear hoW hb2 HM
  go_wp2_with fail
  refine (HI.out _ (bmore HB2.out _)).mono ?_
  rintro e w4 ⟨G, rfl, hoG, hb4⟩
  have HK := hid (ks_start HB2.out HOW.out hb4 hoG)
  obtain ⟨aG, cG, rfl, _⟩ := hoG.slb
  clear hoG hb4 HOW HB2
  generalize w2.heap.size = A at *
  obtain ⟨p0, p1, _⟩ := HK.out.p.two
  generalize hq : w4.heap.size = q at *
  go_wp2_with fail
  refine (eqBandsResult_calls _ _ _ ls _ HK.out.oG.slb HK.out.oW.slb hyl).mono ?_
  rintro e w5 ⟨rfl, hb5⟩
  have HK5 := hid (HK.out.later hb5)
  obtain ⟨p0, p1, _⟩ := HK5.out.p.two
  obtain ⟨q0, q1, _⟩ := HK5.out.k.two
  clear HK hb5 hq
  go_wp2_with fail
  refine (markBandsResult_calls _ _ _ ls _ HK5.out.oG hyl).mono ?_
  rintro e w6 ⟨rfl, ho6, hg6⟩
  have HK6 := hid (HK5.out.markG hg6 ho6)
  obtain ⟨p0, p1, _⟩ := HK6.out.p.two
  obtain ⟨q0, q1, _⟩ := HK6.out.k.two
  have hn0 : 0 ≤ 1 + 2 * (ls.length : Int) := by omega
  clear HK5 hg6 ho6
  go_wp2_with fail
  refine (heldBandsResult_calls _ _ _ _ HK6.out.oG.slb hyl).mono ?_
  rintro e w7 ⟨rfl, hb7⟩
  have HK7 := hid (HK6.out.later hb7)
  clear HK6 hb7 p0 p1 q0 q1
  go_wp2_with fail
  refine (HI.out _ HK7.out.bel).mono ?_
  rintro e w8 ⟨V, rfl, hoV, hb8⟩
  have HK8 := hid ((HK7.out.later hb8).later (bmore (Below.refl _ _) (.cells #[.int .i64 c, V] 35)))
  have HV := hid (OwB.later hoV (bmore (Below.refl _ _) (.cells #[.int .i64 c, V] 35)))
  have HP := hid (HK7.out.later hb8).p
  obtain ⟨aV, cV, rfl, _⟩ := hoV.slb
  obtain ⟨p0, p1, _⟩ := HP.out.two
  have hpl := HP.out.lt
  clear HK7 hoV hb8 HP
  go_wp2_with fail
  refine (eqBandsResult_calls _ _ _ ls _ HV.out.slb HK8.out.oW.slb hyl).mono ?_
  rintro e w9 ⟨rfl, hb9⟩
  have HK9 := hid (HK8.out.later hb9)
  obtain ⟨q0, q1, _⟩ := HK9.out.k.two
  clear HK8 HV hb9 p0 p1 hpl
  go_wp2_with fail
  refine (heldBandsResult_calls _ _ _ _ HK9.out.oG.slb hyl).mono ?_
  rintro e w10 ⟨rfl, hb10⟩
  have HB := hid (bthen HK9.out.bel hb10)
  clear HK9 hb10 q0 q1
  go_wp2
  go_ret
  exact ⟨rfl, HB.out⟩
end Go.Proofs.Ytodfkicmmcfkaaa.ExBb
