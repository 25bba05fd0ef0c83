/- The exact laws of bands (all but BandsOf), for a program that answers by the common answers. Condition: the program's own contract, wherever nothing that was there before has turned. -/
import Derived.Test.YtodfkicmmcfkaaaBanS
import Derived.Test.YtodfkicmmcfkaaaBanT
import Derived.Test.YtodfkicmmcfkaaaExJ
import Derived.Test.YtodfkicmmcfkaaaToInt
import Derived.Test.YtodfkicmmcfkaaaPar
import Derived.Test.YtodfkicmmcfkaaaDiv
namespace Go.Proofs.Ytodfkicmmcfkaaa.ExBa
open Go.ChangeShapes Go.WideShapes Go.ChangeAt Go.RowKit Go.Proofs.Ytodfkicmmcfkaaa.Num Go.Proofs.Ytodfkicmmcfkaaa.Sli Go.Proofs.Ytodfkicmmcfkaaa.Div Go.Proofs.Ytodfkicmmcfkaaa.App Go.Proofs.Ytodfkicmmcfkaaa.Blk Go.Proofs.Ytodfkicmmcfkaaa.Par Go.Proofs.Ytodfkicmmcfkaaa.HalM Go.Proofs.Ytodfkicmmcfkaaa.BanM Go.Proofs.Ytodfkicmmcfkaaa.BanN Go.Proofs.Ytodfkicmmcfkaaa.BanS Go.Proofs.Ytodfkicmmcfkaaa.BanT Go.Proofs.Ytodfkicmmcfkaaa.ExJ
open Go.Proofs.Ytodfkicmmcfkaaa.IntL (OwI)
open Go.Proofs.Ytodfkicmmcfkaaa.IntL (eqIntsResult_calls markIntsResult_calls heldIntsResult_calls)
open Go.Proofs.Ytodfkicmmcfkaaa.IntL (markInt64S_calls)
open Go.Proofs.Ytodfkicmmcfkaaa.IntL (toInt64S_calls)
open Go.Proofs.Ytodfkicmmcfkaaa.ToInt (eqInt64S_calls)
set_option maxHeartbeats 2000000 in
theorem exactLowCount_calls (s : Int) (w : World) 
    (HI0 : ∀ (W : World), Below w.heap.size w W → Calls Try.prog 13 #[.int .i64 s] W fun e w' => e = .returned (.agg #[.int .i64 (lcC s), .int .i64 (lcV s)]) ∧ Below W.heap.size W w') :
    Calls Try.prog 4 #[.int .i64 s] w fun e w' => e = .returned (.bool true) ∧ Below w.heap.size w w' := by
  have HI := hid HI0
  clear HI0
  go_enter Try.func4, Try.ntmps4
  go_wp2_with fail
  refine (specLowCount_calls s _).mono ?_
  rintro e w2 ⟨rfl, hb2⟩
  have HL2 := hid (bmore hb2 (.cells #[.int .i64 (lcC s), .int .i64 (lcV s)] 31))
  have HK2 := hid (Blk.new w2 #[.int .i64 (lcC s), .int .i64 (lcV s)] 31)
  clear hb2
  go_wp2_with fail
  refine (HI.out _ HL2.out).mono ?_
  rintro e w4 ⟨rfl, hb4⟩
  have HK4 := hid (HK2.out.later hb4)
  have HL4 := hid (bmore (bthen HL2.out hb4) (.cells #[.int .i64 (lcC s), .int .i64 (lcV s)] 31))
  obtain ⟨c0, c1, _⟩ := HK4.out.two
  have hlt := HK4.out.lt
  clear hb4 HI HK2 HL2
  go_wp2_with fail
  refine (eqIntResult_calls _ _ _).mono ?_
  rintro e w5 ⟨rfl, hb5⟩
  have HL5 := hid (bthen HL4.out hb5)
  clear hb5 c0 c1 hlt HK4
  go_wp2
  go_ret
  exact ⟨rfl, HL5.out⟩
set_option maxHeartbeats 2000000 in
theorem exactBandNorms_calls (s : Int) (al : Option Addr) (cl : Nat) (l : List Int) (w : World) (hsl : Sl .i64 w (.slice al l.length cl) l) (hyl : (bnV s l).length ≤ 1048576)
    (HI0 : ∀ (v : Value) (W : World), Below w.heap.size w W → Sl .i64 W v l → Fits v → l.length ≤ 1048576 → Calls Try.prog 10 #[.int .i64 s, v] W fun e w' => ∃ u, e = .returned (.agg #[.int .i64 (bnC s l), u]) ∧ OwI W.heap.size w' u (bnV s l) ∧ Below W.heap.size W w') :
    Calls Try.prog 6 #[.int .i64 s, .slice al l.length cl] w fun e w' => e = .returned (.bool true) ∧ Below w.heap.size w w' := by
  have HI := hid HI0
  clear HI0
  by_cases hbig : 1048576 < l.length
  · have hb' : (1048576 : Int) < l.length := by omega
    clear hsl HI
    go_enter Try.func6, Try.ntmps6
    go_wp2
    go_ret
    exact ⟨rfl, Below.refl _ _⟩
  · have hb' : (l.length : Int) ≤ 1048576 := by omega
    have HSL := hid hsl
    clear hsl
    go_enter Try.func6, Try.ntmps6
    go_wp2_with fail
    refine (toInt64S_calls _ l _ (HSL.out) (by omega)).mono ?_
    rintro e w1 ⟨g1, rfl, ho1, hb1⟩
    go_wp2_with fail
    refine (specBandNorms_calls s _ l _ ho1.sl ho1.fits (by omega)).mono ?_
    rintro e w2 ⟨Wv, rfl, hoW, hb2⟩
    have hW := hoW.sl
    have HB2 := hid (bthen hb1 hb2)
    have HW := hid hW
    obtain ⟨aW, cW, rfl, _⟩ := hW
    clear ho1 hb1 hb2 hoW
    go_wp2_with fail
    refine (toInt64S_calls _ l _ (HSL.out.later (bmore HB2.out _)) (by omega)).mono ?_
    rintro e w3 ⟨g3, rfl, ho3, hb3⟩
    have HO3 := hid ho3
    have HB3 := hid hb3
    clear ho3 hb3
    go_wp2_with fail
    refine (HI.out _ _ (bthen (bmore HB2.out _) HB3.out) HO3.out.sl HO3.out.fits (by omega)).mono ?_
    rintro e w4 ⟨G, rfl, hoG, hb4⟩
    obtain ⟨hK, hxb, hox⟩ := ki_start HB2.out HW.out HB3.out HO3.out hb4 hoG (T := 28)
    have hG := hoG.sl
    obtain ⟨aG, cG, rfl, _⟩ := hG
    clear hb4 hoG HB2 HW HB3 HO3
    generalize w2.heap.size = A at *
    generalize w3.heap.size = Bx at *
    have hp0 := hK.p0
    have hp1 := hK.p1
    have HK := hid hK
    have HX := hid hxb
    have HOX := hid hox
    clear hK hxb hox
    go_wp2_with fail
    refine (eqIntsResult_calls _ _ _ _ _ HK.out.oG.sl HK.out.slW hyl).mono ?_
    rintro e w5 ⟨rfl, hb5⟩
    have HK5 := hid (HK.out.later hb5)
    have HOX5 := hid (HOX.out.later hb5)
    have hq0 := HK5.out.q0
    have hq1 := HK5.out.q1
    have hp0 := HK5.out.p0
    have hp1 := HK5.out.p1
    generalize w4.heap.size = q at *
    clear HK hb5 HOX
    go_wp2_with fail
    refine (toInt64S_calls _ l _ (HSL.out.later HK5.out.bel) (by omega)).mono ?_
    rintro e w6 ⟨g6, rfl, ho6, hb6⟩
    have HK6 := hid (HK5.out.later hb6)
    have HOX6 := hid (HOX5.out.later hb6)
    have HO6 := hid ho6
    clear HK5 HOX5 ho6 hb6 hp0 hp1 hq0 hq1
    go_wp2_with fail
    refine (eqInt64S_calls _ _ l _ HOX6.out.sl HO6.out.sl (by omega)).mono ?_
    rintro e w7 ⟨rfl, hb7⟩
    have HK7 := hid (HK6.out.later hb7)
    have HOX7 := hid (HOX6.out.later hb7)
    clear HK6 HOX6 HO6 hb7
    go_wp2_with fail
    refine (markInt64S_calls _ _ l _ 1 HOX7.out (by omega) (by omega)).mono ?_
    rintro e w8 ⟨rfl, _, hg8⟩
    have HK8 := hid (HK7.out.mark hg8 HX.out)
    have hq0 := HK8.out.q0
    have hq1 := HK8.out.q1
    have hp0 := HK8.out.p0
    have hp1 := HK8.out.p1
    have hcast : (((1 + l.length : Nat) : Int)) = 1 + (l.length : Int) := by omega
    rw [hcast]
    clear hcast HK7 HOX7 HX hg8
    go_wp2_with fail
    refine (eqIntsResult_calls _ _ _ _ _ HK8.out.oG.sl HK8.out.slW hyl).mono ?_
    rintro e w9 ⟨rfl, hb9⟩
    have HK9 := hid (HK8.out.later hb9)
    have hq0 := HK9.out.q0
    have hq1 := HK9.out.q1
    have hp0 := HK9.out.p0
    have hp1 := HK9.out.p1
    clear HK8 hb9
    go_wp2_with fail
    refine (markIntsResult_calls _ _ _ _ _ 1 HK9.out.oG hyl (by omega)).mono ?_
    rintro e w10 ⟨rfl, ho10, hg10⟩
    have HK10 := hid (HK9.out.markG hg10 ho10)
    have hq0 := HK10.out.q0
    have hq1 := HK10.out.q1
    have hp0 := HK10.out.p0
    have hp1 := HK10.out.p1
    have hcast : (((1 + (bnV s l).length : Nat) : Int)) = 1 + ((bnV s l).length : Int) := by omega
    rw [hcast]
    have HC := hid hcast
    clear hcast HK9 hg10 ho10
    go_wp2_with fail
    refine (heldIntsResult_calls _ _ _ _ 1 HK10.out.oG.sl hyl (by omega)).mono ?_
    rintro e w11 ⟨rfl, hb11⟩
    have HK11 := hid (HK10.out.later hb11)
    have hq0 := HK11.out.q0
    have hq1 := HK11.out.q1
    have hp0 := HK11.out.p0
    have hp1 := HK11.out.p1
    rw [HC.out]
    clear HK10 hb11
    go_wp2_with fail
    refine (toInt64S_calls _ l _ (HSL.out.later HK11.out.bel) (by omega)).mono ?_
    rintro e w12 ⟨g12, rfl, ho12, hb12⟩
    have HK12 := hid (HK11.out.later hb12)
    have HO12 := hid ho12
    clear HK11 ho12 hb12 hp0 hp1 hq0 hq1
    go_wp2_with fail
    refine (HI.out _ _ HK12.out.bel HO12.out.sl HO12.out.fits (by omega)).mono ?_
    rintro e w13 ⟨V, rfl, hoV, hb13⟩
    have hV := hoV.sl
    have HK13 := hid (HK12.out.later hb13)
    have HK14 := hid (HK13.out.later (bmore (Below.refl _ _) (.cells #[.int .i64 (bnC s l), V] 28)))
    have HV := hid hV
    obtain ⟨aV, cV, rfl, _⟩ := hV
    have hp0 := HK13.out.p0
    have hp1 := HK13.out.p1
    have hpl : A < w13.heap.size := by have := HK13.out.l1; have := HK13.out.l2; have := HK13.out.l3; omega
    clear HK12 hoV hb13 HO12
    go_wp2_with fail
    refine (eqIntsResult_calls _ _ _ _ _ (HV.out.later (bmore (Below.refl _ _) _)) HK14.out.slW hyl).mono ?_
    rintro e w15 ⟨rfl, hb15⟩
    have HK15 := hid (HK14.out.later hb15)
    have hq0 := HK15.out.q0
    have hq1 := HK15.out.q1
    clear HK13 HK14 HV hb15 hp0 hp1 hpl
    go_wp2_with fail
    refine (heldIntsResult_calls _ _ _ _ 1 HK15.out.oG.sl hyl (by omega)).mono ?_
    rintro e w16 ⟨rfl, hb16⟩
    have HB := hid (bthen HK15.out.bel hb16)
    rw [HC.out]
    clear HK15 hb16 hq0 hq1
    go_wp2
    go_ret
    exact ⟨rfl, HB.out⟩
set_option maxHeartbeats 2000000 in
theorem exactMaskOf_calls (s : Int) (al : Option Addr) (cl : Nat) (l : List Int) (w : World) (hsl : Sl .i64 w (.slice al l.length cl) l) 
    (HI0 : ∀ (v : Value) (W : World), Below w.heap.size w W → Sl .i64 W v l → Fits v → l.length ≤ 1048576 → Calls Try.prog 11 #[.int .i64 s, v] W fun e w' => e = .returned (.agg #[.int .i64 (mkC s l), .int .i64 (mkV s l)]) ∧ Below W.heap.size W w') :
    Calls Try.prog 7 #[.int .i64 s, .slice al l.length cl] w fun e w' => e = .returned (.bool true) ∧ Below w.heap.size w w' := by
  have HI := hid HI0
  clear HI0
  by_cases hbig : 1048576 < l.length
  · have hb' : (1048576 : Int) < l.length := by omega
    clear hsl HI
    go_enter Try.func7, Try.ntmps7
    go_wp2
    go_ret
    exact ⟨rfl, Below.refl _ _⟩
  · have hb' : (l.length : Int) ≤ 1048576 := by omega
    have HSL := hid hsl
    clear hsl
    go_enter Try.func7, Try.ntmps7
    go_wp2_with fail
    refine (toInt64S_calls _ l _ (HSL.out) (by omega)).mono ?_
    rintro e w1 ⟨g1, rfl, ho1, hb1⟩
    go_wp2_with fail
    refine (specMaskOf_calls s _ l _ ho1.sl ho1.fits (by omega)).mono ?_
    rintro e w2 ⟨rfl, hb2⟩
    have HL2 := hid (bmore (bthen hb1 hb2) (.cells #[.int .i64 (mkC s l), .int .i64 (mkV s l)] 31))
    clear ho1 hb1 hb2
    go_wp2_with fail
    refine (toInt64S_calls _ l _ (HSL.out.later HL2.out) (by omega)).mono ?_
    rintro e w3 ⟨g3, rfl, ho3, hb3⟩
    have HO3 := hid ho3
    have HL3 := hid (bthen HL2.out hb3)
    clear ho3
    go_wp2_with fail
    refine (HI.out _ _ HL3.out HO3.out.sl HO3.out.fits (by omega)).mono ?_
    rintro e w4 ⟨rfl, hb4⟩
    have HS4 := hid (HO3.out.sl.later hb4)
    have hb34 := bthen hb3 hb4
    obtain ⟨hc, hf⟩ := bcell hb34
    have hz : w2.heap.size < w4.heap.size := by have := hb34.size; simp at this; omega
    have HL4 := hid (bmore (bthen HL3.out hb4) (.cells #[.int .i64 (mkC s l), .int .i64 (mkV s l)] 31))
    have HS5 := hid (HS4.out.later (bmore (Below.refl _ _) (.cells #[.int .i64 (mkC s l), .int .i64 (mkV s l)] 31)))
    clear hb3 hb4 hb34 HI HL2 HL3 HO3 HS4
    go_wp2_with fail
    refine (eqIntResult_calls _ _ _).mono ?_
    rintro e w5 ⟨rfl, hb5⟩
    clear hc hf hz
    have HL5 := hid (bthen HL4.out hb5)
    have HS6 := hid (HS5.out.later hb5)
    clear hb5 HL4 HS5
    go_wp2_with fail
    refine (toInt64S_calls _ l _ (HSL.out.later HL5.out) (by omega)).mono ?_
    rintro e w6 ⟨g6, rfl, ho6, hb6⟩
    go_wp2_with fail
    refine (eqInt64S_calls _ _ l _ (HS6.out.later hb6) ho6.sl (by omega)).mono ?_
    rintro e w7 ⟨rfl, hb7⟩
    have HL7 := hid (bthen (bthen HL5.out hb6) hb7)
    clear hb6 hb7 ho6
    go_wp2
    go_ret
    exact ⟨rfl, HL7.out⟩
end Go.Proofs.Ytodfkicmmcfkaaa.ExBa
