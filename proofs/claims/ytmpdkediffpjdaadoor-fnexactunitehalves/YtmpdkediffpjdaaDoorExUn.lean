/- The walk through the exact law of UniteHalves, for a program that answers by the common answers. Condition: the program's own contract, wherever nothing that was there before has turned. -/
import Derived.Test.YtmpdkediffpjdaaDoorExBl
namespace Go.Proofs.YtmpdkediffpjdaaDoor.ExUn
open Go.ChangeShapes Go.WideShapes Go.ChangeAt Go.RowKit Go.Proofs.YtmpdkediffpjdaaDoor.Num Go.Proofs.YtmpdkediffpjdaaDoor.Sli Go.Proofs.YtmpdkediffpjdaaDoor.App Go.Proofs.YtmpdkediffpjdaaDoor.HalM Go.Proofs.YtmpdkediffpjdaaDoor.HalN Go.Proofs.YtmpdkediffpjdaaDoor.BloS Go.Proofs.YtmpdkediffpjdaaDoor.ExJ
open Go.Proofs.YtmpdkediffpjdaaDoor.IntL (OwI toInt64S_calls markInt64S_calls eqIntsResult_calls markIntsResult_calls heldIntsResult_calls)
open Go.Proofs.YtmpdkediffpjdaaDoor.ToInt (eqInt64S_calls)

set_option maxHeartbeats 2000000 in
theorem exactUniteHalves_calls (a : Option Addr) (cap : Nat) (xs : List Int) (a2 : Option Addr) (cap2 : Nat) (ys : List Int) (w : World) (hsl : Sl .i64 w (.slice a xs.length cap) xs) (hsl2 : Sl .i64 w (.slice a2 ys.length cap2) ys)
    (HI0 : ∀ (v u : Value) (s d : List Int) (W : World), Below w.heap.size w W → Sl .i64 W v s → Sl .i64 W u d → s.length ≤ 1048576 → d.length ≤ 1048576 → Calls Tryd.prog 16 #[v, u] W fun e w' => ∃ t, e = .returned (.agg #[.int .i64 (uhC s d), t]) ∧ OwI W.heap.size w' t (uhL s d) ∧ Below W.heap.size W w') :
    Calls Tryd.prog 6 #[.slice a xs.length cap, .slice a2 ys.length cap2] w fun e w' => e = .returned (.bool true) ∧ Below w.heap.size w w' := by
  have HI := hid HI0
  clear HI0
  by_cases hbig : 1048576 < xs.length
  · have hb' : (1048576 : Int) < xs.length := by omega
    go_enter Tryd.func6, Tryd.ntmps6
    go_wp2
    go_ret
    exact ⟨rfl, Below.refl _ _⟩
  by_cases hbig2 : 1048576 < ys.length
  · have hb' : (xs.length : Int) ≤ 1048576 := by omega
    have hb2' : (1048576 : Int) < ys.length := by omega
    go_enter Tryd.func6, Tryd.ntmps6
    go_wp2
    go_ret
    exact ⟨rfl, Below.refl _ _⟩
  · have hb' : (xs.length : Int) ≤ 1048576 := by omega
    have hb2' : (ys.length : Int) ≤ 1048576 := by omega
    have hyl := uhL_small xs ys
    have HSL := hid hsl
    have HSM := hid hsl2
    clear hsl hsl2
    go_enter Tryd.func6, Tryd.ntmps6
    go_wp2_with fail
    refine (toInt64S_calls _ xs _ HSL.out (by omega)).mono ?_
    rintro e w0 ⟨g0, rfl, ho0, hb0⟩
    have HO0 := hid ho0
    have HB0 := hid hb0
    clear ho0 hb0
    go_wp2_with fail
    refine (toInt64S_calls _ ys _ (HSM.out.later HB0.out) (by omega)).mono ?_
    rintro e w1 ⟨g1, rfl, ho1, hb1⟩
    go_wp2_with fail
    refine (specUniteHalves_calls _ _ xs ys _ (HO0.out.later hb1).sl ho1.sl (by omega) (by omega)).mono ?_
    rintro e w2 ⟨W, rfl, hoW, hb2⟩
    have hW := hoW.sl
    have hb02 := bthen (bthen HB0.out hb1) hb2
    have HW := hid hW
    have HB2 := hid hb02
    obtain ⟨aW, cW, rfl, _⟩ := hW
    clear ho1 hb1 hb2 hoW hb02 HO0 HB0
    go_wp2_with fail
    refine (toInt64S_calls _ xs _ (HSL.out.later (bmore HB2.out _)) (by omega)).mono ?_
    rintro e w3 ⟨g3, rfl, ho3, hb3⟩
    have HO3 := hid ho3
    have HB3 := hid hb3
    clear ho3 hb3
    go_wp2_with fail
    refine (toInt64S_calls _ ys _ (HSM.out.later (bthen (bmore HB2.out _) HB3.out)) (by omega)).mono ?_
    rintro e w3' ⟨g3', rfl, ho3', hb3'⟩
    have HP3 := hid (HO3.out.later hb3')
    have HQ3 := hid ho3'
    have HC3 := hid (bthen HB3.out hb3')
    have hz3 := hb3'.size
    have hz2 : w2.heap.size + 1 ≤ w3.heap.size := by have := HB3.out.size; simpa using this
    have hg3 := (HO3.out.block g3 rfl).2
    clear ho3' hb3' HO3 HB3
    go_wp2_with fail
    refine (HI.out _ _ xs ys _ (bthen (bmore HB2.out _) HC3.out) HP3.out.sl HQ3.out.sl (by omega) (by omega)).mono ?_
    rintro e w4 ⟨G, rfl, hoG, hb4⟩
    obtain ⟨hK, hxb, hox⟩ := ki_start HB2.out HW.out HC3.out HP3.out hb4 hoG (T := 27)
    have hox2 : OwI (w2.heap.size + 1) (w4.alloc (.cells #[.int .i64 (uhC xs ys), G] 27)) (.slice (some ⟨g3', 0, none⟩) ys.length ys.length) ys := App.Ow.mono ((HQ3.out.later hb4).alloc _) (by omega)
    have hxb2 : ∀ j, (Value.slice (some ⟨g3', 0, none⟩) ys.length ys.length).ownBlock = some j → w2.heap.size < j ∧ j < w3'.heap.size := fun j e => by have := HQ3.out.block j e; omega
    have hnx : g3 ≠ g3' := by have h2 := HQ3.out.block g3' rfl; omega
    have hG := hoG.sl
    obtain ⟨aG, cG, rfl, _⟩ := hG
    clear hb4 hoG HB2 HW HC3 HP3 HQ3 hz3 hz2 hg3
    generalize w2.heap.size = A at *
    generalize w3'.heap.size = Bx at *
    have hp0 := hK.p0
    have hp1 := hK.p1
    have HK := hid hK
    have HX := hid hxb
    have HOX := hid hox
    have HX2 := hid hxb2
    have HOX2 := hid hox2
    clear hK hxb hox hxb2 hox2
    go_wp2_with fail
    refine (eqIntsResult_calls _ _ _ _ _ HK.out.oG.sl HK.out.slW hyl).mono ?_
    rintro e w5 ⟨rfl, hb5⟩
    have HK5 := hid (HK.out.later hb5)
    have HOX5 := hid (HOX.out.later hb5)
    have HOY5 := hid (HOX2.out.later hb5)
    have hq0 := HK5.out.q0
    have hq1 := HK5.out.q1
    have hp0 := HK5.out.p0
    have hp1 := HK5.out.p1
    generalize w4.heap.size = q at *
    clear HK HOX HOX2 hb5
    go_wp2_with fail
    refine (toInt64S_calls _ xs _ (HSL.out.later HK5.out.bel) (by omega)).mono ?_
    rintro e w6 ⟨g6, rfl, ho6, hb6⟩
    have HK6 := hid (HK5.out.later hb6)
    have HOX6 := hid (HOX5.out.later hb6)
    have HOY6 := hid (HOY5.out.later hb6)
    have HO6 := hid ho6
    clear HK5 HOX5 HOY5 ho6 hb6 hp0 hp1 hq0 hq1
    go_wp2_with fail
    refine (eqInt64S_calls _ _ xs _ HOX6.out.sl HO6.out.sl (by omega)).mono ?_
    rintro e w7 ⟨rfl, hb7⟩
    have HK7 := hid (HK6.out.later hb7)
    have HOX7 := hid (HOX6.out.later hb7)
    have HOY7 := hid (HOY6.out.later hb7)
    clear HK6 HOX6 HOY6 HO6 hb7
    go_wp2_with fail
    refine (toInt64S_calls _ ys _ (HSM.out.later HK7.out.bel) (by omega)).mono ?_
    rintro e w6' ⟨g6', rfl, ho6, hb6⟩
    have HK6 := hid (HK7.out.later hb6)
    have HOX6 := hid (HOX7.out.later hb6)
    have HOY6 := hid (HOY7.out.later hb6)
    have HO6 := hid ho6
    clear HK7 HOX7 HOY7 ho6 hb6
    go_wp2_with fail
    refine (eqInt64S_calls _ _ ys _ HOY6.out.sl HO6.out.sl (by omega)).mono ?_
    rintro e w7' ⟨rfl, hb7⟩
    have HK7 := hid (HK6.out.later hb7)
    have HOX7 := hid (HOX6.out.later hb7)
    have HOY7 := hid (HOY6.out.later hb7)
    clear HK6 HOX6 HOY6 HO6 hb7
    go_wp2_with fail
    refine (markInt64S_calls _ _ xs _ 1 HOX7.out (by omega) (by omega)).mono ?_
    rintro e w8 ⟨rfl, _, hg8⟩
    have HK8 := hid (HK7.out.mark hg8 HX.out)
    have HOY8 := hid (IntA.Ow.keptNe HOY7.out hg8 (fun j e => by simp [Value.ownBlock] at e ⊢; omega))
    have hcast : (((1 + xs.length : Nat) : Int)) = 1 + (xs.length : Int) := by omega
    clear HK7 HOX7 HOY7 HX hg8
    go_wp2_with fail
    refine (markInt64S_calls _ _ ys _ (1 + xs.length) HOY8.out (by omega) (by omega)).mono ?_
    rintro e w8' ⟨rfl, _, hg8⟩
    have HK9 := hid (HK8.out.mark hg8 HX2.out)
    have hq0 := HK9.out.q0
    have hq1 := HK9.out.q1
    have hp0 := HK9.out.p0
    have hp1 := HK9.out.p1
    have hcast2 : (((1 + xs.length + ys.length : Nat) : Int)) = 1 + (xs.length : Int) + (ys.length : Int) := by omega
    rw [hcast2]
    clear hcast hcast2 HK8 HOY8 HX2 hg8
    go_wp2_with fail
    refine (eqIntsResult_calls _ _ _ _ _ HK9.out.oG.sl HK9.out.slW hyl).mono ?_
    rintro e w9 ⟨rfl, hb9⟩
    have HK10 := hid (HK9.out.later hb9)
    have hq0 := HK10.out.q0
    have hq1 := HK10.out.q1
    have hp0 := HK10.out.p0
    have hp1 := HK10.out.p1
    clear HK9 hb9
    go_wp2_with fail
    refine (markIntsResult_calls _ _ _ _ _ 1 HK10.out.oG hyl (by omega)).mono ?_
    rintro e w10 ⟨rfl, ho10, hg10⟩
    have HK11 := hid (HK10.out.markG hg10 ho10)
    have hq0 := HK11.out.q0
    have hq1 := HK11.out.q1
    have hp0 := HK11.out.p0
    have hp1 := HK11.out.p1
    have hcast : (((1 + (uhL xs ys).length : Nat) : Int)) = 1 + ((uhL xs ys).length : Int) := by omega
    rw [hcast]
    have HC := hid hcast
    clear hcast HK10 hg10 ho10
    go_wp2_with fail
    refine (heldIntsResult_calls _ _ _ _ 1 HK11.out.oG.sl hyl (by omega)).mono ?_
    rintro e w11 ⟨rfl, hb11⟩
    have HK12 := hid (HK11.out.later hb11)
    have hq0 := HK12.out.q0
    have hq1 := HK12.out.q1
    have hp0 := HK12.out.p0
    have hp1 := HK12.out.p1
    rw [HC.out]
    clear HK11 hb11
    go_wp2_with fail
    refine (toInt64S_calls _ xs _ (HSL.out.later HK12.out.bel) (by omega)).mono ?_
    rintro e w12 ⟨g12, rfl, ho12, hb12⟩
    have HK13 := hid (HK12.out.later hb12)
    have HO12 := hid ho12
    clear HK12 ho12 hb12 hp0 hp1 hq0 hq1
    go_wp2_with fail
    refine (toInt64S_calls _ ys _ (HSM.out.later HK13.out.bel) (by omega)).mono ?_
    rintro e w12' ⟨g12', rfl, ho12, hb12⟩
    have HK14 := hid (HK13.out.later hb12)
    have HP12 := hid (HO12.out.later hb12)
    have HQ12 := hid ho12
    clear HK13 HO12 ho12 hb12
    go_wp2_with fail
    refine (HI.out _ _ xs ys _ HK14.out.bel HP12.out.sl HQ12.out.sl (by omega) (by omega)).mono ?_
    rintro e w13 ⟨V, rfl, hoV, hb13⟩
    have hV := hoV.sl
    have HK15 := hid (HK14.out.later hb13)
    have HK16 := hid (HK15.out.later (bmore (Below.refl _ _) (.cells #[.int .i64 (uhC xs ys), V] 27)))
    have HV := hid hV
    obtain ⟨aV, cV, rfl, _⟩ := hV
    have hp0 := HK15.out.p0
    have hp1 := HK15.out.p1
    have hpl : A < w13.heap.size := by have := HK15.out.l1; have := HK15.out.l2; have := HK15.out.l3; omega
    clear HK14 HP12 HQ12 hoV hb13
    go_wp2_with fail
    refine (eqIntsResult_calls _ _ _ _ _ (HV.out.later (bmore (Below.refl _ _) _)) HK16.out.slW hyl).mono ?_
    rintro e w15 ⟨rfl, hb15⟩
    have HK17 := hid (HK16.out.later hb15)
    have hq0 := HK17.out.q0
    have hq1 := HK17.out.q1
    clear HK15 HK16 HV hb15 hp0 hp1 hpl
    go_wp2_with fail
    refine (heldIntsResult_calls _ _ _ _ 1 HK17.out.oG.sl hyl (by omega)).mono ?_
    rintro e w16 ⟨rfl, hb16⟩
    have HB := hid (bthen HK17.out.bel hb16)
    rw [HC.out]
    clear HK17 hb16 hq0 hq1
    go_wp2
    go_ret
    exact ⟨rfl, HB.out⟩
end Go.Proofs.YtmpdkediffpjdaaDoor.ExUn
