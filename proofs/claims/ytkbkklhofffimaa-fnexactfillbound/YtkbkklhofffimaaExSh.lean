/- The exact laws of gains and shapes, for a program that answers by the common answers. Condition: the program's own contract, wherever nothing that was there before has turned. -/
import Derived.Test.YtkbkklhofffimaaShaS
import Derived.Test.YtkbkklhofffimaaExJ
import Derived.Test.YtkbkklhofffimaaToInt
import Derived.Test.YtkbkklhofffimaaPar
import Derived.Test.YtkbkklhofffimaaDiv
namespace Go.Proofs.Ytkbkklhofffimaa.ExSh
open Go.ChangeShapes Go.WideShapes Go.ChangeAt Go.RowKit Go.Proofs.Ytkbkklhofffimaa.Num Go.Proofs.Ytkbkklhofffimaa.Sli Go.Proofs.Ytkbkklhofffimaa.Div Go.Proofs.Ytkbkklhofffimaa.App Go.Proofs.Ytkbkklhofffimaa.Blk Go.Proofs.Ytkbkklhofffimaa.Par Go.Proofs.Ytkbkklhofffimaa.HalM Go.Proofs.Ytkbkklhofffimaa.PulM Go.Proofs.Ytkbkklhofffimaa.ShaM Go.Proofs.Ytkbkklhofffimaa.ShaS Go.Proofs.Ytkbkklhofffimaa.ExJ
open Go.Proofs.Ytkbkklhofffimaa.IntL (OwI eqIntsResult_calls markIntsResult_calls heldIntsResult_calls)
open Go.Proofs.Ytkbkklhofffimaa.IntL (markInt64S_calls)
open Go.Proofs.Ytkbkklhofffimaa.ToInt (eqInt64S_calls)
set_option maxHeartbeats 2000000 in
theorem exactFillOf_calls (d : Int) (g : Int) (w : World) (hyl : (flL d g).length ≤ 1048576)
    (HI0 : ∀ (W : World), Below w.heap.size w W → Calls Try.prog 8 #[.int .i64 d, .int .i64 g] W fun e w' => ∃ u, e = .returned (.agg #[.int .i64 (flC d g), u]) ∧ OwI W.heap.size w' u (flL d g) ∧ Below W.heap.size W w') :
    Calls Try.prog 4 #[.int .i64 d, .int .i64 g] w fun e w' => e = .returned (.bool true) ∧ Below w.heap.size w w' := by
  have HI := hid HI0
  clear HI0
  go_enter Try.func4, Try.ntmps4
  go_wp2_with fail
  refine (specFillOf_calls d g _).mono ?_
  rintro e w2 ⟨Wv, rfl, hoW, hb2⟩
  have hW := hoW.sl
  have HB2 := hid hb2
  have HW := hid hW
  obtain ⟨aW, cW, rfl, _⟩ := hW
  clear hb2 hoW
  go_wp2_with fail
  refine (HI.out _ (bmore HB2.out _)).mono ?_
  rintro e w4 ⟨G, rfl, hoG, hb4⟩
  obtain ⟨hK, _, _⟩ := ki_start (x := .slice none 0 0) (xs := []) HB2.out HW.out (Below.refl _ _) (World.ownsRow_nil _ _ _ _) hb4 hoG (T := 28)
  have hG := hoG.sl
  obtain ⟨aG, cG, rfl, _⟩ := hG
  clear hb4 hoG HB2 HW
  rw [World.size_alloc] at hK
  generalize w2.heap.size = A at *
  have hp0 := hK.p0
  have hp1 := hK.p1
  have HK := hid hK
  clear hK
  go_wp2_with fail
  refine (eqIntsResult_calls _ _ _ _ _ HK.out.oG.sl HK.out.slW hyl).mono ?_
  rintro e w5 ⟨rfl, hb5⟩
  have HK5 := hid (HK.out.later hb5)
  have hq0 := HK5.out.q0
  have hq1 := HK5.out.q1
  have hp0 := HK5.out.p0
  have hp1 := HK5.out.p1
  generalize w4.heap.size = q at *
  clear HK hb5
  go_wp2_with fail
  refine (markIntsResult_calls _ _ _ _ _ 1 HK5.out.oG hyl (by omega)).mono ?_
  rintro e w10 ⟨rfl, ho10, hg10⟩
  have HK10 := hid (HK5.out.markG hg10 ho10)
  have hq0 := HK10.out.q0
  have hq1 := HK10.out.q1
  have hp0 := HK10.out.p0
  have hp1 := HK10.out.p1
  have hcast : (((1 + (flL d g).length : Nat) : Int)) = 1 + ((flL d g).length : Int) := by omega
  rw [hcast]
  have HC := hid hcast
  clear hcast HK5 hg10 ho10
  go_wp2_with fail
  refine (heldIntsResult_calls _ _ _ _ 1 HK10.out.oG.sl hyl (by omega)).mono ?_
  rintro e w11 ⟨rfl, hb11⟩
  have HK11 := hid (HK10.out.later hb11)
  have hq0 := HK11.out.q0
  have hq1 := HK11.out.q1
  have hp0 := HK11.out.p0
  have hp1 := HK11.out.p1
  rw [HC.out]
  clear HK10 hb11
  go_wp2_with fail
  refine (HI.out _ HK11.out.bel).mono ?_
  rintro e w13 ⟨V, rfl, hoV, hb13⟩
  have hV := hoV.sl
  have HK13 := hid (HK11.out.later hb13)
  have HK14 := hid (HK13.out.later (bmore (Below.refl _ _) (.cells #[.int .i64 (flC d g), V] 28)))
  have HV := hid hV
  obtain ⟨aV, cV, rfl, _⟩ := hV
  have hp0 := HK13.out.p0
  have hp1 := HK13.out.p1
  have hpl : A < w13.heap.size := by have := HK13.out.l1; have := HK13.out.l2; have := HK13.out.l3; omega
  clear HK11 hoV hb13 hq0 hq1
  go_wp2_with fail
  refine (eqIntsResult_calls _ _ _ _ _ (HV.out.later (bmore (Below.refl _ _) _)) HK14.out.slW hyl).mono ?_
  rintro e w15 ⟨rfl, hb15⟩
  have HK15 := hid (HK14.out.later hb15)
  have hq0 := HK15.out.q0
  have hq1 := HK15.out.q1
  clear HK13 HK14 HV hb15 hp0 hp1 hpl
  go_wp2_with fail
  refine (heldIntsResult_calls _ _ _ _ 1 HK15.out.oG.sl hyl (by omega)).mono ?_
  rintro e w16 ⟨rfl, hb16⟩
  have HB := hid (bthen HK15.out.bel hb16)
  rw [HC.out]
  clear HK15 hb16 hq0 hq1
  go_wp2
  go_ret
  exact ⟨rfl, HB.out⟩
set_option maxHeartbeats 2000000 in
theorem exactFillBound_calls (n : Int) (g : Int) (w : World) 
    (HI0 : ∀ (W : World), Below w.heap.size w W → Calls Try.prog 10 #[.int .i64 n, .int .i64 g] W fun e w' => e = .returned (.agg #[.int .i64 (fbC n g), .int .i64 (fbV n g)]) ∧ Below W.heap.size W w') :
    Calls Try.prog 5 #[.int .i64 n, .int .i64 g] w fun e w' => e = .returned (.bool true) ∧ Below w.heap.size w w' := by
  have HI := hid HI0
  clear HI0
  go_enter Try.func5, Try.ntmps5
  go_wp2_with fail
  refine (specFillBound_calls n g _).mono ?_
  rintro e w2 ⟨rfl, hb2⟩
  have HL2 := hid (bmore hb2 (.cells #[.int .i64 (fbC n g), .int .i64 (fbV n g)] 31))
  have HK2 := hid (Blk.new w2 #[.int .i64 (fbC n g), .int .i64 (fbV n g)] 31)
  clear hb2
  go_wp2_with fail
  refine (HI.out _ HL2.out).mono ?_
  rintro e w4 ⟨rfl, hb4⟩
  have HK4 := hid (HK2.out.later hb4)
  have HL4 := hid (bmore (bthen HL2.out hb4) (.cells #[.int .i64 (fbC n g), .int .i64 (fbV n g)] 31))
  obtain ⟨c0, c1, _⟩ := HK4.out.two
  have hlt := HK4.out.lt
  clear hb4 HI HK2 HL2
  go_wp2_with fail
  refine (eqIntResult_calls _ _ _).mono ?_
  rintro e w5 ⟨rfl, hb5⟩
  have HL5 := hid (bthen HL4.out hb5)
  clear hb5 c0 c1 hlt HK4
  go_wp2
  go_ret
  exact ⟨rfl, HL5.out⟩
end Go.Proofs.Ytkbkklhofffimaa.ExSh
