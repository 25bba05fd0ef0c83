/- For every int64 the program's SlotsOf answers as the model's does, code and slots, in memory of its own that a later call leaves alone; nothing that was there turns. No conditions. -/
import Derived.Test.YtionfgcdgflcjaaRows
import Derived.Test.YtionfgcdgflcjaaNum
import Derived.Test.YtionfgcdgflcjaaSli
import Derived.Test.YtionfgcdgflcjaaApp
import Derived.Test.YtionfgcdgflcjaaBlk
import Derived.Test.YtionfgcdgflcjaaSlS
import Derived.Test.YtionfgcdgflcjaaExL
import Derived.Test.YtionfgcdgflcjaaSlA
import Derived.Test.YtionfgcdgflcjaaValZ
import Derived.Test.YtionfgcdgflcjaaValI
import Derived.Test.YtionfgcdgflcjaaValK
import Derived.Test.YtionfgcdgflcjaaValT
import Derived.Test.YtionfgcdgflcjaaExS
import Derived.WalkKit
import Derived.ProofKit
import Derived.OpenShut
import Derived.ShutString
import Derived.Below
namespace Go.Proofs.Ytionfgcdgflcjaa.fnExactSlotsOf
open Go.ChangeShapes Go.WideShapes Go.ChangeAt Go.RowKit
open Go.ChangeMaps (open_string shut_string)
set_option linter.unusedVariables false

theorem own : ownKnob Try.prog.godebug = none := by kernel_rfl

open Go.Proofs.Ytionfgcdgflcjaa.Num Go.Proofs.Ytionfgcdgflcjaa.Sli Go.Proofs.Ytionfgcdgflcjaa.App Go.Proofs.Ytionfgcdgflcjaa.Blk Go.Proofs.Ytionfgcdgflcjaa.SlS Go.Proofs.Ytionfgcdgflcjaa.ExL Go.Proofs.Ytionfgcdgflcjaa.SlA Go.Proofs.Ytionfgcdgflcjaa.ValZ Go.Proofs.Ytionfgcdgflcjaa.ValI Go.Proofs.Ytionfgcdgflcjaa.ValK Go.Proofs.Ytionfgcdgflcjaa.ValT Go.Proofs.Ytionfgcdgflcjaa.ExS
theorem few (x : Int) : (sL x).length ≤ 3 := by
  unfold sL
  split
  · exact (zSl_len _).2
  · simp
set_option maxHeartbeats 1000000 in
theorem walk (a0 : Int) (w0 : (Lit.int .i64 a0).wf = true) (w : World) :
    Calls Try.prog 7 #[.int .i64 a0] w fun e w' => e = .returned (.bool true) ∧ Below w.heap.size w w' := by
  have hyl : (sL a0).length ≤ 1048576 := by have := few a0; omega
  have HI := hid (implSlots_calls a0)
  have HM := hid (specSlots_calls a0)
  generalize sL a0 = ls at *
  generalize sC a0 = c at *
  go_enter Try.func7, Try.ntmps7
  go_wp2_with fail
  refine (HM.out _).mono ?_
  rintro e w2 ⟨W, rfl, hoW, hb2⟩
  have HOW := hid hoW
  have HB2 := hid hb2
  obtain ⟨aW, cW, rfl, _⟩ := hoW.sls
  clear hoW hb2 HM
  go_wp2_with fail
  refine (HI.out _).mono ?_
  rintro e w4 ⟨G, rfl, hoG, hb4⟩
  have HK := hid (ks_start HB2.out HOW.out hb4 hoG)
  obtain ⟨aG, cG, rfl, _⟩ := hoG.sls
  clear hoG hb4 HOW HB2
  generalize w2.heap.size = A at *
  obtain ⟨p0, p1, _⟩ := HK.out.p.two
  generalize hq : w4.heap.size = q at *
  go_wp2_with fail
  refine (eqSlotsResult_calls _ _ _ ls _ HK.out.oG.sls HK.out.oW.sls hyl).mono ?_
  rintro e w5 ⟨rfl, hb5⟩
  have HK5 := hid (HK.out.later hb5)
  obtain ⟨p0, p1, _⟩ := HK5.out.p.two
  obtain ⟨q0, q1, _⟩ := HK5.out.k.two
  clear HK hb5 hq
  go_wp2_with fail
  refine (markSlotsResult_calls _ _ _ ls _ HK5.out.oG hyl).mono ?_
  rintro e w6 ⟨rfl, ho6, hg6⟩
  have HK6 := hid (HK5.out.markG hg6 ho6)
  obtain ⟨p0, p1, _⟩ := HK6.out.p.two
  obtain ⟨q0, q1, _⟩ := HK6.out.k.two
  have hn0 : 0 ≤ 1 + 3 * (ls.length : Int) := by omega
  clear HK5 hg6 ho6
  go_wp2_with fail
  refine (heldSlotsResult_calls _ _ _ _ HK6.out.oG.sls hyl).mono ?_
  rintro e w7 ⟨rfl, hb7⟩
  have HK7 := hid (HK6.out.later hb7)
  clear HK6 hb7 p0 p1 q0 q1
  go_wp2_with fail
  refine (HI.out _).mono ?_
  rintro e w8 ⟨V, rfl, hoV, hb8⟩
  have HK8 := hid ((HK7.out.later hb8).later (bmore (Below.refl _ _) (.cells #[.int .i64 c, V] 30)))
  have HV := hid (OwS.later hoV (bmore (Below.refl _ _) (.cells #[.int .i64 c, V] 30)))
  have HP := hid (HK7.out.later hb8).p
  obtain ⟨aV, cV, rfl, _⟩ := hoV.sls
  obtain ⟨p0, p1, _⟩ := HP.out.two
  have hpl := HP.out.lt
  clear HK7 hoV hb8 HP
  go_wp2_with fail
  refine (eqSlotsResult_calls _ _ _ ls _ HV.out.sls HK8.out.oW.sls hyl).mono ?_
  rintro e w9 ⟨rfl, hb9⟩
  have HK9 := hid (HK8.out.later hb9)
  obtain ⟨q0, q1, _⟩ := HK9.out.k.two
  clear HK8 HV hb9 p0 p1 hpl
  go_wp2_with fail
  refine (heldSlotsResult_calls _ _ _ _ HK9.out.oG.sls hyl).mono ?_
  rintro e w10 ⟨rfl, hb10⟩
  have HB := hid (bthen HK9.out.bel hb10)
  clear HK9 hb10 q0 q1
  go_wp2
  go_ret
  exact ⟨rfl, HB.out⟩

set_option maxRecDepth 100000 in
theorem lifted (os : Os) (started : os.Started) (H : Type) (enc : TypeId × Value → H) :
    ReturnsInHanded {} Try.checked os 7 .any (Rows.fnExactSlotsOfSpec.pre6 enc Try.prog Try.f7 Rows.fnExactSlotsOfRow.domain false) (Rows.fnExactSlotsOfSpec.post enc Try.prog Try.f7 false true false false) := by
  refine returnsInHanded_of_change (C := Try.checked) own started (by kernel_rfl) Try.func7
    (ChangeSpec.witness6 (enc := enc) (C := Try.checked) false ⟨#[], #[.int .i64 0], []⟩ 8 (by kernel_rfl) (by kernel_rfl) (by kernel_rfl) (by kernel_rfl)) ?_
  intro W base args ds gs before hval0 hW hcnd _
  have hval : ∀ (j : Nat) t v, Try.f7.params[j]? = some t → args[j]? = some v → Value.okWide Try.prog W .any base t v := hval0
  have hW' := hW
  obtain ⟨p, q, hA0, hV, rfl, hfz, hnd⟩ := hW
  have hA : DataW.TrodAll enc Try.prog W 0 (fun _ => true) true Try.f7.params.toList args.toList ds p := hA0
  rw [Try.params7] at hA hval
  obtain ⟨v0, vs0, d0, ds0, p0, q0, hargs, rfl, rfl, h0, r0⟩ := trodAll_cons hA
  obtain ⟨rfl, rfl, rfl⟩ := trodAll_nil r0
  obtain rfl : args = #[v0] := by cases args; simp_all
  obtain ⟨rfl, rfl⟩ := trodVars_none hV
  obtain ⟨a0, rfl, rfl, rfl, w0⟩ := open_int Try.underlying2 (hval 0 2 v0 rfl rfl) h0
  clear hA0 hval0
  simp only [List.append_nil] at hW'
  refine (walk a0 w0 W).mono fun e W' ⟨he, hg⟩ => ?_
  subst he
  exact ⟨_, rfl, _, _, _, [], _, [], hW', (trodAll_cons_mk (shut_bool Try.underlying4 _) trodAll_mk0), (trodAll_cons_mk (shut_int Try.underlying2 w0) trodAll_mk0), rfl, hg.frame _, fun h => by cases h⟩

theorem over : Rows.fnExactSlotsOfRow.holds Try.pinned (OpenSpec.ofChange Rows.fnExactSlotsOfSpec) :=
  OpenClaim.holds_of_wide 7 Try.f7 rfl rfl rfl rfl rfl rfl rfl ⟨rfl, rfl, rfl, rfl, rfl⟩ rfl rfl rfl rfl rfl (by kernel_rfl) Try.func7 (by kernel_rfl)
    (of_decide_eq_true (by kernel_rfl)) (by unfold Func.isWrapper; first | (rw [if_pos (by decide +kernel)]; kernel_rfl) | (rw [if_neg (by decide +kernel)]; exact ⟨rfl, rfl⟩))
    (fun os started H enc _ => lifted os started H enc)

theorem proved : Rows.FnExactSlotsOfSaid :=
  over
#print axioms proved
end Go.Proofs.Ytionfgcdgflcjaa.fnExactSlotsOf
