/- For every two int64 the program's PartPair answers as the model's does, code and both numbers, and nothing that was there turns. -/
import Derived.Test.YtcanknlelbomnaaRows
import Derived.Test.YtcanknlelbomnaaMixP
import Derived.WalkKit
import Derived.ProofKit
import Derived.OpenShut
import Derived.ShutString
import Derived.Below
namespace Go.Proofs.Ytcanknlelbomnaa.fnExactPartPair
open Go.ChangeShapes Go.WideShapes Go.ChangeAt Go.RowKit
open Go.ChangeMaps (open_string shut_string)
set_option linter.unusedVariables false

theorem own : ownKnob Try.prog.godebug = none := by kernel_rfl

open Go.Proofs.Ytcanknlelbomnaa.Num Go.Proofs.Ytcanknlelbomnaa.Sli Go.Proofs.Ytcanknlelbomnaa.Blk Go.Proofs.Ytcanknlelbomnaa.TurM Go.Proofs.Ytcanknlelbomnaa.Par Go.Proofs.Ytcanknlelbomnaa.MixP
theorem walk (a0 : Int) (a1 : Int) (w0 : (Lit.int .i64 a0).wf = true) (w1 : (Lit.int .i64 a1).wf = true) (w : World) :
    Calls Try.prog 5 #[.int .i64 a0, .int .i64 a1] w fun e w' => e = .returned (.bool true) ∧ Below w.heap.size w w' := by
  have HI := hid (fun W (_ : Below w.heap.size w W) => implPartPair_calls a0 a1 W)
  have HS := hid (specPartPair_calls a0 a1)
  have HQ := hid eqPair_calls
  generalize mxC a0 a1 = c at *
  generalize ptA a0 a1 = xa at *
  generalize ptB a0 a1 = xb at *
  go_enter Try.func5, Try.ntmps5
  go_wp2_with fail
  refine (HS.out _).mono ?_
  rintro e w1 ⟨rfl, hb1⟩
  have HL1 := hid (bmore hb1 (.cells #[.int .i64 c, .int .i64 xa, .int .i64 xb] 27))
  have HB1 := hid (Blk.new w1 #[.int .i64 c, .int .i64 xa, .int .i64 xb] 27)
  clear hb1 HS
  go_wp2_with fail
  refine (HI.out _ HL1.out).mono ?_
  rintro e w2 ⟨rfl, hb2⟩
  have HL2 := hid (bmore (bthen HL1.out hb2) (.cells #[.int .i64 c, .int .i64 xa, .int .i64 xb] 27))
  have HB2 := hid (HB1.out.later hb2)
  obtain ⟨c0, c1, c2, _⟩ := HB2.out.three
  have hlt := HB2.out.lt
  clear hb2 HI HB1
  go_wp2_with fail
  refine (HQ.out _ _ _ _).mono ?_
  rintro e w3 ⟨rfl, hb3⟩
  have HL3 := hid (bthen HL2.out hb3)
  clear hb3 c0 c1 c2 hlt HB2
  go_wp2
  go_ret
  exact ⟨rfl, HL3.out⟩

set_option maxRecDepth 100000 in
theorem lifted (os : Os) (started : os.Started) (H : Type) (enc : TypeId × Value → H) :
    ReturnsInHanded {} Try.checked os 5 .any (Rows.fnExactPartPairSpec.pre6 enc Try.prog Try.f5 Rows.fnExactPartPairRow.domain false) (Rows.fnExactPartPairSpec.post enc Try.prog Try.f5 false true false false) := by
  refine returnsInHanded_of_change (C := Try.checked) own started (by kernel_rfl) Try.func5
    (ChangeSpec.witness6 (enc := enc) (C := Try.checked) false ⟨#[], #[.int .i64 0, .int .i64 0], []⟩ 8 (by kernel_rfl) (by kernel_rfl) (by kernel_rfl) (by kernel_rfl)) ?_
  intro W base args ds gs before hval0 hW hcnd _
  have hval : ∀ (j : Nat) t v, Try.f5.params[j]? = some t → args[j]? = some v → Value.okWide Try.prog W .any base t v := hval0
  have hW' := hW
  obtain ⟨p, q, hA0, hV, rfl, hfz, hnd⟩ := hW
  have hA : DataW.TrodAll enc Try.prog W 0 (fun _ => true) true Try.f5.params.toList args.toList ds p := hA0
  rw [Try.params5] at hA hval
  obtain ⟨v0, vs0, d0, ds0, p0, q0, hargs, rfl, rfl, h0, r0⟩ := trodAll_cons hA
  obtain ⟨v1, vs1, d1, ds1, p1, q1, rfl, rfl, rfl, h1, r1⟩ := trodAll_cons r0
  obtain ⟨rfl, rfl, rfl⟩ := trodAll_nil r1
  obtain rfl : args = #[v0, v1] := by cases args; simp_all
  obtain ⟨rfl, rfl⟩ := trodVars_none hV
  obtain ⟨a0, rfl, rfl, rfl, w0⟩ := open_int Try.underlying2 (hval 0 2 v0 rfl rfl) h0
  obtain ⟨a1, rfl, rfl, rfl, w1⟩ := open_int Try.underlying2 (hval 1 2 v1 rfl rfl) h1
  clear hA0 hval0
  simp only [List.append_nil] at hW'
  refine (walk a0 a1 w0 w1 W).mono fun e W' ⟨he, hg⟩ => ?_
  subst he
  exact ⟨_, rfl, _, _, _, [], _, [], hW', (trodAll_cons_mk (shut_bool Try.underlying4 _) trodAll_mk0), (trodAll_cons_mk (shut_int Try.underlying2 w0) (trodAll_cons_mk (shut_int Try.underlying2 w1) trodAll_mk0)), rfl, hg.frame _, fun h => by cases h⟩

theorem over : Rows.fnExactPartPairRow.holds Try.pinned (OpenSpec.ofChange Rows.fnExactPartPairSpec) :=
  OpenClaim.holds_of_wide 5 Try.f5 rfl rfl rfl rfl rfl rfl rfl ⟨rfl, rfl, rfl, rfl, rfl⟩ rfl rfl rfl rfl rfl (by kernel_rfl) Try.func5 (by kernel_rfl)
    (of_decide_eq_true (by kernel_rfl)) (by unfold Func.isWrapper; first | (rw [if_pos (by decide +kernel)]; kernel_rfl) | (rw [if_neg (by decide +kernel)]; exact ⟨rfl, rfl⟩))
    (fun os started H enc _ => lifted os started H enc)

theorem proved : Rows.FnExactPartPairSaid :=
  over
#print axioms proved
end Go.Proofs.Ytcanknlelbomnaa.fnExactPartPair
