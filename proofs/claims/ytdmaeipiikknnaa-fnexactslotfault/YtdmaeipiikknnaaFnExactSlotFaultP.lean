/- For every slot the program's SlotFault answers as the model's does; nothing that was there turns. No conditions. -/
import Derived.Test.YtdmaeipiikknnaaRows
import Derived.Test.YtdmaeipiikknnaaNum
import Derived.Test.YtdmaeipiikknnaaSli
import Derived.Test.YtdmaeipiikknnaaApp
import Derived.Test.YtdmaeipiikknnaaByt
import Derived.Test.YtdmaeipiikknnaaCrcM
import Derived.Test.YtdmaeipiikknnaaStr
import Derived.Test.YtdmaeipiikknnaaDiv
import Derived.Test.YtdmaeipiikknnaaDec
import Derived.Test.YtdmaeipiikknnaaBlk
import Derived.Test.YtdmaeipiikknnaaNxt
import Derived.Test.YtdmaeipiikknnaaByte
import Derived.Test.YtdmaeipiikknnaaTakS
import Derived.Test.YtdmaeipiikknnaaTakT
import Derived.Test.YtdmaeipiikknnaaExD
import Derived.Test.YtdmaeipiikknnaaOpnS
import Derived.WalkKit
import Derived.ProofKit
import Derived.OpenShut
import Derived.ShutString
import Derived.ChangeOld
import Derived.Below
namespace Go.Proofs.Ytdmaeipiikknnaa.fnExactSlotFault
open Go.ChangeShapes Go.WideShapes Go.ChangeAt Go.RowKit
open Go.ChangeMaps (open_string shut_string)
set_option linter.unusedVariables false

theorem own : ownKnob Try.prog.godebug = none := by kernel_rfl
theorem laidOut : laidOutB Try.prog = true := by kernel_rfl

open Go.Proofs.Ytdmaeipiikknnaa.Num Go.Proofs.Ytdmaeipiikknnaa.Sli Go.Proofs.Ytdmaeipiikknnaa.App Go.Proofs.Ytdmaeipiikknnaa.Byt Go.Proofs.Ytdmaeipiikknnaa.CrcM Go.Proofs.Ytdmaeipiikknnaa.Div Go.Proofs.Ytdmaeipiikknnaa.Dec Go.Proofs.Ytdmaeipiikknnaa.Blk Go.Proofs.Ytdmaeipiikknnaa.Nxt Go.Proofs.Ytdmaeipiikknnaa.TakS Go.Proofs.Ytdmaeipiikknnaa.TakT Go.Proofs.Ytdmaeipiikknnaa.ExD
theorem walk (u0 v0 r0 : Int) (w : World)  :
    Calls Try.prog 4 #[.agg #[.int .i64 u0, .int .i64 v0, .int .i64 r0]] w fun e w' => e = .returned (.bool true) ∧ Below w.heap.size w w' := by
  have Hb := hid (bmore (Below.refl _ w) (.cells #[.int .i64 u0, .int .i64 v0, .int .i64 r0] 39))
  have hN := Blk.new w #[.int .i64 u0, .int .i64 v0, .int .i64 r0] 39
  have HN := hid hN
  clear hN
  go_enter Try.func4, Try.ntmps4
  go_wp2_with fail
  refine (toSlot_calls _ _ _ _).mono ?_
  rintro e w1 ⟨rfl, hb⟩
  have Hb1 := hid (bthen Hb.out hb)
  have HN1 := hid (HN.out.later hb)
  clear hb Hb HN
  go_wp2_with fail
  refine (specSF_calls _ _ _ _).mono ?_
  rintro e w2 ⟨rfl, hb⟩
  have Hb2 := hid (bthen Hb1.out hb)
  obtain ⟨c0, c1, c2, _⟩ := (HN1.out.later hb).three
  clear hb Hb1 HN1
  generalize hc : sF u0 v0 r0 = c at *
  have Hc := hid hc
  clear hc
  go_wp2_with fail
  refine (toSlot_calls _ _ _ _).mono ?_
  rintro e w3 ⟨rfl, hb⟩
  have Hb3 := hid (bthen Hb2.out hb)
  clear hb Hb2 c0 c1 c2
  go_wp2_with fail
  refine (implSF_calls _ _ _ _).mono ?_
  rintro e w4 ⟨rfl, hb⟩
  rw [Hc.out]
  have Hb4 := hid (bthen Hb3.out hb)
  clear hb Hb3
  go_wp2
  go_ret
  exact ⟨rfl, Hb4.out⟩

set_option maxRecDepth 100000 in
theorem lifted (os : Os) (started : os.Started) (H : Type) (enc : TypeId × Value → H) :
    ReturnsInHanded {} Try.checked os 4 .any (Rows.fnExactSlotFaultSpec.pre6 enc Try.prog Try.f4 Rows.fnExactSlotFaultRow.domain false) (Rows.fnExactSlotFaultSpec.post enc Try.prog Try.f4 false true false false) := by
  refine returnsInHanded_of_change (C := Try.checked) own started (by kernel_rfl) Try.func4
    (ChangeSpec.witness6 (enc := enc) (C := Try.checked) false ⟨#[], #[.agg #[.int .i64 0, .int .i64 0, .int .i64 0]], []⟩ 8 (by kernel_rfl) (by kernel_rfl) (by kernel_rfl) (by kernel_rfl)) ?_
  intro W base args ds gs before hval0 hW hcnd _
  have hval : ∀ (j : Nat) t v, Try.f4.params[j]? = some t → args[j]? = some v → Value.okWide Try.prog W .any base t v := hval0
  have hW' := hW
  obtain ⟨p, q, hA0, hV, rfl, hfz, hnd⟩ := hW
  have hA : DataW.TrodAll enc Try.prog W 0 (fun _ => true) true Try.f4.params.toList args.toList ds p := hA0
  rw [Try.params4] at hA hval
  obtain ⟨v0, vs0, d0, ds0, p0, q0, hargs, rfl, rfl, h0, rr0⟩ := trodAll_cons hA
  obtain ⟨rfl, rfl, rfl⟩ := trodAll_nil rr0
  obtain rfl : args = #[v0] := by cases args; simp_all
  obtain ⟨rfl, rfl⟩ := trodVars_none hV
  have k0 := h0
  have lt0 : ∀ x ∈ p0, x.block < W.heap.size := by obtain ⟨m, hm⟩ := k0; exact DataW.trod_lt m _ _ _ hm
  obtain ⟨cs0, rfl, hc0⟩ := okWide_struct Try.underlying39 (hval 0 39 v0 rfl rfl)
  obtain ⟨u0, v0, r0, rfl⟩ := Go.Proofs.Ytdmaeipiikknnaa.OpnS.open_slot hc0 h0
  clear hA0 hval0
  refine (walk u0 v0 r0 W ).mono fun e W' ⟨he, bel⟩ => ?_
  subst he
  exact ⟨_, rfl, _, _, _, [], _, [], hW', trodAll_mk1 (shut_bool Try.underlying4 _), (trodAll_cons_mk (Below.trod laidOut (by kernel_rfl) (of_decide_eq_true (by kernel_rfl)) k0 bel lt0) trodAll_mk0), rfl, bel.frame _, fun h => by cases h⟩

theorem over : Rows.fnExactSlotFaultRow.holds Try.pinned (OpenSpec.ofChange Rows.fnExactSlotFaultSpec) :=
  OpenClaim.holds_of_wide 4 Try.f4 rfl rfl rfl rfl rfl rfl rfl ⟨rfl, rfl, rfl, rfl, rfl⟩ rfl rfl rfl rfl rfl (by kernel_rfl) Try.func4 (by kernel_rfl)
    (of_decide_eq_true (by kernel_rfl)) (by unfold Func.isWrapper; first | (rw [if_pos (by decide +kernel)]; kernel_rfl) | (rw [if_neg (by decide +kernel)]; exact ⟨rfl, rfl⟩))
    (fun os started H enc _ => lifted os started H enc)

theorem proved : Rows.FnExactSlotFaultSaid := over
#print axioms proved
end Go.Proofs.Ytdmaeipiikknnaa.fnExactSlotFault
