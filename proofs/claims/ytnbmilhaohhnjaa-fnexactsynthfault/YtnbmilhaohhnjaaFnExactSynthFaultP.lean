/- For every synth the program's SynthFault answers as the model's does and leaves the lists of its synth as they were; nothing that was there turns. No conditions. -/
import Derived.Test.YtnbmilhaohhnjaaRows
import Derived.Test.YtnbmilhaohhnjaaLaI
import Derived.Test.YtnbmilhaohhnjaaGf
import Derived.Test.YtnbmilhaohhnjaaGh
import Derived.WalkKit
import Derived.ProofKit
import Derived.OpenShut
import Derived.ShutString
import Derived.ChangeOld
import Derived.Below
namespace Go.Proofs.Ytnbmilhaohhnjaa.fnExactSynthFault
open Go.ChangeShapes Go.WideShapes Go.ChangeAt Go.RowKit
open Go.ChangeMaps (open_string shut_string)
set_option linter.unusedVariables false

theorem own : ownKnob Try.prog.godebug = none := by kernel_rfl
theorem laidOut : laidOutB Try.prog = true := by kernel_rfl

open Go.Proofs.Ytnbmilhaohhnjaa.Num Go.Proofs.Ytnbmilhaohhnjaa.Sli Go.Proofs.Ytnbmilhaohhnjaa.LaI Go.Proofs.Ytnbmilhaohhnjaa.ExLf
theorem walk (s0 : Int) (a0 : Option Addr) (c0 : Nat) (x0 : List Int) (b0 : Option Addr) (d0 : Nat) (y0 : List Int) (w : World) (j0 : Go.Proofs.Ytnbmilhaohhnjaa.Sli.Sl .i64 w (.slice a0 x0.length c0) x0) (m0 : x0.length ≤ maxLen) (l0 : Go.Proofs.Ytnbmilhaohhnjaa.Sli.Sl .i64 w (.slice b0 y0.length d0) y0) (n0 : y0.length ≤ maxLen) :
    Calls Try.prog 4 #[.agg #[.int .i64 s0, .slice a0 x0.length c0, .slice b0 y0.length d0]] w fun e w' => e = .returned (.bool true) ∧ Below w.heap.size w w' := by
  exact exactSynthFault_calls s0 a0 b0 c0 d0 x0 y0 w j0 l0 m0 n0 (fun s v1 v2 x1 x2 W _ q1 q2 l1 l2 => implSynthFault_calls s v1 v2 x1 x2 W q1 q2 l1 l2)

set_option maxRecDepth 100000 in
theorem lifted (os : Os) (started : os.Started) (H : Type) (enc : TypeId × Value → H) :
    ReturnsInHanded {} Try.checked os 4 .any (Rows.fnExactSynthFaultSpec.pre6 enc Try.prog Try.f4 Rows.fnExactSynthFaultRow.domain false) (Rows.fnExactSynthFaultSpec.post enc Try.prog Try.f4 false true false false) := by
  refine returnsInHanded_of_change (C := Try.checked) own started (by kernel_rfl) Try.func4
    (ChangeSpec.witness6 (enc := enc) (C := Try.checked) false ⟨#[], #[.agg #[.int .i64 0, .slice none 0 0, .slice none 0 0]], []⟩ 8 (by kernel_rfl) (by kernel_rfl) (by kernel_rfl) (by kernel_rfl)) ?_
  intro W base args ds gs before hval0 hW hcnd _
  have hval : ∀ (j : Nat) t v, Try.f4.params[j]? = some t → args[j]? = some v → Value.okWide Try.prog W .any base t v := hval0
  have hW' := hW
  obtain ⟨p, q, hA0, hV, rfl, hfz, hnd⟩ := hW
  have hA : DataW.TrodAll enc Try.prog W 0 (fun _ => true) true Try.f4.params.toList args.toList ds p := hA0
  rw [Try.params4] at hA hval
  obtain ⟨v0, vs0, d0, ds0, p0, q0, hargs, rfl, rfl, h0, rr0⟩ := trodAll_cons hA
  obtain ⟨rfl, rfl, rfl⟩ := trodAll_nil rr0
  obtain rfl : args = #[v0] := by cases args; simp_all
  obtain ⟨rfl, rfl⟩ := trodVars_none hV
  have k0 := h0
  have lt0 : ∀ x ∈ p0, x.block < W.heap.size := by obtain ⟨m, hm⟩ := k0; exact DataW.trod_lt m _ _ _ hm
  obtain ⟨cs0, rfl, hc0⟩ := okWide_struct Try.underlying32 (hval 0 32 v0 rfl rfl)
  obtain ⟨s0, a0, c0, x0, b0, d'0, y0, rfl, j0, m0, l0, n0⟩ := Go.Proofs.Ytnbmilhaohhnjaa.OpnP.open_synth hc0 h0
  clear hA0 hval0
  refine (walk s0 a0 c0 x0 b0 d'0 y0 W j0 m0 l0 n0).mono fun e W' ⟨he, bel⟩ => ?_
  subst he
  exact ⟨_, rfl, _, _, _, [], _, [], hW', trodAll_mk1 (shut_bool Try.underlying4 _), (trodAll_cons_mk (Below.trod laidOut (by kernel_rfl) (of_decide_eq_true (by kernel_rfl)) k0 bel lt0) trodAll_mk0), rfl, bel.frame _, fun h => by cases h⟩

theorem over : Rows.fnExactSynthFaultRow.holds Try.pinned (OpenSpec.ofChange Rows.fnExactSynthFaultSpec) :=
  OpenClaim.holds_of_wide 4 Try.f4 rfl rfl rfl rfl rfl rfl rfl ⟨rfl, rfl, rfl, rfl, rfl⟩ rfl rfl rfl rfl rfl (by kernel_rfl) Try.func4 (by kernel_rfl)
    (of_decide_eq_true (by kernel_rfl)) (by unfold Func.isWrapper; first | (rw [if_pos (by decide +kernel)]; kernel_rfl) | (rw [if_neg (by decide +kernel)]; exact ⟨rfl, rfl⟩))
    (fun os started H enc _ => lifted os started H enc)

theorem proved : Rows.FnExactSynthFaultSaid := over
#print axioms proved
end Go.Proofs.Ytnbmilhaohhnjaa.fnExactSynthFault
