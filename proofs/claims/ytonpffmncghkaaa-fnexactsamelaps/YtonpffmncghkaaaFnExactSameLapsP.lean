/- For every two laps the program's SameLaps answers as the model's does and leaves the lists of both as they were; nothing that was there turns. No conditions. -/
import Derived.Test.YtonpffmncghkaaaRows
import Derived.Test.YtonpffmncghkaaaLaI
import Derived.Test.YtonpffmncghkaaaExLs
import Derived.Test.YtonpffmncghkaaaOpnP
import Derived.WalkKit
import Derived.ProofKit
import Derived.OpenShut
import Derived.ShutString
import Derived.ChangeOld
import Derived.Below
namespace Go.Proofs.Ytonpffmncghkaaa.fnExactSameLaps
open Go.ChangeShapes Go.WideShapes Go.ChangeAt Go.RowKit
open Go.ChangeMaps (open_string shut_string)
set_option linter.unusedVariables false

theorem own : ownKnob Try.prog.godebug = none := by kernel_rfl
theorem laidOut : laidOutB Try.prog = true := by kernel_rfl

open Go.Proofs.Ytonpffmncghkaaa.Num Go.Proofs.Ytonpffmncghkaaa.Sli Go.Proofs.Ytonpffmncghkaaa.LaI Go.Proofs.Ytonpffmncghkaaa.ExLs
theorem walk (s0 : Int) (a0 : Option Addr) (c0 : Nat) (x0 : List Int) (b0 : Option Addr) (d0 : Nat) (y0 : List Int) (s1 : Int) (a1 : Option Addr) (c1 : Nat) (x1 : List Int) (b1 : Option Addr) (d1 : Nat) (y1 : List Int) (w : World) (j0 : Go.Proofs.Ytonpffmncghkaaa.Sli.Sl .i64 w (.slice a0 x0.length c0) x0) (m0 : x0.length ≤ maxLen) (l0 : Go.Proofs.Ytonpffmncghkaaa.Sli.Sl .i64 w (.slice b0 y0.length d0) y0) (n0 : y0.length ≤ maxLen) (j1 : Go.Proofs.Ytonpffmncghkaaa.Sli.Sl .i64 w (.slice a1 x1.length c1) x1) (m1 : x1.length ≤ maxLen) (l1 : Go.Proofs.Ytonpffmncghkaaa.Sli.Sl .i64 w (.slice b1 y1.length d1) y1) (n1 : y1.length ≤ maxLen) :
    Calls Try.prog 7 #[.agg #[.int .i64 s0, .slice a0 x0.length c0, .slice b0 y0.length d0], .agg #[.int .i64 s1, .slice a1 x1.length c1, .slice b1 y1.length d1]] w fun e w' => e = .returned (.bool true) ∧ Below w.heap.size w w' := by
  exact exactSameLaps_calls s0 a0 b0 c0 d0 x0 y0 s1 a1 b1 c1 d1 x1 y1 w j0 l0 m0 n0 j1 l1 m1 n1 (fun s r v1 v2 u1 u2 x1 x2 y1 y2 W _ q1 q2 q3 q4 e1 e2 e3 e4 => implSameLaps_calls s r v1 v2 u1 u2 x1 x2 y1 y2 W q1 q2 q3 q4 e1 e2 e3 e4)

set_option maxRecDepth 100000 in
theorem lifted (os : Os) (started : os.Started) (H : Type) (enc : TypeId × Value → H) :
    ReturnsInHanded {} Try.checked os 7 .any (Rows.fnExactSameLapsSpec.pre6 enc Try.prog Try.f7 Rows.fnExactSameLapsRow.domain false) (Rows.fnExactSameLapsSpec.post enc Try.prog Try.f7 false true false false) := by
  refine returnsInHanded_of_change (C := Try.checked) own started (by kernel_rfl) Try.func7
    (ChangeSpec.witness6 (enc := enc) (C := Try.checked) false ⟨#[], #[.agg #[.int .i64 0, .slice none 0 0, .slice none 0 0], .agg #[.int .i64 0, .slice none 0 0, .slice none 0 0]], []⟩ 8 (by kernel_rfl) (by kernel_rfl) (by kernel_rfl) (by kernel_rfl)) ?_
  intro W base args ds gs before hval0 hW hcnd _
  have hval : ∀ (j : Nat) t v, Try.f7.params[j]? = some t → args[j]? = some v → Value.okWide Try.prog W .any base t v := hval0
  have hW' := hW
  obtain ⟨p, q, hA0, hV, rfl, hfz, hnd⟩ := hW
  have hA : DataW.TrodAll enc Try.prog W 0 (fun _ => true) true Try.f7.params.toList args.toList ds p := hA0
  rw [Try.params7] at hA hval
  obtain ⟨v0, vs0, d0, ds0, p0, q0, hargs, rfl, rfl, h0, rr0⟩ := trodAll_cons hA
  obtain ⟨v1, vs1, d1, ds1, p1, q1, rfl, rfl, rfl, h1, rr1⟩ := trodAll_cons rr0
  obtain ⟨rfl, rfl, rfl⟩ := trodAll_nil rr1
  obtain rfl : args = #[v0, v1] := by cases args; simp_all
  obtain ⟨rfl, rfl⟩ := trodVars_none hV
  have k0 := h0
  have lt0 : ∀ x ∈ p0, x.block < W.heap.size := by obtain ⟨m, hm⟩ := k0; exact DataW.trod_lt m _ _ _ hm
  obtain ⟨cs0, rfl, hc0⟩ := okWide_struct Try.underlying24 (hval 0 24 v0 rfl rfl)
  obtain ⟨s0, a0, c0, x0, b0, d'0, y0, rfl, j0, m0, l0, n0⟩ := Go.Proofs.Ytonpffmncghkaaa.OpnP.open_lap hc0 h0
  have k1 := h1
  have lt1 : ∀ x ∈ p1, x.block < W.heap.size := by obtain ⟨m, hm⟩ := k1; exact DataW.trod_lt m _ _ _ hm
  obtain ⟨cs1, rfl, hc1⟩ := okWide_struct Try.underlying24 (hval 1 24 v1 rfl rfl)
  obtain ⟨s1, a1, c1, x1, b1, d'1, y1, rfl, j1, m1, l1, n1⟩ := Go.Proofs.Ytonpffmncghkaaa.OpnP.open_lap hc1 h1
  clear hA0 hval0
  refine (walk s0 a0 c0 x0 b0 d'0 y0 s1 a1 c1 x1 b1 d'1 y1 W j0 m0 l0 n0 j1 m1 l1 n1).mono fun e W' ⟨he, bel⟩ => ?_
  subst he
  exact ⟨_, rfl, _, _, _, [], _, [], hW', trodAll_mk1 (shut_bool Try.underlying4 _), (trodAll_cons_mk (Below.trod laidOut (by kernel_rfl) (of_decide_eq_true (by kernel_rfl)) k0 bel lt0) (trodAll_cons_mk (Below.trod laidOut (by kernel_rfl) (of_decide_eq_true (by kernel_rfl)) k1 bel lt1) trodAll_mk0)), rfl, bel.frame _, fun h => by cases h⟩

theorem over : Rows.fnExactSameLapsRow.holds Try.pinned (OpenSpec.ofChange Rows.fnExactSameLapsSpec) :=
  OpenClaim.holds_of_wide 7 Try.f7 rfl rfl rfl rfl rfl rfl rfl ⟨rfl, rfl, rfl, rfl, rfl⟩ rfl rfl rfl rfl rfl (by kernel_rfl) Try.func7 (by kernel_rfl)
    (of_decide_eq_true (by kernel_rfl)) (by unfold Func.isWrapper; first | (rw [if_pos (by decide +kernel)]; kernel_rfl) | (rw [if_neg (by decide +kernel)]; exact ⟨rfl, rfl⟩))
    (fun os started H enc _ => lifted os started H enc)

theorem proved : Rows.FnExactSameLapsSaid := over
#print axioms proved
end Go.Proofs.Ytonpffmncghkaaa.fnExactSameLaps
