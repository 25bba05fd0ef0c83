/- For every synth and every list of coefficients the program's PlayBlock answers as the model's does, code, synth and frame, leaves the lists of its synth and its coefficients as they were, and its lists are new memory that share none and that no later call turns; nothing that was there turns. The table of turns lies as the program's own text lays it. -/
import Derived.Test.YtgnbailcibhenaaDoorRows
import Derived.Test.YtgnbailcibhenaaDoorLgI
import Derived.Test.YtgnbailcibhenaaDoorExFd
import Derived.Test.YtgnbailcibhenaaDoorGh
import Derived.WalkKit
import Derived.ProofKit
import Derived.OpenShut
import Derived.ShutString
import Derived.OpenVars
import Derived.LaidMore
import Derived.Stop.Joined
import Derived.Lib.LaidTab
import Derived.SevenTiedAt
import Derived.Lay
import Derived.Test.YtgnbailcibhenaaDoorTie
import Derived.Test.YtgnbailcibhenaaDoorCards
import Derived.ChangeOld
import Derived.Below
namespace Go.Proofs.YtgnbailcibhenaaDoor.fnExactPlayBlock
open Go.ChangeShapes Go.WideShapes Go.ChangeAt Go.RowKit
open Go.ChangeMaps (open_string shut_string)
set_option linter.unusedVariables false

theorem own : ownKnob Tryd.prog.godebug = none := by kernel_rfl
theorem laidOut : laidOutB Tryd.prog = true := by kernel_rfl

open Go.Proofs.YtgnbailcibhenaaDoor.Num Go.Proofs.YtgnbailcibhenaaDoor.Sli Go.Proofs.YtgnbailcibhenaaDoor.TurI Go.Proofs.YtgnbailcibhenaaDoor.LgI Go.Proofs.YtgnbailcibhenaaDoor.ExFd
theorem walk (s0 : Int) (a0 : Option Addr) (c0 : Nat) (x0 : List Int) (b0 : Option Addr) (d0 : Nat) (y0 : List Int) (a1 : Option Addr) (c1 : Nat) (x1 : List Int) (w : World) (hT : Go.Proofs.YtgnbailcibhenaaDoor.TurI.Tab w) (j0 : Go.Proofs.YtgnbailcibhenaaDoor.Sli.Sl .i64 w (.slice a0 x0.length c0) x0) (m0 : x0.length ≤ maxLen) (l0 : Go.Proofs.YtgnbailcibhenaaDoor.Sli.Sl .i64 w (.slice b0 y0.length d0) y0) (n0 : y0.length ≤ maxLen) (j1 : Go.Proofs.YtgnbailcibhenaaDoor.Sli.Sl .i64 w (.slice a1 x1.length c1) x1) (m1 : x1.length ≤ maxLen) :
    Calls Tryd.prog 6 #[.agg #[.int .i64 s0, .slice a0 x0.length c0, .slice b0 y0.length d0], .slice a1 x1.length c1] w fun e w' => e = .returned (.bool true) ∧ Below w.heap.size w w' := by
  exact exactPlayBlock_calls s0 a0 b0 c0 d0 x0 y0 a1 c1 x1 w j0 l0 j1 m0 n0 (fun s v1 v2 v3 x1 x2 x3 W hb q1 q2 q3 _ _ _ l1 l2 l3 => implPlayBlock_calls s v1 v2 v3 x1 x2 x3 W q1 q2 q3 l1 l2 l3 (hT.later hb))

set_option maxRecDepth 100000 in
theorem lifted (os : Os) (started : os.Started) (H : Type) (enc : TypeId × Value → H) :
    ReturnsInHanded {} Tryd.checked os 6 .any (fun w args => (Rows.fnExactPlayBlockSpec.pre enc Tryd.prog Tryd.f6 [] false w args ∧ laidMetH Tryd.prog Rows.fnExactPlayBlockRow.laid w) ∧ sizedMet enc Tryd.prog Tryd.f6 (OpenSpec.ofChange Rows.fnExactPlayBlockSpec) false w args) (Rows.fnExactPlayBlockSpec.post enc Tryd.prog Tryd.f6 false true false false) := by
  refine returnsInHanded_of_change_and (C := Tryd.checked) (X := fun w _ => laidMetH Tryd.prog Rows.fnExactPlayBlockRow.laid w) (fun _ _ _ hh h => h.of_heap hh) own started (by kernel_rfl) Tryd.func6
    (ChangeSpec.witness_shaped (enc := enc) (C := Tryd.checked) (os := os) (X := fun w _ => laidMetH Tryd.prog Rows.fnExactPlayBlockRow.laid w) false (World.laidAll Tryd.prog os Rows.fnExactPlayBlockRow.laid) #[.agg #[.int .i64 0, .slice none 0 0, .slice none 0 0], .slice none 0 0] 8 (World.laidAll_os _ _ _) (World.shaped_of_ZipB (by kernel_rfl) (by kernel_rfl)) (by kernel_rfl) (by kernel_rfl) (by kernel_rfl) (by rw [MakeChecks.laidMetH_plain _ _ _ (by kernel_rfl)]; exact laidMet_laidAll _ (by kernel_rfl) (by kernel_rfl))) ?_
  intro W base args ds gs before hval0 hW _ _ hL _
  have hval : ∀ (j : Nat) t v, Tryd.f6.params[j]? = some t → args[j]? = some v → Value.okWide Tryd.prog W .any base t v := hval0
  have hW' := hW
  obtain ⟨p, q, hA0, hV, rfl, hfz, hnd⟩ := hW
  have hA : DataW.TrodAll enc Tryd.prog W 0 (fun _ => true) true Tryd.f6.params.toList args.toList ds p := hA0
  rw [Tryd.params6] at hA hval
  obtain ⟨v0, vs0, d0, ds0, p0, q0, hargs, rfl, rfl, h0, rr0⟩ := trodAll_cons hA
  obtain ⟨v1, vs1, d1, ds1, p1, q1, rfl, rfl, rfl, h1, rr1⟩ := trodAll_cons rr0
  obtain ⟨rfl, rfl, rfl⟩ := trodAll_nil rr1
  obtain rfl : args = #[v0, v1] := by cases args; simp_all
  have hV1 : DataW.TrodVars enc Tryd.prog W (fun _ => true) ["loop.example/g00657/impl.turnRows"] gs q := hV
  obtain ⟨_, _, _, _, _, _, rfl, _, _, _, _, _⟩ := trodVars_one hV1
  have k0 := h0
  have lt0 : ∀ x ∈ p0, x.block < W.heap.size := by obtain ⟨m, hm⟩ := k0; exact DataW.trod_lt m _ _ _ hm
  obtain ⟨cs0, rfl, hc0⟩ := okWide_struct Tryd.underlying66 (hval 0 66 v0 rfl rfl)
  obtain ⟨s0, a0, c0, x0, b0, d'0, y0, rfl, j0, m0, l0, n0⟩ := Go.Proofs.YtgnbailcibhenaaDoor.OpnP.open_synth hc0 h0
  have k1 := h1
  have lt1 : ∀ x ∈ p1, x.block < W.heap.size := by obtain ⟨m, hm⟩ := k1; exact DataW.trod_lt m _ _ _ hm
  obtain ⟨a1, c1, x1, rfl, j1, m1⟩ := Go.Proofs.YtgnbailcibhenaaDoor.OpnP.open_row (okWide_slice Tryd.underlying27 (hval 1 27 v1 rfl rfl)) h1
  clear hA0 hval0
  refine (walk s0 a0 c0 x0 b0 d'0 y0 a1 c1 x1 W (Go.Proofs.YtgnbailcibhenaaDoor.Lai.of_laid hL) j0 m0 l0 n0 j1 m1).mono fun e W' ⟨he, bel⟩ => ?_
  subst he
  exact ⟨_, rfl, _, _, _, [], _, q, hW', trodAll_mk1 (shut_bool Tryd.underlying4 _), (trodAll_cons_mk (Below.trod laidOut (by kernel_rfl) (of_decide_eq_true (by kernel_rfl)) k0 bel lt0) (trodAll_cons_mk (Below.trod laidOut (by kernel_rfl) (of_decide_eq_true (by kernel_rfl)) k1 bel lt1) trodAll_mk0)), Below.trodVars laidOut bel (by kernel_rfl) hV1, bel.frame _, fun h => by cases h⟩

theorem over : Rows.fnExactPlayBlockRow.holds Tryd.pinned (OpenSpec.ofChange Rows.fnExactPlayBlockSpec) :=
  OpenClaim.holds_of_wide 6 Tryd.f6 rfl rfl rfl rfl rfl rfl rfl ⟨rfl, rfl, rfl, rfl, rfl⟩ rfl rfl rfl rfl rfl (by kernel_rfl) Tryd.func6 (by kernel_rfl)
    (of_decide_eq_true (by kernel_rfl)) (by unfold Func.isWrapper; first | (rw [if_pos (by decide +kernel)]; kernel_rfl) | (rw [if_neg (by decide +kernel)]; exact ⟨rfl, rfl⟩))
    (fun os started H enc _ => lifted os started H enc)

theorem proved : Rows.FnExactPlayBlockCardSaid :=
  Claim7.holds_tied_plain_at .later [] [.data] true (true, "83b13651d57bf8b787119897c4587eaa3318c21d09694a6bfa21353c37c77c6e") false
    over (fun _ h => by cases h) (by kernel_rfl) (fun _ h => by cases h) fnExactPlayBlock_row_tie rfl ⟨rfl, rfl⟩ (by kernel_rfl) rfl
    (fun f fn hf hfn => by
      obtain rfl : f = 6 := Option.some.inj ((show Tryd.prog.funcNamed "loop.example/g00657/laws.FnExactPlayBlock" = some 6 by kernel_rfl).symm.trans hf) |>.symm
      obtain rfl : fn = Tryd.f6 := (Option.some.inj (Tryd.func6.symm.trans hfn)).symm
      exact ⟨by kernel_rfl, fun j t ht => by
        rw [Tryd.params6] at ht
        have hm : t ∈ [66, 27] := by simpa using Array.mem_of_getElem? ht
        have hall : ([66, 27].all fun u => !Tryd.prog.wantsStandIn u) = true := by kernel_rfl
        exact (show Tryd.prog.wantsStandIn t = false by simpa using List.all_eq_true.1 hall t hm)⟩)
    (by kernel_rfl)
#print axioms proved
end Go.Proofs.YtgnbailcibhenaaDoor.fnExactPlayBlock
