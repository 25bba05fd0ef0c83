/- For every list of bytes the program's CrcOf answers as the model's does, code and value, leaves its list as it was, and nothing that was there turns. No conditions. -/
import Derived.Test.YtlljdehjlbmgcaaRows
import Derived.Test.YtlljdehjlbmgcaaNum
import Derived.Test.YtlljdehjlbmgcaaSli
import Derived.Test.YtlljdehjlbmgcaaApp
import Derived.Test.YtlljdehjlbmgcaaByt
import Derived.Test.YtlljdehjlbmgcaaCrcM
import Derived.Test.YtlljdehjlbmgcaaCrc
import Derived.Test.YtlljdehjlbmgcaaDiv
import Derived.WalkKit
import Derived.ProofKit
import Derived.OpenShut
import Derived.ShutString
import Derived.ChangeOld
import Derived.Below
namespace Go.Proofs.Ytlljdehjlbmgcaa.fnExactCrcOf
open Go.ChangeShapes Go.WideShapes Go.ChangeAt Go.RowKit
open Go.ChangeMaps (open_string shut_string)
set_option linter.unusedVariables false

theorem own : ownKnob Try.prog.godebug = none := by kernel_rfl
theorem laidOut : laidOutB Try.prog = true := by kernel_rfl

def IsRow (k : IntKind) (w : World) (a : Option Addr) (len cap : Nat) (zs : List Int) : Prop :=
  (a = none ∧ len = 0 ∧ cap = 0 ∧ zs = []) ∨
  ∃ x, a = some x ∧ len ≤ cap ∧ cap ≤ maxLen ∧ zs.length = cap ∧ (∀ i, i < zs.length → w.cell? (x.add i) = some (.int k (zs.getD i 0))) ∧ ∀ n ∈ zs, (Lit.int k n).wf = true

open Go.Proofs.Ytlljdehjlbmgcaa.Num Go.Proofs.Ytlljdehjlbmgcaa.Sli Go.Proofs.Ytlljdehjlbmgcaa.App Go.Proofs.Ytlljdehjlbmgcaa.Byt Go.Proofs.Ytlljdehjlbmgcaa.CrcM Go.Proofs.Ytlljdehjlbmgcaa.Crc Go.Proofs.Ytlljdehjlbmgcaa.Div
theorem walk (a0 : Option Addr) (len0 cap0 : Nat) (z0 : List Int) (w : World) (w0 : IsRow .u8 w a0 len0 cap0 z0) :
    Calls Try.prog 4 #[.slice a0 len0 cap0] w fun e w' => e = .returned (.bool true) ∧ Below w.heap.size w w' := by
  obtain ⟨hsl, hlen⟩ := sl_of_row w0
  have hwf := wf_of_row w0
  have hbd : BytesL (z0.take len0) := fun x hx => bounds_u8 (hwf x hx)
  clear w0 hwf
  generalize z0.take len0 = xs at *
  subst hlen
  by_cases hbig : 1048576 < xs.length
  · have hb' : (1048576 : Int) < xs.length := by omega
    go_enter Try.func4, Try.ntmps4
    go_wp2
    go_ret
    exact ⟨rfl, Below.refl _ _⟩
  · have hb' : (xs.length : Int) ≤ 1048576 := by omega
    go_enter Try.func4, Try.ntmps4
    go_wp2_with fail
    refine (toByteS_calls _ xs _ hsl (by omega)).mono ?_
    rintro e w1 ⟨g1, rfl, ho1, hb1⟩
    go_wp2_with fail
    refine (specCrcOf_calls _ xs _ ho1.sl hbd).mono ?_
    rintro e w2 ⟨rfl, hb2⟩
    have hbb := bthen hb1 hb2
    go_wp2_with fail
    refine (toByteS_calls _ xs _ (hsl.later (bmore hbb _)) (by omega)).mono ?_
    rintro e w3 ⟨g3, rfl, ho3, hb3⟩
    go_wp2_with fail
    refine (implCrcOf_calls _ xs _ ho3.sl hbd).mono ?_
    rintro e w4 ⟨rfl, hb4⟩
    have hs4 := ho3.sl.later hb4
    have hb34 := bthen hb3 hb4
    obtain ⟨hc, hf⟩ := bcell hb34
    have hz : w2.heap.size < w4.heap.size := by have := hb34.size; simp at this; omega
    go_wp2_with fail
    refine (eqIntResult_calls _ _ _).mono ?_
    rintro e w5 ⟨rfl, hb5⟩
    clear hc hf
    have hb45 := bthen (bmore (Below.refl _ w4) _) hb5
    have hall := bthen (bmore (bthen (bmore hbb _) hb34) _) hb5
    go_wp2_with fail
    refine (toByteS_calls _ xs _ (hsl.later hall) (by omega)).mono ?_
    rintro e w6 ⟨g6, rfl, ho6, hb6⟩
    go_wp2_with fail
    refine (eqByteS_calls _ _ xs _ (hs4.later (bthen hb45 hb6)) ho6.sl (by omega)).mono ?_
    rintro e w7 ⟨rfl, hb7⟩
    go_wp2
    go_ret
    exact ⟨rfl, bthen (bthen hall hb6) hb7⟩

set_option maxRecDepth 100000 in
theorem lifted (os : Os) (started : os.Started) (H : Type) (enc : TypeId × Value → H) :
    ReturnsInHanded {} Try.checked os 4 .any (Rows.fnExactCrcOfSpec.pre6 enc Try.prog Try.f4 Rows.fnExactCrcOfRow.domain false) (Rows.fnExactCrcOfSpec.post enc Try.prog Try.f4 false true false false) := by
  refine returnsInHanded_of_change (C := Try.checked) own started (by kernel_rfl) Try.func4
    (ChangeSpec.witness6 (enc := enc) (C := Try.checked) false ⟨#[], #[.slice none 0 0], []⟩ 8 (by kernel_rfl) (by kernel_rfl) (by kernel_rfl) (by kernel_rfl)) ?_
  intro W base args ds gs before hval0 hW hcnd _
  have hval : ∀ (j : Nat) t v, Try.f4.params[j]? = some t → args[j]? = some v → Value.okWide Try.prog W .any base t v := hval0
  have hW' := hW
  obtain ⟨p, q, hA0, hV, rfl, hfz, hnd⟩ := hW
  have hA : DataW.TrodAll enc Try.prog W 0 (fun _ => true) true Try.f4.params.toList args.toList ds p := hA0
  rw [Try.params4] at hA hval
  obtain ⟨v0, vs0, d0, ds0, p0, q0, hargs, rfl, rfl, h0, r0⟩ := trodAll_cons hA
  obtain ⟨rfl, rfl, rfl⟩ := trodAll_nil r0
  obtain rfl : args = #[v0] := by cases args; simp_all
  obtain ⟨rfl, rfl⟩ := trodVars_none hV
  obtain ⟨a0, len0, cap0, rfl⟩ := okWide_slice Try.underlying22 (hval 0 22 v0 rfl rfl)
  have k0 := h0
  have lt0 : ∀ x ∈ p0, x.block < W.heap.size := by obtain ⟨m, hm⟩ := k0; exact DataW.trod_lt m _ _ _ hm
  obtain ⟨z0, w0⟩ : ∃ zs, IsRow .u8 W a0 len0 cap0 zs := by
    obtain ⟨fuel, hf⟩ := h0
    rcases open_ints Try.underlying22 Try.underlying5 (by kernel_rfl) hf with ⟨hcs, _⟩ | ⟨x, l, c, zs, hcs, _, hl, hm, hz, _, hcell, hwz⟩
    · simp [Value.cells] at hcs
      obtain ⟨rfl, rfl, rfl⟩ := hcs
      exact ⟨[], .inl ⟨rfl, rfl, rfl, rfl⟩⟩
    · simp [Value.cells] at hcs
      obtain ⟨rfl, rfl, rfl⟩ := hcs
      exact ⟨zs, .inr ⟨_, rfl, hl, hm, by simpa using hz, hcell, hwz⟩⟩
  clear hA0 hval0
  refine (walk a0 len0 cap0 z0 W w0).mono fun e W' ⟨he, bel⟩ => ?_
  subst he
  exact ⟨_, rfl, _, _, _, [], _, [], hW', trodAll_mk1 (shut_bool Try.underlying4 _), (trodAll_cons_mk (Below.trod laidOut (by kernel_rfl) (of_decide_eq_true (by kernel_rfl)) k0 bel lt0) trodAll_mk0), rfl, bel.frame _, fun h => by cases h⟩

theorem over : Rows.fnExactCrcOfRow.holds Try.pinned (OpenSpec.ofChange Rows.fnExactCrcOfSpec) :=
  OpenClaim.holds_of_wide 4 Try.f4 rfl rfl rfl rfl rfl rfl rfl ⟨rfl, rfl, rfl, rfl, rfl⟩ rfl rfl rfl rfl rfl (by kernel_rfl) Try.func4 (by kernel_rfl)
    (of_decide_eq_true (by kernel_rfl)) (by unfold Func.isWrapper; first | (rw [if_pos (by decide +kernel)]; kernel_rfl) | (rw [if_neg (by decide +kernel)]; exact ⟨rfl, rfl⟩))
    (fun os started H enc _ => lifted os started H enc)

theorem proved : Rows.FnExactCrcOfSaid := over
#print axioms proved
end Go.Proofs.Ytlljdehjlbmgcaa.fnExactCrcOf
