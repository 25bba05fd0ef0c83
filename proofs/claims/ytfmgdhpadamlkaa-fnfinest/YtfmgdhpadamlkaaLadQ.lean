/- The walk through FnQuants. Condition: the program's contracts of Quantize, StepOf, HalfStep, Restore, wherever nothing that was there before has turned. -/
import Derived.Test.YtfmgdhpadamlkaaLadD
import Derived.Test.YtfmgdhpadamlkaaLadS
import Derived.Test.YtfmgdhpadamlkaaGa
import Derived.Deep.RegionHeld3
import Derived.Deep.DrawnRows
import Derived.Deep.DeepCutAuto
namespace Go.Proofs.Ytfmgdhpadamlkaa.LadQ
open Go.ChangeShapes Go.WideShapes Go.ChangeAt Go.RowKit Go.Proofs.Ytfmgdhpadamlkaa.Num Go.Proofs.Ytfmgdhpadamlkaa.Sli Go.Proofs.Ytfmgdhpadamlkaa.Div Go.Proofs.Ytfmgdhpadamlkaa.Blk Go.Proofs.Ytfmgdhpadamlkaa.Samp Go.Proofs.Ytfmgdhpadamlkaa.HalM Go.Proofs.Ytfmgdhpadamlkaa.LadM Go.Proofs.Ytfmgdhpadamlkaa.LadS Go.Proofs.Ytfmgdhpadamlkaa.LadD

theorem field0 (c a : Value) (w : World) : (Instr.field 28 (.agg #[c, a]) 0).run Try.prog w = .ok c w := by kernel_rfl
theorem field1 (c a : Value) (w : World) : (Instr.field 28 (.agg #[c, a]) 1).run Try.prog w = .ok a w := by kernel_rfl
attribute [local go_sem] field0 field1
theorem lwAbs_calls (v : Int) (w : World) (h1 : -4611686018427387904 ≤ v) (h2 : v ≤ 4611686018427387904) :
    Calls Try.prog 8 #[.int .i64 v] w fun e w' => e = .returned (.int .i64 (absV v)) ∧ w' = w := by
  by_cases hm : v < 0
  · have H : Hid (absV v = -v) := if_pos hm
    go_enter Try.func8, Try.ntmps8
    go_wp2
    go_ret
    exact ⟨ret_int H.out.symm, rfl⟩
  · have H : Hid (absV v = v) := if_neg hm
    go_enter Try.func8, Try.ntmps8
    go_wp2
    go_ret
    exact ⟨ret_int H.out.symm, rfl⟩
/-- Three answers. -/
structure Q3 (w : World) (Q S H : Nat) (qc qv sc sv hv : Int) (W : World) : Prop where
  q : Blk W Q #[.int .i64 qc, .int .i64 qv] 28
  s : Blk W S #[.int .i64 sc, .int .i64 sv] 28
  h : Blk W H #[.int .i64 sc, .int .i64 hv] 28
  b : Below w.heap.size w W
theorem Q3.later {w W W' : World} {Q S H : Nat} {qc qv sc sv hv : Int} (k : Q3 w Q S H qc qv sc sv hv W) (hb : Below W.heap.size W W') : Q3 w Q S H qc qv sc sv hv W' := ⟨k.q.later hb, k.s.later hb, k.h.later hb, bthen k.b hb⟩
/-- And one more. -/
structure Q4 (w : World) (Q S H R : Nat) (qc qv sc sv hv rc rv : Int) (W : World) : Prop where
  k : Q3 w Q S H qc qv sc sv hv W
  r : Blk W R #[.int .i64 rc, .int .i64 rv] 28
theorem Q4.later {w W W' : World} {Q S H R : Nat} {qc qv sc sv hv rc rv : Int} (k : Q4 w Q S H R qc qv sc sv hv rc rv W) (hb : Below W.heap.size W W') : Q4 w Q S H R qc qv sc sv hv rc rv W' := ⟨k.k.later hb, k.r.later hb⟩
/-- What is told by a rung and restored. -/
theorem quant_back {c r : Int} (hq : qzO c r = true) (hr : rsC (qzV c r) r = 0) : absV (rsV (qzV c r) r - c) ≤ hsV r ∧ qzV (rsV (qzV c r) r) r = qzV c r ∧ (-16777216 ≤ rsV (qzV c r) r ∧ rsV (qzV c r) r ≤ 16777216) ∧ (-16777216 ≤ c ∧ c ≤ 16777216) := by
  have h1 : rgB r = true ∧ coB c = true := by unfold qzO at hq; simpa using hq
  have ho : rsO (qzV c r) r = true := by
    cases h : rsO (qzV c r) r
    · unfold rsC at hr; rw [if_neg (by rw [h]; decide)] at hr; omega
    · rfl
  have hv : rsV (qzV c r) r = qzV c r * stV r := if_pos ho
  have hz : qzV c r = nearV c (stV r) := if_pos hq
  have hs := st_bd h1.1
  have hh : hsV r = stV r / 2 := if_pos h1.1
  have h2 : coB (qzV c r * stV r) = true := by unfold rsO at ho; simp at ho; exact ho.2.2
  have h3 : qzO (qzV c r * stV r) r = true := by unfold qzO; rw [h1.1, h2]; rfl
  have h4 : qzV (qzV c r * stV r) r = nearV (qzV c r * stV r) (stV r) := if_pos h3
  rw [hv, hh]
  refine ⟨?_, ?_, of_inB h2, of_inB h1.2⟩
  · rw [hz]; exact near_off (by omega)
  · rw [h4, near_mul (by omega)]
end Go.Proofs.Ytfmgdhpadamlkaa.LadQ
