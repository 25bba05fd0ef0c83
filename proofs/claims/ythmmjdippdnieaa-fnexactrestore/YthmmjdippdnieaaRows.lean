/-
  No cell of these rows narrows 'for every input' (looked for: loops, veiled, ifaces, maps, wideKeys, modest, calm, conditions, laid).
  DERIVED. THE GIVEN ROWS OF THIS SEAT. 6 by the template 'for every input the law returns true; each argument reads behind the call as it read before'; 0 by the template 'total and deterministic' (their statements: YthmmjdippdnieaaTotals.lean).
  GIVEN WITH THE SEED: the statements are not yours to turn. If you find one false, say at which input.
  Laid BY PROGRAM, IN A SANDBOX (cutbox-rows.mjs): the forced cells as the released guide's own fill.sh prints them over the translation d12c6fbe8bf6241d… (all of the seat's roots in one cut). By AI agents, Wed Nov 11 2026. No macro, syntax, notation, axiom, sorry.
-/
import Derived.Test.YthmmjdippdnieaaChecked
import GoSem.Claim
import GoSem.ClaimJoined
import GoSem.ClaimMapViews
import Derived.JoinedTies
import Derived.KernelRfl
namespace Go.Proofs.Ythmmjdippdnieaa
/- THE CELL 'sum', in the pinned program and in every row, IS THE sha256 OF THE DUMP (.gsa) THAT YthmmjdippdnieaaProg.lean LOADS. Nothing in Lean hashes anything: it is a label: what it is worth is what the hold of that sum in a sandbox is worth. -/
noncomputable def Try.pinned : Pinned := { name := "ythmmjdippdnieaa", sum := "d12c6fbe8bf6241db8cb81aec0c9dcc2d6deb1260d7436997eee2d042438e6a7", checked := Try.checked }
namespace Rows
def none {H : Type} : Left H := { results := [], args := [] }

/-- 'laws.FnQuants': WHATEVER THE INPUT: true; the input reads as it did. -/
def fnQuantsSpec : ChangeSpec := { name := "fnQuants", fn := fun _ => fun
  | [d] => { results := [.lit (.bool true)], args := [d] }
  | _ => none }
def fnQuantsRow : OpenClaim := { program := "ythmmjdippdnieaa", sum := "d12c6fbe8bf6241db8cb81aec0c9dcc2d6deb1260d7436997eee2d042438e6a7", func := "loop.example/g00657/laws.FnQuants", spec := "fnQuants", recurses := true, apart := false }
def FnQuantsSaid : Prop := fnQuantsRow.holds Try.pinned (OpenSpec.ofChange fnQuantsSpec)

/-- ITS FALSE NEIGHBOUR: 'it returns false'. Refute it at one input. -/
def fnQuantsWrong : ChangeSpec := { name := "fnQuants", fn := fun _ => fun
  | [d] => { results := [.lit (.bool false)], args := [d] }
  | _ => none }
def FnQuantsWrongFalsely : Prop := fnQuantsRow.holds Try.pinned (OpenSpec.ofChange fnQuantsWrong)

/-- 'laws.FnExactStepOf': WHATEVER THE INPUT: true; the input reads as it did. -/
def fnExactStepOfSpec : ChangeSpec := { name := "fnExactStepOf", fn := fun _ => fun
  | [d] => { results := [.lit (.bool true)], args := [d] }
  | _ => none }
def fnExactStepOfRow : OpenClaim := { program := "ythmmjdippdnieaa", sum := "d12c6fbe8bf6241db8cb81aec0c9dcc2d6deb1260d7436997eee2d042438e6a7", func := "loop.example/g00657/laws.FnExactStepOf", spec := "fnExactStepOf", apart := false }
def FnExactStepOfSaid : Prop := fnExactStepOfRow.holds Try.pinned (OpenSpec.ofChange fnExactStepOfSpec)

/-- ITS FALSE NEIGHBOUR: 'it returns false'. Refute it at one input. -/
def fnExactStepOfWrong : ChangeSpec := { name := "fnExactStepOf", fn := fun _ => fun
  | [d] => { results := [.lit (.bool false)], args := [d] }
  | _ => none }
def FnExactStepOfWrongFalsely : Prop := fnExactStepOfRow.holds Try.pinned (OpenSpec.ofChange fnExactStepOfWrong)

/-- 'laws.FnExactHalfStep': WHATEVER THE INPUT: true; the input reads as it did. -/
def fnExactHalfStepSpec : ChangeSpec := { name := "fnExactHalfStep", fn := fun _ => fun
  | [d] => { results := [.lit (.bool true)], args := [d] }
  | _ => none }
def fnExactHalfStepRow : OpenClaim := { program := "ythmmjdippdnieaa", sum := "d12c6fbe8bf6241db8cb81aec0c9dcc2d6deb1260d7436997eee2d042438e6a7", func := "loop.example/g00657/laws.FnExactHalfStep", spec := "fnExactHalfStep", apart := false }
def FnExactHalfStepSaid : Prop := fnExactHalfStepRow.holds Try.pinned (OpenSpec.ofChange fnExactHalfStepSpec)

/-- ITS FALSE NEIGHBOUR: 'it returns false'. Refute it at one input. -/
def fnExactHalfStepWrong : ChangeSpec := { name := "fnExactHalfStep", fn := fun _ => fun
  | [d] => { results := [.lit (.bool false)], args := [d] }
  | _ => none }
def FnExactHalfStepWrongFalsely : Prop := fnExactHalfStepRow.holds Try.pinned (OpenSpec.ofChange fnExactHalfStepWrong)

/-- 'laws.FnExactQuantize': WHATEVER THE INPUT: true; the input reads as it did. -/
def fnExactQuantizeSpec : ChangeSpec := { name := "fnExactQuantize", fn := fun _ => fun
  | [d1, d2] => { results := [.lit (.bool true)], args := [d1, d2] }
  | _ => none }
def fnExactQuantizeRow : OpenClaim := { program := "ythmmjdippdnieaa", sum := "d12c6fbe8bf6241db8cb81aec0c9dcc2d6deb1260d7436997eee2d042438e6a7", func := "loop.example/g00657/laws.FnExactQuantize", spec := "fnExactQuantize", recurses := true, apart := false }
def FnExactQuantizeSaid : Prop := fnExactQuantizeRow.holds Try.pinned (OpenSpec.ofChange fnExactQuantizeSpec)

/-- ITS FALSE NEIGHBOUR: 'it returns false'. Refute it at one input. -/
def fnExactQuantizeWrong : ChangeSpec := { name := "fnExactQuantize", fn := fun _ => fun
  | [d1, d2] => { results := [.lit (.bool false)], args := [d1, d2] }
  | _ => none }
def FnExactQuantizeWrongFalsely : Prop := fnExactQuantizeRow.holds Try.pinned (OpenSpec.ofChange fnExactQuantizeWrong)

/-- 'laws.FnExactRestore': WHATEVER THE INPUT: true; the input reads as it did. -/
def fnExactRestoreSpec : ChangeSpec := { name := "fnExactRestore", fn := fun _ => fun
  | [d1, d2] => { results := [.lit (.bool true)], args := [d1, d2] }
  | _ => none }
def fnExactRestoreRow : OpenClaim := { program := "ythmmjdippdnieaa", sum := "d12c6fbe8bf6241db8cb81aec0c9dcc2d6deb1260d7436997eee2d042438e6a7", func := "loop.example/g00657/laws.FnExactRestore", spec := "fnExactRestore", apart := false }
def FnExactRestoreSaid : Prop := fnExactRestoreRow.holds Try.pinned (OpenSpec.ofChange fnExactRestoreSpec)

/-- ITS FALSE NEIGHBOUR: 'it returns false'. Refute it at one input. -/
def fnExactRestoreWrong : ChangeSpec := { name := "fnExactRestore", fn := fun _ => fun
  | [d1, d2] => { results := [.lit (.bool false)], args := [d1, d2] }
  | _ => none }
def FnExactRestoreWrongFalsely : Prop := fnExactRestoreRow.holds Try.pinned (OpenSpec.ofChange fnExactRestoreWrong)

/-- 'laws.FnExactFinestRung': WHATEVER THE INPUT: true; the input reads as it did. -/
def fnExactFinestRungSpec : ChangeSpec := { name := "fnExactFinestRung", fn := fun _ => fun
  | [d1, d2] => { results := [.lit (.bool true)], args := [d1, d2] }
  | _ => none }
def fnExactFinestRungRow : OpenClaim := { program := "ythmmjdippdnieaa", sum := "d12c6fbe8bf6241db8cb81aec0c9dcc2d6deb1260d7436997eee2d042438e6a7", func := "loop.example/g00657/laws.FnExactFinestRung", spec := "fnExactFinestRung", recurses := true, apart := false }
def FnExactFinestRungSaid : Prop := fnExactFinestRungRow.holds Try.pinned (OpenSpec.ofChange fnExactFinestRungSpec)

/-- ITS FALSE NEIGHBOUR: 'it returns false'. Refute it at one input. -/
def fnExactFinestRungWrong : ChangeSpec := { name := "fnExactFinestRung", fn := fun _ => fun
  | [d1, d2] => { results := [.lit (.bool false)], args := [d1, d2] }
  | _ => none }
def FnExactFinestRungWrongFalsely : Prop := fnExactFinestRungRow.holds Try.pinned (OpenSpec.ofChange fnExactFinestRungWrong)

/- THE SECOND FORM. 'bulk': how many values and letters a reading holds, each counted each time it is reached (what is shared counts as often as it is met; a slice's spare places count too). A statement '..UptoSaid' is the law's where the arguments, and the package variables that the reading takes, are together of bulk at most 1048576: NARROWER than '..Said'. Prove '..Said' where nothing that the law and all that it calls make is longer than what came in: it says more and counts as full. Else prove '..UptoSaid'. A law counts once. -/
mutual
def uptoBulk {H : Type} : DataW H → Nat
  | .lit (.string bytes) => bytes.length + 1
  | .lit _ => 1
  | .nil => 1
  | .ptr d => uptoBulk d + 1
  | .slice elems spare => uptoBulkAll elems + uptoBulkAll spare + 1
  | .agg parts => uptoBulkAll parts + 1
  | .iface _ d => uptoBulk d + 1
  | .map entries => uptoBulkEntries entries + 1
  | .held _ => 1
def uptoBulkAll {H : Type} : List (DataW H) → Nat
  | [] => 0
  | d :: r => uptoBulk d + uptoBulkAll r
def uptoBulkEntries {H : Type} : List (Lit × DataW H) → Nat
  | [] => 0
  | x :: r => uptoBulkEntry x + uptoBulkEntries r
def uptoBulkEntry {H : Type} : Lit × DataW H → Nat
  | (.string bytes, d) => bytes.length + uptoBulk d + 1
  | (_, d) => uptoBulk d + 1
 end
def uptoSmall : (H : Type) → List (DataW H) → Bool := fun _ ds => decide (uptoBulkAll ds ≤ 1048576)
def OpenSpec.upto (s : _root_.Go.ChangeSpec) : _root_.Go.OpenSpec := { _root_.Go.OpenSpec.ofChange s with cond := some uptoSmall }

/-- 'laws.FnQuants', WHERE WHAT IT READS IS OF BULK AT MOST 1048576: true; the input reads as it did. -/
def fnQuantsUptoRow : OpenClaim := { program := "ythmmjdippdnieaa", sum := "d12c6fbe8bf6241db8cb81aec0c9dcc2d6deb1260d7436997eee2d042438e6a7", func := "loop.example/g00657/laws.FnQuants", spec := "fnQuants", recurses := true, apart := false, narrowed := true }
def FnQuantsUptoSaid : Prop := fnQuantsUptoRow.holds Try.pinned (OpenSpec.upto fnQuantsSpec)

/-- 'laws.FnExactStepOf', WHERE WHAT IT READS IS OF BULK AT MOST 1048576: true; the input reads as it did. -/
def fnExactStepOfUptoRow : OpenClaim := { program := "ythmmjdippdnieaa", sum := "d12c6fbe8bf6241db8cb81aec0c9dcc2d6deb1260d7436997eee2d042438e6a7", func := "loop.example/g00657/laws.FnExactStepOf", spec := "fnExactStepOf", apart := false, narrowed := true }
def FnExactStepOfUptoSaid : Prop := fnExactStepOfUptoRow.holds Try.pinned (OpenSpec.upto fnExactStepOfSpec)

/-- 'laws.FnExactHalfStep', WHERE WHAT IT READS IS OF BULK AT MOST 1048576: true; the input reads as it did. -/
def fnExactHalfStepUptoRow : OpenClaim := { program := "ythmmjdippdnieaa", sum := "d12c6fbe8bf6241db8cb81aec0c9dcc2d6deb1260d7436997eee2d042438e6a7", func := "loop.example/g00657/laws.FnExactHalfStep", spec := "fnExactHalfStep", apart := false, narrowed := true }
def FnExactHalfStepUptoSaid : Prop := fnExactHalfStepUptoRow.holds Try.pinned (OpenSpec.upto fnExactHalfStepSpec)

/-- 'laws.FnExactQuantize', WHERE WHAT IT READS IS OF BULK AT MOST 1048576: true; the input reads as it did. -/
def fnExactQuantizeUptoRow : OpenClaim := { program := "ythmmjdippdnieaa", sum := "d12c6fbe8bf6241db8cb81aec0c9dcc2d6deb1260d7436997eee2d042438e6a7", func := "loop.example/g00657/laws.FnExactQuantize", spec := "fnExactQuantize", recurses := true, apart := false, narrowed := true }
def FnExactQuantizeUptoSaid : Prop := fnExactQuantizeUptoRow.holds Try.pinned (OpenSpec.upto fnExactQuantizeSpec)

/-- 'laws.FnExactRestore', WHERE WHAT IT READS IS OF BULK AT MOST 1048576: true; the input reads as it did. -/
def fnExactRestoreUptoRow : OpenClaim := { program := "ythmmjdippdnieaa", sum := "d12c6fbe8bf6241db8cb81aec0c9dcc2d6deb1260d7436997eee2d042438e6a7", func := "loop.example/g00657/laws.FnExactRestore", spec := "fnExactRestore", apart := false, narrowed := true }
def FnExactRestoreUptoSaid : Prop := fnExactRestoreUptoRow.holds Try.pinned (OpenSpec.upto fnExactRestoreSpec)

/-- 'laws.FnExactFinestRung', WHERE WHAT IT READS IS OF BULK AT MOST 1048576: true; the input reads as it did. -/
def fnExactFinestRungUptoRow : OpenClaim := { program := "ythmmjdippdnieaa", sum := "d12c6fbe8bf6241db8cb81aec0c9dcc2d6deb1260d7436997eee2d042438e6a7", func := "loop.example/g00657/laws.FnExactFinestRung", spec := "fnExactFinestRung", recurses := true, apart := false, narrowed := true }
def FnExactFinestRungUptoSaid : Prop := fnExactFinestRungUptoRow.holds Try.pinned (OpenSpec.upto fnExactFinestRungSpec)

end Rows
end Go.Proofs.Ythmmjdippdnieaa
