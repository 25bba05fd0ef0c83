/-
  No cell of these rows narrows 'for every input' (looked for: loops, veiled, ifaces, maps, wideKeys, modest, calm, conditions, laid).
  DERIVED. THE GIVEN ROWS OF THIS SEAT. 6 by the template 'for every input the law returns true; each argument reads behind the call as it read before'; 0 by the template 'total and deterministic' (their statements: YtjmcoipglgcomaaTotals.lean).
  GIVEN WITH THE SEED: the statements are not yours to turn. If you find one false, say at which input.
  Laid BY PROGRAM, IN A SANDBOX (cutbox-rows.mjs): the forced cells as the released guide's own fill.sh prints them over the translation ab1043778a6c883d… (all of the seat's roots in one cut). By AI agents, Wed Nov 11 2026. No macro, syntax, notation, axiom, sorry.
-/
import Derived.Test.YtjmcoipglgcomaaChecked
import GoSem.Claim
import GoSem.ClaimJoined
import GoSem.ClaimMapViews
import Derived.JoinedTies
import Derived.KernelRfl
namespace Go.Proofs.Ytjmcoipglgcomaa
/- THE CELL 'sum', in the pinned program and in every row, IS THE sha256 OF THE DUMP (.gsa) THAT YtjmcoipglgcomaaProg.lean LOADS. Nothing in Lean hashes anything: it is a label: what it is worth is what the hold of that sum in a sandbox is worth. -/
noncomputable def Try.pinned : Pinned := { name := "ytjmcoipglgcomaa", sum := "ab1043778a6c883da311e400641b94d637d75654faffd12240837f5d84f1e32a", checked := Try.checked }
namespace Rows
def none {H : Type} : Left H := { results := [], args := [] }

/-- 'laws.FnRounds': WHATEVER THE INPUT: true; the input reads as it did. -/
def fnRoundsSpec : ChangeSpec := { name := "fnRounds", fn := fun _ => fun
  | [d] => { results := [.lit (.bool true)], args := [d] }
  | _ => none }
def fnRoundsRow : OpenClaim := { program := "ytjmcoipglgcomaa", sum := "ab1043778a6c883da311e400641b94d637d75654faffd12240837f5d84f1e32a", func := "loop.example/g00657/laws.FnRounds", spec := "fnRounds", recurses := true, apart := false }
def FnRoundsSaid : Prop := fnRoundsRow.holds Try.pinned (OpenSpec.ofChange fnRoundsSpec)

/-- ITS FALSE NEIGHBOUR: 'it returns false'. Refute it at one input. -/
def fnRoundsWrong : ChangeSpec := { name := "fnRounds", fn := fun _ => fun
  | [d] => { results := [.lit (.bool false)], args := [d] }
  | _ => none }
def FnRoundsWrongFalsely : Prop := fnRoundsRow.holds Try.pinned (OpenSpec.ofChange fnRoundsWrong)

/-- 'laws.FnTens': WHATEVER THE INPUT: true; the input reads as it did. -/
def fnTensSpec : ChangeSpec := { name := "fnTens", fn := fun _ => fun
  | [d] => { results := [.lit (.bool true)], args := [d] }
  | _ => none }
def fnTensRow : OpenClaim := { program := "ytjmcoipglgcomaa", sum := "ab1043778a6c883da311e400641b94d637d75654faffd12240837f5d84f1e32a", func := "loop.example/g00657/laws.FnTens", spec := "fnTens", apart := false }
def FnTensSaid : Prop := fnTensRow.holds Try.pinned (OpenSpec.ofChange fnTensSpec)

/-- ITS FALSE NEIGHBOUR: 'it returns false'. Refute it at one input. -/
def fnTensWrong : ChangeSpec := { name := "fnTens", fn := fun _ => fun
  | [d] => { results := [.lit (.bool false)], args := [d] }
  | _ => none }
def FnTensWrongFalsely : Prop := fnTensRow.holds Try.pinned (OpenSpec.ofChange fnTensWrong)

/-- 'laws.FnExactClamp16': WHATEVER THE INPUT: true; the input reads as it did. -/
def fnExactClamp16Spec : ChangeSpec := { name := "fnExactClamp16", fn := fun _ => fun
  | [d] => { results := [.lit (.bool true)], args := [d] }
  | _ => none }
def fnExactClamp16Row : OpenClaim := { program := "ytjmcoipglgcomaa", sum := "ab1043778a6c883da311e400641b94d637d75654faffd12240837f5d84f1e32a", func := "loop.example/g00657/laws.FnExactClamp16", spec := "fnExactClamp16", apart := false }
def FnExactClamp16Said : Prop := fnExactClamp16Row.holds Try.pinned (OpenSpec.ofChange fnExactClamp16Spec)

/-- ITS FALSE NEIGHBOUR: 'it returns false'. Refute it at one input. -/
def fnExactClamp16Wrong : ChangeSpec := { name := "fnExactClamp16", fn := fun _ => fun
  | [d] => { results := [.lit (.bool false)], args := [d] }
  | _ => none }
def FnExactClamp16WrongFalsely : Prop := fnExactClamp16Row.holds Try.pinned (OpenSpec.ofChange fnExactClamp16Wrong)

/-- 'laws.FnExactRoundDiv': WHATEVER THE INPUT: true; the input reads as it did. -/
def fnExactRoundDivSpec : ChangeSpec := { name := "fnExactRoundDiv", fn := fun _ => fun
  | [d1, d2] => { results := [.lit (.bool true)], args := [d1, d2] }
  | _ => none }
def fnExactRoundDivRow : OpenClaim := { program := "ytjmcoipglgcomaa", sum := "ab1043778a6c883da311e400641b94d637d75654faffd12240837f5d84f1e32a", func := "loop.example/g00657/laws.FnExactRoundDiv", spec := "fnExactRoundDiv", recurses := true, apart := false }
def FnExactRoundDivSaid : Prop := fnExactRoundDivRow.holds Try.pinned (OpenSpec.ofChange fnExactRoundDivSpec)

/-- ITS FALSE NEIGHBOUR: 'it returns false'. Refute it at one input. -/
def fnExactRoundDivWrong : ChangeSpec := { name := "fnExactRoundDiv", fn := fun _ => fun
  | [d1, d2] => { results := [.lit (.bool false)], args := [d1, d2] }
  | _ => none }
def FnExactRoundDivWrongFalsely : Prop := fnExactRoundDivRow.holds Try.pinned (OpenSpec.ofChange fnExactRoundDivWrong)

/-- 'laws.FnExactCeilDiv': WHATEVER THE INPUT: true; the input reads as it did. -/
def fnExactCeilDivSpec : ChangeSpec := { name := "fnExactCeilDiv", fn := fun _ => fun
  | [d1, d2] => { results := [.lit (.bool true)], args := [d1, d2] }
  | _ => none }
def fnExactCeilDivRow : OpenClaim := { program := "ytjmcoipglgcomaa", sum := "ab1043778a6c883da311e400641b94d637d75654faffd12240837f5d84f1e32a", func := "loop.example/g00657/laws.FnExactCeilDiv", spec := "fnExactCeilDiv", apart := false }
def FnExactCeilDivSaid : Prop := fnExactCeilDivRow.holds Try.pinned (OpenSpec.ofChange fnExactCeilDivSpec)

/-- ITS FALSE NEIGHBOUR: 'it returns false'. Refute it at one input. -/
def fnExactCeilDivWrong : ChangeSpec := { name := "fnExactCeilDiv", fn := fun _ => fun
  | [d1, d2] => { results := [.lit (.bool false)], args := [d1, d2] }
  | _ => none }
def FnExactCeilDivWrongFalsely : Prop := fnExactCeilDivRow.holds Try.pinned (OpenSpec.ofChange fnExactCeilDivWrong)

/-- 'laws.FnExactTenOf': WHATEVER THE INPUT: true; the input reads as it did. -/
def fnExactTenOfSpec : ChangeSpec := { name := "fnExactTenOf", fn := fun _ => fun
  | [d] => { results := [.lit (.bool true)], args := [d] }
  | _ => none }
def fnExactTenOfRow : OpenClaim := { program := "ytjmcoipglgcomaa", sum := "ab1043778a6c883da311e400641b94d637d75654faffd12240837f5d84f1e32a", func := "loop.example/g00657/laws.FnExactTenOf", spec := "fnExactTenOf", apart := false }
def FnExactTenOfSaid : Prop := fnExactTenOfRow.holds Try.pinned (OpenSpec.ofChange fnExactTenOfSpec)

/-- ITS FALSE NEIGHBOUR: 'it returns false'. Refute it at one input. -/
def fnExactTenOfWrong : ChangeSpec := { name := "fnExactTenOf", fn := fun _ => fun
  | [d] => { results := [.lit (.bool false)], args := [d] }
  | _ => none }
def FnExactTenOfWrongFalsely : Prop := fnExactTenOfRow.holds Try.pinned (OpenSpec.ofChange fnExactTenOfWrong)

/- THE SECOND FORM. 'bulk': how many values and letters a reading holds, each counted each time it is reached (what is shared counts as often as it is met; a slice's spare places count too). A statement '..UptoSaid' is the law's where the arguments, and the package variables that the reading takes, are together of bulk at most 1048576: NARROWER than '..Said'. Prove '..Said' where nothing that the law and all that it calls make is longer than what came in: it says more and counts as full. Else prove '..UptoSaid'. A law counts once. -/
mutual
def uptoBulk {H : Type} : DataW H → Nat
  | .lit (.string bytes) => bytes.length + 1
  | .lit _ => 1
  | .nil => 1
  | .ptr d => uptoBulk d + 1
  | .slice elems spare => uptoBulkAll elems + uptoBulkAll spare + 1
  | .agg parts => uptoBulkAll parts + 1
  | .iface _ d => uptoBulk d + 1
  | .map entries => uptoBulkEntries entries + 1
  | .held _ => 1
def uptoBulkAll {H : Type} : List (DataW H) → Nat
  | [] => 0
  | d :: r => uptoBulk d + uptoBulkAll r
def uptoBulkEntries {H : Type} : List (Lit × DataW H) → Nat
  | [] => 0
  | x :: r => uptoBulkEntry x + uptoBulkEntries r
def uptoBulkEntry {H : Type} : Lit × DataW H → Nat
  | (.string bytes, d) => bytes.length + uptoBulk d + 1
  | (_, d) => uptoBulk d + 1
 end
def uptoSmall : (H : Type) → List (DataW H) → Bool := fun _ ds => decide (uptoBulkAll ds ≤ 1048576)
def OpenSpec.upto (s : _root_.Go.ChangeSpec) : _root_.Go.OpenSpec := { _root_.Go.OpenSpec.ofChange s with cond := some uptoSmall }

/-- 'laws.FnRounds', WHERE WHAT IT READS IS OF BULK AT MOST 1048576: true; the input reads as it did. -/
def fnRoundsUptoRow : OpenClaim := { program := "ytjmcoipglgcomaa", sum := "ab1043778a6c883da311e400641b94d637d75654faffd12240837f5d84f1e32a", func := "loop.example/g00657/laws.FnRounds", spec := "fnRounds", recurses := true, apart := false, narrowed := true }
def FnRoundsUptoSaid : Prop := fnRoundsUptoRow.holds Try.pinned (OpenSpec.upto fnRoundsSpec)

/-- 'laws.FnTens', WHERE WHAT IT READS IS OF BULK AT MOST 1048576: true; the input reads as it did. -/
def fnTensUptoRow : OpenClaim := { program := "ytjmcoipglgcomaa", sum := "ab1043778a6c883da311e400641b94d637d75654faffd12240837f5d84f1e32a", func := "loop.example/g00657/laws.FnTens", spec := "fnTens", apart := false, narrowed := true }
def FnTensUptoSaid : Prop := fnTensUptoRow.holds Try.pinned (OpenSpec.upto fnTensSpec)

/-- 'laws.FnExactClamp16', WHERE WHAT IT READS IS OF BULK AT MOST 1048576: true; the input reads as it did. -/
def fnExactClamp16UptoRow : OpenClaim := { program := "ytjmcoipglgcomaa", sum := "ab1043778a6c883da311e400641b94d637d75654faffd12240837f5d84f1e32a", func := "loop.example/g00657/laws.FnExactClamp16", spec := "fnExactClamp16", apart := false, narrowed := true }
def FnExactClamp16UptoSaid : Prop := fnExactClamp16UptoRow.holds Try.pinned (OpenSpec.upto fnExactClamp16Spec)

/-- 'laws.FnExactRoundDiv', WHERE WHAT IT READS IS OF BULK AT MOST 1048576: true; the input reads as it did. -/
def fnExactRoundDivUptoRow : OpenClaim := { program := "ytjmcoipglgcomaa", sum := "ab1043778a6c883da311e400641b94d637d75654faffd12240837f5d84f1e32a", func := "loop.example/g00657/laws.FnExactRoundDiv", spec := "fnExactRoundDiv", recurses := true, apart := false, narrowed := true }
def FnExactRoundDivUptoSaid : Prop := fnExactRoundDivUptoRow.holds Try.pinned (OpenSpec.upto fnExactRoundDivSpec)

/-- 'laws.FnExactCeilDiv', WHERE WHAT IT READS IS OF BULK AT MOST 1048576: true; the input reads as it did. -/
def fnExactCeilDivUptoRow : OpenClaim := { program := "ytjmcoipglgcomaa", sum := "ab1043778a6c883da311e400641b94d637d75654faffd12240837f5d84f1e32a", func := "loop.example/g00657/laws.FnExactCeilDiv", spec := "fnExactCeilDiv", apart := false, narrowed := true }
def FnExactCeilDivUptoSaid : Prop := fnExactCeilDivUptoRow.holds Try.pinned (OpenSpec.upto fnExactCeilDivSpec)

/-- 'laws.FnExactTenOf', WHERE WHAT IT READS IS OF BULK AT MOST 1048576: true; the input reads as it did. -/
def fnExactTenOfUptoRow : OpenClaim := { program := "ytjmcoipglgcomaa", sum := "ab1043778a6c883da311e400641b94d637d75654faffd12240837f5d84f1e32a", func := "loop.example/g00657/laws.FnExactTenOf", spec := "fnExactTenOf", apart := false, narrowed := true }
def FnExactTenOfUptoSaid : Prop := fnExactTenOfUptoRow.holds Try.pinned (OpenSpec.upto fnExactTenOfSpec)

end Rows
end Go.Proofs.Ytjmcoipglgcomaa
