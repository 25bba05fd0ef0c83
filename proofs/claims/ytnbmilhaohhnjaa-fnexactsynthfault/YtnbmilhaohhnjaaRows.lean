/-
  No cell of these rows narrows 'for every input' (looked for: loops, veiled, ifaces, maps, wideKeys, modest, calm, conditions, laid).
  DERIVED. THE GIVEN ROWS OF THIS SEAT. 3 by the template 'for every input the law returns true; each argument reads behind the call as it read before'; 0 by the template 'total and deterministic' (their statements: YtnbmilhaohhnjaaTotals.lean).
  GIVEN WITH THE SEED: the statements are not yours to turn. If you find one false, say at which input.
  Laid BY PROGRAM, IN A SANDBOX (cutbox-rows.mjs): the forced cells as the released guide's own fill.sh prints them over the translation 8ffb6450d035a003… (all of the seat's roots in one cut). By AI agents, Wed Nov 11 2026. No macro, syntax, notation, axiom, sorry.
-/
import Derived.Test.YtnbmilhaohhnjaaChecked
import GoSem.Claim
import GoSem.ClaimJoined
import GoSem.ClaimMapViews
import Derived.JoinedTies
import Derived.KernelRfl
namespace Go.Proofs.Ytnbmilhaohhnjaa
/- THE CELL 'sum', in the pinned program and in every row, IS THE sha256 OF THE DUMP (.gsa) THAT YtnbmilhaohhnjaaProg.lean LOADS. Nothing in Lean hashes anything: it is a label: what it is worth is what the hold of that sum in a sandbox is worth. -/
noncomputable def Try.pinned : Pinned := { name := "ytnbmilhaohhnjaa", sum := "8ffb6450d035a0035dcd7e02dc1435f37e5032914f5ab5c5392476b650b675dc", checked := Try.checked }
namespace Rows
def none {H : Type} : Left H := { results := [], args := [] }

/-- 'laws.FnExactLapFault': WHATEVER THE INPUT: true; the input reads as it did. -/
def fnExactLapFaultSpec : ChangeSpec := { name := "fnExactLapFault", fn := fun _ => fun
  | [d] => { results := [.lit (.bool true)], args := [d] }
  | _ => none }
def fnExactLapFaultRow : OpenClaim := { program := "ytnbmilhaohhnjaa", sum := "8ffb6450d035a0035dcd7e02dc1435f37e5032914f5ab5c5392476b650b675dc", func := "loop.example/g00657/laws.FnExactLapFault", spec := "fnExactLapFault", apart := false }
def FnExactLapFaultSaid : Prop := fnExactLapFaultRow.holds Try.pinned (OpenSpec.ofChange fnExactLapFaultSpec)

/-- ITS FALSE NEIGHBOUR: 'it returns false'. Refute it at one input. -/
def fnExactLapFaultWrong : ChangeSpec := { name := "fnExactLapFault", fn := fun _ => fun
  | [d] => { results := [.lit (.bool false)], args := [d] }
  | _ => none }
def FnExactLapFaultWrongFalsely : Prop := fnExactLapFaultRow.holds Try.pinned (OpenSpec.ofChange fnExactLapFaultWrong)

/-- 'laws.FnExactSynthFault': WHATEVER THE INPUT: true; the input reads as it did. -/
def fnExactSynthFaultSpec : ChangeSpec := { name := "fnExactSynthFault", fn := fun _ => fun
  | [d] => { results := [.lit (.bool true)], args := [d] }
  | _ => none }
def fnExactSynthFaultRow : OpenClaim := { program := "ytnbmilhaohhnjaa", sum := "8ffb6450d035a0035dcd7e02dc1435f37e5032914f5ab5c5392476b650b675dc", func := "loop.example/g00657/laws.FnExactSynthFault", spec := "fnExactSynthFault", apart := false }
def FnExactSynthFaultSaid : Prop := fnExactSynthFaultRow.holds Try.pinned (OpenSpec.ofChange fnExactSynthFaultSpec)

/-- ITS FALSE NEIGHBOUR: 'it returns false'. Refute it at one input. -/
def fnExactSynthFaultWrong : ChangeSpec := { name := "fnExactSynthFault", fn := fun _ => fun
  | [d] => { results := [.lit (.bool false)], args := [d] }
  | _ => none }
def FnExactSynthFaultWrongFalsely : Prop := fnExactSynthFaultRow.holds Try.pinned (OpenSpec.ofChange fnExactSynthFaultWrong)

/-- 'laws.FnExactIsWithin': WHATEVER THE INPUT: true; the input reads as it did. -/
def fnExactIsWithinSpec : ChangeSpec := { name := "fnExactIsWithin", fn := fun _ => fun
  | [d1, d2, d3] => { results := [.lit (.bool true)], args := [d1, d2, d3] }
  | _ => none }
def fnExactIsWithinRow : OpenClaim := { program := "ytnbmilhaohhnjaa", sum := "8ffb6450d035a0035dcd7e02dc1435f37e5032914f5ab5c5392476b650b675dc", func := "loop.example/g00657/laws.FnExactIsWithin", spec := "fnExactIsWithin", apart := false }
def FnExactIsWithinSaid : Prop := fnExactIsWithinRow.holds Try.pinned (OpenSpec.ofChange fnExactIsWithinSpec)

/-- ITS FALSE NEIGHBOUR: 'it returns false'. Refute it at one input. -/
def fnExactIsWithinWrong : ChangeSpec := { name := "fnExactIsWithin", fn := fun _ => fun
  | [d1, d2, d3] => { results := [.lit (.bool false)], args := [d1, d2, d3] }
  | _ => none }
def FnExactIsWithinWrongFalsely : Prop := fnExactIsWithinRow.holds Try.pinned (OpenSpec.ofChange fnExactIsWithinWrong)

/- THE SECOND FORM. 'bulk': how many values and letters a reading holds, each counted each time it is reached (what is shared counts as often as it is met; a slice's spare places count too). A statement '..UptoSaid' is the law's where the arguments, and the package variables that the reading takes, are together of bulk at most 1048576: NARROWER than '..Said'. Prove '..Said' where nothing that the law and all that it calls make is longer than what came in: it says more and counts as full. Else prove '..UptoSaid'. A law counts once. -/
mutual
def uptoBulk {H : Type} : DataW H → Nat
  | .lit (.string bytes) => bytes.length + 1
  | .lit _ => 1
  | .nil => 1
  | .ptr d => uptoBulk d + 1
  | .slice elems spare => uptoBulkAll elems + uptoBulkAll spare + 1
  | .agg parts => uptoBulkAll parts + 1
  | .iface _ d => uptoBulk d + 1
  | .map entries => uptoBulkEntries entries + 1
  | .held _ => 1
def uptoBulkAll {H : Type} : List (DataW H) → Nat
  | [] => 0
  | d :: r => uptoBulk d + uptoBulkAll r
def uptoBulkEntries {H : Type} : List (Lit × DataW H) → Nat
  | [] => 0
  | x :: r => uptoBulkEntry x + uptoBulkEntries r
def uptoBulkEntry {H : Type} : Lit × DataW H → Nat
  | (.string bytes, d) => bytes.length + uptoBulk d + 1
  | (_, d) => uptoBulk d + 1
 end
def uptoSmall : (H : Type) → List (DataW H) → Bool := fun _ ds => decide (uptoBulkAll ds ≤ 1048576)
def OpenSpec.upto (s : _root_.Go.ChangeSpec) : _root_.Go.OpenSpec := { _root_.Go.OpenSpec.ofChange s with cond := some uptoSmall }

/-- 'laws.FnExactLapFault', WHERE WHAT IT READS IS OF BULK AT MOST 1048576: true; the input reads as it did. -/
def fnExactLapFaultUptoRow : OpenClaim := { program := "ytnbmilhaohhnjaa", sum := "8ffb6450d035a0035dcd7e02dc1435f37e5032914f5ab5c5392476b650b675dc", func := "loop.example/g00657/laws.FnExactLapFault", spec := "fnExactLapFault", apart := false, narrowed := true }
def FnExactLapFaultUptoSaid : Prop := fnExactLapFaultUptoRow.holds Try.pinned (OpenSpec.upto fnExactLapFaultSpec)

/-- 'laws.FnExactSynthFault', WHERE WHAT IT READS IS OF BULK AT MOST 1048576: true; the input reads as it did. -/
def fnExactSynthFaultUptoRow : OpenClaim := { program := "ytnbmilhaohhnjaa", sum := "8ffb6450d035a0035dcd7e02dc1435f37e5032914f5ab5c5392476b650b675dc", func := "loop.example/g00657/laws.FnExactSynthFault", spec := "fnExactSynthFault", apart := false, narrowed := true }
def FnExactSynthFaultUptoSaid : Prop := fnExactSynthFaultUptoRow.holds Try.pinned (OpenSpec.upto fnExactSynthFaultSpec)

/-- 'laws.FnExactIsWithin', WHERE WHAT IT READS IS OF BULK AT MOST 1048576: true; the input reads as it did. -/
def fnExactIsWithinUptoRow : OpenClaim := { program := "ytnbmilhaohhnjaa", sum := "8ffb6450d035a0035dcd7e02dc1435f37e5032914f5ab5c5392476b650b675dc", func := "loop.example/g00657/laws.FnExactIsWithin", spec := "fnExactIsWithin", apart := false, narrowed := true }
def FnExactIsWithinUptoSaid : Prop := fnExactIsWithinUptoRow.holds Try.pinned (OpenSpec.upto fnExactIsWithinSpec)

end Rows
end Go.Proofs.Ytnbmilhaohhnjaa
