/-
  No cell of these rows narrows 'for every input' (looked for: loops, veiled, ifaces, maps, wideKeys, modest, calm, conditions, laid).
  DERIVED. THE GIVEN ROWS OF THIS SEAT. 4 by the template 'for every input the law returns true; each argument reads behind the call as it read before'; 0 by the template 'total and deterministic' (their statements: YtbbejjlgfekipaaTotals.lean).
  GIVEN WITH THE SEED: the statements are not yours to turn. If you find one false, say at which input.
  Laid BY PROGRAM, IN A SANDBOX (cutbox-rows.mjs): the forced cells as the released guide's own fill.sh prints them over the translation a5c85e12c0cfd9a6… (all of the seat's roots in one cut). By AI agents, Wed Nov 11 2026. No macro, syntax, notation, axiom, sorry.
-/
import Derived.Test.YtbbejjlgfekipaaChecked
import GoSem.Claim
import GoSem.ClaimJoined
import GoSem.ClaimMapViews
import Derived.JoinedTies
import Derived.KernelRfl
namespace Go.Proofs.Ytbbejjlgfekipaa
/- THE CELL 'sum', in the pinned program and in every row, IS THE sha256 OF THE DUMP (.gsa) THAT YtbbejjlgfekipaaProg.lean LOADS. Nothing in Lean hashes anything: it is a label: what it is worth is what the hold of that sum in a sandbox is worth. -/
noncomputable def Try.pinned : Pinned := { name := "ytbbejjlgfekipaa", sum := "a5c85e12c0cfd9a6078dafa6ac064ec25667b44ad57bfb94053c1663be4be190", checked := Try.checked }
namespace Rows
def none {H : Type} : Left H := { results := [], args := [] }

/-- 'laws.FnShapes': WHATEVER THE INPUT: true; the input reads as it did. -/
def fnShapesSpec : ChangeSpec := { name := "fnShapes", fn := fun _ => fun
  | [d] => { results := [.lit (.bool true)], args := [d] }
  | _ => none }
def fnShapesRow : OpenClaim := { program := "ytbbejjlgfekipaa", sum := "a5c85e12c0cfd9a6078dafa6ac064ec25667b44ad57bfb94053c1663be4be190", func := "loop.example/g00657/laws.FnShapes", spec := "fnShapes", unfollowed := true, recurses := true, apart := false }
def FnShapesSaid : Prop := fnShapesRow.holds Try.pinned (OpenSpec.ofChange fnShapesSpec)

/-- ITS FALSE NEIGHBOUR: 'it returns false'. Refute it at one input. -/
def fnShapesWrong : ChangeSpec := { name := "fnShapes", fn := fun _ => fun
  | [d] => { results := [.lit (.bool false)], args := [d] }
  | _ => none }
def FnShapesWrongFalsely : Prop := fnShapesRow.holds Try.pinned (OpenSpec.ofChange fnShapesWrong)

/-- 'laws.FnExactSearchPulses': WHATEVER THE INPUT: true; the input reads as it did. -/
def fnExactSearchPulsesSpec : ChangeSpec := { name := "fnExactSearchPulses", fn := fun _ => fun
  | [d1, d2] => { results := [.lit (.bool true)], args := [d1, d2] }
  | _ => none }
def fnExactSearchPulsesRow : OpenClaim := { program := "ytbbejjlgfekipaa", sum := "a5c85e12c0cfd9a6078dafa6ac064ec25667b44ad57bfb94053c1663be4be190", func := "loop.example/g00657/laws.FnExactSearchPulses", spec := "fnExactSearchPulses", unfollowed := true, recurses := true, apart := false }
def FnExactSearchPulsesSaid : Prop := fnExactSearchPulsesRow.holds Try.pinned (OpenSpec.ofChange fnExactSearchPulsesSpec)

/-- ITS FALSE NEIGHBOUR: 'it returns false'. Refute it at one input. -/
def fnExactSearchPulsesWrong : ChangeSpec := { name := "fnExactSearchPulses", fn := fun _ => fun
  | [d1, d2] => { results := [.lit (.bool false)], args := [d1, d2] }
  | _ => none }
def FnExactSearchPulsesWrongFalsely : Prop := fnExactSearchPulsesRow.holds Try.pinned (OpenSpec.ofChange fnExactSearchPulsesWrong)

/-- 'laws.FnExactShapeOf': WHATEVER THE INPUT: true; the input reads as it did. -/
def fnExactShapeOfSpec : ChangeSpec := { name := "fnExactShapeOf", fn := fun _ => fun
  | [d1, d2, d3] => { results := [.lit (.bool true)], args := [d1, d2, d3] }
  | _ => none }
def fnExactShapeOfRow : OpenClaim := { program := "ytbbejjlgfekipaa", sum := "a5c85e12c0cfd9a6078dafa6ac064ec25667b44ad57bfb94053c1663be4be190", func := "loop.example/g00657/laws.FnExactShapeOf", spec := "fnExactShapeOf", recurses := true, apart := false }
def FnExactShapeOfSaid : Prop := fnExactShapeOfRow.holds Try.pinned (OpenSpec.ofChange fnExactShapeOfSpec)

/-- ITS FALSE NEIGHBOUR: 'it returns false'. Refute it at one input. -/
def fnExactShapeOfWrong : ChangeSpec := { name := "fnExactShapeOf", fn := fun _ => fun
  | [d1, d2, d3] => { results := [.lit (.bool false)], args := [d1, d2, d3] }
  | _ => none }
def FnExactShapeOfWrongFalsely : Prop := fnExactShapeOfRow.holds Try.pinned (OpenSpec.ofChange fnExactShapeOfWrong)

/-- 'laws.FnExactShapeBound': WHATEVER THE INPUT: true; the input reads as it did. -/
def fnExactShapeBoundSpec : ChangeSpec := { name := "fnExactShapeBound", fn := fun _ => fun
  | [d1, d2, d3] => { results := [.lit (.bool true)], args := [d1, d2, d3] }
  | _ => none }
def fnExactShapeBoundRow : OpenClaim := { program := "ytbbejjlgfekipaa", sum := "a5c85e12c0cfd9a6078dafa6ac064ec25667b44ad57bfb94053c1663be4be190", func := "loop.example/g00657/laws.FnExactShapeBound", spec := "fnExactShapeBound", apart := false }
def FnExactShapeBoundSaid : Prop := fnExactShapeBoundRow.holds Try.pinned (OpenSpec.ofChange fnExactShapeBoundSpec)

/-- ITS FALSE NEIGHBOUR: 'it returns false'. Refute it at one input. -/
def fnExactShapeBoundWrong : ChangeSpec := { name := "fnExactShapeBound", fn := fun _ => fun
  | [d1, d2, d3] => { results := [.lit (.bool false)], args := [d1, d2, d3] }
  | _ => none }
def FnExactShapeBoundWrongFalsely : Prop := fnExactShapeBoundRow.holds Try.pinned (OpenSpec.ofChange fnExactShapeBoundWrong)

/- THE SECOND FORM. 'bulk': how many values and letters a reading holds, each counted each time it is reached (what is shared counts as often as it is met; a slice's spare places count too). A statement '..UptoSaid' is the law's where the arguments, and the package variables that the reading takes, are together of bulk at most 1048576: NARROWER than '..Said'. Prove '..Said' where nothing that the law and all that it calls make is longer than what came in: it says more and counts as full. Else prove '..UptoSaid'. A law counts once. -/
mutual
def uptoBulk {H : Type} : DataW H → Nat
  | .lit (.string bytes) => bytes.length + 1
  | .lit _ => 1
  | .nil => 1
  | .ptr d => uptoBulk d + 1
  | .slice elems spare => uptoBulkAll elems + uptoBulkAll spare + 1
  | .agg parts => uptoBulkAll parts + 1
  | .iface _ d => uptoBulk d + 1
  | .map entries => uptoBulkEntries entries + 1
  | .held _ => 1
def uptoBulkAll {H : Type} : List (DataW H) → Nat
  | [] => 0
  | d :: r => uptoBulk d + uptoBulkAll r
def uptoBulkEntries {H : Type} : List (Lit × DataW H) → Nat
  | [] => 0
  | x :: r => uptoBulkEntry x + uptoBulkEntries r
def uptoBulkEntry {H : Type} : Lit × DataW H → Nat
  | (.string bytes, d) => bytes.length + uptoBulk d + 1
  | (_, d) => uptoBulk d + 1
 end
def uptoSmall : (H : Type) → List (DataW H) → Bool := fun _ ds => decide (uptoBulkAll ds ≤ 1048576)
def OpenSpec.upto (s : _root_.Go.ChangeSpec) : _root_.Go.OpenSpec := { _root_.Go.OpenSpec.ofChange s with cond := some uptoSmall }

/-- 'laws.FnShapes', WHERE WHAT IT READS IS OF BULK AT MOST 1048576: true; the input reads as it did. -/
def fnShapesUptoRow : OpenClaim := { program := "ytbbejjlgfekipaa", sum := "a5c85e12c0cfd9a6078dafa6ac064ec25667b44ad57bfb94053c1663be4be190", func := "loop.example/g00657/laws.FnShapes", spec := "fnShapes", unfollowed := true, recurses := true, apart := false, narrowed := true }
def FnShapesUptoSaid : Prop := fnShapesUptoRow.holds Try.pinned (OpenSpec.upto fnShapesSpec)

/-- 'laws.FnExactSearchPulses', WHERE WHAT IT READS IS OF BULK AT MOST 1048576: true; the input reads as it did. -/
def fnExactSearchPulsesUptoRow : OpenClaim := { program := "ytbbejjlgfekipaa", sum := "a5c85e12c0cfd9a6078dafa6ac064ec25667b44ad57bfb94053c1663be4be190", func := "loop.example/g00657/laws.FnExactSearchPulses", spec := "fnExactSearchPulses", unfollowed := true, recurses := true, apart := false, narrowed := true }
def FnExactSearchPulsesUptoSaid : Prop := fnExactSearchPulsesUptoRow.holds Try.pinned (OpenSpec.upto fnExactSearchPulsesSpec)

/-- 'laws.FnExactShapeOf', WHERE WHAT IT READS IS OF BULK AT MOST 1048576: true; the input reads as it did. -/
def fnExactShapeOfUptoRow : OpenClaim := { program := "ytbbejjlgfekipaa", sum := "a5c85e12c0cfd9a6078dafa6ac064ec25667b44ad57bfb94053c1663be4be190", func := "loop.example/g00657/laws.FnExactShapeOf", spec := "fnExactShapeOf", recurses := true, apart := false, narrowed := true }
def FnExactShapeOfUptoSaid : Prop := fnExactShapeOfUptoRow.holds Try.pinned (OpenSpec.upto fnExactShapeOfSpec)

/-- 'laws.FnExactShapeBound', WHERE WHAT IT READS IS OF BULK AT MOST 1048576: true; the input reads as it did. -/
def fnExactShapeBoundUptoRow : OpenClaim := { program := "ytbbejjlgfekipaa", sum := "a5c85e12c0cfd9a6078dafa6ac064ec25667b44ad57bfb94053c1663be4be190", func := "loop.example/g00657/laws.FnExactShapeBound", spec := "fnExactShapeBound", apart := false, narrowed := true }
def FnExactShapeBoundUptoSaid : Prop := fnExactShapeBoundUptoRow.holds Try.pinned (OpenSpec.upto fnExactShapeBoundSpec)

end Rows
end Go.Proofs.Ytbbejjlgfekipaa
