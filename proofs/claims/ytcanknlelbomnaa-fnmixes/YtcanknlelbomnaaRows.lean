/-
  No cell of these rows narrows 'for every input' (looked for: loops, veiled, ifaces, maps, wideKeys, modest, calm, conditions, laid).
  DERIVED. THE GIVEN ROWS OF THIS SEAT. 4 by the template 'for every input the law returns true; each argument reads behind the call as it read before'; 0 by the template 'total and deterministic' (their statements: YtcanknlelbomnaaTotals.lean).
  GIVEN WITH THE SEED: the statements are not yours to turn. If you find one false, say at which input.
  Laid BY PROGRAM, IN A SANDBOX (cutbox-rows.mjs): the forced cells as the released guide's own fill.sh prints them over the translation 6ac6c9c4ff3c57a7… (all of the seat's roots in one cut). By AI agents, Wed Nov 11 2026. No macro, syntax, notation, axiom, sorry.
-/
import Derived.Test.YtcanknlelbomnaaChecked
import GoSem.Claim
import GoSem.ClaimJoined
import GoSem.ClaimMapViews
import Derived.JoinedTies
import Derived.KernelRfl
namespace Go.Proofs.Ytcanknlelbomnaa
/- THE CELL 'sum', in the pinned program and in every row, IS THE sha256 OF THE DUMP (.gsa) THAT YtcanknlelbomnaaProg.lean LOADS. Nothing in Lean hashes anything: it is a label: what it is worth is what the hold of that sum in a sandbox is worth. -/
noncomputable def Try.pinned : Pinned := { name := "ytcanknlelbomnaa", sum := "6ac6c9c4ff3c57a70582dc57691f7ffb3a96374b73418ee8797f01c798543e4b", checked := Try.checked }
namespace Rows
def none {H : Type} : Left H := { results := [], args := [] }

/-- 'laws.FnMixes': WHATEVER THE INPUT: true; the input reads as it did. -/
def fnMixesSpec : ChangeSpec := { name := "fnMixes", fn := fun _ => fun
  | [d] => { results := [.lit (.bool true)], args := [d] }
  | _ => none }
def fnMixesRow : OpenClaim := { program := "ytcanknlelbomnaa", sum := "6ac6c9c4ff3c57a70582dc57691f7ffb3a96374b73418ee8797f01c798543e4b", func := "loop.example/g00657/laws.FnMixes", spec := "fnMixes", unfollowed := true, recurses := true, apart := false }
def FnMixesSaid : Prop := fnMixesRow.holds Try.pinned (OpenSpec.ofChange fnMixesSpec)

/-- ITS FALSE NEIGHBOUR: 'it returns false'. Refute it at one input. -/
def fnMixesWrong : ChangeSpec := { name := "fnMixes", fn := fun _ => fun
  | [d] => { results := [.lit (.bool false)], args := [d] }
  | _ => none }
def FnMixesWrongFalsely : Prop := fnMixesRow.holds Try.pinned (OpenSpec.ofChange fnMixesWrong)

/-- 'laws.FnExactMixPair': WHATEVER THE INPUT: true; the input reads as it did. -/
def fnExactMixPairSpec : ChangeSpec := { name := "fnExactMixPair", fn := fun _ => fun
  | [d1, d2] => { results := [.lit (.bool true)], args := [d1, d2] }
  | _ => none }
def fnExactMixPairRow : OpenClaim := { program := "ytcanknlelbomnaa", sum := "6ac6c9c4ff3c57a70582dc57691f7ffb3a96374b73418ee8797f01c798543e4b", func := "loop.example/g00657/laws.FnExactMixPair", spec := "fnExactMixPair", unfollowed := true, recurses := true, apart := false }
def FnExactMixPairSaid : Prop := fnExactMixPairRow.holds Try.pinned (OpenSpec.ofChange fnExactMixPairSpec)

/-- ITS FALSE NEIGHBOUR: 'it returns false'. Refute it at one input. -/
def fnExactMixPairWrong : ChangeSpec := { name := "fnExactMixPair", fn := fun _ => fun
  | [d1, d2] => { results := [.lit (.bool false)], args := [d1, d2] }
  | _ => none }
def FnExactMixPairWrongFalsely : Prop := fnExactMixPairRow.holds Try.pinned (OpenSpec.ofChange fnExactMixPairWrong)

/-- 'laws.FnExactPartPair': WHATEVER THE INPUT: true; the input reads as it did. -/
def fnExactPartPairSpec : ChangeSpec := { name := "fnExactPartPair", fn := fun _ => fun
  | [d1, d2] => { results := [.lit (.bool true)], args := [d1, d2] }
  | _ => none }
def fnExactPartPairRow : OpenClaim := { program := "ytcanknlelbomnaa", sum := "6ac6c9c4ff3c57a70582dc57691f7ffb3a96374b73418ee8797f01c798543e4b", func := "loop.example/g00657/laws.FnExactPartPair", spec := "fnExactPartPair", unfollowed := true, recurses := true, apart := false }
def FnExactPartPairSaid : Prop := fnExactPartPairRow.holds Try.pinned (OpenSpec.ofChange fnExactPartPairSpec)

/-- ITS FALSE NEIGHBOUR: 'it returns false'. Refute it at one input. -/
def fnExactPartPairWrong : ChangeSpec := { name := "fnExactPartPair", fn := fun _ => fun
  | [d1, d2] => { results := [.lit (.bool false)], args := [d1, d2] }
  | _ => none }
def FnExactPartPairWrongFalsely : Prop := fnExactPartPairRow.holds Try.pinned (OpenSpec.ofChange fnExactPartPairWrong)

/-- 'laws.FnExactPartBounds': WHATEVER THE INPUT: true; the input reads as it did. -/
def fnExactPartBoundsSpec : ChangeSpec := { name := "fnExactPartBounds", fn := fun _ => fun
  | [d1, d2] => { results := [.lit (.bool true)], args := [d1, d2] }
  | _ => none }
def fnExactPartBoundsRow : OpenClaim := { program := "ytcanknlelbomnaa", sum := "6ac6c9c4ff3c57a70582dc57691f7ffb3a96374b73418ee8797f01c798543e4b", func := "loop.example/g00657/laws.FnExactPartBounds", spec := "fnExactPartBounds", unfollowed := true, recurses := true, apart := false }
def FnExactPartBoundsSaid : Prop := fnExactPartBoundsRow.holds Try.pinned (OpenSpec.ofChange fnExactPartBoundsSpec)

/-- ITS FALSE NEIGHBOUR: 'it returns false'. Refute it at one input. -/
def fnExactPartBoundsWrong : ChangeSpec := { name := "fnExactPartBounds", fn := fun _ => fun
  | [d1, d2] => { results := [.lit (.bool false)], args := [d1, d2] }
  | _ => none }
def FnExactPartBoundsWrongFalsely : Prop := fnExactPartBoundsRow.holds Try.pinned (OpenSpec.ofChange fnExactPartBoundsWrong)

/- THE SECOND FORM. 'bulk': how many values and letters a reading holds, each counted each time it is reached (what is shared counts as often as it is met; a slice's spare places count too). A statement '..UptoSaid' is the law's where the arguments, and the package variables that the reading takes, are together of bulk at most 1048576: NARROWER than '..Said'. Prove '..Said' where nothing that the law and all that it calls make is longer than what came in: it says more and counts as full. Else prove '..UptoSaid'. A law counts once. -/
mutual
def uptoBulk {H : Type} : DataW H → Nat
  | .lit (.string bytes) => bytes.length + 1
  | .lit _ => 1
  | .nil => 1
  | .ptr d => uptoBulk d + 1
  | .slice elems spare => uptoBulkAll elems + uptoBulkAll spare + 1
  | .agg parts => uptoBulkAll parts + 1
  | .iface _ d => uptoBulk d + 1
  | .map entries => uptoBulkEntries entries + 1
  | .held _ => 1
def uptoBulkAll {H : Type} : List (DataW H) → Nat
  | [] => 0
  | d :: r => uptoBulk d + uptoBulkAll r
def uptoBulkEntries {H : Type} : List (Lit × DataW H) → Nat
  | [] => 0
  | x :: r => uptoBulkEntry x + uptoBulkEntries r
def uptoBulkEntry {H : Type} : Lit × DataW H → Nat
  | (.string bytes, d) => bytes.length + uptoBulk d + 1
  | (_, d) => uptoBulk d + 1
 end
def uptoSmall : (H : Type) → List (DataW H) → Bool := fun _ ds => decide (uptoBulkAll ds ≤ 1048576)
def OpenSpec.upto (s : _root_.Go.ChangeSpec) : _root_.Go.OpenSpec := { _root_.Go.OpenSpec.ofChange s with cond := some uptoSmall }

/-- 'laws.FnMixes', WHERE WHAT IT READS IS OF BULK AT MOST 1048576: true; the input reads as it did. -/
def fnMixesUptoRow : OpenClaim := { program := "ytcanknlelbomnaa", sum := "6ac6c9c4ff3c57a70582dc57691f7ffb3a96374b73418ee8797f01c798543e4b", func := "loop.example/g00657/laws.FnMixes", spec := "fnMixes", unfollowed := true, recurses := true, apart := false, narrowed := true }
def FnMixesUptoSaid : Prop := fnMixesUptoRow.holds Try.pinned (OpenSpec.upto fnMixesSpec)

/-- 'laws.FnExactMixPair', WHERE WHAT IT READS IS OF BULK AT MOST 1048576: true; the input reads as it did. -/
def fnExactMixPairUptoRow : OpenClaim := { program := "ytcanknlelbomnaa", sum := "6ac6c9c4ff3c57a70582dc57691f7ffb3a96374b73418ee8797f01c798543e4b", func := "loop.example/g00657/laws.FnExactMixPair", spec := "fnExactMixPair", unfollowed := true, recurses := true, apart := false, narrowed := true }
def FnExactMixPairUptoSaid : Prop := fnExactMixPairUptoRow.holds Try.pinned (OpenSpec.upto fnExactMixPairSpec)

/-- 'laws.FnExactPartPair', WHERE WHAT IT READS IS OF BULK AT MOST 1048576: true; the input reads as it did. -/
def fnExactPartPairUptoRow : OpenClaim := { program := "ytcanknlelbomnaa", sum := "6ac6c9c4ff3c57a70582dc57691f7ffb3a96374b73418ee8797f01c798543e4b", func := "loop.example/g00657/laws.FnExactPartPair", spec := "fnExactPartPair", unfollowed := true, recurses := true, apart := false, narrowed := true }
def FnExactPartPairUptoSaid : Prop := fnExactPartPairUptoRow.holds Try.pinned (OpenSpec.upto fnExactPartPairSpec)

/-- 'laws.FnExactPartBounds', WHERE WHAT IT READS IS OF BULK AT MOST 1048576: true; the input reads as it did. -/
def fnExactPartBoundsUptoRow : OpenClaim := { program := "ytcanknlelbomnaa", sum := "6ac6c9c4ff3c57a70582dc57691f7ffb3a96374b73418ee8797f01c798543e4b", func := "loop.example/g00657/laws.FnExactPartBounds", spec := "fnExactPartBounds", unfollowed := true, recurses := true, apart := false, narrowed := true }
def FnExactPartBoundsUptoSaid : Prop := fnExactPartBoundsUptoRow.holds Try.pinned (OpenSpec.upto fnExactPartBoundsSpec)

end Rows
end Go.Proofs.Ytcanknlelbomnaa
