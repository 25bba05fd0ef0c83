/-
  No cell of these rows narrows 'for every input' (looked for: loops, veiled, ifaces, maps, wideKeys, modest, calm, conditions, laid).
  DERIVED. THE GIVEN ROWS OF THIS SEAT. 6 by the template 'for every input the law returns true; each argument reads behind the call as it read before'; 0 by the template 'total and deterministic' (their statements: YtikpfnkebodabaaTotals.lean).
  GIVEN WITH THE SEED: the statements are not yours to turn. If you find one false, say at which input.
  Laid BY PROGRAM, IN A SANDBOX (cutbox-rows.mjs): the forced cells as the released guide's own fill.sh prints them over the translation e774e51d2ad219af… (all of the seat's roots in one cut). By AI agents, Wed Nov 11 2026. No macro, syntax, notation, axiom, sorry.
-/
import Derived.Test.YtikpfnkebodabaaChecked
import GoSem.Claim
import GoSem.ClaimJoined
import GoSem.ClaimMapViews
import Derived.JoinedTies
import Derived.KernelRfl
namespace Go.Proofs.Ytikpfnkebodabaa
/- THE CELL 'sum', in the pinned program and in every row, IS THE sha256 OF THE DUMP (.gsa) THAT YtikpfnkebodabaaProg.lean LOADS. Nothing in Lean hashes anything: it is a label: what it is worth is what the hold of that sum in a sandbox is worth. -/
noncomputable def Try.pinned : Pinned := { name := "ytikpfnkebodabaa", sum := "e774e51d2ad219af3b90e1b72d776e48a4e6c75d11ec6fdb3e2fd8dc7545a97b", checked := Try.checked }
namespace Rows
def none {H : Type} : Left H := { results := [], args := [] }

/-- 'laws.FnPairs': WHATEVER THE INPUT: true; the input reads as it did. -/
def fnPairsSpec : ChangeSpec := { name := "fnPairs", fn := fun _ => fun
  | [d] => { results := [.lit (.bool true)], args := [d] }
  | _ => none }
def fnPairsRow : OpenClaim := { program := "ytikpfnkebodabaa", sum := "e774e51d2ad219af3b90e1b72d776e48a4e6c75d11ec6fdb3e2fd8dc7545a97b", func := "loop.example/g00657/laws.FnPairs", spec := "fnPairs", unfollowed := true, recurses := true, apart := false }
def FnPairsSaid : Prop := fnPairsRow.holds Try.pinned (OpenSpec.ofChange fnPairsSpec)

/-- ITS FALSE NEIGHBOUR: 'it returns false'. Refute it at one input. -/
def fnPairsWrong : ChangeSpec := { name := "fnPairs", fn := fun _ => fun
  | [d] => { results := [.lit (.bool false)], args := [d] }
  | _ => none }
def FnPairsWrongFalsely : Prop := fnPairsRow.holds Try.pinned (OpenSpec.ofChange fnPairsWrong)

/-- 'laws.FnExactSplitIndex': WHATEVER THE INPUT: true; the input reads as it did. -/
def fnExactSplitIndexSpec : ChangeSpec := { name := "fnExactSplitIndex", fn := fun _ => fun
  | [d1, d2, d3] => { results := [.lit (.bool true)], args := [d1, d2, d3] }
  | _ => none }
def fnExactSplitIndexRow : OpenClaim := { program := "ytikpfnkebodabaa", sum := "e774e51d2ad219af3b90e1b72d776e48a4e6c75d11ec6fdb3e2fd8dc7545a97b", func := "loop.example/g00657/laws.FnExactSplitIndex", spec := "fnExactSplitIndex", unfollowed := true, recurses := true, apart := false }
def FnExactSplitIndexSaid : Prop := fnExactSplitIndexRow.holds Try.pinned (OpenSpec.ofChange fnExactSplitIndexSpec)

/-- ITS FALSE NEIGHBOUR: 'it returns false'. Refute it at one input. -/
def fnExactSplitIndexWrong : ChangeSpec := { name := "fnExactSplitIndex", fn := fun _ => fun
  | [d1, d2, d3] => { results := [.lit (.bool false)], args := [d1, d2, d3] }
  | _ => none }
def FnExactSplitIndexWrongFalsely : Prop := fnExactSplitIndexRow.holds Try.pinned (OpenSpec.ofChange fnExactSplitIndexWrong)

/-- 'laws.FnExactJoinIndex': WHATEVER THE INPUT: true; the input reads as it did. -/
def fnExactJoinIndexSpec : ChangeSpec := { name := "fnExactJoinIndex", fn := fun _ => fun
  | [d1, d2, d3, d4] => { results := [.lit (.bool true)], args := [d1, d2, d3, d4] }
  | _ => none }
def fnExactJoinIndexRow : OpenClaim := { program := "ytikpfnkebodabaa", sum := "e774e51d2ad219af3b90e1b72d776e48a4e6c75d11ec6fdb3e2fd8dc7545a97b", func := "loop.example/g00657/laws.FnExactJoinIndex", spec := "fnExactJoinIndex", unfollowed := true, recurses := true, apart := false }
def FnExactJoinIndexSaid : Prop := fnExactJoinIndexRow.holds Try.pinned (OpenSpec.ofChange fnExactJoinIndexSpec)

/-- ITS FALSE NEIGHBOUR: 'it returns false'. Refute it at one input. -/
def fnExactJoinIndexWrong : ChangeSpec := { name := "fnExactJoinIndex", fn := fun _ => fun
  | [d1, d2, d3, d4] => { results := [.lit (.bool false)], args := [d1, d2, d3, d4] }
  | _ => none }
def FnExactJoinIndexWrongFalsely : Prop := fnExactJoinIndexRow.holds Try.pinned (OpenSpec.ofChange fnExactJoinIndexWrong)

/-- 'laws.FnExactSideIndex': WHATEVER THE INPUT: true; the input reads as it did. -/
def fnExactSideIndexSpec : ChangeSpec := { name := "fnExactSideIndex", fn := fun _ => fun
  | [d1, d2, d3, d4] => { results := [.lit (.bool true)], args := [d1, d2, d3, d4] }
  | _ => none }
def fnExactSideIndexRow : OpenClaim := { program := "ytikpfnkebodabaa", sum := "e774e51d2ad219af3b90e1b72d776e48a4e6c75d11ec6fdb3e2fd8dc7545a97b", func := "loop.example/g00657/laws.FnExactSideIndex", spec := "fnExactSideIndex", unfollowed := true, recurses := true, apart := false }
def FnExactSideIndexSaid : Prop := fnExactSideIndexRow.holds Try.pinned (OpenSpec.ofChange fnExactSideIndexSpec)

/-- ITS FALSE NEIGHBOUR: 'it returns false'. Refute it at one input. -/
def fnExactSideIndexWrong : ChangeSpec := { name := "fnExactSideIndex", fn := fun _ => fun
  | [d1, d2, d3, d4] => { results := [.lit (.bool false)], args := [d1, d2, d3, d4] }
  | _ => none }
def FnExactSideIndexWrongFalsely : Prop := fnExactSideIndexRow.holds Try.pinned (OpenSpec.ofChange fnExactSideIndexWrong)

/-- 'laws.FnExactSpreadOf': WHATEVER THE INPUT: true; the input reads as it did. -/
def fnExactSpreadOfSpec : ChangeSpec := { name := "fnExactSpreadOf", fn := fun _ => fun
  | [d1, d2, d3] => { results := [.lit (.bool true)], args := [d1, d2, d3] }
  | _ => none }
def fnExactSpreadOfRow : OpenClaim := { program := "ytikpfnkebodabaa", sum := "e774e51d2ad219af3b90e1b72d776e48a4e6c75d11ec6fdb3e2fd8dc7545a97b", func := "loop.example/g00657/laws.FnExactSpreadOf", spec := "fnExactSpreadOf", apart := false }
def FnExactSpreadOfSaid : Prop := fnExactSpreadOfRow.holds Try.pinned (OpenSpec.ofChange fnExactSpreadOfSpec)

/-- ITS FALSE NEIGHBOUR: 'it returns false'. Refute it at one input. -/
def fnExactSpreadOfWrong : ChangeSpec := { name := "fnExactSpreadOf", fn := fun _ => fun
  | [d1, d2, d3] => { results := [.lit (.bool false)], args := [d1, d2, d3] }
  | _ => none }
def FnExactSpreadOfWrongFalsely : Prop := fnExactSpreadOfRow.holds Try.pinned (OpenSpec.ofChange fnExactSpreadOfWrong)

/-- 'laws.FnExactCellOf': WHATEVER THE INPUT: true; the input reads as it did. -/
def fnExactCellOfSpec : ChangeSpec := { name := "fnExactCellOf", fn := fun _ => fun
  | [d1, d2, d3, d4] => { results := [.lit (.bool true)], args := [d1, d2, d3, d4] }
  | _ => none }
def fnExactCellOfRow : OpenClaim := { program := "ytikpfnkebodabaa", sum := "e774e51d2ad219af3b90e1b72d776e48a4e6c75d11ec6fdb3e2fd8dc7545a97b", func := "loop.example/g00657/laws.FnExactCellOf", spec := "fnExactCellOf", unfollowed := true, recurses := true, apart := false }
def FnExactCellOfSaid : Prop := fnExactCellOfRow.holds Try.pinned (OpenSpec.ofChange fnExactCellOfSpec)

/-- ITS FALSE NEIGHBOUR: 'it returns false'. Refute it at one input. -/
def fnExactCellOfWrong : ChangeSpec := { name := "fnExactCellOf", fn := fun _ => fun
  | [d1, d2, d3, d4] => { results := [.lit (.bool false)], args := [d1, d2, d3, d4] }
  | _ => none }
def FnExactCellOfWrongFalsely : Prop := fnExactCellOfRow.holds Try.pinned (OpenSpec.ofChange fnExactCellOfWrong)

/- THE SECOND FORM. 'bulk': how many values and letters a reading holds, each counted each time it is reached (what is shared counts as often as it is met; a slice's spare places count too). A statement '..UptoSaid' is the law's where the arguments, and the package variables that the reading takes, are together of bulk at most 1048576: NARROWER than '..Said'. Prove '..Said' where nothing that the law and all that it calls make is longer than what came in: it says more and counts as full. Else prove '..UptoSaid'. A law counts once. -/
mutual
def uptoBulk {H : Type} : DataW H → Nat
  | .lit (.string bytes) => bytes.length + 1
  | .lit _ => 1
  | .nil => 1
  | .ptr d => uptoBulk d + 1
  | .slice elems spare => uptoBulkAll elems + uptoBulkAll spare + 1
  | .agg parts => uptoBulkAll parts + 1
  | .iface _ d => uptoBulk d + 1
  | .map entries => uptoBulkEntries entries + 1
  | .held _ => 1
def uptoBulkAll {H : Type} : List (DataW H) → Nat
  | [] => 0
  | d :: r => uptoBulk d + uptoBulkAll r
def uptoBulkEntries {H : Type} : List (Lit × DataW H) → Nat
  | [] => 0
  | x :: r => uptoBulkEntry x + uptoBulkEntries r
def uptoBulkEntry {H : Type} : Lit × DataW H → Nat
  | (.string bytes, d) => bytes.length + uptoBulk d + 1
  | (_, d) => uptoBulk d + 1
 end
def uptoSmall : (H : Type) → List (DataW H) → Bool := fun _ ds => decide (uptoBulkAll ds ≤ 1048576)
def OpenSpec.upto (s : _root_.Go.ChangeSpec) : _root_.Go.OpenSpec := { _root_.Go.OpenSpec.ofChange s with cond := some uptoSmall }

/-- 'laws.FnPairs', WHERE WHAT IT READS IS OF BULK AT MOST 1048576: true; the input reads as it did. -/
def fnPairsUptoRow : OpenClaim := { program := "ytikpfnkebodabaa", sum := "e774e51d2ad219af3b90e1b72d776e48a4e6c75d11ec6fdb3e2fd8dc7545a97b", func := "loop.example/g00657/laws.FnPairs", spec := "fnPairs", unfollowed := true, recurses := true, apart := false, narrowed := true }
def FnPairsUptoSaid : Prop := fnPairsUptoRow.holds Try.pinned (OpenSpec.upto fnPairsSpec)

/-- 'laws.FnExactSplitIndex', WHERE WHAT IT READS IS OF BULK AT MOST 1048576: true; the input reads as it did. -/
def fnExactSplitIndexUptoRow : OpenClaim := { program := "ytikpfnkebodabaa", sum := "e774e51d2ad219af3b90e1b72d776e48a4e6c75d11ec6fdb3e2fd8dc7545a97b", func := "loop.example/g00657/laws.FnExactSplitIndex", spec := "fnExactSplitIndex", unfollowed := true, recurses := true, apart := false, narrowed := true }
def FnExactSplitIndexUptoSaid : Prop := fnExactSplitIndexUptoRow.holds Try.pinned (OpenSpec.upto fnExactSplitIndexSpec)

/-- 'laws.FnExactJoinIndex', WHERE WHAT IT READS IS OF BULK AT MOST 1048576: true; the input reads as it did. -/
def fnExactJoinIndexUptoRow : OpenClaim := { program := "ytikpfnkebodabaa", sum := "e774e51d2ad219af3b90e1b72d776e48a4e6c75d11ec6fdb3e2fd8dc7545a97b", func := "loop.example/g00657/laws.FnExactJoinIndex", spec := "fnExactJoinIndex", unfollowed := true, recurses := true, apart := false, narrowed := true }
def FnExactJoinIndexUptoSaid : Prop := fnExactJoinIndexUptoRow.holds Try.pinned (OpenSpec.upto fnExactJoinIndexSpec)

/-- 'laws.FnExactSideIndex', WHERE WHAT IT READS IS OF BULK AT MOST 1048576: true; the input reads as it did. -/
def fnExactSideIndexUptoRow : OpenClaim := { program := "ytikpfnkebodabaa", sum := "e774e51d2ad219af3b90e1b72d776e48a4e6c75d11ec6fdb3e2fd8dc7545a97b", func := "loop.example/g00657/laws.FnExactSideIndex", spec := "fnExactSideIndex", unfollowed := true, recurses := true, apart := false, narrowed := true }
def FnExactSideIndexUptoSaid : Prop := fnExactSideIndexUptoRow.holds Try.pinned (OpenSpec.upto fnExactSideIndexSpec)

/-- 'laws.FnExactSpreadOf', WHERE WHAT IT READS IS OF BULK AT MOST 1048576: true; the input reads as it did. -/
def fnExactSpreadOfUptoRow : OpenClaim := { program := "ytikpfnkebodabaa", sum := "e774e51d2ad219af3b90e1b72d776e48a4e6c75d11ec6fdb3e2fd8dc7545a97b", func := "loop.example/g00657/laws.FnExactSpreadOf", spec := "fnExactSpreadOf", apart := false, narrowed := true }
def FnExactSpreadOfUptoSaid : Prop := fnExactSpreadOfUptoRow.holds Try.pinned (OpenSpec.upto fnExactSpreadOfSpec)

/-- 'laws.FnExactCellOf', WHERE WHAT IT READS IS OF BULK AT MOST 1048576: true; the input reads as it did. -/
def fnExactCellOfUptoRow : OpenClaim := { program := "ytikpfnkebodabaa", sum := "e774e51d2ad219af3b90e1b72d776e48a4e6c75d11ec6fdb3e2fd8dc7545a97b", func := "loop.example/g00657/laws.FnExactCellOf", spec := "fnExactCellOf", unfollowed := true, recurses := true, apart := false, narrowed := true }
def FnExactCellOfUptoSaid : Prop := fnExactCellOfUptoRow.holds Try.pinned (OpenSpec.upto fnExactCellOfSpec)

end Rows
end Go.Proofs.Ytikpfnkebodabaa
