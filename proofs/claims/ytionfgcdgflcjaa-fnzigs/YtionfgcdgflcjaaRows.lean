/-
  No cell of these rows narrows 'for every input' (looked for: loops, veiled, ifaces, maps, wideKeys, modest, calm, conditions, laid).
  DERIVED. THE GIVEN ROWS OF THIS SEAT. 5 by the template 'for every input the law returns true; each argument reads behind the call as it read before'; 0 by the template 'total and deterministic' (their statements: YtionfgcdgflcjaaTotals.lean).
  GIVEN WITH THE SEED: the statements are not yours to turn. If you find one false, say at which input.
  Laid BY PROGRAM, IN A SANDBOX (cutbox-rows.mjs): the forced cells as the released guide's own fill.sh prints them over the translation 0865ba59196bd9d5… (all of the seat's roots in one cut). By AI agents, Wed Nov 11 2026. No macro, syntax, notation, axiom, sorry.
-/
import Derived.Test.YtionfgcdgflcjaaChecked
import GoSem.Claim
import GoSem.ClaimJoined
import GoSem.ClaimMapViews
import Derived.JoinedTies
import Derived.KernelRfl
namespace Go.Proofs.Ytionfgcdgflcjaa
/- THE CELL 'sum', in the pinned program and in every row, IS THE sha256 OF THE DUMP (.gsa) THAT YtionfgcdgflcjaaProg.lean LOADS. Nothing in Lean hashes anything: it is a label: what it is worth is what the hold of that sum in a sandbox is worth. -/
noncomputable def Try.pinned : Pinned := { name := "ytionfgcdgflcjaa", sum := "0865ba59196bd9d5aef1c42b836b488885d3cc0ce7318814fcb8bcdd9b6b4432", checked := Try.checked }
namespace Rows
def none {H : Type} : Left H := { results := [], args := [] }

/-- 'laws.FnZigs': WHATEVER THE INPUT: true; the input reads as it did. -/
def fnZigsSpec : ChangeSpec := { name := "fnZigs", fn := fun _ => fun
  | [d] => { results := [.lit (.bool true)], args := [d] }
  | _ => none }
def fnZigsRow : OpenClaim := { program := "ytionfgcdgflcjaa", sum := "0865ba59196bd9d5aef1c42b836b488885d3cc0ce7318814fcb8bcdd9b6b4432", func := "loop.example/g00657/laws.FnZigs", spec := "fnZigs", apart := false }
def FnZigsSaid : Prop := fnZigsRow.holds Try.pinned (OpenSpec.ofChange fnZigsSpec)

/-- ITS FALSE NEIGHBOUR: 'it returns false'. Refute it at one input. -/
def fnZigsWrong : ChangeSpec := { name := "fnZigs", fn := fun _ => fun
  | [d] => { results := [.lit (.bool false)], args := [d] }
  | _ => none }
def FnZigsWrongFalsely : Prop := fnZigsRow.holds Try.pinned (OpenSpec.ofChange fnZigsWrong)

/-- 'laws.FnExactZigOf': WHATEVER THE INPUT: true; the input reads as it did. -/
def fnExactZigOfSpec : ChangeSpec := { name := "fnExactZigOf", fn := fun _ => fun
  | [d] => { results := [.lit (.bool true)], args := [d] }
  | _ => none }
def fnExactZigOfRow : OpenClaim := { program := "ytionfgcdgflcjaa", sum := "0865ba59196bd9d5aef1c42b836b488885d3cc0ce7318814fcb8bcdd9b6b4432", func := "loop.example/g00657/laws.FnExactZigOf", spec := "fnExactZigOf", apart := false }
def FnExactZigOfSaid : Prop := fnExactZigOfRow.holds Try.pinned (OpenSpec.ofChange fnExactZigOfSpec)

/-- ITS FALSE NEIGHBOUR: 'it returns false'. Refute it at one input. -/
def fnExactZigOfWrong : ChangeSpec := { name := "fnExactZigOf", fn := fun _ => fun
  | [d] => { results := [.lit (.bool false)], args := [d] }
  | _ => none }
def FnExactZigOfWrongFalsely : Prop := fnExactZigOfRow.holds Try.pinned (OpenSpec.ofChange fnExactZigOfWrong)

/-- 'laws.FnExactUnzigOf': WHATEVER THE INPUT: true; the input reads as it did. -/
def fnExactUnzigOfSpec : ChangeSpec := { name := "fnExactUnzigOf", fn := fun _ => fun
  | [d] => { results := [.lit (.bool true)], args := [d] }
  | _ => none }
def fnExactUnzigOfRow : OpenClaim := { program := "ytionfgcdgflcjaa", sum := "0865ba59196bd9d5aef1c42b836b488885d3cc0ce7318814fcb8bcdd9b6b4432", func := "loop.example/g00657/laws.FnExactUnzigOf", spec := "fnExactUnzigOf", apart := false }
def FnExactUnzigOfSaid : Prop := fnExactUnzigOfRow.holds Try.pinned (OpenSpec.ofChange fnExactUnzigOfSpec)

/-- ITS FALSE NEIGHBOUR: 'it returns false'. Refute it at one input. -/
def fnExactUnzigOfWrong : ChangeSpec := { name := "fnExactUnzigOf", fn := fun _ => fun
  | [d] => { results := [.lit (.bool false)], args := [d] }
  | _ => none }
def FnExactUnzigOfWrongFalsely : Prop := fnExactUnzigOfRow.holds Try.pinned (OpenSpec.ofChange fnExactUnzigOfWrong)

/-- 'laws.FnExactClassSlot': WHATEVER THE INPUT: true; the input reads as it did. -/
def fnExactClassSlotSpec : ChangeSpec := { name := "fnExactClassSlot", fn := fun _ => fun
  | [d] => { results := [.lit (.bool true)], args := [d] }
  | _ => none }
def fnExactClassSlotRow : OpenClaim := { program := "ytionfgcdgflcjaa", sum := "0865ba59196bd9d5aef1c42b836b488885d3cc0ce7318814fcb8bcdd9b6b4432", func := "loop.example/g00657/laws.FnExactClassSlot", spec := "fnExactClassSlot", apart := false }
def FnExactClassSlotSaid : Prop := fnExactClassSlotRow.holds Try.pinned (OpenSpec.ofChange fnExactClassSlotSpec)

/-- ITS FALSE NEIGHBOUR: 'it returns false'. Refute it at one input. -/
def fnExactClassSlotWrong : ChangeSpec := { name := "fnExactClassSlot", fn := fun _ => fun
  | [d] => { results := [.lit (.bool false)], args := [d] }
  | _ => none }
def FnExactClassSlotWrongFalsely : Prop := fnExactClassSlotRow.holds Try.pinned (OpenSpec.ofChange fnExactClassSlotWrong)

/-- 'laws.FnExactSlotsOf': WHATEVER THE INPUT: true; the input reads as it did. -/
def fnExactSlotsOfSpec : ChangeSpec := { name := "fnExactSlotsOf", fn := fun _ => fun
  | [d] => { results := [.lit (.bool true)], args := [d] }
  | _ => none }
def fnExactSlotsOfRow : OpenClaim := { program := "ytionfgcdgflcjaa", sum := "0865ba59196bd9d5aef1c42b836b488885d3cc0ce7318814fcb8bcdd9b6b4432", func := "loop.example/g00657/laws.FnExactSlotsOf", spec := "fnExactSlotsOf", apart := false }
def FnExactSlotsOfSaid : Prop := fnExactSlotsOfRow.holds Try.pinned (OpenSpec.ofChange fnExactSlotsOfSpec)

/-- ITS FALSE NEIGHBOUR: 'it returns false'. Refute it at one input. -/
def fnExactSlotsOfWrong : ChangeSpec := { name := "fnExactSlotsOf", fn := fun _ => fun
  | [d] => { results := [.lit (.bool false)], args := [d] }
  | _ => none }
def FnExactSlotsOfWrongFalsely : Prop := fnExactSlotsOfRow.holds Try.pinned (OpenSpec.ofChange fnExactSlotsOfWrong)

/- THE SECOND FORM. 'bulk': how many values and letters a reading holds, each counted each time it is reached (what is shared counts as often as it is met; a slice's spare places count too). A statement '..UptoSaid' is the law's where the arguments, and the package variables that the reading takes, are together of bulk at most 1048576: NARROWER than '..Said'. Prove '..Said' where nothing that the law and all that it calls make is longer than what came in: it says more and counts as full. Else prove '..UptoSaid'. A law counts once. -/
mutual
def uptoBulk {H : Type} : DataW H → Nat
  | .lit (.string bytes) => bytes.length + 1
  | .lit _ => 1
  | .nil => 1
  | .ptr d => uptoBulk d + 1
  | .slice elems spare => uptoBulkAll elems + uptoBulkAll spare + 1
  | .agg parts => uptoBulkAll parts + 1
  | .iface _ d => uptoBulk d + 1
  | .map entries => uptoBulkEntries entries + 1
  | .held _ => 1
def uptoBulkAll {H : Type} : List (DataW H) → Nat
  | [] => 0
  | d :: r => uptoBulk d + uptoBulkAll r
def uptoBulkEntries {H : Type} : List (Lit × DataW H) → Nat
  | [] => 0
  | x :: r => uptoBulkEntry x + uptoBulkEntries r
def uptoBulkEntry {H : Type} : Lit × DataW H → Nat
  | (.string bytes, d) => bytes.length + uptoBulk d + 1
  | (_, d) => uptoBulk d + 1
 end
def uptoSmall : (H : Type) → List (DataW H) → Bool := fun _ ds => decide (uptoBulkAll ds ≤ 1048576)
def OpenSpec.upto (s : _root_.Go.ChangeSpec) : _root_.Go.OpenSpec := { _root_.Go.OpenSpec.ofChange s with cond := some uptoSmall }

/-- 'laws.FnZigs', WHERE WHAT IT READS IS OF BULK AT MOST 1048576: true; the input reads as it did. -/
def fnZigsUptoRow : OpenClaim := { program := "ytionfgcdgflcjaa", sum := "0865ba59196bd9d5aef1c42b836b488885d3cc0ce7318814fcb8bcdd9b6b4432", func := "loop.example/g00657/laws.FnZigs", spec := "fnZigs", apart := false, narrowed := true }
def FnZigsUptoSaid : Prop := fnZigsUptoRow.holds Try.pinned (OpenSpec.upto fnZigsSpec)

/-- 'laws.FnExactZigOf', WHERE WHAT IT READS IS OF BULK AT MOST 1048576: true; the input reads as it did. -/
def fnExactZigOfUptoRow : OpenClaim := { program := "ytionfgcdgflcjaa", sum := "0865ba59196bd9d5aef1c42b836b488885d3cc0ce7318814fcb8bcdd9b6b4432", func := "loop.example/g00657/laws.FnExactZigOf", spec := "fnExactZigOf", apart := false, narrowed := true }
def FnExactZigOfUptoSaid : Prop := fnExactZigOfUptoRow.holds Try.pinned (OpenSpec.upto fnExactZigOfSpec)

/-- 'laws.FnExactUnzigOf', WHERE WHAT IT READS IS OF BULK AT MOST 1048576: true; the input reads as it did. -/
def fnExactUnzigOfUptoRow : OpenClaim := { program := "ytionfgcdgflcjaa", sum := "0865ba59196bd9d5aef1c42b836b488885d3cc0ce7318814fcb8bcdd9b6b4432", func := "loop.example/g00657/laws.FnExactUnzigOf", spec := "fnExactUnzigOf", apart := false, narrowed := true }
def FnExactUnzigOfUptoSaid : Prop := fnExactUnzigOfUptoRow.holds Try.pinned (OpenSpec.upto fnExactUnzigOfSpec)

/-- 'laws.FnExactClassSlot', WHERE WHAT IT READS IS OF BULK AT MOST 1048576: true; the input reads as it did. -/
def fnExactClassSlotUptoRow : OpenClaim := { program := "ytionfgcdgflcjaa", sum := "0865ba59196bd9d5aef1c42b836b488885d3cc0ce7318814fcb8bcdd9b6b4432", func := "loop.example/g00657/laws.FnExactClassSlot", spec := "fnExactClassSlot", apart := false, narrowed := true }
def FnExactClassSlotUptoSaid : Prop := fnExactClassSlotUptoRow.holds Try.pinned (OpenSpec.upto fnExactClassSlotSpec)

/-- 'laws.FnExactSlotsOf', WHERE WHAT IT READS IS OF BULK AT MOST 1048576: true; the input reads as it did. -/
def fnExactSlotsOfUptoRow : OpenClaim := { program := "ytionfgcdgflcjaa", sum := "0865ba59196bd9d5aef1c42b836b488885d3cc0ce7318814fcb8bcdd9b6b4432", func := "loop.example/g00657/laws.FnExactSlotsOf", spec := "fnExactSlotsOf", apart := false, narrowed := true }
def FnExactSlotsOfUptoSaid : Prop := fnExactSlotsOfUptoRow.holds Try.pinned (OpenSpec.upto fnExactSlotsOfSpec)

end Rows
end Go.Proofs.Ytionfgcdgflcjaa
