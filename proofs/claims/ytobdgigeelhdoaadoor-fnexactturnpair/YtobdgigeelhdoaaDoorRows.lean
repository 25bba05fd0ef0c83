/-
  NARROWER THAN 'FOR EVERY INPUT', by the rows' own cells (each row's printed sentence says how): FnTurns: laid · FnExactTurnPair: laid · FnExactBackPair: laid.
  DERIVED. THE GIVEN ROWS OF THIS SEAT. 3 by the template 'for every input the law returns true; each argument reads behind the call as it read before'; 0 by the template 'total and deterministic' (their statements: YtobdgigeelhdoaaDoorTotals.lean).
  GIVEN WITH THE SEED: the statements are not yours to turn. If you find one false, say at which input.
  Laid BY PROGRAM, IN A SANDBOX (cutbox-rows.mjs): the forced cells as the released guide's own fill.sh prints them over the translation aa8575e16cb42d54… (all of the seat's roots in one cut). By AI agents, Wed Nov 11 2026. No macro, syntax, notation, axiom, sorry.
-/
import Derived.Test.YtobdgigeelhdoaaDoorChecked
import GoSem.Claim
import GoSem.ClaimJoined
import GoSem.ClaimMapViews
import Derived.JoinedTies
import Derived.KernelRfl
namespace Go.Proofs.YtobdgigeelhdoaaDoor
/- THE CELL 'sum', in the pinned program and in every row, IS THE sha256 OF THE DUMP (.gsa) THAT YtobdgigeelhdoaaDoorProg.lean LOADS. Nothing in Lean hashes anything: it is a label: what it is worth is what the hold of that sum in a sandbox is worth. -/
noncomputable def Tryd.pinned : Pinned := { name := "ytobdgigeelhdoaadoor", sum := "aa8575e16cb42d54398ad941d89831aaf4dd08eba1f63beeacb9fd6990fe783c", checked := Tryd.checked }
namespace Rows
def none {H : Type} : Left H := { results := [], args := [] }

/- WHAT THE LISTED PACKAGE-LEVEL VARIABLES READ AS WHEN THE CALL BEGINS. Each datum BY PROGRAM (the guide's laid-datum.mjs) off the statement by which the dump's own 'gosem.cut.vars' lays the variable. In a bare row this is a premise. The card (YtobdgigeelhdoaaDoorCards.lean) ties it to the program's text. -/
def laid_loop_example_g00657_impl_turnRows {H : Type} : DataW H := .agg [.agg [.agg [.lit (.int .i64 4), .lit (.int .i64 0)], .agg [.lit (.int .i64 101), .lit (.int .i64 200)]], .agg [.agg [.lit (.int .i64 4), .lit (.int .i64 1)], .agg [.lit (.int .i64 311), .lit (.int .i64 569)]], .agg [.agg [.lit (.int .i64 8), .lit (.int .i64 0)], .agg [.lit (.int .i64 50), .lit (.int .i64 100)]], .agg [.agg [.lit (.int .i64 8), .lit (.int .i64 1)], .agg [.lit (.int .i64 152), .lit (.int .i64 297)]], .agg [.agg [.lit (.int .i64 8), .lit (.int .i64 2)], .agg [.lit (.int .i64 257), .lit (.int .i64 483)]], .agg [.agg [.lit (.int .i64 8), .lit (.int .i64 3)], .agg [.lit (.int .i64 366), .lit (.int .i64 650)]], .agg [.agg [.lit (.int .i64 16), .lit (.int .i64 0)], .agg [.lit (.int .i64 25), .lit (.int .i64 50)]], .agg [.agg [.lit (.int .i64 16), .lit (.int .i64 1)], .agg [.lit (.int .i64 76), .lit (.int .i64 150)]], .agg [.agg [.lit (.int .i64 16), .lit (.int .i64 2)], .agg [.lit (.int .i64 126), .lit (.int .i64 249)]], .agg [.agg [.lit (.int .i64 16), .lit (.int .i64 3)], .agg [.lit (.int .i64 178), .lit (.int .i64 345)]], .agg [.agg [.lit (.int .i64 16), .lit (.int .i64 4)], .agg [.lit (.int .i64 230), .lit (.int .i64 438)]], .agg [.agg [.lit (.int .i64 16), .lit (.int .i64 5)], .agg [.lit (.int .i64 283), .lit (.int .i64 526)]], .agg [.agg [.lit (.int .i64 16), .lit (.int .i64 6)], .agg [.lit (.int .i64 338), .lit (.int .i64 610)]], .agg [.agg [.lit (.int .i64 16), .lit (.int .i64 7)], .agg [.lit (.int .i64 395), .lit (.int .i64 688)]]]

/-- 'laws.FnTurns': WHATEVER THE INPUT: true; the input reads as it did. -/
def fnTurnsSpec : ChangeSpec := { name := "fnTurns", vars := ["loop.example/g00657/impl.turnRows"], fn := fun _ => fun
  | [d, g1] => { results := [.lit (.bool true)], args := [d], vars := [g1] }
  | _ => none }
def fnTurnsRow : OpenClaim := { program := "ytobdgigeelhdoaadoor", sum := "aa8575e16cb42d54398ad941d89831aaf4dd08eba1f63beeacb9fd6990fe783c", func := "loop.example/g00657/laws.FnTurns", spec := "fnTurns", unfollowed := true, recurses := true, named := ["loop.example/g00657/impl.turnRows"], apart := false, laid := [("loop.example/g00657/impl.turnRows", laid_loop_example_g00657_impl_turnRows)] }
def FnTurnsSaid : Prop := fnTurnsRow.holds Tryd.pinned (OpenSpec.ofChange fnTurnsSpec)

/-- ITS FALSE NEIGHBOUR: 'it returns false'. Refute it at one input. -/
def fnTurnsWrong : ChangeSpec := { name := "fnTurns", vars := ["loop.example/g00657/impl.turnRows"], fn := fun _ => fun
  | [d, g1] => { results := [.lit (.bool false)], args := [d], vars := [g1] }
  | _ => none }
def FnTurnsWrongFalsely : Prop := fnTurnsRow.holds Tryd.pinned (OpenSpec.ofChange fnTurnsWrong)

/-- 'laws.FnExactTurnPair': WHATEVER THE INPUT: true; the input reads as it did. -/
def fnExactTurnPairSpec : ChangeSpec := { name := "fnExactTurnPair", vars := ["loop.example/g00657/impl.turnRows"], fn := fun _ => fun
  | [d1, d2, d3, d4, g1] => { results := [.lit (.bool true)], args := [d1, d2, d3, d4], vars := [g1] }
  | _ => none }
def fnExactTurnPairRow : OpenClaim := { program := "ytobdgigeelhdoaadoor", sum := "aa8575e16cb42d54398ad941d89831aaf4dd08eba1f63beeacb9fd6990fe783c", func := "loop.example/g00657/laws.FnExactTurnPair", spec := "fnExactTurnPair", unfollowed := true, recurses := true, named := ["loop.example/g00657/impl.turnRows"], apart := false, laid := [("loop.example/g00657/impl.turnRows", laid_loop_example_g00657_impl_turnRows)] }
def FnExactTurnPairSaid : Prop := fnExactTurnPairRow.holds Tryd.pinned (OpenSpec.ofChange fnExactTurnPairSpec)

/-- ITS FALSE NEIGHBOUR: 'it returns false'. Refute it at one input. -/
def fnExactTurnPairWrong : ChangeSpec := { name := "fnExactTurnPair", vars := ["loop.example/g00657/impl.turnRows"], fn := fun _ => fun
  | [d1, d2, d3, d4, g1] => { results := [.lit (.bool false)], args := [d1, d2, d3, d4], vars := [g1] }
  | _ => none }
def FnExactTurnPairWrongFalsely : Prop := fnExactTurnPairRow.holds Tryd.pinned (OpenSpec.ofChange fnExactTurnPairWrong)

/-- 'laws.FnExactBackPair': WHATEVER THE INPUT: true; the input reads as it did. -/
def fnExactBackPairSpec : ChangeSpec := { name := "fnExactBackPair", vars := ["loop.example/g00657/impl.turnRows"], fn := fun _ => fun
  | [d1, d2, d3, d4, g1] => { results := [.lit (.bool true)], args := [d1, d2, d3, d4], vars := [g1] }
  | _ => none }
def fnExactBackPairRow : OpenClaim := { program := "ytobdgigeelhdoaadoor", sum := "aa8575e16cb42d54398ad941d89831aaf4dd08eba1f63beeacb9fd6990fe783c", func := "loop.example/g00657/laws.FnExactBackPair", spec := "fnExactBackPair", unfollowed := true, recurses := true, named := ["loop.example/g00657/impl.turnRows"], apart := false, laid := [("loop.example/g00657/impl.turnRows", laid_loop_example_g00657_impl_turnRows)] }
def FnExactBackPairSaid : Prop := fnExactBackPairRow.holds Tryd.pinned (OpenSpec.ofChange fnExactBackPairSpec)

/-- ITS FALSE NEIGHBOUR: 'it returns false'. Refute it at one input. -/
def fnExactBackPairWrong : ChangeSpec := { name := "fnExactBackPair", vars := ["loop.example/g00657/impl.turnRows"], fn := fun _ => fun
  | [d1, d2, d3, d4, g1] => { results := [.lit (.bool false)], args := [d1, d2, d3, d4], vars := [g1] }
  | _ => none }
def FnExactBackPairWrongFalsely : Prop := fnExactBackPairRow.holds Tryd.pinned (OpenSpec.ofChange fnExactBackPairWrong)

/- THE SECOND FORM. 'bulk': how many values and letters a reading holds, each counted each time it is reached (what is shared counts as often as it is met; a slice's spare places count too). A statement '..UptoSaid' is the law's where the arguments, and the package variables that the reading takes, are together of bulk at most 1048576: NARROWER than '..Said'. Prove '..Said' where nothing that the law and all that it calls make is longer than what came in: it says more and counts as full. Else prove '..UptoSaid'. A law counts once. -/
mutual
def uptoBulk {H : Type} : DataW H → Nat
  | .lit (.string bytes) => bytes.length + 1
  | .lit _ => 1
  | .nil => 1
  | .ptr d => uptoBulk d + 1
  | .slice elems spare => uptoBulkAll elems + uptoBulkAll spare + 1
  | .agg parts => uptoBulkAll parts + 1
  | .iface _ d => uptoBulk d + 1
  | .map entries => uptoBulkEntries entries + 1
  | .held _ => 1
def uptoBulkAll {H : Type} : List (DataW H) → Nat
  | [] => 0
  | d :: r => uptoBulk d + uptoBulkAll r
def uptoBulkEntries {H : Type} : List (Lit × DataW H) → Nat
  | [] => 0
  | x :: r => uptoBulkEntry x + uptoBulkEntries r
def uptoBulkEntry {H : Type} : Lit × DataW H → Nat
  | (.string bytes, d) => bytes.length + uptoBulk d + 1
  | (_, d) => uptoBulk d + 1
 end
def uptoSmall : (H : Type) → List (DataW H) → Bool := fun _ ds => decide (uptoBulkAll ds ≤ 1048576)
def OpenSpec.upto (s : _root_.Go.ChangeSpec) : _root_.Go.OpenSpec := { _root_.Go.OpenSpec.ofChange s with cond := some uptoSmall }

/-- 'laws.FnTurns', WHERE WHAT IT READS IS OF BULK AT MOST 1048576: true; the input reads as it did. -/
def fnTurnsUptoRow : OpenClaim := { program := "ytobdgigeelhdoaadoor", sum := "aa8575e16cb42d54398ad941d89831aaf4dd08eba1f63beeacb9fd6990fe783c", func := "loop.example/g00657/laws.FnTurns", spec := "fnTurns", unfollowed := true, recurses := true, named := ["loop.example/g00657/impl.turnRows"], apart := false, laid := [("loop.example/g00657/impl.turnRows", laid_loop_example_g00657_impl_turnRows)], narrowed := true }
def FnTurnsUptoSaid : Prop := fnTurnsUptoRow.holds Tryd.pinned (OpenSpec.upto fnTurnsSpec)

/-- 'laws.FnExactTurnPair', WHERE WHAT IT READS IS OF BULK AT MOST 1048576: true; the input reads as it did. -/
def fnExactTurnPairUptoRow : OpenClaim := { program := "ytobdgigeelhdoaadoor", sum := "aa8575e16cb42d54398ad941d89831aaf4dd08eba1f63beeacb9fd6990fe783c", func := "loop.example/g00657/laws.FnExactTurnPair", spec := "fnExactTurnPair", unfollowed := true, recurses := true, named := ["loop.example/g00657/impl.turnRows"], apart := false, laid := [("loop.example/g00657/impl.turnRows", laid_loop_example_g00657_impl_turnRows)], narrowed := true }
def FnExactTurnPairUptoSaid : Prop := fnExactTurnPairUptoRow.holds Tryd.pinned (OpenSpec.upto fnExactTurnPairSpec)

/-- 'laws.FnExactBackPair', WHERE WHAT IT READS IS OF BULK AT MOST 1048576: true; the input reads as it did. -/
def fnExactBackPairUptoRow : OpenClaim := { program := "ytobdgigeelhdoaadoor", sum := "aa8575e16cb42d54398ad941d89831aaf4dd08eba1f63beeacb9fd6990fe783c", func := "loop.example/g00657/laws.FnExactBackPair", spec := "fnExactBackPair", unfollowed := true, recurses := true, named := ["loop.example/g00657/impl.turnRows"], apart := false, laid := [("loop.example/g00657/impl.turnRows", laid_loop_example_g00657_impl_turnRows)], narrowed := true }
def FnExactBackPairUptoSaid : Prop := fnExactBackPairUptoRow.holds Tryd.pinned (OpenSpec.upto fnExactBackPairSpec)

end Rows
end Go.Proofs.YtobdgigeelhdoaaDoor
