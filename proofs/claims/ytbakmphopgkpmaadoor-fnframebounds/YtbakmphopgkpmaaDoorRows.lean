/-
  NARROWER THAN 'FOR EVERY INPUT', by the rows' own cells (each row's printed sentence says how): FnPairBounds: laid · FnGathers: laid · FnFrameBounds: laid · FnExactTurnBounds: laid · FnExactGatherBounds: laid · FnExactFrameBounds: laid.
  DERIVED. THE GIVEN ROWS OF THIS SEAT. 6 by the template 'for every input the law returns true; each argument reads behind the call as it read before'; 0 by the template 'total and deterministic' (their statements: YtbakmphopgkpmaaDoorTotals.lean).
  GIVEN WITH THE SEED: the statements are not yours to turn. If you find one false, say at which input.
  Laid BY PROGRAM, IN A SANDBOX (cutbox-rows.mjs): the forced cells as the released guide's own fill.sh prints them over the translation 8c1d20e8d8c3f110… (all of the seat's roots in one cut). By AI agents, Wed Nov 11 2026. No macro, syntax, notation, axiom, sorry.
-/
import Derived.Test.YtbakmphopgkpmaaDoorChecked
import GoSem.Claim
import GoSem.ClaimJoined
import GoSem.ClaimMapViews
import Derived.JoinedTies
import Derived.KernelRfl
namespace Go.Proofs.YtbakmphopgkpmaaDoor
/- THE CELL 'sum', in the pinned program and in every row, IS THE sha256 OF THE DUMP (.gsa) THAT YtbakmphopgkpmaaDoorProg.lean LOADS. Nothing in Lean hashes anything: it is a label: what it is worth is what the hold of that sum in a sandbox is worth. -/
noncomputable def Tryd.pinned : Pinned := { name := "ytbakmphopgkpmaadoor", sum := "8c1d20e8d8c3f110190e39e389e599f03ea44c83f6957d82c40df8017a03dfb2", checked := Tryd.checked }
namespace Rows
def none {H : Type} : Left H := { results := [], args := [] }

/- WHAT THE LISTED PACKAGE-LEVEL VARIABLES READ AS WHEN THE CALL BEGINS. Each datum BY PROGRAM (the guide's laid-datum.mjs) off the statement by which the dump's own 'gosem.cut.vars' lays the variable. In a bare row this is a premise. The card (YtbakmphopgkpmaaDoorCards.lean) ties it to the program's text. -/
def laid_loop_example_g00657_impl_turnRows {H : Type} : DataW H := .agg [.agg [.agg [.lit (.int .i64 4), .lit (.int .i64 0)], .agg [.lit (.int .i64 101), .lit (.int .i64 200)]], .agg [.agg [.lit (.int .i64 4), .lit (.int .i64 1)], .agg [.lit (.int .i64 311), .lit (.int .i64 569)]], .agg [.agg [.lit (.int .i64 8), .lit (.int .i64 0)], .agg [.lit (.int .i64 50), .lit (.int .i64 100)]], .agg [.agg [.lit (.int .i64 8), .lit (.int .i64 1)], .agg [.lit (.int .i64 152), .lit (.int .i64 297)]], .agg [.agg [.lit (.int .i64 8), .lit (.int .i64 2)], .agg [.lit (.int .i64 257), .lit (.int .i64 483)]], .agg [.agg [.lit (.int .i64 8), .lit (.int .i64 3)], .agg [.lit (.int .i64 366), .lit (.int .i64 650)]], .agg [.agg [.lit (.int .i64 16), .lit (.int .i64 0)], .agg [.lit (.int .i64 25), .lit (.int .i64 50)]], .agg [.agg [.lit (.int .i64 16), .lit (.int .i64 1)], .agg [.lit (.int .i64 76), .lit (.int .i64 150)]], .agg [.agg [.lit (.int .i64 16), .lit (.int .i64 2)], .agg [.lit (.int .i64 126), .lit (.int .i64 249)]], .agg [.agg [.lit (.int .i64 16), .lit (.int .i64 3)], .agg [.lit (.int .i64 178), .lit (.int .i64 345)]], .agg [.agg [.lit (.int .i64 16), .lit (.int .i64 4)], .agg [.lit (.int .i64 230), .lit (.int .i64 438)]], .agg [.agg [.lit (.int .i64 16), .lit (.int .i64 5)], .agg [.lit (.int .i64 283), .lit (.int .i64 526)]], .agg [.agg [.lit (.int .i64 16), .lit (.int .i64 6)], .agg [.lit (.int .i64 338), .lit (.int .i64 610)]], .agg [.agg [.lit (.int .i64 16), .lit (.int .i64 7)], .agg [.lit (.int .i64 395), .lit (.int .i64 688)]]]

/-- 'laws.FnPairBounds': WHATEVER THE INPUT: true; the input reads as it did. -/
def fnPairBoundsSpec : ChangeSpec := { name := "fnPairBounds", vars := ["loop.example/g00657/impl.turnRows"], fn := fun _ => fun
  | [d, g1] => { results := [.lit (.bool true)], args := [d], vars := [g1] }
  | _ => none }
def fnPairBoundsRow : OpenClaim := { program := "ytbakmphopgkpmaadoor", sum := "8c1d20e8d8c3f110190e39e389e599f03ea44c83f6957d82c40df8017a03dfb2", func := "loop.example/g00657/laws.FnPairBounds", spec := "fnPairBounds", unfollowed := true, recurses := true, named := ["loop.example/g00657/impl.turnRows"], apart := false, laid := [("loop.example/g00657/impl.turnRows", laid_loop_example_g00657_impl_turnRows)] }
def FnPairBoundsSaid : Prop := fnPairBoundsRow.holds Tryd.pinned (OpenSpec.ofChange fnPairBoundsSpec)

/-- ITS FALSE NEIGHBOUR: 'it returns false'. Refute it at one input. -/
def fnPairBoundsWrong : ChangeSpec := { name := "fnPairBounds", vars := ["loop.example/g00657/impl.turnRows"], fn := fun _ => fun
  | [d, g1] => { results := [.lit (.bool false)], args := [d], vars := [g1] }
  | _ => none }
def FnPairBoundsWrongFalsely : Prop := fnPairBoundsRow.holds Tryd.pinned (OpenSpec.ofChange fnPairBoundsWrong)

/-- 'laws.FnGathers': WHATEVER THE INPUT: true; the input reads as it did. -/
def fnGathersSpec : ChangeSpec := { name := "fnGathers", vars := ["loop.example/g00657/impl.turnRows"], fn := fun _ => fun
  | [d, g1] => { results := [.lit (.bool true)], args := [d], vars := [g1] }
  | _ => none }
def fnGathersRow : OpenClaim := { program := "ytbakmphopgkpmaadoor", sum := "8c1d20e8d8c3f110190e39e389e599f03ea44c83f6957d82c40df8017a03dfb2", func := "loop.example/g00657/laws.FnGathers", spec := "fnGathers", unfollowed := true, recurses := true, named := ["loop.example/g00657/impl.turnRows"], apart := false, laid := [("loop.example/g00657/impl.turnRows", laid_loop_example_g00657_impl_turnRows)] }
def FnGathersSaid : Prop := fnGathersRow.holds Tryd.pinned (OpenSpec.ofChange fnGathersSpec)

/-- ITS FALSE NEIGHBOUR: 'it returns false'. Refute it at one input. -/
def fnGathersWrong : ChangeSpec := { name := "fnGathers", vars := ["loop.example/g00657/impl.turnRows"], fn := fun _ => fun
  | [d, g1] => { results := [.lit (.bool false)], args := [d], vars := [g1] }
  | _ => none }
def FnGathersWrongFalsely : Prop := fnGathersRow.holds Tryd.pinned (OpenSpec.ofChange fnGathersWrong)

/-- 'laws.FnFrameBounds': WHATEVER THE INPUT: true; the input reads as it did. -/
def fnFrameBoundsSpec : ChangeSpec := { name := "fnFrameBounds", vars := ["loop.example/g00657/impl.turnRows"], fn := fun _ => fun
  | [d, g1] => { results := [.lit (.bool true)], args := [d], vars := [g1] }
  | _ => none }
def fnFrameBoundsRow : OpenClaim := { program := "ytbakmphopgkpmaadoor", sum := "8c1d20e8d8c3f110190e39e389e599f03ea44c83f6957d82c40df8017a03dfb2", func := "loop.example/g00657/laws.FnFrameBounds", spec := "fnFrameBounds", unfollowed := true, recurses := true, named := ["loop.example/g00657/impl.turnRows"], apart := false, laid := [("loop.example/g00657/impl.turnRows", laid_loop_example_g00657_impl_turnRows)] }
def FnFrameBoundsSaid : Prop := fnFrameBoundsRow.holds Tryd.pinned (OpenSpec.ofChange fnFrameBoundsSpec)

/-- ITS FALSE NEIGHBOUR: 'it returns false'. Refute it at one input. -/
def fnFrameBoundsWrong : ChangeSpec := { name := "fnFrameBounds", vars := ["loop.example/g00657/impl.turnRows"], fn := fun _ => fun
  | [d, g1] => { results := [.lit (.bool false)], args := [d], vars := [g1] }
  | _ => none }
def FnFrameBoundsWrongFalsely : Prop := fnFrameBoundsRow.holds Tryd.pinned (OpenSpec.ofChange fnFrameBoundsWrong)

/-- 'laws.FnExactTurnBounds': WHATEVER THE INPUT: true; the input reads as it did. -/
def fnExactTurnBoundsSpec : ChangeSpec := { name := "fnExactTurnBounds", vars := ["loop.example/g00657/impl.turnRows"], fn := fun _ => fun
  | [d1, d2, d3, d4, g1] => { results := [.lit (.bool true)], args := [d1, d2, d3, d4], vars := [g1] }
  | _ => none }
def fnExactTurnBoundsRow : OpenClaim := { program := "ytbakmphopgkpmaadoor", sum := "8c1d20e8d8c3f110190e39e389e599f03ea44c83f6957d82c40df8017a03dfb2", func := "loop.example/g00657/laws.FnExactTurnBounds", spec := "fnExactTurnBounds", unfollowed := true, recurses := true, named := ["loop.example/g00657/impl.turnRows"], apart := false, laid := [("loop.example/g00657/impl.turnRows", laid_loop_example_g00657_impl_turnRows)] }
def FnExactTurnBoundsSaid : Prop := fnExactTurnBoundsRow.holds Tryd.pinned (OpenSpec.ofChange fnExactTurnBoundsSpec)

/-- ITS FALSE NEIGHBOUR: 'it returns false'. Refute it at one input. -/
def fnExactTurnBoundsWrong : ChangeSpec := { name := "fnExactTurnBounds", vars := ["loop.example/g00657/impl.turnRows"], fn := fun _ => fun
  | [d1, d2, d3, d4, g1] => { results := [.lit (.bool false)], args := [d1, d2, d3, d4], vars := [g1] }
  | _ => none }
def FnExactTurnBoundsWrongFalsely : Prop := fnExactTurnBoundsRow.holds Tryd.pinned (OpenSpec.ofChange fnExactTurnBoundsWrong)

/-- 'laws.FnExactGatherBounds': WHATEVER THE INPUT: true; the input reads as it did. -/
def fnExactGatherBoundsSpec : ChangeSpec := { name := "fnExactGatherBounds", vars := ["loop.example/g00657/impl.turnRows"], fn := fun _ => fun
  | [d, g1] => { results := [.lit (.bool true)], args := [d], vars := [g1] }
  | _ => none }
def fnExactGatherBoundsRow : OpenClaim := { program := "ytbakmphopgkpmaadoor", sum := "8c1d20e8d8c3f110190e39e389e599f03ea44c83f6957d82c40df8017a03dfb2", func := "loop.example/g00657/laws.FnExactGatherBounds", spec := "fnExactGatherBounds", unfollowed := true, recurses := true, named := ["loop.example/g00657/impl.turnRows"], apart := false, laid := [("loop.example/g00657/impl.turnRows", laid_loop_example_g00657_impl_turnRows)] }
def FnExactGatherBoundsSaid : Prop := fnExactGatherBoundsRow.holds Tryd.pinned (OpenSpec.ofChange fnExactGatherBoundsSpec)

/-- ITS FALSE NEIGHBOUR: 'it returns false'. Refute it at one input. -/
def fnExactGatherBoundsWrong : ChangeSpec := { name := "fnExactGatherBounds", vars := ["loop.example/g00657/impl.turnRows"], fn := fun _ => fun
  | [d, g1] => { results := [.lit (.bool false)], args := [d], vars := [g1] }
  | _ => none }
def FnExactGatherBoundsWrongFalsely : Prop := fnExactGatherBoundsRow.holds Tryd.pinned (OpenSpec.ofChange fnExactGatherBoundsWrong)

/-- 'laws.FnExactFrameBounds': WHATEVER THE INPUT: true; the input reads as it did. -/
def fnExactFrameBoundsSpec : ChangeSpec := { name := "fnExactFrameBounds", vars := ["loop.example/g00657/impl.turnRows"], fn := fun _ => fun
  | [d1, d2, d3, d4, g1] => { results := [.lit (.bool true)], args := [d1, d2, d3, d4], vars := [g1] }
  | _ => none }
def fnExactFrameBoundsRow : OpenClaim := { program := "ytbakmphopgkpmaadoor", sum := "8c1d20e8d8c3f110190e39e389e599f03ea44c83f6957d82c40df8017a03dfb2", func := "loop.example/g00657/laws.FnExactFrameBounds", spec := "fnExactFrameBounds", unfollowed := true, recurses := true, named := ["loop.example/g00657/impl.turnRows"], apart := false, laid := [("loop.example/g00657/impl.turnRows", laid_loop_example_g00657_impl_turnRows)] }
def FnExactFrameBoundsSaid : Prop := fnExactFrameBoundsRow.holds Tryd.pinned (OpenSpec.ofChange fnExactFrameBoundsSpec)

/-- ITS FALSE NEIGHBOUR: 'it returns false'. Refute it at one input. -/
def fnExactFrameBoundsWrong : ChangeSpec := { name := "fnExactFrameBounds", vars := ["loop.example/g00657/impl.turnRows"], fn := fun _ => fun
  | [d1, d2, d3, d4, g1] => { results := [.lit (.bool false)], args := [d1, d2, d3, d4], vars := [g1] }
  | _ => none }
def FnExactFrameBoundsWrongFalsely : Prop := fnExactFrameBoundsRow.holds Tryd.pinned (OpenSpec.ofChange fnExactFrameBoundsWrong)

/- THE SECOND FORM. 'bulk': how many values and letters a reading holds, each counted each time it is reached (what is shared counts as often as it is met; a slice's spare places count too). A statement '..UptoSaid' is the law's where the arguments, and the package variables that the reading takes, are together of bulk at most 1048576: NARROWER than '..Said'. Prove '..Said' where nothing that the law and all that it calls make is longer than what came in: it says more and counts as full. Else prove '..UptoSaid'. A law counts once. -/
mutual
def uptoBulk {H : Type} : DataW H → Nat
  | .lit (.string bytes) => bytes.length + 1
  | .lit _ => 1
  | .nil => 1
  | .ptr d => uptoBulk d + 1
  | .slice elems spare => uptoBulkAll elems + uptoBulkAll spare + 1
  | .agg parts => uptoBulkAll parts + 1
  | .iface _ d => uptoBulk d + 1
  | .map entries => uptoBulkEntries entries + 1
  | .held _ => 1
def uptoBulkAll {H : Type} : List (DataW H) → Nat
  | [] => 0
  | d :: r => uptoBulk d + uptoBulkAll r
def uptoBulkEntries {H : Type} : List (Lit × DataW H) → Nat
  | [] => 0
  | x :: r => uptoBulkEntry x + uptoBulkEntries r
def uptoBulkEntry {H : Type} : Lit × DataW H → Nat
  | (.string bytes, d) => bytes.length + uptoBulk d + 1
  | (_, d) => uptoBulk d + 1
 end
def uptoSmall : (H : Type) → List (DataW H) → Bool := fun _ ds => decide (uptoBulkAll ds ≤ 1048576)
def OpenSpec.upto (s : _root_.Go.ChangeSpec) : _root_.Go.OpenSpec := { _root_.Go.OpenSpec.ofChange s with cond := some uptoSmall }

/-- 'laws.FnPairBounds', WHERE WHAT IT READS IS OF BULK AT MOST 1048576: true; the input reads as it did. -/
def fnPairBoundsUptoRow : OpenClaim := { program := "ytbakmphopgkpmaadoor", sum := "8c1d20e8d8c3f110190e39e389e599f03ea44c83f6957d82c40df8017a03dfb2", func := "loop.example/g00657/laws.FnPairBounds", spec := "fnPairBounds", unfollowed := true, recurses := true, named := ["loop.example/g00657/impl.turnRows"], apart := false, laid := [("loop.example/g00657/impl.turnRows", laid_loop_example_g00657_impl_turnRows)], narrowed := true }
def FnPairBoundsUptoSaid : Prop := fnPairBoundsUptoRow.holds Tryd.pinned (OpenSpec.upto fnPairBoundsSpec)

/-- 'laws.FnGathers', WHERE WHAT IT READS IS OF BULK AT MOST 1048576: true; the input reads as it did. -/
def fnGathersUptoRow : OpenClaim := { program := "ytbakmphopgkpmaadoor", sum := "8c1d20e8d8c3f110190e39e389e599f03ea44c83f6957d82c40df8017a03dfb2", func := "loop.example/g00657/laws.FnGathers", spec := "fnGathers", unfollowed := true, recurses := true, named := ["loop.example/g00657/impl.turnRows"], apart := false, laid := [("loop.example/g00657/impl.turnRows", laid_loop_example_g00657_impl_turnRows)], narrowed := true }
def FnGathersUptoSaid : Prop := fnGathersUptoRow.holds Tryd.pinned (OpenSpec.upto fnGathersSpec)

/-- 'laws.FnFrameBounds', WHERE WHAT IT READS IS OF BULK AT MOST 1048576: true; the input reads as it did. -/
def fnFrameBoundsUptoRow : OpenClaim := { program := "ytbakmphopgkpmaadoor", sum := "8c1d20e8d8c3f110190e39e389e599f03ea44c83f6957d82c40df8017a03dfb2", func := "loop.example/g00657/laws.FnFrameBounds", spec := "fnFrameBounds", unfollowed := true, recurses := true, named := ["loop.example/g00657/impl.turnRows"], apart := false, laid := [("loop.example/g00657/impl.turnRows", laid_loop_example_g00657_impl_turnRows)], narrowed := true }
def FnFrameBoundsUptoSaid : Prop := fnFrameBoundsUptoRow.holds Tryd.pinned (OpenSpec.upto fnFrameBoundsSpec)

/-- 'laws.FnExactTurnBounds', WHERE WHAT IT READS IS OF BULK AT MOST 1048576: true; the input reads as it did. -/
def fnExactTurnBoundsUptoRow : OpenClaim := { program := "ytbakmphopgkpmaadoor", sum := "8c1d20e8d8c3f110190e39e389e599f03ea44c83f6957d82c40df8017a03dfb2", func := "loop.example/g00657/laws.FnExactTurnBounds", spec := "fnExactTurnBounds", unfollowed := true, recurses := true, named := ["loop.example/g00657/impl.turnRows"], apart := false, laid := [("loop.example/g00657/impl.turnRows", laid_loop_example_g00657_impl_turnRows)], narrowed := true }
def FnExactTurnBoundsUptoSaid : Prop := fnExactTurnBoundsUptoRow.holds Tryd.pinned (OpenSpec.upto fnExactTurnBoundsSpec)

/-- 'laws.FnExactGatherBounds', WHERE WHAT IT READS IS OF BULK AT MOST 1048576: true; the input reads as it did. -/
def fnExactGatherBoundsUptoRow : OpenClaim := { program := "ytbakmphopgkpmaadoor", sum := "8c1d20e8d8c3f110190e39e389e599f03ea44c83f6957d82c40df8017a03dfb2", func := "loop.example/g00657/laws.FnExactGatherBounds", spec := "fnExactGatherBounds", unfollowed := true, recurses := true, named := ["loop.example/g00657/impl.turnRows"], apart := false, laid := [("loop.example/g00657/impl.turnRows", laid_loop_example_g00657_impl_turnRows)], narrowed := true }
def FnExactGatherBoundsUptoSaid : Prop := fnExactGatherBoundsUptoRow.holds Tryd.pinned (OpenSpec.upto fnExactGatherBoundsSpec)

/-- 'laws.FnExactFrameBounds', WHERE WHAT IT READS IS OF BULK AT MOST 1048576: true; the input reads as it did. -/
def fnExactFrameBoundsUptoRow : OpenClaim := { program := "ytbakmphopgkpmaadoor", sum := "8c1d20e8d8c3f110190e39e389e599f03ea44c83f6957d82c40df8017a03dfb2", func := "loop.example/g00657/laws.FnExactFrameBounds", spec := "fnExactFrameBounds", unfollowed := true, recurses := true, named := ["loop.example/g00657/impl.turnRows"], apart := false, laid := [("loop.example/g00657/impl.turnRows", laid_loop_example_g00657_impl_turnRows)], narrowed := true }
def FnExactFrameBoundsUptoSaid : Prop := fnExactFrameBoundsUptoRow.holds Tryd.pinned (OpenSpec.upto fnExactFrameBoundsSpec)

end Rows
end Go.Proofs.YtbakmphopgkpmaaDoor
