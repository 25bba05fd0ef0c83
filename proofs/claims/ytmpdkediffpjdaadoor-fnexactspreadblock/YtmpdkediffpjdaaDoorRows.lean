/-
  NARROWER THAN 'FOR EVERY INPUT', by the rows' own cells (each row's printed sentence says how): FnBlocks: laid · FnCoefs: laid · FnExactHalveList: laid · FnExactUniteHalves: laid · FnExactSpreadBlock: laid · FnExactGatherBlock: laid.
  DERIVED. THE GIVEN ROWS OF THIS SEAT. 6 by the template 'for every input the law returns true; each argument reads behind the call as it read before'; 0 by the template 'total and deterministic' (their statements: YtmpdkediffpjdaaDoorTotals.lean).
  GIVEN WITH THE SEED: the statements are not yours to turn. If you find one false, say at which input.
  Laid BY PROGRAM, IN A SANDBOX (cutbox-rows.mjs): the forced cells as the released guide's own fill.sh prints them over the translation 04eae1f58d1d5d12… (all of the seat's roots in one cut). By AI agents, Wed Nov 11 2026. No macro, syntax, notation, axiom, sorry.
-/
import Derived.Test.YtmpdkediffpjdaaDoorChecked
import GoSem.Claim
import GoSem.ClaimJoined
import GoSem.ClaimMapViews
import Derived.JoinedTies
import Derived.KernelRfl
namespace Go.Proofs.YtmpdkediffpjdaaDoor
/- THE CELL 'sum', in the pinned program and in every row, IS THE sha256 OF THE DUMP (.gsa) THAT YtmpdkediffpjdaaDoorProg.lean LOADS. Nothing in Lean hashes anything: it is a label: what it is worth is what the hold of that sum in a sandbox is worth. -/
noncomputable def Tryd.pinned : Pinned := { name := "ytmpdkediffpjdaadoor", sum := "04eae1f58d1d5d126e9c77f86013204a68d2c80d68eef4671aa9043b94d43e46", checked := Tryd.checked }
namespace Rows
def none {H : Type} : Left H := { results := [], args := [] }

/- WHAT THE LISTED PACKAGE-LEVEL VARIABLES READ AS WHEN THE CALL BEGINS. Each datum BY PROGRAM (the guide's laid-datum.mjs) off the statement by which the dump's own 'gosem.cut.vars' lays the variable. In a bare row this is a premise. The card (YtmpdkediffpjdaaDoorCards.lean) ties it to the program's text. -/
def laid_loop_example_g00657_impl_turnRows {H : Type} : DataW H := .agg [.agg [.agg [.lit (.int .i64 4), .lit (.int .i64 0)], .agg [.lit (.int .i64 101), .lit (.int .i64 200)]], .agg [.agg [.lit (.int .i64 4), .lit (.int .i64 1)], .agg [.lit (.int .i64 311), .lit (.int .i64 569)]], .agg [.agg [.lit (.int .i64 8), .lit (.int .i64 0)], .agg [.lit (.int .i64 50), .lit (.int .i64 100)]], .agg [.agg [.lit (.int .i64 8), .lit (.int .i64 1)], .agg [.lit (.int .i64 152), .lit (.int .i64 297)]], .agg [.agg [.lit (.int .i64 8), .lit (.int .i64 2)], .agg [.lit (.int .i64 257), .lit (.int .i64 483)]], .agg [.agg [.lit (.int .i64 8), .lit (.int .i64 3)], .agg [.lit (.int .i64 366), .lit (.int .i64 650)]], .agg [.agg [.lit (.int .i64 16), .lit (.int .i64 0)], .agg [.lit (.int .i64 25), .lit (.int .i64 50)]], .agg [.agg [.lit (.int .i64 16), .lit (.int .i64 1)], .agg [.lit (.int .i64 76), .lit (.int .i64 150)]], .agg [.agg [.lit (.int .i64 16), .lit (.int .i64 2)], .agg [.lit (.int .i64 126), .lit (.int .i64 249)]], .agg [.agg [.lit (.int .i64 16), .lit (.int .i64 3)], .agg [.lit (.int .i64 178), .lit (.int .i64 345)]], .agg [.agg [.lit (.int .i64 16), .lit (.int .i64 4)], .agg [.lit (.int .i64 230), .lit (.int .i64 438)]], .agg [.agg [.lit (.int .i64 16), .lit (.int .i64 5)], .agg [.lit (.int .i64 283), .lit (.int .i64 526)]], .agg [.agg [.lit (.int .i64 16), .lit (.int .i64 6)], .agg [.lit (.int .i64 338), .lit (.int .i64 610)]], .agg [.agg [.lit (.int .i64 16), .lit (.int .i64 7)], .agg [.lit (.int .i64 395), .lit (.int .i64 688)]]]

/-- 'laws.FnBlocks': WHATEVER THE INPUT: true; the input reads as it did. -/
def fnBlocksSpec : ChangeSpec := { name := "fnBlocks", vars := ["loop.example/g00657/impl.turnRows"], fn := fun _ => fun
  | [d, g1] => { results := [.lit (.bool true)], args := [d], vars := [g1] }
  | _ => none }
def fnBlocksRow : OpenClaim := { program := "ytmpdkediffpjdaadoor", sum := "04eae1f58d1d5d126e9c77f86013204a68d2c80d68eef4671aa9043b94d43e46", func := "loop.example/g00657/laws.FnBlocks", spec := "fnBlocks", unfollowed := true, recurses := true, named := ["loop.example/g00657/impl.turnRows"], apart := false, laid := [("loop.example/g00657/impl.turnRows", laid_loop_example_g00657_impl_turnRows)] }
def FnBlocksSaid : Prop := fnBlocksRow.holds Tryd.pinned (OpenSpec.ofChange fnBlocksSpec)

/-- ITS FALSE NEIGHBOUR: 'it returns false'. Refute it at one input. -/
def fnBlocksWrong : ChangeSpec := { name := "fnBlocks", vars := ["loop.example/g00657/impl.turnRows"], fn := fun _ => fun
  | [d, g1] => { results := [.lit (.bool false)], args := [d], vars := [g1] }
  | _ => none }
def FnBlocksWrongFalsely : Prop := fnBlocksRow.holds Tryd.pinned (OpenSpec.ofChange fnBlocksWrong)

/-- 'laws.FnCoefs': WHATEVER THE INPUT: true; the input reads as it did. -/
def fnCoefsSpec : ChangeSpec := { name := "fnCoefs", vars := ["loop.example/g00657/impl.turnRows"], fn := fun _ => fun
  | [d, g1] => { results := [.lit (.bool true)], args := [d], vars := [g1] }
  | _ => none }
def fnCoefsRow : OpenClaim := { program := "ytmpdkediffpjdaadoor", sum := "04eae1f58d1d5d126e9c77f86013204a68d2c80d68eef4671aa9043b94d43e46", func := "loop.example/g00657/laws.FnCoefs", spec := "fnCoefs", unfollowed := true, recurses := true, named := ["loop.example/g00657/impl.turnRows"], apart := false, laid := [("loop.example/g00657/impl.turnRows", laid_loop_example_g00657_impl_turnRows)] }
def FnCoefsSaid : Prop := fnCoefsRow.holds Tryd.pinned (OpenSpec.ofChange fnCoefsSpec)

/-- ITS FALSE NEIGHBOUR: 'it returns false'. Refute it at one input. -/
def fnCoefsWrong : ChangeSpec := { name := "fnCoefs", vars := ["loop.example/g00657/impl.turnRows"], fn := fun _ => fun
  | [d, g1] => { results := [.lit (.bool false)], args := [d], vars := [g1] }
  | _ => none }
def FnCoefsWrongFalsely : Prop := fnCoefsRow.holds Tryd.pinned (OpenSpec.ofChange fnCoefsWrong)

/-- 'laws.FnExactHalveList': WHATEVER THE INPUT: true; the input reads as it did. -/
def fnExactHalveListSpec : ChangeSpec := { name := "fnExactHalveList", vars := ["loop.example/g00657/impl.turnRows"], fn := fun _ => fun
  | [d, g1] => { results := [.lit (.bool true)], args := [d], vars := [g1] }
  | _ => none }
def fnExactHalveListRow : OpenClaim := { program := "ytmpdkediffpjdaadoor", sum := "04eae1f58d1d5d126e9c77f86013204a68d2c80d68eef4671aa9043b94d43e46", func := "loop.example/g00657/laws.FnExactHalveList", spec := "fnExactHalveList", unfollowed := true, recurses := true, named := ["loop.example/g00657/impl.turnRows"], apart := false, laid := [("loop.example/g00657/impl.turnRows", laid_loop_example_g00657_impl_turnRows)] }
def FnExactHalveListSaid : Prop := fnExactHalveListRow.holds Tryd.pinned (OpenSpec.ofChange fnExactHalveListSpec)

/-- ITS FALSE NEIGHBOUR: 'it returns false'. Refute it at one input. -/
def fnExactHalveListWrong : ChangeSpec := { name := "fnExactHalveList", vars := ["loop.example/g00657/impl.turnRows"], fn := fun _ => fun
  | [d, g1] => { results := [.lit (.bool false)], args := [d], vars := [g1] }
  | _ => none }
def FnExactHalveListWrongFalsely : Prop := fnExactHalveListRow.holds Tryd.pinned (OpenSpec.ofChange fnExactHalveListWrong)

/-- 'laws.FnExactUniteHalves': WHATEVER THE INPUT: true; the input reads as it did. -/
def fnExactUniteHalvesSpec : ChangeSpec := { name := "fnExactUniteHalves", vars := ["loop.example/g00657/impl.turnRows"], fn := fun _ => fun
  | [d1, d2, g1] => { results := [.lit (.bool true)], args := [d1, d2], vars := [g1] }
  | _ => none }
def fnExactUniteHalvesRow : OpenClaim := { program := "ytmpdkediffpjdaadoor", sum := "04eae1f58d1d5d126e9c77f86013204a68d2c80d68eef4671aa9043b94d43e46", func := "loop.example/g00657/laws.FnExactUniteHalves", spec := "fnExactUniteHalves", unfollowed := true, recurses := true, named := ["loop.example/g00657/impl.turnRows"], apart := false, laid := [("loop.example/g00657/impl.turnRows", laid_loop_example_g00657_impl_turnRows)] }
def FnExactUniteHalvesSaid : Prop := fnExactUniteHalvesRow.holds Tryd.pinned (OpenSpec.ofChange fnExactUniteHalvesSpec)

/-- ITS FALSE NEIGHBOUR: 'it returns false'. Refute it at one input. -/
def fnExactUniteHalvesWrong : ChangeSpec := { name := "fnExactUniteHalves", vars := ["loop.example/g00657/impl.turnRows"], fn := fun _ => fun
  | [d1, d2, g1] => { results := [.lit (.bool false)], args := [d1, d2], vars := [g1] }
  | _ => none }
def FnExactUniteHalvesWrongFalsely : Prop := fnExactUniteHalvesRow.holds Tryd.pinned (OpenSpec.ofChange fnExactUniteHalvesWrong)

/-- 'laws.FnExactSpreadBlock': WHATEVER THE INPUT: true; the input reads as it did. -/
def fnExactSpreadBlockSpec : ChangeSpec := { name := "fnExactSpreadBlock", vars := ["loop.example/g00657/impl.turnRows"], fn := fun _ => fun
  | [d, g1] => { results := [.lit (.bool true)], args := [d], vars := [g1] }
  | _ => none }
def fnExactSpreadBlockRow : OpenClaim := { program := "ytmpdkediffpjdaadoor", sum := "04eae1f58d1d5d126e9c77f86013204a68d2c80d68eef4671aa9043b94d43e46", func := "loop.example/g00657/laws.FnExactSpreadBlock", spec := "fnExactSpreadBlock", unfollowed := true, recurses := true, named := ["loop.example/g00657/impl.turnRows"], apart := false, laid := [("loop.example/g00657/impl.turnRows", laid_loop_example_g00657_impl_turnRows)] }
def FnExactSpreadBlockSaid : Prop := fnExactSpreadBlockRow.holds Tryd.pinned (OpenSpec.ofChange fnExactSpreadBlockSpec)

/-- ITS FALSE NEIGHBOUR: 'it returns false'. Refute it at one input. -/
def fnExactSpreadBlockWrong : ChangeSpec := { name := "fnExactSpreadBlock", vars := ["loop.example/g00657/impl.turnRows"], fn := fun _ => fun
  | [d, g1] => { results := [.lit (.bool false)], args := [d], vars := [g1] }
  | _ => none }
def FnExactSpreadBlockWrongFalsely : Prop := fnExactSpreadBlockRow.holds Tryd.pinned (OpenSpec.ofChange fnExactSpreadBlockWrong)

/-- 'laws.FnExactGatherBlock': WHATEVER THE INPUT: true; the input reads as it did. -/
def fnExactGatherBlockSpec : ChangeSpec := { name := "fnExactGatherBlock", vars := ["loop.example/g00657/impl.turnRows"], fn := fun _ => fun
  | [d, g1] => { results := [.lit (.bool true)], args := [d], vars := [g1] }
  | _ => none }
def fnExactGatherBlockRow : OpenClaim := { program := "ytmpdkediffpjdaadoor", sum := "04eae1f58d1d5d126e9c77f86013204a68d2c80d68eef4671aa9043b94d43e46", func := "loop.example/g00657/laws.FnExactGatherBlock", spec := "fnExactGatherBlock", unfollowed := true, recurses := true, named := ["loop.example/g00657/impl.turnRows"], apart := false, laid := [("loop.example/g00657/impl.turnRows", laid_loop_example_g00657_impl_turnRows)] }
def FnExactGatherBlockSaid : Prop := fnExactGatherBlockRow.holds Tryd.pinned (OpenSpec.ofChange fnExactGatherBlockSpec)

/-- ITS FALSE NEIGHBOUR: 'it returns false'. Refute it at one input. -/
def fnExactGatherBlockWrong : ChangeSpec := { name := "fnExactGatherBlock", vars := ["loop.example/g00657/impl.turnRows"], fn := fun _ => fun
  | [d, g1] => { results := [.lit (.bool false)], args := [d], vars := [g1] }
  | _ => none }
def FnExactGatherBlockWrongFalsely : Prop := fnExactGatherBlockRow.holds Tryd.pinned (OpenSpec.ofChange fnExactGatherBlockWrong)

/- THE SECOND FORM. 'bulk': how many values and letters a reading holds, each counted each time it is reached (what is shared counts as often as it is met; a slice's spare places count too). A statement '..UptoSaid' is the law's where the arguments, and the package variables that the reading takes, are together of bulk at most 1048576: NARROWER than '..Said'. Prove '..Said' where nothing that the law and all that it calls make is longer than what came in: it says more and counts as full. Else prove '..UptoSaid'. A law counts once. -/
mutual
def uptoBulk {H : Type} : DataW H → Nat
  | .lit (.string bytes) => bytes.length + 1
  | .lit _ => 1
  | .nil => 1
  | .ptr d => uptoBulk d + 1
  | .slice elems spare => uptoBulkAll elems + uptoBulkAll spare + 1
  | .agg parts => uptoBulkAll parts + 1
  | .iface _ d => uptoBulk d + 1
  | .map entries => uptoBulkEntries entries + 1
  | .held _ => 1
def uptoBulkAll {H : Type} : List (DataW H) → Nat
  | [] => 0
  | d :: r => uptoBulk d + uptoBulkAll r
def uptoBulkEntries {H : Type} : List (Lit × DataW H) → Nat
  | [] => 0
  | x :: r => uptoBulkEntry x + uptoBulkEntries r
def uptoBulkEntry {H : Type} : Lit × DataW H → Nat
  | (.string bytes, d) => bytes.length + uptoBulk d + 1
  | (_, d) => uptoBulk d + 1
 end
def uptoSmall : (H : Type) → List (DataW H) → Bool := fun _ ds => decide (uptoBulkAll ds ≤ 1048576)
def OpenSpec.upto (s : _root_.Go.ChangeSpec) : _root_.Go.OpenSpec := { _root_.Go.OpenSpec.ofChange s with cond := some uptoSmall }

/-- 'laws.FnBlocks', WHERE WHAT IT READS IS OF BULK AT MOST 1048576: true; the input reads as it did. -/
def fnBlocksUptoRow : OpenClaim := { program := "ytmpdkediffpjdaadoor", sum := "04eae1f58d1d5d126e9c77f86013204a68d2c80d68eef4671aa9043b94d43e46", func := "loop.example/g00657/laws.FnBlocks", spec := "fnBlocks", unfollowed := true, recurses := true, named := ["loop.example/g00657/impl.turnRows"], apart := false, laid := [("loop.example/g00657/impl.turnRows", laid_loop_example_g00657_impl_turnRows)], narrowed := true }
def FnBlocksUptoSaid : Prop := fnBlocksUptoRow.holds Tryd.pinned (OpenSpec.upto fnBlocksSpec)

/-- 'laws.FnCoefs', WHERE WHAT IT READS IS OF BULK AT MOST 1048576: true; the input reads as it did. -/
def fnCoefsUptoRow : OpenClaim := { program := "ytmpdkediffpjdaadoor", sum := "04eae1f58d1d5d126e9c77f86013204a68d2c80d68eef4671aa9043b94d43e46", func := "loop.example/g00657/laws.FnCoefs", spec := "fnCoefs", unfollowed := true, recurses := true, named := ["loop.example/g00657/impl.turnRows"], apart := false, laid := [("loop.example/g00657/impl.turnRows", laid_loop_example_g00657_impl_turnRows)], narrowed := true }
def FnCoefsUptoSaid : Prop := fnCoefsUptoRow.holds Tryd.pinned (OpenSpec.upto fnCoefsSpec)

/-- 'laws.FnExactHalveList', WHERE WHAT IT READS IS OF BULK AT MOST 1048576: true; the input reads as it did. -/
def fnExactHalveListUptoRow : OpenClaim := { program := "ytmpdkediffpjdaadoor", sum := "04eae1f58d1d5d126e9c77f86013204a68d2c80d68eef4671aa9043b94d43e46", func := "loop.example/g00657/laws.FnExactHalveList", spec := "fnExactHalveList", unfollowed := true, recurses := true, named := ["loop.example/g00657/impl.turnRows"], apart := false, laid := [("loop.example/g00657/impl.turnRows", laid_loop_example_g00657_impl_turnRows)], narrowed := true }
def FnExactHalveListUptoSaid : Prop := fnExactHalveListUptoRow.holds Tryd.pinned (OpenSpec.upto fnExactHalveListSpec)

/-- 'laws.FnExactUniteHalves', WHERE WHAT IT READS IS OF BULK AT MOST 1048576: true; the input reads as it did. -/
def fnExactUniteHalvesUptoRow : OpenClaim := { program := "ytmpdkediffpjdaadoor", sum := "04eae1f58d1d5d126e9c77f86013204a68d2c80d68eef4671aa9043b94d43e46", func := "loop.example/g00657/laws.FnExactUniteHalves", spec := "fnExactUniteHalves", unfollowed := true, recurses := true, named := ["loop.example/g00657/impl.turnRows"], apart := false, laid := [("loop.example/g00657/impl.turnRows", laid_loop_example_g00657_impl_turnRows)], narrowed := true }
def FnExactUniteHalvesUptoSaid : Prop := fnExactUniteHalvesUptoRow.holds Tryd.pinned (OpenSpec.upto fnExactUniteHalvesSpec)

/-- 'laws.FnExactSpreadBlock', WHERE WHAT IT READS IS OF BULK AT MOST 1048576: true; the input reads as it did. -/
def fnExactSpreadBlockUptoRow : OpenClaim := { program := "ytmpdkediffpjdaadoor", sum := "04eae1f58d1d5d126e9c77f86013204a68d2c80d68eef4671aa9043b94d43e46", func := "loop.example/g00657/laws.FnExactSpreadBlock", spec := "fnExactSpreadBlock", unfollowed := true, recurses := true, named := ["loop.example/g00657/impl.turnRows"], apart := false, laid := [("loop.example/g00657/impl.turnRows", laid_loop_example_g00657_impl_turnRows)], narrowed := true }
def FnExactSpreadBlockUptoSaid : Prop := fnExactSpreadBlockUptoRow.holds Tryd.pinned (OpenSpec.upto fnExactSpreadBlockSpec)

/-- 'laws.FnExactGatherBlock', WHERE WHAT IT READS IS OF BULK AT MOST 1048576: true; the input reads as it did. -/
def fnExactGatherBlockUptoRow : OpenClaim := { program := "ytmpdkediffpjdaadoor", sum := "04eae1f58d1d5d126e9c77f86013204a68d2c80d68eef4671aa9043b94d43e46", func := "loop.example/g00657/laws.FnExactGatherBlock", spec := "fnExactGatherBlock", unfollowed := true, recurses := true, named := ["loop.example/g00657/impl.turnRows"], apart := false, laid := [("loop.example/g00657/impl.turnRows", laid_loop_example_g00657_impl_turnRows)], narrowed := true }
def FnExactGatherBlockUptoSaid : Prop := fnExactGatherBlockUptoRow.holds Tryd.pinned (OpenSpec.upto fnExactGatherBlockSpec)

end Rows
end Go.Proofs.YtmpdkediffpjdaaDoor
