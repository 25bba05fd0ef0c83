/-
  NARROWER THAN 'FOR EVERY INPUT', by the rows' own cells (each row's printed sentence says how): FnLaps: laid · FnStates: laid · FnExactFeedFrame: laid · FnExactPlayBlock: laid.
  DERIVED. THE GIVEN ROWS OF THIS SEAT. 4 by the template 'for every input the law returns true; each argument reads behind the call as it read before'; 0 by the template 'total and deterministic' (their statements: YtgnbailcibhenaaDoorTotals.lean).
  GIVEN WITH THE SEED: the statements are not yours to turn. If you find one false, say at which input.
  Laid BY PROGRAM, IN A SANDBOX (cutbox-rows.mjs): the forced cells as the released guide's own fill.sh prints them over the translation 6306b2b0acb15c53… (all of the seat's roots in one cut). By AI agents, Wed Nov 11 2026. No macro, syntax, notation, axiom, sorry.
-/
import Derived.Test.YtgnbailcibhenaaDoorChecked
import GoSem.Claim
import GoSem.ClaimJoined
import GoSem.ClaimMapViews
import Derived.JoinedTies
import Derived.KernelRfl
namespace Go.Proofs.YtgnbailcibhenaaDoor
/- THE CELL 'sum', in the pinned program and in every row, IS THE sha256 OF THE DUMP (.gsa) THAT YtgnbailcibhenaaDoorProg.lean LOADS. Nothing in Lean hashes anything: it is a label: what it is worth is what the hold of that sum in a sandbox is worth. -/
noncomputable def Tryd.pinned : Pinned := { name := "ytgnbailcibhenaadoor", sum := "6306b2b0acb15c535791e1bef0cc953abec7e9fbddd5bf50ab290dac484b757d", checked := Tryd.checked }
namespace Rows
def none {H : Type} : Left H := { results := [], args := [] }

/- WHAT THE LISTED PACKAGE-LEVEL VARIABLES READ AS WHEN THE CALL BEGINS. Each datum BY PROGRAM (the guide's laid-datum.mjs) off the statement by which the dump's own 'gosem.cut.vars' lays the variable. In a bare row this is a premise. The card (YtgnbailcibhenaaDoorCards.lean) ties it to the program's text. -/
def laid_loop_example_g00657_impl_turnRows {H : Type} : DataW H := .agg [.agg [.agg [.lit (.int .i64 4), .lit (.int .i64 0)], .agg [.lit (.int .i64 101), .lit (.int .i64 200)]], .agg [.agg [.lit (.int .i64 4), .lit (.int .i64 1)], .agg [.lit (.int .i64 311), .lit (.int .i64 569)]], .agg [.agg [.lit (.int .i64 8), .lit (.int .i64 0)], .agg [.lit (.int .i64 50), .lit (.int .i64 100)]], .agg [.agg [.lit (.int .i64 8), .lit (.int .i64 1)], .agg [.lit (.int .i64 152), .lit (.int .i64 297)]], .agg [.agg [.lit (.int .i64 8), .lit (.int .i64 2)], .agg [.lit (.int .i64 257), .lit (.int .i64 483)]], .agg [.agg [.lit (.int .i64 8), .lit (.int .i64 3)], .agg [.lit (.int .i64 366), .lit (.int .i64 650)]], .agg [.agg [.lit (.int .i64 16), .lit (.int .i64 0)], .agg [.lit (.int .i64 25), .lit (.int .i64 50)]], .agg [.agg [.lit (.int .i64 16), .lit (.int .i64 1)], .agg [.lit (.int .i64 76), .lit (.int .i64 150)]], .agg [.agg [.lit (.int .i64 16), .lit (.int .i64 2)], .agg [.lit (.int .i64 126), .lit (.int .i64 249)]], .agg [.agg [.lit (.int .i64 16), .lit (.int .i64 3)], .agg [.lit (.int .i64 178), .lit (.int .i64 345)]], .agg [.agg [.lit (.int .i64 16), .lit (.int .i64 4)], .agg [.lit (.int .i64 230), .lit (.int .i64 438)]], .agg [.agg [.lit (.int .i64 16), .lit (.int .i64 5)], .agg [.lit (.int .i64 283), .lit (.int .i64 526)]], .agg [.agg [.lit (.int .i64 16), .lit (.int .i64 6)], .agg [.lit (.int .i64 338), .lit (.int .i64 610)]], .agg [.agg [.lit (.int .i64 16), .lit (.int .i64 7)], .agg [.lit (.int .i64 395), .lit (.int .i64 688)]]]

/-- 'laws.FnLaps': WHATEVER THE INPUT: true; the input reads as it did. -/
def fnLapsSpec : ChangeSpec := { name := "fnLaps", vars := ["loop.example/g00657/impl.turnRows"], fn := fun _ => fun
  | [d, g1] => { results := [.lit (.bool true)], args := [d], vars := [g1] }
  | _ => none }
def fnLapsRow : OpenClaim := { program := "ytgnbailcibhenaadoor", sum := "6306b2b0acb15c535791e1bef0cc953abec7e9fbddd5bf50ab290dac484b757d", func := "loop.example/g00657/laws.FnLaps", spec := "fnLaps", unfollowed := true, recurses := true, named := ["loop.example/g00657/impl.turnRows"], apart := false, laid := [("loop.example/g00657/impl.turnRows", laid_loop_example_g00657_impl_turnRows)] }
def FnLapsSaid : Prop := fnLapsRow.holds Tryd.pinned (OpenSpec.ofChange fnLapsSpec)

/-- ITS FALSE NEIGHBOUR: 'it returns false'. Refute it at one input. -/
def fnLapsWrong : ChangeSpec := { name := "fnLaps", vars := ["loop.example/g00657/impl.turnRows"], fn := fun _ => fun
  | [d, g1] => { results := [.lit (.bool false)], args := [d], vars := [g1] }
  | _ => none }
def FnLapsWrongFalsely : Prop := fnLapsRow.holds Tryd.pinned (OpenSpec.ofChange fnLapsWrong)

/-- 'laws.FnStates': WHATEVER THE INPUT: true; the input reads as it did. -/
def fnStatesSpec : ChangeSpec := { name := "fnStates", vars := ["loop.example/g00657/impl.turnRows"], fn := fun _ => fun
  | [d, g1] => { results := [.lit (.bool true)], args := [d], vars := [g1] }
  | _ => none }
def fnStatesRow : OpenClaim := { program := "ytgnbailcibhenaadoor", sum := "6306b2b0acb15c535791e1bef0cc953abec7e9fbddd5bf50ab290dac484b757d", func := "loop.example/g00657/laws.FnStates", spec := "fnStates", unfollowed := true, recurses := true, named := ["loop.example/g00657/impl.turnRows"], apart := false, laid := [("loop.example/g00657/impl.turnRows", laid_loop_example_g00657_impl_turnRows)] }
def FnStatesSaid : Prop := fnStatesRow.holds Tryd.pinned (OpenSpec.ofChange fnStatesSpec)

/-- ITS FALSE NEIGHBOUR: 'it returns false'. Refute it at one input. -/
def fnStatesWrong : ChangeSpec := { name := "fnStates", vars := ["loop.example/g00657/impl.turnRows"], fn := fun _ => fun
  | [d, g1] => { results := [.lit (.bool false)], args := [d], vars := [g1] }
  | _ => none }
def FnStatesWrongFalsely : Prop := fnStatesRow.holds Tryd.pinned (OpenSpec.ofChange fnStatesWrong)

/-- 'laws.FnExactFeedFrame': WHATEVER THE INPUT: true; the input reads as it did. -/
def fnExactFeedFrameSpec : ChangeSpec := { name := "fnExactFeedFrame", vars := ["loop.example/g00657/impl.turnRows"], fn := fun _ => fun
  | [d1, d2, g1] => { results := [.lit (.bool true)], args := [d1, d2], vars := [g1] }
  | _ => none }
def fnExactFeedFrameRow : OpenClaim := { program := "ytgnbailcibhenaadoor", sum := "6306b2b0acb15c535791e1bef0cc953abec7e9fbddd5bf50ab290dac484b757d", func := "loop.example/g00657/laws.FnExactFeedFrame", spec := "fnExactFeedFrame", unfollowed := true, recurses := true, named := ["loop.example/g00657/impl.turnRows"], apart := false, laid := [("loop.example/g00657/impl.turnRows", laid_loop_example_g00657_impl_turnRows)] }
def FnExactFeedFrameSaid : Prop := fnExactFeedFrameRow.holds Tryd.pinned (OpenSpec.ofChange fnExactFeedFrameSpec)

/-- ITS FALSE NEIGHBOUR: 'it returns false'. Refute it at one input. -/
def fnExactFeedFrameWrong : ChangeSpec := { name := "fnExactFeedFrame", vars := ["loop.example/g00657/impl.turnRows"], fn := fun _ => fun
  | [d1, d2, g1] => { results := [.lit (.bool false)], args := [d1, d2], vars := [g1] }
  | _ => none }
def FnExactFeedFrameWrongFalsely : Prop := fnExactFeedFrameRow.holds Tryd.pinned (OpenSpec.ofChange fnExactFeedFrameWrong)

/-- 'laws.FnExactPlayBlock': WHATEVER THE INPUT: true; the input reads as it did. -/
def fnExactPlayBlockSpec : ChangeSpec := { name := "fnExactPlayBlock", vars := ["loop.example/g00657/impl.turnRows"], fn := fun _ => fun
  | [d1, d2, g1] => { results := [.lit (.bool true)], args := [d1, d2], vars := [g1] }
  | _ => none }
def fnExactPlayBlockRow : OpenClaim := { program := "ytgnbailcibhenaadoor", sum := "6306b2b0acb15c535791e1bef0cc953abec7e9fbddd5bf50ab290dac484b757d", func := "loop.example/g00657/laws.FnExactPlayBlock", spec := "fnExactPlayBlock", unfollowed := true, recurses := true, named := ["loop.example/g00657/impl.turnRows"], apart := false, laid := [("loop.example/g00657/impl.turnRows", laid_loop_example_g00657_impl_turnRows)] }
def FnExactPlayBlockSaid : Prop := fnExactPlayBlockRow.holds Tryd.pinned (OpenSpec.ofChange fnExactPlayBlockSpec)

/-- ITS FALSE NEIGHBOUR: 'it returns false'. Refute it at one input. -/
def fnExactPlayBlockWrong : ChangeSpec := { name := "fnExactPlayBlock", vars := ["loop.example/g00657/impl.turnRows"], fn := fun _ => fun
  | [d1, d2, g1] => { results := [.lit (.bool false)], args := [d1, d2], vars := [g1] }
  | _ => none }
def FnExactPlayBlockWrongFalsely : Prop := fnExactPlayBlockRow.holds Tryd.pinned (OpenSpec.ofChange fnExactPlayBlockWrong)

/- THE SECOND FORM. 'bulk': how many values and letters a reading holds, each counted each time it is reached (what is shared counts as often as it is met; a slice's spare places count too). A statement '..UptoSaid' is the law's where the arguments, and the package variables that the reading takes, are together of bulk at most 1048576: NARROWER than '..Said'. Prove '..Said' where nothing that the law and all that it calls make is longer than what came in: it says more and counts as full. Else prove '..UptoSaid'. A law counts once. -/
mutual
def uptoBulk {H : Type} : DataW H → Nat
  | .lit (.string bytes) => bytes.length + 1
  | .lit _ => 1
  | .nil => 1
  | .ptr d => uptoBulk d + 1
  | .slice elems spare => uptoBulkAll elems + uptoBulkAll spare + 1
  | .agg parts => uptoBulkAll parts + 1
  | .iface _ d => uptoBulk d + 1
  | .map entries => uptoBulkEntries entries + 1
  | .held _ => 1
def uptoBulkAll {H : Type} : List (DataW H) → Nat
  | [] => 0
  | d :: r => uptoBulk d + uptoBulkAll r
def uptoBulkEntries {H : Type} : List (Lit × DataW H) → Nat
  | [] => 0
  | x :: r => uptoBulkEntry x + uptoBulkEntries r
def uptoBulkEntry {H : Type} : Lit × DataW H → Nat
  | (.string bytes, d) => bytes.length + uptoBulk d + 1
  | (_, d) => uptoBulk d + 1
 end
def uptoSmall : (H : Type) → List (DataW H) → Bool := fun _ ds => decide (uptoBulkAll ds ≤ 1048576)
def OpenSpec.upto (s : _root_.Go.ChangeSpec) : _root_.Go.OpenSpec := { _root_.Go.OpenSpec.ofChange s with cond := some uptoSmall }

/-- 'laws.FnLaps', WHERE WHAT IT READS IS OF BULK AT MOST 1048576: true; the input reads as it did. -/
def fnLapsUptoRow : OpenClaim := { program := "ytgnbailcibhenaadoor", sum := "6306b2b0acb15c535791e1bef0cc953abec7e9fbddd5bf50ab290dac484b757d", func := "loop.example/g00657/laws.FnLaps", spec := "fnLaps", unfollowed := true, recurses := true, named := ["loop.example/g00657/impl.turnRows"], apart := false, laid := [("loop.example/g00657/impl.turnRows", laid_loop_example_g00657_impl_turnRows)], narrowed := true }
def FnLapsUptoSaid : Prop := fnLapsUptoRow.holds Tryd.pinned (OpenSpec.upto fnLapsSpec)

/-- 'laws.FnStates', WHERE WHAT IT READS IS OF BULK AT MOST 1048576: true; the input reads as it did. -/
def fnStatesUptoRow : OpenClaim := { program := "ytgnbailcibhenaadoor", sum := "6306b2b0acb15c535791e1bef0cc953abec7e9fbddd5bf50ab290dac484b757d", func := "loop.example/g00657/laws.FnStates", spec := "fnStates", unfollowed := true, recurses := true, named := ["loop.example/g00657/impl.turnRows"], apart := false, laid := [("loop.example/g00657/impl.turnRows", laid_loop_example_g00657_impl_turnRows)], narrowed := true }
def FnStatesUptoSaid : Prop := fnStatesUptoRow.holds Tryd.pinned (OpenSpec.upto fnStatesSpec)

/-- 'laws.FnExactFeedFrame', WHERE WHAT IT READS IS OF BULK AT MOST 1048576: true; the input reads as it did. -/
def fnExactFeedFrameUptoRow : OpenClaim := { program := "ytgnbailcibhenaadoor", sum := "6306b2b0acb15c535791e1bef0cc953abec7e9fbddd5bf50ab290dac484b757d", func := "loop.example/g00657/laws.FnExactFeedFrame", spec := "fnExactFeedFrame", unfollowed := true, recurses := true, named := ["loop.example/g00657/impl.turnRows"], apart := false, laid := [("loop.example/g00657/impl.turnRows", laid_loop_example_g00657_impl_turnRows)], narrowed := true }
def FnExactFeedFrameUptoSaid : Prop := fnExactFeedFrameUptoRow.holds Tryd.pinned (OpenSpec.upto fnExactFeedFrameSpec)

/-- 'laws.FnExactPlayBlock', WHERE WHAT IT READS IS OF BULK AT MOST 1048576: true; the input reads as it did. -/
def fnExactPlayBlockUptoRow : OpenClaim := { program := "ytgnbailcibhenaadoor", sum := "6306b2b0acb15c535791e1bef0cc953abec7e9fbddd5bf50ab290dac484b757d", func := "loop.example/g00657/laws.FnExactPlayBlock", spec := "fnExactPlayBlock", unfollowed := true, recurses := true, named := ["loop.example/g00657/impl.turnRows"], apart := false, laid := [("loop.example/g00657/impl.turnRows", laid_loop_example_g00657_impl_turnRows)], narrowed := true }
def FnExactPlayBlockUptoSaid : Prop := fnExactPlayBlockUptoRow.holds Tryd.pinned (OpenSpec.upto fnExactPlayBlockSpec)

end Rows
end Go.Proofs.YtgnbailcibhenaaDoor
