/-
  No cell of these rows narrows 'for every input' (looked for: loops, veiled, ifaces, maps, wideKeys, modest, calm, conditions, laid).
  DERIVED. THE GIVEN ROWS OF THIS SEAT. 4 by the template 'for every input the law returns true; each argument reads behind the call as it read before'; 0 by the template 'total and deterministic' (their statements: YtnmjmknhlpmkoaaTotals.lean).
  GIVEN WITH THE SEED: the statements are not yours to turn. If you find one false, say at which input.
  Laid BY PROGRAM, IN A SANDBOX (cutbox-rows.mjs): the forced cells as the released guide's own fill.sh prints them over the translation f958656d997480e9… (all of the seat's roots in one cut). By AI agents, Wed Nov 11 2026. No macro, syntax, notation, axiom, sorry.
-/
import Derived.Test.YtnmjmknhlpmkoaaChecked
import GoSem.Claim
import GoSem.ClaimJoined
import GoSem.ClaimMapViews
import Derived.JoinedTies
import Derived.KernelRfl
namespace Go.Proofs.Ytnmjmknhlpmkoaa
/- THE CELL 'sum', in the pinned program and in every row, IS THE sha256 OF THE DUMP (.gsa) THAT YtnmjmknhlpmkoaaProg.lean LOADS. Nothing in Lean hashes anything: it is a label: what it is worth is what the hold of that sum in a sandbox is worth. -/
noncomputable def Try.pinned : Pinned := { name := "ytnmjmknhlpmkoaa", sum := "f958656d997480e903df48e19e15f5e89bd7622717bb1041a55716c52fb962a4", checked := Try.checked }
namespace Rows
def none {H : Type} : Left H := { results := [], args := [] }

/-- 'laws.FnOwners': WHATEVER THE INPUT: true; the input reads as it did. -/
def fnOwnersSpec : ChangeSpec := { name := "fnOwners", fn := fun _ => fun
  | [d] => { results := [.lit (.bool true)], args := [d] }
  | _ => none }
def fnOwnersRow : OpenClaim := { program := "ytnmjmknhlpmkoaa", sum := "f958656d997480e903df48e19e15f5e89bd7622717bb1041a55716c52fb962a4", func := "loop.example/g00657/laws.FnOwners", spec := "fnOwners", apart := false }
def FnOwnersSaid : Prop := fnOwnersRow.holds Try.pinned (OpenSpec.ofChange fnOwnersSpec)

/-- ITS FALSE NEIGHBOUR: 'it returns false'. Refute it at one input. -/
def fnOwnersWrong : ChangeSpec := { name := "fnOwners", fn := fun _ => fun
  | [d] => { results := [.lit (.bool false)], args := [d] }
  | _ => none }
def FnOwnersWrongFalsely : Prop := fnOwnersRow.holds Try.pinned (OpenSpec.ofChange fnOwnersWrong)

/-- 'laws.FnExactPulsesFor': WHATEVER THE INPUT: true; the input reads as it did. -/
def fnExactPulsesForSpec : ChangeSpec := { name := "fnExactPulsesFor", fn := fun _ => fun
  | [d] => { results := [.lit (.bool true)], args := [d] }
  | _ => none }
def fnExactPulsesForRow : OpenClaim := { program := "ytnmjmknhlpmkoaa", sum := "f958656d997480e903df48e19e15f5e89bd7622717bb1041a55716c52fb962a4", func := "loop.example/g00657/laws.FnExactPulsesFor", spec := "fnExactPulsesFor", apart := false }
def FnExactPulsesForSaid : Prop := fnExactPulsesForRow.holds Try.pinned (OpenSpec.ofChange fnExactPulsesForSpec)

/-- ITS FALSE NEIGHBOUR: 'it returns false'. Refute it at one input. -/
def fnExactPulsesForWrong : ChangeSpec := { name := "fnExactPulsesFor", fn := fun _ => fun
  | [d] => { results := [.lit (.bool false)], args := [d] }
  | _ => none }
def FnExactPulsesForWrongFalsely : Prop := fnExactPulsesForRow.holds Try.pinned (OpenSpec.ofChange fnExactPulsesForWrong)

/-- 'laws.FnExactGainRung': WHATEVER THE INPUT: true; the input reads as it did. -/
def fnExactGainRungSpec : ChangeSpec := { name := "fnExactGainRung", fn := fun _ => fun
  | [d1, d2] => { results := [.lit (.bool true)], args := [d1, d2] }
  | _ => none }
def fnExactGainRungRow : OpenClaim := { program := "ytnmjmknhlpmkoaa", sum := "f958656d997480e903df48e19e15f5e89bd7622717bb1041a55716c52fb962a4", func := "loop.example/g00657/laws.FnExactGainRung", spec := "fnExactGainRung", apart := false }
def FnExactGainRungSaid : Prop := fnExactGainRungRow.holds Try.pinned (OpenSpec.ofChange fnExactGainRungSpec)

/-- ITS FALSE NEIGHBOUR: 'it returns false'. Refute it at one input. -/
def fnExactGainRungWrong : ChangeSpec := { name := "fnExactGainRung", fn := fun _ => fun
  | [d1, d2] => { results := [.lit (.bool false)], args := [d1, d2] }
  | _ => none }
def FnExactGainRungWrongFalsely : Prop := fnExactGainRungRow.holds Try.pinned (OpenSpec.ofChange fnExactGainRungWrong)

/-- 'laws.FnExactOwnerOf': WHATEVER THE INPUT: true; the input reads as it did. -/
def fnExactOwnerOfSpec : ChangeSpec := { name := "fnExactOwnerOf", fn := fun _ => fun
  | [d1, d2] => { results := [.lit (.bool true)], args := [d1, d2] }
  | _ => none }
def fnExactOwnerOfRow : OpenClaim := { program := "ytnmjmknhlpmkoaa", sum := "f958656d997480e903df48e19e15f5e89bd7622717bb1041a55716c52fb962a4", func := "loop.example/g00657/laws.FnExactOwnerOf", spec := "fnExactOwnerOf", apart := false }
def FnExactOwnerOfSaid : Prop := fnExactOwnerOfRow.holds Try.pinned (OpenSpec.ofChange fnExactOwnerOfSpec)

/-- ITS FALSE NEIGHBOUR: 'it returns false'. Refute it at one input. -/
def fnExactOwnerOfWrong : ChangeSpec := { name := "fnExactOwnerOf", fn := fun _ => fun
  | [d1, d2] => { results := [.lit (.bool false)], args := [d1, d2] }
  | _ => none }
def FnExactOwnerOfWrongFalsely : Prop := fnExactOwnerOfRow.holds Try.pinned (OpenSpec.ofChange fnExactOwnerOfWrong)

/- THE SECOND FORM. 'bulk': how many values and letters a reading holds, each counted each time it is reached (what is shared counts as often as it is met; a slice's spare places count too). A statement '..UptoSaid' is the law's where the arguments, and the package variables that the reading takes, are together of bulk at most 1048576: NARROWER than '..Said'. Prove '..Said' where nothing that the law and all that it calls make is longer than what came in: it says more and counts as full. Else prove '..UptoSaid'. A law counts once. -/
mutual
def uptoBulk {H : Type} : DataW H → Nat
  | .lit (.string bytes) => bytes.length + 1
  | .lit _ => 1
  | .nil => 1
  | .ptr d => uptoBulk d + 1
  | .slice elems spare => uptoBulkAll elems + uptoBulkAll spare + 1
  | .agg parts => uptoBulkAll parts + 1
  | .iface _ d => uptoBulk d + 1
  | .map entries => uptoBulkEntries entries + 1
  | .held _ => 1
def uptoBulkAll {H : Type} : List (DataW H) → Nat
  | [] => 0
  | d :: r => uptoBulk d + uptoBulkAll r
def uptoBulkEntries {H : Type} : List (Lit × DataW H) → Nat
  | [] => 0
  | x :: r => uptoBulkEntry x + uptoBulkEntries r
def uptoBulkEntry {H : Type} : Lit × DataW H → Nat
  | (.string bytes, d) => bytes.length + uptoBulk d + 1
  | (_, d) => uptoBulk d + 1
 end
def uptoSmall : (H : Type) → List (DataW H) → Bool := fun _ ds => decide (uptoBulkAll ds ≤ 1048576)
def OpenSpec.upto (s : _root_.Go.ChangeSpec) : _root_.Go.OpenSpec := { _root_.Go.OpenSpec.ofChange s with cond := some uptoSmall }

/-- 'laws.FnOwners', WHERE WHAT IT READS IS OF BULK AT MOST 1048576: true; the input reads as it did. -/
def fnOwnersUptoRow : OpenClaim := { program := "ytnmjmknhlpmkoaa", sum := "f958656d997480e903df48e19e15f5e89bd7622717bb1041a55716c52fb962a4", func := "loop.example/g00657/laws.FnOwners", spec := "fnOwners", apart := false, narrowed := true }
def FnOwnersUptoSaid : Prop := fnOwnersUptoRow.holds Try.pinned (OpenSpec.upto fnOwnersSpec)

/-- 'laws.FnExactPulsesFor', WHERE WHAT IT READS IS OF BULK AT MOST 1048576: true; the input reads as it did. -/
def fnExactPulsesForUptoRow : OpenClaim := { program := "ytnmjmknhlpmkoaa", sum := "f958656d997480e903df48e19e15f5e89bd7622717bb1041a55716c52fb962a4", func := "loop.example/g00657/laws.FnExactPulsesFor", spec := "fnExactPulsesFor", apart := false, narrowed := true }
def FnExactPulsesForUptoSaid : Prop := fnExactPulsesForUptoRow.holds Try.pinned (OpenSpec.upto fnExactPulsesForSpec)

/-- 'laws.FnExactGainRung', WHERE WHAT IT READS IS OF BULK AT MOST 1048576: true; the input reads as it did. -/
def fnExactGainRungUptoRow : OpenClaim := { program := "ytnmjmknhlpmkoaa", sum := "f958656d997480e903df48e19e15f5e89bd7622717bb1041a55716c52fb962a4", func := "loop.example/g00657/laws.FnExactGainRung", spec := "fnExactGainRung", apart := false, narrowed := true }
def FnExactGainRungUptoSaid : Prop := fnExactGainRungUptoRow.holds Try.pinned (OpenSpec.upto fnExactGainRungSpec)

/-- 'laws.FnExactOwnerOf', WHERE WHAT IT READS IS OF BULK AT MOST 1048576: true; the input reads as it did. -/
def fnExactOwnerOfUptoRow : OpenClaim := { program := "ytnmjmknhlpmkoaa", sum := "f958656d997480e903df48e19e15f5e89bd7622717bb1041a55716c52fb962a4", func := "loop.example/g00657/laws.FnExactOwnerOf", spec := "fnExactOwnerOf", apart := false, narrowed := true }
def FnExactOwnerOfUptoSaid : Prop := fnExactOwnerOfUptoRow.holds Try.pinned (OpenSpec.upto fnExactOwnerOfSpec)

end Rows
end Go.Proofs.Ytnmjmknhlpmkoaa
