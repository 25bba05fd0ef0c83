/-
  No cell of these rows narrows 'for every input' (looked for: loops, veiled, ifaces, maps, wideKeys, modest, calm, conditions, laid).
  DERIVED. THE GIVEN ROWS OF THIS SEAT. 3 by the template 'for every input the law returns true; each argument reads behind the call as it read before'; 0 by the template 'total and deterministic' (their statements: YtjmcoipglgcomabTotals.lean).
  GIVEN WITH THE SEED: the statements are not yours to turn. If you find one false, say at which input.
  Laid BY PROGRAM, IN A SANDBOX (cutbox-rows.mjs): the forced cells as the released guide's own fill.sh prints them over the translation 959525dd5a2eece0… (all of the seat's roots in one cut). By AI agents, Wed Nov 11 2026. No macro, syntax, notation, axiom, sorry.
-/
import Derived.Test.YtjmcoipglgcomabChecked
import GoSem.Claim
import GoSem.ClaimJoined
import GoSem.ClaimMapViews
import Derived.JoinedTies
import Derived.KernelRfl
namespace Go.Proofs.Ytjmcoipglgcomab
/- THE CELL 'sum', in the pinned program and in every row, IS THE sha256 OF THE DUMP (.gsa) THAT YtjmcoipglgcomabProg.lean LOADS. Nothing in Lean hashes anything: it is a label: what it is worth is what the hold of that sum in a sandbox is worth. -/
noncomputable def Try.pinned : Pinned := { name := "ytjmcoipglgcomab", sum := "959525dd5a2eece099f6d1f896b2ee26d92dd4af7ec6f3a2d16ee14ccba3c23a", checked := Try.checked }
namespace Rows
def none {H : Type} : Left H := { results := [], args := [] }

/-- 'laws.FnExactNormOf': WHATEVER THE INPUT: true; the input reads as it did. -/
def fnExactNormOfSpec : ChangeSpec := { name := "fnExactNormOf", fn := fun _ => fun
  | [d] => { results := [.lit (.bool true)], args := [d] }
  | _ => none }
def fnExactNormOfRow : OpenClaim := { program := "ytjmcoipglgcomab", sum := "959525dd5a2eece099f6d1f896b2ee26d92dd4af7ec6f3a2d16ee14ccba3c23a", func := "loop.example/g00657/laws.FnExactNormOf", spec := "fnExactNormOf", apart := false }
def FnExactNormOfSaid : Prop := fnExactNormOfRow.holds Try.pinned (OpenSpec.ofChange fnExactNormOfSpec)

/-- ITS FALSE NEIGHBOUR: 'it returns false'. Refute it at one input. -/
def fnExactNormOfWrong : ChangeSpec := { name := "fnExactNormOf", fn := fun _ => fun
  | [d] => { results := [.lit (.bool false)], args := [d] }
  | _ => none }
def FnExactNormOfWrongFalsely : Prop := fnExactNormOfRow.holds Try.pinned (OpenSpec.ofChange fnExactNormOfWrong)

/-- 'laws.FnExactSizeFault': WHATEVER THE INPUT: true; the input reads as it did. -/
def fnExactSizeFaultSpec : ChangeSpec := { name := "fnExactSizeFault", fn := fun _ => fun
  | [d] => { results := [.lit (.bool true)], args := [d] }
  | _ => none }
def fnExactSizeFaultRow : OpenClaim := { program := "ytjmcoipglgcomab", sum := "959525dd5a2eece099f6d1f896b2ee26d92dd4af7ec6f3a2d16ee14ccba3c23a", func := "loop.example/g00657/laws.FnExactSizeFault", spec := "fnExactSizeFault", apart := false }
def FnExactSizeFaultSaid : Prop := fnExactSizeFaultRow.holds Try.pinned (OpenSpec.ofChange fnExactSizeFaultSpec)

/-- ITS FALSE NEIGHBOUR: 'it returns false'. Refute it at one input. -/
def fnExactSizeFaultWrong : ChangeSpec := { name := "fnExactSizeFault", fn := fun _ => fun
  | [d] => { results := [.lit (.bool false)], args := [d] }
  | _ => none }
def FnExactSizeFaultWrongFalsely : Prop := fnExactSizeFaultRow.holds Try.pinned (OpenSpec.ofChange fnExactSizeFaultWrong)

/-- 'laws.FnExactSamplesFault': WHATEVER THE INPUT: true; the input reads as it did. -/
def fnExactSamplesFaultSpec : ChangeSpec := { name := "fnExactSamplesFault", fn := fun _ => fun
  | [d1, d2] => { results := [.lit (.bool true)], args := [d1, d2] }
  | _ => none }
def fnExactSamplesFaultRow : OpenClaim := { program := "ytjmcoipglgcomab", sum := "959525dd5a2eece099f6d1f896b2ee26d92dd4af7ec6f3a2d16ee14ccba3c23a", func := "loop.example/g00657/laws.FnExactSamplesFault", spec := "fnExactSamplesFault", apart := false }
def FnExactSamplesFaultSaid : Prop := fnExactSamplesFaultRow.holds Try.pinned (OpenSpec.ofChange fnExactSamplesFaultSpec)

/-- ITS FALSE NEIGHBOUR: 'it returns false'. Refute it at one input. -/
def fnExactSamplesFaultWrong : ChangeSpec := { name := "fnExactSamplesFault", fn := fun _ => fun
  | [d1, d2] => { results := [.lit (.bool false)], args := [d1, d2] }
  | _ => none }
def FnExactSamplesFaultWrongFalsely : Prop := fnExactSamplesFaultRow.holds Try.pinned (OpenSpec.ofChange fnExactSamplesFaultWrong)

/- THE SECOND FORM. 'bulk': how many values and letters a reading holds, each counted each time it is reached (what is shared counts as often as it is met; a slice's spare places count too). A statement '..UptoSaid' is the law's where the arguments, and the package variables that the reading takes, are together of bulk at most 1048576: NARROWER than '..Said'. Prove '..Said' where nothing that the law and all that it calls make is longer than what came in: it says more and counts as full. Else prove '..UptoSaid'. A law counts once. -/
mutual
def uptoBulk {H : Type} : DataW H → Nat
  | .lit (.string bytes) => bytes.length + 1
  | .lit _ => 1
  | .nil => 1
  | .ptr d => uptoBulk d + 1
  | .slice elems spare => uptoBulkAll elems + uptoBulkAll spare + 1
  | .agg parts => uptoBulkAll parts + 1
  | .iface _ d => uptoBulk d + 1
  | .map entries => uptoBulkEntries entries + 1
  | .held _ => 1
def uptoBulkAll {H : Type} : List (DataW H) → Nat
  | [] => 0
  | d :: r => uptoBulk d + uptoBulkAll r
def uptoBulkEntries {H : Type} : List (Lit × DataW H) → Nat
  | [] => 0
  | x :: r => uptoBulkEntry x + uptoBulkEntries r
def uptoBulkEntry {H : Type} : Lit × DataW H → Nat
  | (.string bytes, d) => bytes.length + uptoBulk d + 1
  | (_, d) => uptoBulk d + 1
 end
def uptoSmall : (H : Type) → List (DataW H) → Bool := fun _ ds => decide (uptoBulkAll ds ≤ 1048576)
def OpenSpec.upto (s : _root_.Go.ChangeSpec) : _root_.Go.OpenSpec := { _root_.Go.OpenSpec.ofChange s with cond := some uptoSmall }

/-- 'laws.FnExactNormOf', WHERE WHAT IT READS IS OF BULK AT MOST 1048576: true; the input reads as it did. -/
def fnExactNormOfUptoRow : OpenClaim := { program := "ytjmcoipglgcomab", sum := "959525dd5a2eece099f6d1f896b2ee26d92dd4af7ec6f3a2d16ee14ccba3c23a", func := "loop.example/g00657/laws.FnExactNormOf", spec := "fnExactNormOf", apart := false, narrowed := true }
def FnExactNormOfUptoSaid : Prop := fnExactNormOfUptoRow.holds Try.pinned (OpenSpec.upto fnExactNormOfSpec)

/-- 'laws.FnExactSizeFault', WHERE WHAT IT READS IS OF BULK AT MOST 1048576: true; the input reads as it did. -/
def fnExactSizeFaultUptoRow : OpenClaim := { program := "ytjmcoipglgcomab", sum := "959525dd5a2eece099f6d1f896b2ee26d92dd4af7ec6f3a2d16ee14ccba3c23a", func := "loop.example/g00657/laws.FnExactSizeFault", spec := "fnExactSizeFault", apart := false, narrowed := true }
def FnExactSizeFaultUptoSaid : Prop := fnExactSizeFaultUptoRow.holds Try.pinned (OpenSpec.upto fnExactSizeFaultSpec)

/-- 'laws.FnExactSamplesFault', WHERE WHAT IT READS IS OF BULK AT MOST 1048576: true; the input reads as it did. -/
def fnExactSamplesFaultUptoRow : OpenClaim := { program := "ytjmcoipglgcomab", sum := "959525dd5a2eece099f6d1f896b2ee26d92dd4af7ec6f3a2d16ee14ccba3c23a", func := "loop.example/g00657/laws.FnExactSamplesFault", spec := "fnExactSamplesFault", apart := false, narrowed := true }
def FnExactSamplesFaultUptoSaid : Prop := fnExactSamplesFaultUptoRow.holds Try.pinned (OpenSpec.upto fnExactSamplesFaultSpec)

end Rows
end Go.Proofs.Ytjmcoipglgcomab
