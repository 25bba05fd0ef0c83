/-
  No cell of these rows narrows 'for every input' (looked for: loops, veiled, ifaces, maps, wideKeys, modest, calm, conditions, laid).
  DERIVED. THE GIVEN ROWS OF THIS SEAT. 3 by the template 'for every input the law returns true; each argument reads behind the call as it read before'; 0 by the template 'total and deterministic' (their statements: YtdmaeipiikknnaaTotals.lean).
  GIVEN WITH THE SEED: the statements are not yours to turn. If you find one false, say at which input.
  Laid BY PROGRAM, IN A SANDBOX (cutbox-rows.mjs): the forced cells as the released guide's own fill.sh prints them over the translation 85f29821dc6ff614… (all of the seat's roots in one cut). By AI agents, Wed Nov 11 2026. No macro, syntax, notation, axiom, sorry.
-/
import Derived.Test.YtdmaeipiikknnaaChecked
import GoSem.Claim
import GoSem.ClaimJoined
import GoSem.ClaimMapViews
import Derived.JoinedTies
import Derived.KernelRfl
namespace Go.Proofs.Ytdmaeipiikknnaa
/- THE CELL 'sum', in the pinned program and in every row, IS THE sha256 OF THE DUMP (.gsa) THAT YtdmaeipiikknnaaProg.lean LOADS. Nothing in Lean hashes anything: it is a label: what it is worth is what the hold of that sum in a sandbox is worth. -/
noncomputable def Try.pinned : Pinned := { name := "ytdmaeipiikknnaa", sum := "85f29821dc6ff614afd6d909be74d7dae1d262bd7eab589da8f348844b09594f", checked := Try.checked }
namespace Rows
def none {H : Type} : Left H := { results := [], args := [] }

/-- 'laws.FnDecoders': WHATEVER THE INPUT: true; the input reads as it did. -/
def fnDecodersSpec : ChangeSpec := { name := "fnDecoders", fn := fun _ => fun
  | [d] => { results := [.lit (.bool true)], args := [d] }
  | _ => none }
def fnDecodersRow : OpenClaim := { program := "ytdmaeipiikknnaa", sum := "85f29821dc6ff614afd6d909be74d7dae1d262bd7eab589da8f348844b09594f", func := "loop.example/g00657/laws.FnDecoders", spec := "fnDecoders", unfollowed := true, recurses := true, apart := false }
def FnDecodersSaid : Prop := fnDecodersRow.holds Try.pinned (OpenSpec.ofChange fnDecodersSpec)

/-- ITS FALSE NEIGHBOUR: 'it returns false'. Refute it at one input. -/
def fnDecodersWrong : ChangeSpec := { name := "fnDecoders", fn := fun _ => fun
  | [d] => { results := [.lit (.bool false)], args := [d] }
  | _ => none }
def FnDecodersWrongFalsely : Prop := fnDecodersRow.holds Try.pinned (OpenSpec.ofChange fnDecodersWrong)

/-- 'laws.FnExactSlotFault': WHATEVER THE INPUT: true; the input reads as it did. -/
def fnExactSlotFaultSpec : ChangeSpec := { name := "fnExactSlotFault", fn := fun _ => fun
  | [d] => { results := [.lit (.bool true)], args := [d] }
  | _ => none }
def fnExactSlotFaultRow : OpenClaim := { program := "ytdmaeipiikknnaa", sum := "85f29821dc6ff614afd6d909be74d7dae1d262bd7eab589da8f348844b09594f", func := "loop.example/g00657/laws.FnExactSlotFault", spec := "fnExactSlotFault", apart := false }
def FnExactSlotFaultSaid : Prop := fnExactSlotFaultRow.holds Try.pinned (OpenSpec.ofChange fnExactSlotFaultSpec)

/-- ITS FALSE NEIGHBOUR: 'it returns false'. Refute it at one input. -/
def fnExactSlotFaultWrong : ChangeSpec := { name := "fnExactSlotFault", fn := fun _ => fun
  | [d] => { results := [.lit (.bool false)], args := [d] }
  | _ => none }
def FnExactSlotFaultWrongFalsely : Prop := fnExactSlotFaultRow.holds Try.pinned (OpenSpec.ofChange fnExactSlotFaultWrong)

/-- 'laws.FnExactDecoderFault': WHATEVER THE INPUT: true; the input reads as it did. -/
def fnExactDecoderFaultSpec : ChangeSpec := { name := "fnExactDecoderFault", fn := fun _ => fun
  | [d] => { results := [.lit (.bool true)], args := [d] }
  | _ => none }
def fnExactDecoderFaultRow : OpenClaim := { program := "ytdmaeipiikknnaa", sum := "85f29821dc6ff614afd6d909be74d7dae1d262bd7eab589da8f348844b09594f", func := "loop.example/g00657/laws.FnExactDecoderFault", spec := "fnExactDecoderFault", apart := false }
def FnExactDecoderFaultSaid : Prop := fnExactDecoderFaultRow.holds Try.pinned (OpenSpec.ofChange fnExactDecoderFaultSpec)

/-- ITS FALSE NEIGHBOUR: 'it returns false'. Refute it at one input. -/
def fnExactDecoderFaultWrong : ChangeSpec := { name := "fnExactDecoderFault", fn := fun _ => fun
  | [d] => { results := [.lit (.bool false)], args := [d] }
  | _ => none }
def FnExactDecoderFaultWrongFalsely : Prop := fnExactDecoderFaultRow.holds Try.pinned (OpenSpec.ofChange fnExactDecoderFaultWrong)

/- THE SECOND FORM. 'bulk': how many values and letters a reading holds, each counted each time it is reached (what is shared counts as often as it is met; a slice's spare places count too). A statement '..UptoSaid' is the law's where the arguments, and the package variables that the reading takes, are together of bulk at most 1048576: NARROWER than '..Said'. Prove '..Said' where nothing that the law and all that it calls make is longer than what came in: it says more and counts as full. Else prove '..UptoSaid'. A law counts once. -/
mutual
def uptoBulk {H : Type} : DataW H → Nat
  | .lit (.string bytes) => bytes.length + 1
  | .lit _ => 1
  | .nil => 1
  | .ptr d => uptoBulk d + 1
  | .slice elems spare => uptoBulkAll elems + uptoBulkAll spare + 1
  | .agg parts => uptoBulkAll parts + 1
  | .iface _ d => uptoBulk d + 1
  | .map entries => uptoBulkEntries entries + 1
  | .held _ => 1
def uptoBulkAll {H : Type} : List (DataW H) → Nat
  | [] => 0
  | d :: r => uptoBulk d + uptoBulkAll r
def uptoBulkEntries {H : Type} : List (Lit × DataW H) → Nat
  | [] => 0
  | x :: r => uptoBulkEntry x + uptoBulkEntries r
def uptoBulkEntry {H : Type} : Lit × DataW H → Nat
  | (.string bytes, d) => bytes.length + uptoBulk d + 1
  | (_, d) => uptoBulk d + 1
 end
def uptoSmall : (H : Type) → List (DataW H) → Bool := fun _ ds => decide (uptoBulkAll ds ≤ 1048576)
def OpenSpec.upto (s : _root_.Go.ChangeSpec) : _root_.Go.OpenSpec := { _root_.Go.OpenSpec.ofChange s with cond := some uptoSmall }

/-- 'laws.FnDecoders', WHERE WHAT IT READS IS OF BULK AT MOST 1048576: true; the input reads as it did. -/
def fnDecodersUptoRow : OpenClaim := { program := "ytdmaeipiikknnaa", sum := "85f29821dc6ff614afd6d909be74d7dae1d262bd7eab589da8f348844b09594f", func := "loop.example/g00657/laws.FnDecoders", spec := "fnDecoders", unfollowed := true, recurses := true, apart := false, narrowed := true }
def FnDecodersUptoSaid : Prop := fnDecodersUptoRow.holds Try.pinned (OpenSpec.upto fnDecodersSpec)

/-- 'laws.FnExactSlotFault', WHERE WHAT IT READS IS OF BULK AT MOST 1048576: true; the input reads as it did. -/
def fnExactSlotFaultUptoRow : OpenClaim := { program := "ytdmaeipiikknnaa", sum := "85f29821dc6ff614afd6d909be74d7dae1d262bd7eab589da8f348844b09594f", func := "loop.example/g00657/laws.FnExactSlotFault", spec := "fnExactSlotFault", apart := false, narrowed := true }
def FnExactSlotFaultUptoSaid : Prop := fnExactSlotFaultUptoRow.holds Try.pinned (OpenSpec.upto fnExactSlotFaultSpec)

/-- 'laws.FnExactDecoderFault', WHERE WHAT IT READS IS OF BULK AT MOST 1048576: true; the input reads as it did. -/
def fnExactDecoderFaultUptoRow : OpenClaim := { program := "ytdmaeipiikknnaa", sum := "85f29821dc6ff614afd6d909be74d7dae1d262bd7eab589da8f348844b09594f", func := "loop.example/g00657/laws.FnExactDecoderFault", spec := "fnExactDecoderFault", apart := false, narrowed := true }
def FnExactDecoderFaultUptoSaid : Prop := fnExactDecoderFaultUptoRow.holds Try.pinned (OpenSpec.upto fnExactDecoderFaultSpec)

end Rows
end Go.Proofs.Ytdmaeipiikknnaa
