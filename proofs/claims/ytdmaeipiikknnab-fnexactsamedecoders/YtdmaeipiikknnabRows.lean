/-
  No cell of these rows narrows 'for every input' (looked for: loops, veiled, ifaces, maps, wideKeys, modest, calm, conditions, laid).
  DERIVED. THE GIVEN ROWS OF THIS SEAT. 4 by the template 'for every input the law returns true; each argument reads behind the call as it read before'; 0 by the template 'total and deterministic' (their statements: YtdmaeipiikknnabTotals.lean).
  GIVEN WITH THE SEED: the statements are not yours to turn. If you find one false, say at which input.
  Laid BY PROGRAM, IN A SANDBOX (cutbox-rows.mjs): the forced cells as the released guide's own fill.sh prints them over the translation 4adbd9c2176b44f6… (all of the seat's roots in one cut). By AI agents, Wed Nov 11 2026. No macro, syntax, notation, axiom, sorry.
-/
import Derived.Test.YtdmaeipiikknnabChecked
import GoSem.Claim
import GoSem.ClaimJoined
import GoSem.ClaimMapViews
import Derived.JoinedTies
import Derived.KernelRfl
namespace Go.Proofs.Ytdmaeipiikknnab
/- THE CELL 'sum', in the pinned program and in every row, IS THE sha256 OF THE DUMP (.gsa) THAT YtdmaeipiikknnabProg.lean LOADS. Nothing in Lean hashes anything: it is a label: what it is worth is what the hold of that sum in a sandbox is worth. -/
noncomputable def Try.pinned : Pinned := { name := "ytdmaeipiikknnab", sum := "4adbd9c2176b44f6cfa5852b364d3a6038df2225501a498083d94fd4430f61c0", checked := Try.checked }
namespace Rows
def none {H : Type} : Left H := { results := [], args := [] }

/-- 'laws.FnExactStartDecode': WHATEVER THE INPUT: true; the input reads as it did. -/
def fnExactStartDecodeSpec : ChangeSpec := { name := "fnExactStartDecode", fn := fun _ => fun
  | [d] => { results := [.lit (.bool true)], args := [d] }
  | _ => none }
def fnExactStartDecodeRow : OpenClaim := { program := "ytdmaeipiikknnab", sum := "4adbd9c2176b44f6cfa5852b364d3a6038df2225501a498083d94fd4430f61c0", func := "loop.example/g00657/laws.FnExactStartDecode", spec := "fnExactStartDecode", unfollowed := true, recurses := true, apart := false }
def FnExactStartDecodeSaid : Prop := fnExactStartDecodeRow.holds Try.pinned (OpenSpec.ofChange fnExactStartDecodeSpec)

/-- ITS FALSE NEIGHBOUR: 'it returns false'. Refute it at one input. -/
def fnExactStartDecodeWrong : ChangeSpec := { name := "fnExactStartDecode", fn := fun _ => fun
  | [d] => { results := [.lit (.bool false)], args := [d] }
  | _ => none }
def FnExactStartDecodeWrongFalsely : Prop := fnExactStartDecodeRow.holds Try.pinned (OpenSpec.ofChange fnExactStartDecodeWrong)

/-- 'laws.FnExactNextValue': WHATEVER THE INPUT: true; the input reads as it did. -/
def fnExactNextValueSpec : ChangeSpec := { name := "fnExactNextValue", fn := fun _ => fun
  | [d1, d2] => { results := [.lit (.bool true)], args := [d1, d2] }
  | _ => none }
def fnExactNextValueRow : OpenClaim := { program := "ytdmaeipiikknnab", sum := "4adbd9c2176b44f6cfa5852b364d3a6038df2225501a498083d94fd4430f61c0", func := "loop.example/g00657/laws.FnExactNextValue", spec := "fnExactNextValue", apart := false }
def FnExactNextValueSaid : Prop := fnExactNextValueRow.holds Try.pinned (OpenSpec.ofChange fnExactNextValueSpec)

/-- ITS FALSE NEIGHBOUR: 'it returns false'. Refute it at one input. -/
def fnExactNextValueWrong : ChangeSpec := { name := "fnExactNextValue", fn := fun _ => fun
  | [d1, d2] => { results := [.lit (.bool false)], args := [d1, d2] }
  | _ => none }
def FnExactNextValueWrongFalsely : Prop := fnExactNextValueRow.holds Try.pinned (OpenSpec.ofChange fnExactNextValueWrong)

/-- 'laws.FnExactTakeSlot': WHATEVER THE INPUT: true; the input reads as it did. -/
def fnExactTakeSlotSpec : ChangeSpec := { name := "fnExactTakeSlot", fn := fun _ => fun
  | [d1, d2] => { results := [.lit (.bool true)], args := [d1, d2] }
  | _ => none }
def fnExactTakeSlotRow : OpenClaim := { program := "ytdmaeipiikknnab", sum := "4adbd9c2176b44f6cfa5852b364d3a6038df2225501a498083d94fd4430f61c0", func := "loop.example/g00657/laws.FnExactTakeSlot", spec := "fnExactTakeSlot", unfollowed := true, recurses := true, apart := false }
def FnExactTakeSlotSaid : Prop := fnExactTakeSlotRow.holds Try.pinned (OpenSpec.ofChange fnExactTakeSlotSpec)

/-- ITS FALSE NEIGHBOUR: 'it returns false'. Refute it at one input. -/
def fnExactTakeSlotWrong : ChangeSpec := { name := "fnExactTakeSlot", fn := fun _ => fun
  | [d1, d2] => { results := [.lit (.bool false)], args := [d1, d2] }
  | _ => none }
def FnExactTakeSlotWrongFalsely : Prop := fnExactTakeSlotRow.holds Try.pinned (OpenSpec.ofChange fnExactTakeSlotWrong)

/-- 'laws.FnExactSameDecoders': WHATEVER THE INPUT: true; the input reads as it did. -/
def fnExactSameDecodersSpec : ChangeSpec := { name := "fnExactSameDecoders", fn := fun _ => fun
  | [d1, d2] => { results := [.lit (.bool true)], args := [d1, d2] }
  | _ => none }
def fnExactSameDecodersRow : OpenClaim := { program := "ytdmaeipiikknnab", sum := "4adbd9c2176b44f6cfa5852b364d3a6038df2225501a498083d94fd4430f61c0", func := "loop.example/g00657/laws.FnExactSameDecoders", spec := "fnExactSameDecoders", apart := false }
def FnExactSameDecodersSaid : Prop := fnExactSameDecodersRow.holds Try.pinned (OpenSpec.ofChange fnExactSameDecodersSpec)

/-- ITS FALSE NEIGHBOUR: 'it returns false'. Refute it at one input. -/
def fnExactSameDecodersWrong : ChangeSpec := { name := "fnExactSameDecoders", fn := fun _ => fun
  | [d1, d2] => { results := [.lit (.bool false)], args := [d1, d2] }
  | _ => none }
def FnExactSameDecodersWrongFalsely : Prop := fnExactSameDecodersRow.holds Try.pinned (OpenSpec.ofChange fnExactSameDecodersWrong)

/- THE SECOND FORM. 'bulk': how many values and letters a reading holds, each counted each time it is reached (what is shared counts as often as it is met; a slice's spare places count too). A statement '..UptoSaid' is the law's where the arguments, and the package variables that the reading takes, are together of bulk at most 1048576: NARROWER than '..Said'. Prove '..Said' where nothing that the law and all that it calls make is longer than what came in: it says more and counts as full. Else prove '..UptoSaid'. A law counts once. -/
mutual
def uptoBulk {H : Type} : DataW H → Nat
  | .lit (.string bytes) => bytes.length + 1
  | .lit _ => 1
  | .nil => 1
  | .ptr d => uptoBulk d + 1
  | .slice elems spare => uptoBulkAll elems + uptoBulkAll spare + 1
  | .agg parts => uptoBulkAll parts + 1
  | .iface _ d => uptoBulk d + 1
  | .map entries => uptoBulkEntries entries + 1
  | .held _ => 1
def uptoBulkAll {H : Type} : List (DataW H) → Nat
  | [] => 0
  | d :: r => uptoBulk d + uptoBulkAll r
def uptoBulkEntries {H : Type} : List (Lit × DataW H) → Nat
  | [] => 0
  | x :: r => uptoBulkEntry x + uptoBulkEntries r
def uptoBulkEntry {H : Type} : Lit × DataW H → Nat
  | (.string bytes, d) => bytes.length + uptoBulk d + 1
  | (_, d) => uptoBulk d + 1
 end
def uptoSmall : (H : Type) → List (DataW H) → Bool := fun _ ds => decide (uptoBulkAll ds ≤ 1048576)
def OpenSpec.upto (s : _root_.Go.ChangeSpec) : _root_.Go.OpenSpec := { _root_.Go.OpenSpec.ofChange s with cond := some uptoSmall }

/-- 'laws.FnExactStartDecode', WHERE WHAT IT READS IS OF BULK AT MOST 1048576: true; the input reads as it did. -/
def fnExactStartDecodeUptoRow : OpenClaim := { program := "ytdmaeipiikknnab", sum := "4adbd9c2176b44f6cfa5852b364d3a6038df2225501a498083d94fd4430f61c0", func := "loop.example/g00657/laws.FnExactStartDecode", spec := "fnExactStartDecode", unfollowed := true, recurses := true, apart := false, narrowed := true }
def FnExactStartDecodeUptoSaid : Prop := fnExactStartDecodeUptoRow.holds Try.pinned (OpenSpec.upto fnExactStartDecodeSpec)

/-- 'laws.FnExactNextValue', WHERE WHAT IT READS IS OF BULK AT MOST 1048576: true; the input reads as it did. -/
def fnExactNextValueUptoRow : OpenClaim := { program := "ytdmaeipiikknnab", sum := "4adbd9c2176b44f6cfa5852b364d3a6038df2225501a498083d94fd4430f61c0", func := "loop.example/g00657/laws.FnExactNextValue", spec := "fnExactNextValue", apart := false, narrowed := true }
def FnExactNextValueUptoSaid : Prop := fnExactNextValueUptoRow.holds Try.pinned (OpenSpec.upto fnExactNextValueSpec)

/-- 'laws.FnExactTakeSlot', WHERE WHAT IT READS IS OF BULK AT MOST 1048576: true; the input reads as it did. -/
def fnExactTakeSlotUptoRow : OpenClaim := { program := "ytdmaeipiikknnab", sum := "4adbd9c2176b44f6cfa5852b364d3a6038df2225501a498083d94fd4430f61c0", func := "loop.example/g00657/laws.FnExactTakeSlot", spec := "fnExactTakeSlot", unfollowed := true, recurses := true, apart := false, narrowed := true }
def FnExactTakeSlotUptoSaid : Prop := fnExactTakeSlotUptoRow.holds Try.pinned (OpenSpec.upto fnExactTakeSlotSpec)

/-- 'laws.FnExactSameDecoders', WHERE WHAT IT READS IS OF BULK AT MOST 1048576: true; the input reads as it did. -/
def fnExactSameDecodersUptoRow : OpenClaim := { program := "ytdmaeipiikknnab", sum := "4adbd9c2176b44f6cfa5852b364d3a6038df2225501a498083d94fd4430f61c0", func := "loop.example/g00657/laws.FnExactSameDecoders", spec := "fnExactSameDecoders", apart := false, narrowed := true }
def FnExactSameDecodersUptoSaid : Prop := fnExactSameDecodersUptoRow.holds Try.pinned (OpenSpec.upto fnExactSameDecodersSpec)

end Rows
end Go.Proofs.Ytdmaeipiikknnab
