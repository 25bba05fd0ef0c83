/-
  No cell of these rows narrows 'for every input' (looked for: loops, veiled, ifaces, maps, wideKeys, modest, calm, conditions, laid).
  DERIVED. THE GIVEN ROWS OF THIS SEAT. 5 by the template 'for every input the law returns true; each argument reads behind the call as it read before'; 0 by the template 'total and deterministic' (their statements: YtodfkicmmcfkaaaTotals.lean).
  GIVEN WITH THE SEED: the statements are not yours to turn. If you find one false, say at which input.
  Laid BY PROGRAM, IN A SANDBOX (cutbox-rows.mjs): the forced cells as the released guide's own fill.sh prints them over the translation 041632859a482351… (all of the seat's roots in one cut). By AI agents, Wed Nov 11 2026. No macro, syntax, notation, axiom, sorry.
-/
import Derived.Test.YtodfkicmmcfkaaaChecked
import GoSem.Claim
import GoSem.ClaimJoined
import GoSem.ClaimMapViews
import Derived.JoinedTies
import Derived.KernelRfl
namespace Go.Proofs.Ytodfkicmmcfkaaa
/- THE CELL 'sum', in the pinned program and in every row, IS THE sha256 OF THE DUMP (.gsa) THAT YtodfkicmmcfkaaaProg.lean LOADS. Nothing in Lean hashes anything: it is a label: what it is worth is what the hold of that sum in a sandbox is worth. -/
noncomputable def Try.pinned : Pinned := { name := "ytodfkicmmcfkaaa", sum := "041632859a482351a104ae76334a31e6d8c9c0883e9ef974304d03c56463ca43", checked := Try.checked }
namespace Rows
def none {H : Type} : Left H := { results := [], args := [] }

/-- 'laws.FnBands': WHATEVER THE INPUT: true; the input reads as it did. -/
def fnBandsSpec : ChangeSpec := { name := "fnBands", fn := fun _ => fun
  | [d] => { results := [.lit (.bool true)], args := [d] }
  | _ => none }
def fnBandsRow : OpenClaim := { program := "ytodfkicmmcfkaaa", sum := "041632859a482351a104ae76334a31e6d8c9c0883e9ef974304d03c56463ca43", func := "loop.example/g00657/laws.FnBands", spec := "fnBands", unfollowed := true, recurses := true, apart := false }
def FnBandsSaid : Prop := fnBandsRow.holds Try.pinned (OpenSpec.ofChange fnBandsSpec)

/-- ITS FALSE NEIGHBOUR: 'it returns false'. Refute it at one input. -/
def fnBandsWrong : ChangeSpec := { name := "fnBands", fn := fun _ => fun
  | [d] => { results := [.lit (.bool false)], args := [d] }
  | _ => none }
def FnBandsWrongFalsely : Prop := fnBandsRow.holds Try.pinned (OpenSpec.ofChange fnBandsWrong)

/-- 'laws.FnExactLowCount': WHATEVER THE INPUT: true; the input reads as it did. -/
def fnExactLowCountSpec : ChangeSpec := { name := "fnExactLowCount", fn := fun _ => fun
  | [d] => { results := [.lit (.bool true)], args := [d] }
  | _ => none }
def fnExactLowCountRow : OpenClaim := { program := "ytodfkicmmcfkaaa", sum := "041632859a482351a104ae76334a31e6d8c9c0883e9ef974304d03c56463ca43", func := "loop.example/g00657/laws.FnExactLowCount", spec := "fnExactLowCount", apart := false }
def FnExactLowCountSaid : Prop := fnExactLowCountRow.holds Try.pinned (OpenSpec.ofChange fnExactLowCountSpec)

/-- ITS FALSE NEIGHBOUR: 'it returns false'. Refute it at one input. -/
def fnExactLowCountWrong : ChangeSpec := { name := "fnExactLowCount", fn := fun _ => fun
  | [d] => { results := [.lit (.bool false)], args := [d] }
  | _ => none }
def FnExactLowCountWrongFalsely : Prop := fnExactLowCountRow.holds Try.pinned (OpenSpec.ofChange fnExactLowCountWrong)

/-- 'laws.FnExactBandsOf': WHATEVER THE INPUT: true; the input reads as it did. -/
def fnExactBandsOfSpec : ChangeSpec := { name := "fnExactBandsOf", fn := fun _ => fun
  | [d] => { results := [.lit (.bool true)], args := [d] }
  | _ => none }
def fnExactBandsOfRow : OpenClaim := { program := "ytodfkicmmcfkaaa", sum := "041632859a482351a104ae76334a31e6d8c9c0883e9ef974304d03c56463ca43", func := "loop.example/g00657/laws.FnExactBandsOf", spec := "fnExactBandsOf", apart := false }
def FnExactBandsOfSaid : Prop := fnExactBandsOfRow.holds Try.pinned (OpenSpec.ofChange fnExactBandsOfSpec)

/-- ITS FALSE NEIGHBOUR: 'it returns false'. Refute it at one input. -/
def fnExactBandsOfWrong : ChangeSpec := { name := "fnExactBandsOf", fn := fun _ => fun
  | [d] => { results := [.lit (.bool false)], args := [d] }
  | _ => none }
def FnExactBandsOfWrongFalsely : Prop := fnExactBandsOfRow.holds Try.pinned (OpenSpec.ofChange fnExactBandsOfWrong)

/-- 'laws.FnExactBandNorms': WHATEVER THE INPUT: true; the input reads as it did. -/
def fnExactBandNormsSpec : ChangeSpec := { name := "fnExactBandNorms", fn := fun _ => fun
  | [d1, d2] => { results := [.lit (.bool true)], args := [d1, d2] }
  | _ => none }
def fnExactBandNormsRow : OpenClaim := { program := "ytodfkicmmcfkaaa", sum := "041632859a482351a104ae76334a31e6d8c9c0883e9ef974304d03c56463ca43", func := "loop.example/g00657/laws.FnExactBandNorms", spec := "fnExactBandNorms", unfollowed := true, recurses := true, apart := false }
def FnExactBandNormsSaid : Prop := fnExactBandNormsRow.holds Try.pinned (OpenSpec.ofChange fnExactBandNormsSpec)

/-- ITS FALSE NEIGHBOUR: 'it returns false'. Refute it at one input. -/
def fnExactBandNormsWrong : ChangeSpec := { name := "fnExactBandNorms", fn := fun _ => fun
  | [d1, d2] => { results := [.lit (.bool false)], args := [d1, d2] }
  | _ => none }
def FnExactBandNormsWrongFalsely : Prop := fnExactBandNormsRow.holds Try.pinned (OpenSpec.ofChange fnExactBandNormsWrong)

/-- 'laws.FnExactMaskOf': WHATEVER THE INPUT: true; the input reads as it did. -/
def fnExactMaskOfSpec : ChangeSpec := { name := "fnExactMaskOf", fn := fun _ => fun
  | [d1, d2] => { results := [.lit (.bool true)], args := [d1, d2] }
  | _ => none }
def fnExactMaskOfRow : OpenClaim := { program := "ytodfkicmmcfkaaa", sum := "041632859a482351a104ae76334a31e6d8c9c0883e9ef974304d03c56463ca43", func := "loop.example/g00657/laws.FnExactMaskOf", spec := "fnExactMaskOf", unfollowed := true, recurses := true, apart := false }
def FnExactMaskOfSaid : Prop := fnExactMaskOfRow.holds Try.pinned (OpenSpec.ofChange fnExactMaskOfSpec)

/-- ITS FALSE NEIGHBOUR: 'it returns false'. Refute it at one input. -/
def fnExactMaskOfWrong : ChangeSpec := { name := "fnExactMaskOf", fn := fun _ => fun
  | [d1, d2] => { results := [.lit (.bool false)], args := [d1, d2] }
  | _ => none }
def FnExactMaskOfWrongFalsely : Prop := fnExactMaskOfRow.holds Try.pinned (OpenSpec.ofChange fnExactMaskOfWrong)

/- THE SECOND FORM. 'bulk': how many values and letters a reading holds, each counted each time it is reached (what is shared counts as often as it is met; a slice's spare places count too). A statement '..UptoSaid' is the law's where the arguments, and the package variables that the reading takes, are together of bulk at most 1048576: NARROWER than '..Said'. Prove '..Said' where nothing that the law and all that it calls make is longer than what came in: it says more and counts as full. Else prove '..UptoSaid'. A law counts once. -/
mutual
def uptoBulk {H : Type} : DataW H → Nat
  | .lit (.string bytes) => bytes.length + 1
  | .lit _ => 1
  | .nil => 1
  | .ptr d => uptoBulk d + 1
  | .slice elems spare => uptoBulkAll elems + uptoBulkAll spare + 1
  | .agg parts => uptoBulkAll parts + 1
  | .iface _ d => uptoBulk d + 1
  | .map entries => uptoBulkEntries entries + 1
  | .held _ => 1
def uptoBulkAll {H : Type} : List (DataW H) → Nat
  | [] => 0
  | d :: r => uptoBulk d + uptoBulkAll r
def uptoBulkEntries {H : Type} : List (Lit × DataW H) → Nat
  | [] => 0
  | x :: r => uptoBulkEntry x + uptoBulkEntries r
def uptoBulkEntry {H : Type} : Lit × DataW H → Nat
  | (.string bytes, d) => bytes.length + uptoBulk d + 1
  | (_, d) => uptoBulk d + 1
 end
def uptoSmall : (H : Type) → List (DataW H) → Bool := fun _ ds => decide (uptoBulkAll ds ≤ 1048576)
def OpenSpec.upto (s : _root_.Go.ChangeSpec) : _root_.Go.OpenSpec := { _root_.Go.OpenSpec.ofChange s with cond := some uptoSmall }

/-- 'laws.FnBands', WHERE WHAT IT READS IS OF BULK AT MOST 1048576: true; the input reads as it did. -/
def fnBandsUptoRow : OpenClaim := { program := "ytodfkicmmcfkaaa", sum := "041632859a482351a104ae76334a31e6d8c9c0883e9ef974304d03c56463ca43", func := "loop.example/g00657/laws.FnBands", spec := "fnBands", unfollowed := true, recurses := true, apart := false, narrowed := true }
def FnBandsUptoSaid : Prop := fnBandsUptoRow.holds Try.pinned (OpenSpec.upto fnBandsSpec)

/-- 'laws.FnExactLowCount', WHERE WHAT IT READS IS OF BULK AT MOST 1048576: true; the input reads as it did. -/
def fnExactLowCountUptoRow : OpenClaim := { program := "ytodfkicmmcfkaaa", sum := "041632859a482351a104ae76334a31e6d8c9c0883e9ef974304d03c56463ca43", func := "loop.example/g00657/laws.FnExactLowCount", spec := "fnExactLowCount", apart := false, narrowed := true }
def FnExactLowCountUptoSaid : Prop := fnExactLowCountUptoRow.holds Try.pinned (OpenSpec.upto fnExactLowCountSpec)

/-- 'laws.FnExactBandsOf', WHERE WHAT IT READS IS OF BULK AT MOST 1048576: true; the input reads as it did. -/
def fnExactBandsOfUptoRow : OpenClaim := { program := "ytodfkicmmcfkaaa", sum := "041632859a482351a104ae76334a31e6d8c9c0883e9ef974304d03c56463ca43", func := "loop.example/g00657/laws.FnExactBandsOf", spec := "fnExactBandsOf", apart := false, narrowed := true }
def FnExactBandsOfUptoSaid : Prop := fnExactBandsOfUptoRow.holds Try.pinned (OpenSpec.upto fnExactBandsOfSpec)

/-- 'laws.FnExactBandNorms', WHERE WHAT IT READS IS OF BULK AT MOST 1048576: true; the input reads as it did. -/
def fnExactBandNormsUptoRow : OpenClaim := { program := "ytodfkicmmcfkaaa", sum := "041632859a482351a104ae76334a31e6d8c9c0883e9ef974304d03c56463ca43", func := "loop.example/g00657/laws.FnExactBandNorms", spec := "fnExactBandNorms", unfollowed := true, recurses := true, apart := false, narrowed := true }
def FnExactBandNormsUptoSaid : Prop := fnExactBandNormsUptoRow.holds Try.pinned (OpenSpec.upto fnExactBandNormsSpec)

/-- 'laws.FnExactMaskOf', WHERE WHAT IT READS IS OF BULK AT MOST 1048576: true; the input reads as it did. -/
def fnExactMaskOfUptoRow : OpenClaim := { program := "ytodfkicmmcfkaaa", sum := "041632859a482351a104ae76334a31e6d8c9c0883e9ef974304d03c56463ca43", func := "loop.example/g00657/laws.FnExactMaskOf", spec := "fnExactMaskOf", unfollowed := true, recurses := true, apart := false, narrowed := true }
def FnExactMaskOfUptoSaid : Prop := fnExactMaskOfUptoRow.holds Try.pinned (OpenSpec.upto fnExactMaskOfSpec)

end Rows
end Go.Proofs.Ytodfkicmmcfkaaa
