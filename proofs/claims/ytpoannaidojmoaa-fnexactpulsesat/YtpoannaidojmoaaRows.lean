/-
  No cell of these rows narrows 'for every input' (looked for: loops, veiled, ifaces, maps, wideKeys, modest, calm, conditions, laid).
  DERIVED. THE GIVEN ROWS OF THIS SEAT. 6 by the template 'for every input the law returns true; each argument reads behind the call as it read before'; 0 by the template 'total and deterministic' (their statements: YtpoannaidojmoaaTotals.lean).
  GIVEN WITH THE SEED: the statements are not yours to turn. If you find one false, say at which input.
  Laid BY PROGRAM, IN A SANDBOX (cutbox-rows.mjs): the forced cells as the released guide's own fill.sh prints them over the translation 7d3a69179f5c48ee… (all of the seat's roots in one cut). By AI agents, Wed Nov 11 2026. No macro, syntax, notation, axiom, sorry.
-/
import Derived.Test.YtpoannaidojmoaaChecked
import GoSem.Claim
import GoSem.ClaimJoined
import GoSem.ClaimMapViews
import Derived.JoinedTies
import Derived.KernelRfl
namespace Go.Proofs.Ytpoannaidojmoaa
/- THE CELL 'sum', in the pinned program and in every row, IS THE sha256 OF THE DUMP (.gsa) THAT YtpoannaidojmoaaProg.lean LOADS. Nothing in Lean hashes anything: it is a label: what it is worth is what the hold of that sum in a sandbox is worth. -/
noncomputable def Try.pinned : Pinned := { name := "ytpoannaidojmoaa", sum := "7d3a69179f5c48ee230b8be2a2088e8654ed385c44e57e6a10062620a736ed41", checked := Try.checked }
namespace Rows
def none {H : Type} : Left H := { results := [], args := [] }

/-- 'laws.FnPulses': WHATEVER THE INPUT: true; the input reads as it did. -/
def fnPulsesSpec : ChangeSpec := { name := "fnPulses", fn := fun _ => fun
  | [d] => { results := [.lit (.bool true)], args := [d] }
  | _ => none }
def fnPulsesRow : OpenClaim := { program := "ytpoannaidojmoaa", sum := "7d3a69179f5c48ee230b8be2a2088e8654ed385c44e57e6a10062620a736ed41", func := "loop.example/g00657/laws.FnPulses", spec := "fnPulses", unfollowed := true, recurses := true, plainKeys := false, apart := false }
def FnPulsesSaid : Prop := fnPulsesRow.holds Try.pinned (OpenSpec.ofChange fnPulsesSpec)

/-- ITS FALSE NEIGHBOUR: 'it returns false'. Refute it at one input. -/
def fnPulsesWrong : ChangeSpec := { name := "fnPulses", fn := fun _ => fun
  | [d] => { results := [.lit (.bool false)], args := [d] }
  | _ => none }
def FnPulsesWrongFalsely : Prop := fnPulsesRow.holds Try.pinned (OpenSpec.ofChange fnPulsesWrong)

/-- 'laws.FnExactCountPulses': WHATEVER THE INPUT: true; the input reads as it did. -/
def fnExactCountPulsesSpec : ChangeSpec := { name := "fnExactCountPulses", fn := fun _ => fun
  | [d1, d2] => { results := [.lit (.bool true)], args := [d1, d2] }
  | _ => none }
def fnExactCountPulsesRow : OpenClaim := { program := "ytpoannaidojmoaa", sum := "7d3a69179f5c48ee230b8be2a2088e8654ed385c44e57e6a10062620a736ed41", func := "loop.example/g00657/laws.FnExactCountPulses", spec := "fnExactCountPulses", plainKeys := false, apart := false }
def FnExactCountPulsesSaid : Prop := fnExactCountPulsesRow.holds Try.pinned (OpenSpec.ofChange fnExactCountPulsesSpec)

/-- ITS FALSE NEIGHBOUR: 'it returns false'. Refute it at one input. -/
def fnExactCountPulsesWrong : ChangeSpec := { name := "fnExactCountPulses", fn := fun _ => fun
  | [d1, d2] => { results := [.lit (.bool false)], args := [d1, d2] }
  | _ => none }
def FnExactCountPulsesWrongFalsely : Prop := fnExactCountPulsesRow.holds Try.pinned (OpenSpec.ofChange fnExactCountPulsesWrong)

/-- 'laws.FnExactPulsesFault': WHATEVER THE INPUT: true; the input reads as it did. -/
def fnExactPulsesFaultSpec : ChangeSpec := { name := "fnExactPulsesFault", fn := fun _ => fun
  | [d1, d2] => { results := [.lit (.bool true)], args := [d1, d2] }
  | _ => none }
def fnExactPulsesFaultRow : OpenClaim := { program := "ytpoannaidojmoaa", sum := "7d3a69179f5c48ee230b8be2a2088e8654ed385c44e57e6a10062620a736ed41", func := "loop.example/g00657/laws.FnExactPulsesFault", spec := "fnExactPulsesFault", plainKeys := false, apart := false }
def FnExactPulsesFaultSaid : Prop := fnExactPulsesFaultRow.holds Try.pinned (OpenSpec.ofChange fnExactPulsesFaultSpec)

/-- ITS FALSE NEIGHBOUR: 'it returns false'. Refute it at one input. -/
def fnExactPulsesFaultWrong : ChangeSpec := { name := "fnExactPulsesFault", fn := fun _ => fun
  | [d1, d2] => { results := [.lit (.bool false)], args := [d1, d2] }
  | _ => none }
def FnExactPulsesFaultWrongFalsely : Prop := fnExactPulsesFaultRow.holds Try.pinned (OpenSpec.ofChange fnExactPulsesFaultWrong)

/-- 'laws.FnExactIndexPulses': WHATEVER THE INPUT: true; the input reads as it did. -/
def fnExactIndexPulsesSpec : ChangeSpec := { name := "fnExactIndexPulses", fn := fun _ => fun
  | [d1, d2] => { results := [.lit (.bool true)], args := [d1, d2] }
  | _ => none }
def fnExactIndexPulsesRow : OpenClaim := { program := "ytpoannaidojmoaa", sum := "7d3a69179f5c48ee230b8be2a2088e8654ed385c44e57e6a10062620a736ed41", func := "loop.example/g00657/laws.FnExactIndexPulses", spec := "fnExactIndexPulses", unfollowed := true, recurses := true, plainKeys := false, apart := false }
def FnExactIndexPulsesSaid : Prop := fnExactIndexPulsesRow.holds Try.pinned (OpenSpec.ofChange fnExactIndexPulsesSpec)

/-- ITS FALSE NEIGHBOUR: 'it returns false'. Refute it at one input. -/
def fnExactIndexPulsesWrong : ChangeSpec := { name := "fnExactIndexPulses", fn := fun _ => fun
  | [d1, d2] => { results := [.lit (.bool false)], args := [d1, d2] }
  | _ => none }
def FnExactIndexPulsesWrongFalsely : Prop := fnExactIndexPulsesRow.holds Try.pinned (OpenSpec.ofChange fnExactIndexPulsesWrong)

/-- 'laws.FnExactPulsesAt': WHATEVER THE INPUT: true; the input reads as it did. -/
def fnExactPulsesAtSpec : ChangeSpec := { name := "fnExactPulsesAt", fn := fun _ => fun
  | [d1, d2, d3] => { results := [.lit (.bool true)], args := [d1, d2, d3] }
  | _ => none }
def fnExactPulsesAtRow : OpenClaim := { program := "ytpoannaidojmoaa", sum := "7d3a69179f5c48ee230b8be2a2088e8654ed385c44e57e6a10062620a736ed41", func := "loop.example/g00657/laws.FnExactPulsesAt", spec := "fnExactPulsesAt", unfollowed := true, recurses := true, plainKeys := false, apart := false }
def FnExactPulsesAtSaid : Prop := fnExactPulsesAtRow.holds Try.pinned (OpenSpec.ofChange fnExactPulsesAtSpec)

/-- ITS FALSE NEIGHBOUR: 'it returns false'. Refute it at one input. -/
def fnExactPulsesAtWrong : ChangeSpec := { name := "fnExactPulsesAt", fn := fun _ => fun
  | [d1, d2, d3] => { results := [.lit (.bool false)], args := [d1, d2, d3] }
  | _ => none }
def FnExactPulsesAtWrongFalsely : Prop := fnExactPulsesAtRow.holds Try.pinned (OpenSpec.ofChange fnExactPulsesAtWrong)

/-- 'laws.FnExactNextPulses': WHATEVER THE INPUT: true; the input reads as it did. -/
def fnExactNextPulsesSpec : ChangeSpec := { name := "fnExactNextPulses", fn := fun _ => fun
  | [d1, d2] => { results := [.lit (.bool true)], args := [d1, d2] }
  | _ => none }
def fnExactNextPulsesRow : OpenClaim := { program := "ytpoannaidojmoaa", sum := "7d3a69179f5c48ee230b8be2a2088e8654ed385c44e57e6a10062620a736ed41", func := "loop.example/g00657/laws.FnExactNextPulses", spec := "fnExactNextPulses", unfollowed := true, recurses := true, plainKeys := false, apart := false }
def FnExactNextPulsesSaid : Prop := fnExactNextPulsesRow.holds Try.pinned (OpenSpec.ofChange fnExactNextPulsesSpec)

/-- ITS FALSE NEIGHBOUR: 'it returns false'. Refute it at one input. -/
def fnExactNextPulsesWrong : ChangeSpec := { name := "fnExactNextPulses", fn := fun _ => fun
  | [d1, d2] => { results := [.lit (.bool false)], args := [d1, d2] }
  | _ => none }
def FnExactNextPulsesWrongFalsely : Prop := fnExactNextPulsesRow.holds Try.pinned (OpenSpec.ofChange fnExactNextPulsesWrong)

/- THE SECOND FORM. 'bulk': how many values and letters a reading holds, each counted each time it is reached (what is shared counts as often as it is met; a slice's spare places count too). A statement '..UptoSaid' is the law's where the arguments, and the package variables that the reading takes, are together of bulk at most 1048576: NARROWER than '..Said'. Prove '..Said' where nothing that the law and all that it calls make is longer than what came in: it says more and counts as full. Else prove '..UptoSaid'. A law counts once. -/
mutual
def uptoBulk {H : Type} : DataW H → Nat
  | .lit (.string bytes) => bytes.length + 1
  | .lit _ => 1
  | .nil => 1
  | .ptr d => uptoBulk d + 1
  | .slice elems spare => uptoBulkAll elems + uptoBulkAll spare + 1
  | .agg parts => uptoBulkAll parts + 1
  | .iface _ d => uptoBulk d + 1
  | .map entries => uptoBulkEntries entries + 1
  | .held _ => 1
def uptoBulkAll {H : Type} : List (DataW H) → Nat
  | [] => 0
  | d :: r => uptoBulk d + uptoBulkAll r
def uptoBulkEntries {H : Type} : List (Lit × DataW H) → Nat
  | [] => 0
  | x :: r => uptoBulkEntry x + uptoBulkEntries r
def uptoBulkEntry {H : Type} : Lit × DataW H → Nat
  | (.string bytes, d) => bytes.length + uptoBulk d + 1
  | (_, d) => uptoBulk d + 1
 end
def uptoSmall : (H : Type) → List (DataW H) → Bool := fun _ ds => decide (uptoBulkAll ds ≤ 1048576)
def OpenSpec.upto (s : _root_.Go.ChangeSpec) : _root_.Go.OpenSpec := { _root_.Go.OpenSpec.ofChange s with cond := some uptoSmall }

/-- 'laws.FnPulses', WHERE WHAT IT READS IS OF BULK AT MOST 1048576: true; the input reads as it did. -/
def fnPulsesUptoRow : OpenClaim := { program := "ytpoannaidojmoaa", sum := "7d3a69179f5c48ee230b8be2a2088e8654ed385c44e57e6a10062620a736ed41", func := "loop.example/g00657/laws.FnPulses", spec := "fnPulses", unfollowed := true, recurses := true, plainKeys := false, apart := false, narrowed := true }
def FnPulsesUptoSaid : Prop := fnPulsesUptoRow.holds Try.pinned (OpenSpec.upto fnPulsesSpec)

/-- 'laws.FnExactCountPulses', WHERE WHAT IT READS IS OF BULK AT MOST 1048576: true; the input reads as it did. -/
def fnExactCountPulsesUptoRow : OpenClaim := { program := "ytpoannaidojmoaa", sum := "7d3a69179f5c48ee230b8be2a2088e8654ed385c44e57e6a10062620a736ed41", func := "loop.example/g00657/laws.FnExactCountPulses", spec := "fnExactCountPulses", plainKeys := false, apart := false, narrowed := true }
def FnExactCountPulsesUptoSaid : Prop := fnExactCountPulsesUptoRow.holds Try.pinned (OpenSpec.upto fnExactCountPulsesSpec)

/-- 'laws.FnExactPulsesFault', WHERE WHAT IT READS IS OF BULK AT MOST 1048576: true; the input reads as it did. -/
def fnExactPulsesFaultUptoRow : OpenClaim := { program := "ytpoannaidojmoaa", sum := "7d3a69179f5c48ee230b8be2a2088e8654ed385c44e57e6a10062620a736ed41", func := "loop.example/g00657/laws.FnExactPulsesFault", spec := "fnExactPulsesFault", plainKeys := false, apart := false, narrowed := true }
def FnExactPulsesFaultUptoSaid : Prop := fnExactPulsesFaultUptoRow.holds Try.pinned (OpenSpec.upto fnExactPulsesFaultSpec)

/-- 'laws.FnExactIndexPulses', WHERE WHAT IT READS IS OF BULK AT MOST 1048576: true; the input reads as it did. -/
def fnExactIndexPulsesUptoRow : OpenClaim := { program := "ytpoannaidojmoaa", sum := "7d3a69179f5c48ee230b8be2a2088e8654ed385c44e57e6a10062620a736ed41", func := "loop.example/g00657/laws.FnExactIndexPulses", spec := "fnExactIndexPulses", unfollowed := true, recurses := true, plainKeys := false, apart := false, narrowed := true }
def FnExactIndexPulsesUptoSaid : Prop := fnExactIndexPulsesUptoRow.holds Try.pinned (OpenSpec.upto fnExactIndexPulsesSpec)

/-- 'laws.FnExactPulsesAt', WHERE WHAT IT READS IS OF BULK AT MOST 1048576: true; the input reads as it did. -/
def fnExactPulsesAtUptoRow : OpenClaim := { program := "ytpoannaidojmoaa", sum := "7d3a69179f5c48ee230b8be2a2088e8654ed385c44e57e6a10062620a736ed41", func := "loop.example/g00657/laws.FnExactPulsesAt", spec := "fnExactPulsesAt", unfollowed := true, recurses := true, plainKeys := false, apart := false, narrowed := true }
def FnExactPulsesAtUptoSaid : Prop := fnExactPulsesAtUptoRow.holds Try.pinned (OpenSpec.upto fnExactPulsesAtSpec)

/-- 'laws.FnExactNextPulses', WHERE WHAT IT READS IS OF BULK AT MOST 1048576: true; the input reads as it did. -/
def fnExactNextPulsesUptoRow : OpenClaim := { program := "ytpoannaidojmoaa", sum := "7d3a69179f5c48ee230b8be2a2088e8654ed385c44e57e6a10062620a736ed41", func := "loop.example/g00657/laws.FnExactNextPulses", spec := "fnExactNextPulses", unfollowed := true, recurses := true, plainKeys := false, apart := false, narrowed := true }
def FnExactNextPulsesUptoSaid : Prop := fnExactNextPulsesUptoRow.holds Try.pinned (OpenSpec.upto fnExactNextPulsesSpec)

end Rows
end Go.Proofs.Ytpoannaidojmoaa
