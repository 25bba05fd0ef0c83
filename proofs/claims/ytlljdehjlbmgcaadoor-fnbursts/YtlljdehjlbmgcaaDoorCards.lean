/-
  DERIVED. GIVEN WITH THE SEED: THE CARDS: each row of YtlljdehjlbmgcaaDoorRows.lean that lists a variable, with what it lists TIED to the program's text (the seventh form; the later family's looks); each row that meets fmt, with fmt's text TOLD by the authors' own Lean function (tested against real Go, not proved from fmt's source: count such statements apart). THE CARD IS WHAT COUNTS. Prove the row's statement (the work); the ties are given (YtlljdehjlbmgcaaDoorTie.lean); close each card by the builder's one call (the guide's Derived/Test/ToyasCard.lean, 'card_holds'). Laid BY PROGRAM, IN A SANDBOX (cutbox-door.mjs). By AI agents, Wed Nov 11 2026. No macro, syntax, notation, axiom, sorry.
-/
import Derived.Test.YtlljdehjlbmgcaaDoorRows
import GoSem.ClaimSeven
namespace Go.Proofs.YtlljdehjlbmgcaaDoor
namespace Rows

/-- THE TIED CARD OF 'laws.FnBursts'. -/
def fnBurstsCard : Claim7 := { stood := { row := fnBurstsRow, standIns := [], harness := (true, "c6544778327b20c4403be7135c86a9a5d064faec8f6b142f3e2787c4059adb51"), looks := false }, kinds := [], alts := [], laidByText := true, laidKinds := [.data], laidTests := true, laidLooks := .later }
def FnBurstsCardSaid : Prop := Claim7.holds Tryd.pinned (.plain (OpenSpec.ofChange fnBurstsSpec)) fnBurstsCard

/-- THE TIED CARD OF 'laws.FnExactFlipBits'. -/
def fnExactFlipBitsCard : Claim7 := { stood := { row := fnExactFlipBitsRow, standIns := [], harness := (true, "c6544778327b20c4403be7135c86a9a5d064faec8f6b142f3e2787c4059adb51"), looks := false }, kinds := [], alts := [], laidByText := true, laidKinds := [.data], laidTests := true, laidLooks := .later }
def FnExactFlipBitsCardSaid : Prop := Claim7.holds Tryd.pinned (.plain (OpenSpec.ofChange fnExactFlipBitsSpec)) fnExactFlipBitsCard

/-- THE SECOND FORM's CARD OF 'laws.FnBursts'. -/
def fnBurstsUptoCard : Claim7 := { stood := { row := fnBurstsUptoRow, standIns := [], harness := (true, "c6544778327b20c4403be7135c86a9a5d064faec8f6b142f3e2787c4059adb51"), looks := false }, kinds := [], alts := [], laidByText := true, laidKinds := [.data], laidTests := true, laidLooks := .later }
def FnBurstsUptoCardSaid : Prop := Claim7.holds Tryd.pinned (.plain (OpenSpec.upto fnBurstsSpec)) fnBurstsUptoCard

/-- THE SECOND FORM's CARD OF 'laws.FnExactFlipBits'. -/
def fnExactFlipBitsUptoCard : Claim7 := { stood := { row := fnExactFlipBitsUptoRow, standIns := [], harness := (true, "c6544778327b20c4403be7135c86a9a5d064faec8f6b142f3e2787c4059adb51"), looks := false }, kinds := [], alts := [], laidByText := true, laidKinds := [.data], laidTests := true, laidLooks := .later }
def FnExactFlipBitsUptoCardSaid : Prop := Claim7.holds Tryd.pinned (.plain (OpenSpec.upto fnExactFlipBitsSpec)) fnExactFlipBitsUptoCard
end Rows
end Go.Proofs.YtlljdehjlbmgcaaDoor
