/-
  DERIVED. GIVEN WITH THE SEED: THE CARDS: each row of YthecfboplfmdmaaDoorRows.lean that lists a variable, with what it lists TIED to the program's text (the seventh form; the later family's looks); each row that meets fmt, with fmt's text TOLD by the authors' own Lean function (tested against real Go, not proved from fmt's source: count such statements apart). THE CARD IS WHAT COUNTS. Prove the row's statement (the work); the ties are given (YthecfboplfmdmaaDoorTie.lean); close each card by the builder's one call (the guide's Derived/Test/ToyasCard.lean, 'card_holds'). Laid BY PROGRAM, IN A SANDBOX (cutbox-door.mjs). By AI agents, Wed Nov 11 2026. No macro, syntax, notation, axiom, sorry.
-/
import Derived.Test.YthecfboplfmdmaaDoorRows
import GoSem.ClaimSeven
namespace Go.Proofs.YthecfboplfmdmaaDoor
namespace Rows

/-- THE TIED CARD OF 'laws.FnValues'. -/
def fnValuesCard : Claim7 := { stood := { row := fnValuesRow, standIns := [], harness := (true, "3898ed811a5a262344e79e7384d37d4942393e027e2d68e31540919c301f04f6"), looks := false }, kinds := [], alts := [], laidByText := true, laidKinds := [.data, .pinned], laidTests := true, laidLooks := .later }
def FnValuesCardSaid : Prop := Claim7.holds Tryd.pinned (.plain (OpenSpec.ofChange fnValuesSpec)) fnValuesCard

/-- THE TIED CARD OF 'laws.FnExactEncodeValues'. -/
def fnExactEncodeValuesCard : Claim7 := { stood := { row := fnExactEncodeValuesRow, standIns := [], harness := (true, "3898ed811a5a262344e79e7384d37d4942393e027e2d68e31540919c301f04f6"), looks := false }, kinds := [], alts := [], laidByText := true, laidKinds := [.data, .pinned], laidTests := true, laidLooks := .later }
def FnExactEncodeValuesCardSaid : Prop := Claim7.holds Tryd.pinned (.plain (OpenSpec.ofChange fnExactEncodeValuesSpec)) fnExactEncodeValuesCard

/-- THE TIED CARD OF 'laws.FnExactDecodeValues'. -/
def fnExactDecodeValuesCard : Claim7 := { stood := { row := fnExactDecodeValuesRow, standIns := [], harness := (true, "3898ed811a5a262344e79e7384d37d4942393e027e2d68e31540919c301f04f6"), looks := false }, kinds := [], alts := [], laidByText := true, laidKinds := [.data, .pinned], laidTests := true, laidLooks := .later }
def FnExactDecodeValuesCardSaid : Prop := Claim7.holds Tryd.pinned (.plain (OpenSpec.ofChange fnExactDecodeValuesSpec)) fnExactDecodeValuesCard

/-- THE SECOND FORM's CARD OF 'laws.FnValues'. -/
def fnValuesUptoCard : Claim7 := { stood := { row := fnValuesUptoRow, standIns := [], harness := (true, "3898ed811a5a262344e79e7384d37d4942393e027e2d68e31540919c301f04f6"), looks := false }, kinds := [], alts := [], laidByText := true, laidKinds := [.data, .pinned], laidTests := true, laidLooks := .later }
def FnValuesUptoCardSaid : Prop := Claim7.holds Tryd.pinned (.plain (OpenSpec.upto fnValuesSpec)) fnValuesUptoCard

/-- THE SECOND FORM's CARD OF 'laws.FnExactEncodeValues'. -/
def fnExactEncodeValuesUptoCard : Claim7 := { stood := { row := fnExactEncodeValuesUptoRow, standIns := [], harness := (true, "3898ed811a5a262344e79e7384d37d4942393e027e2d68e31540919c301f04f6"), looks := false }, kinds := [], alts := [], laidByText := true, laidKinds := [.data, .pinned], laidTests := true, laidLooks := .later }
def FnExactEncodeValuesUptoCardSaid : Prop := Claim7.holds Tryd.pinned (.plain (OpenSpec.upto fnExactEncodeValuesSpec)) fnExactEncodeValuesUptoCard

/-- THE SECOND FORM's CARD OF 'laws.FnExactDecodeValues'. -/
def fnExactDecodeValuesUptoCard : Claim7 := { stood := { row := fnExactDecodeValuesUptoRow, standIns := [], harness := (true, "3898ed811a5a262344e79e7384d37d4942393e027e2d68e31540919c301f04f6"), looks := false }, kinds := [], alts := [], laidByText := true, laidKinds := [.data, .pinned], laidTests := true, laidLooks := .later }
def FnExactDecodeValuesUptoCardSaid : Prop := Claim7.holds Tryd.pinned (.plain (OpenSpec.upto fnExactDecodeValuesSpec)) fnExactDecodeValuesUptoCard
end Rows
end Go.Proofs.YthecfboplfmdmaaDoor
