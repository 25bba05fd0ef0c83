/-
  DERIVED. GIVEN WITH THE SEED: THE CARDS: each row of YtobdgigeelhdoaaDoorRows.lean that lists a variable, with what it lists TIED to the program's text (the seventh form; the later family's looks); each row that meets fmt, with fmt's text TOLD by the authors' own Lean function (tested against real Go, not proved from fmt's source: count such statements apart). THE CARD IS WHAT COUNTS. Prove the row's statement (the work); the ties are given (YtobdgigeelhdoaaDoorTie.lean); close each card by the builder's one call (the guide's Derived/Test/ToyasCard.lean, 'card_holds'). Laid BY PROGRAM, IN A SANDBOX (cutbox-door.mjs). By AI agents, Wed Nov 11 2026. No macro, syntax, notation, axiom, sorry.
-/
import Derived.Test.YtobdgigeelhdoaaDoorRows
import GoSem.ClaimSeven
namespace Go.Proofs.YtobdgigeelhdoaaDoor
namespace Rows

/-- THE TIED CARD OF 'laws.FnTurns'. -/
def fnTurnsCard : Claim7 := { stood := { row := fnTurnsRow, standIns := [], harness := (true, "792989b87d89586caa58ecfa5cff218cd5409e07d5c4a646efa9c8911363259b"), looks := false }, kinds := [], alts := [], laidByText := true, laidKinds := [.data], laidTests := true, laidLooks := .later }
def FnTurnsCardSaid : Prop := Claim7.holds Tryd.pinned (.plain (OpenSpec.ofChange fnTurnsSpec)) fnTurnsCard

/-- THE TIED CARD OF 'laws.FnExactTurnPair'. -/
def fnExactTurnPairCard : Claim7 := { stood := { row := fnExactTurnPairRow, standIns := [], harness := (true, "792989b87d89586caa58ecfa5cff218cd5409e07d5c4a646efa9c8911363259b"), looks := false }, kinds := [], alts := [], laidByText := true, laidKinds := [.data], laidTests := true, laidLooks := .later }
def FnExactTurnPairCardSaid : Prop := Claim7.holds Tryd.pinned (.plain (OpenSpec.ofChange fnExactTurnPairSpec)) fnExactTurnPairCard

/-- THE TIED CARD OF 'laws.FnExactBackPair'. -/
def fnExactBackPairCard : Claim7 := { stood := { row := fnExactBackPairRow, standIns := [], harness := (true, "792989b87d89586caa58ecfa5cff218cd5409e07d5c4a646efa9c8911363259b"), looks := false }, kinds := [], alts := [], laidByText := true, laidKinds := [.data], laidTests := true, laidLooks := .later }
def FnExactBackPairCardSaid : Prop := Claim7.holds Tryd.pinned (.plain (OpenSpec.ofChange fnExactBackPairSpec)) fnExactBackPairCard

/-- THE SECOND FORM's CARD OF 'laws.FnTurns'. -/
def fnTurnsUptoCard : Claim7 := { stood := { row := fnTurnsUptoRow, standIns := [], harness := (true, "792989b87d89586caa58ecfa5cff218cd5409e07d5c4a646efa9c8911363259b"), looks := false }, kinds := [], alts := [], laidByText := true, laidKinds := [.data], laidTests := true, laidLooks := .later }
def FnTurnsUptoCardSaid : Prop := Claim7.holds Tryd.pinned (.plain (OpenSpec.upto fnTurnsSpec)) fnTurnsUptoCard

/-- THE SECOND FORM's CARD OF 'laws.FnExactTurnPair'. -/
def fnExactTurnPairUptoCard : Claim7 := { stood := { row := fnExactTurnPairUptoRow, standIns := [], harness := (true, "792989b87d89586caa58ecfa5cff218cd5409e07d5c4a646efa9c8911363259b"), looks := false }, kinds := [], alts := [], laidByText := true, laidKinds := [.data], laidTests := true, laidLooks := .later }
def FnExactTurnPairUptoCardSaid : Prop := Claim7.holds Tryd.pinned (.plain (OpenSpec.upto fnExactTurnPairSpec)) fnExactTurnPairUptoCard

/-- THE SECOND FORM's CARD OF 'laws.FnExactBackPair'. -/
def fnExactBackPairUptoCard : Claim7 := { stood := { row := fnExactBackPairUptoRow, standIns := [], harness := (true, "792989b87d89586caa58ecfa5cff218cd5409e07d5c4a646efa9c8911363259b"), looks := false }, kinds := [], alts := [], laidByText := true, laidKinds := [.data], laidTests := true, laidLooks := .later }
def FnExactBackPairUptoCardSaid : Prop := Claim7.holds Tryd.pinned (.plain (OpenSpec.upto fnExactBackPairSpec)) fnExactBackPairUptoCard
end Rows
end Go.Proofs.YtobdgigeelhdoaaDoor
