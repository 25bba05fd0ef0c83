/-
  DERIVED. GIVEN WITH THE SEED: THE CARDS: each row of YtgnbailcibhenaaDoorRows.lean that lists a variable, with what it lists TIED to the program's text (the seventh form; the later family's looks); each row that meets fmt, with fmt's text TOLD by the authors' own Lean function (tested against real Go, not proved from fmt's source: count such statements apart). THE CARD IS WHAT COUNTS. Prove the row's statement (the work); the ties are given (YtgnbailcibhenaaDoorTie.lean); close each card by the builder's one call (the guide's Derived/Test/ToyasCard.lean, 'card_holds'). Laid BY PROGRAM, IN A SANDBOX (cutbox-door.mjs). By AI agents, Wed Nov 11 2026. No macro, syntax, notation, axiom, sorry.
-/
import Derived.Test.YtgnbailcibhenaaDoorRows
import GoSem.ClaimSeven
namespace Go.Proofs.YtgnbailcibhenaaDoor
namespace Rows

/-- THE TIED CARD OF 'laws.FnLaps'. -/
def fnLapsCard : Claim7 := { stood := { row := fnLapsRow, standIns := [], harness := (true, "83b13651d57bf8b787119897c4587eaa3318c21d09694a6bfa21353c37c77c6e"), looks := false }, kinds := [], alts := [], laidByText := true, laidKinds := [.data], laidTests := true, laidLooks := .later }
def FnLapsCardSaid : Prop := Claim7.holds Tryd.pinned (.plain (OpenSpec.ofChange fnLapsSpec)) fnLapsCard

/-- THE TIED CARD OF 'laws.FnStates'. -/
def fnStatesCard : Claim7 := { stood := { row := fnStatesRow, standIns := [], harness := (true, "83b13651d57bf8b787119897c4587eaa3318c21d09694a6bfa21353c37c77c6e"), looks := false }, kinds := [], alts := [], laidByText := true, laidKinds := [.data], laidTests := true, laidLooks := .later }
def FnStatesCardSaid : Prop := Claim7.holds Tryd.pinned (.plain (OpenSpec.ofChange fnStatesSpec)) fnStatesCard

/-- THE TIED CARD OF 'laws.FnExactFeedFrame'. -/
def fnExactFeedFrameCard : Claim7 := { stood := { row := fnExactFeedFrameRow, standIns := [], harness := (true, "83b13651d57bf8b787119897c4587eaa3318c21d09694a6bfa21353c37c77c6e"), looks := false }, kinds := [], alts := [], laidByText := true, laidKinds := [.data], laidTests := true, laidLooks := .later }
def FnExactFeedFrameCardSaid : Prop := Claim7.holds Tryd.pinned (.plain (OpenSpec.ofChange fnExactFeedFrameSpec)) fnExactFeedFrameCard

/-- THE TIED CARD OF 'laws.FnExactPlayBlock'. -/
def fnExactPlayBlockCard : Claim7 := { stood := { row := fnExactPlayBlockRow, standIns := [], harness := (true, "83b13651d57bf8b787119897c4587eaa3318c21d09694a6bfa21353c37c77c6e"), looks := false }, kinds := [], alts := [], laidByText := true, laidKinds := [.data], laidTests := true, laidLooks := .later }
def FnExactPlayBlockCardSaid : Prop := Claim7.holds Tryd.pinned (.plain (OpenSpec.ofChange fnExactPlayBlockSpec)) fnExactPlayBlockCard

/-- THE SECOND FORM's CARD OF 'laws.FnLaps'. -/
def fnLapsUptoCard : Claim7 := { stood := { row := fnLapsUptoRow, standIns := [], harness := (true, "83b13651d57bf8b787119897c4587eaa3318c21d09694a6bfa21353c37c77c6e"), looks := false }, kinds := [], alts := [], laidByText := true, laidKinds := [.data], laidTests := true, laidLooks := .later }
def FnLapsUptoCardSaid : Prop := Claim7.holds Tryd.pinned (.plain (OpenSpec.upto fnLapsSpec)) fnLapsUptoCard

/-- THE SECOND FORM's CARD OF 'laws.FnStates'. -/
def fnStatesUptoCard : Claim7 := { stood := { row := fnStatesUptoRow, standIns := [], harness := (true, "83b13651d57bf8b787119897c4587eaa3318c21d09694a6bfa21353c37c77c6e"), looks := false }, kinds := [], alts := [], laidByText := true, laidKinds := [.data], laidTests := true, laidLooks := .later }
def FnStatesUptoCardSaid : Prop := Claim7.holds Tryd.pinned (.plain (OpenSpec.upto fnStatesSpec)) fnStatesUptoCard

/-- THE SECOND FORM's CARD OF 'laws.FnExactFeedFrame'. -/
def fnExactFeedFrameUptoCard : Claim7 := { stood := { row := fnExactFeedFrameUptoRow, standIns := [], harness := (true, "83b13651d57bf8b787119897c4587eaa3318c21d09694a6bfa21353c37c77c6e"), looks := false }, kinds := [], alts := [], laidByText := true, laidKinds := [.data], laidTests := true, laidLooks := .later }
def FnExactFeedFrameUptoCardSaid : Prop := Claim7.holds Tryd.pinned (.plain (OpenSpec.upto fnExactFeedFrameSpec)) fnExactFeedFrameUptoCard

/-- THE SECOND FORM's CARD OF 'laws.FnExactPlayBlock'. -/
def fnExactPlayBlockUptoCard : Claim7 := { stood := { row := fnExactPlayBlockUptoRow, standIns := [], harness := (true, "83b13651d57bf8b787119897c4587eaa3318c21d09694a6bfa21353c37c77c6e"), looks := false }, kinds := [], alts := [], laidByText := true, laidKinds := [.data], laidTests := true, laidLooks := .later }
def FnExactPlayBlockUptoCardSaid : Prop := Claim7.holds Tryd.pinned (.plain (OpenSpec.upto fnExactPlayBlockSpec)) fnExactPlayBlockUptoCard
end Rows
end Go.Proofs.YtgnbailcibhenaaDoor
