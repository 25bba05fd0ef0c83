/-
  DERIVED. GIVEN WITH THE SEED: THE CARDS: each row of YtbakmphopgkpmaaDoorRows.lean that lists a variable, with what it lists TIED to the program's text (the seventh form; the later family's looks); each row that meets fmt, with fmt's text TOLD by the authors' own Lean function (tested against real Go, not proved from fmt's source: count such statements apart). THE CARD IS WHAT COUNTS. Prove the row's statement (the work); the ties are given (YtbakmphopgkpmaaDoorTie.lean); close each card by the builder's one call (the guide's Derived/Test/ToyasCard.lean, 'card_holds'). Laid BY PROGRAM, IN A SANDBOX (cutbox-door.mjs). By AI agents, Wed Nov 11 2026. No macro, syntax, notation, axiom, sorry.
-/
import Derived.Test.YtbakmphopgkpmaaDoorRows
import GoSem.ClaimSeven
namespace Go.Proofs.YtbakmphopgkpmaaDoor
namespace Rows

/-- THE TIED CARD OF 'laws.FnPairBounds'. -/
def fnPairBoundsCard : Claim7 := { stood := { row := fnPairBoundsRow, standIns := [], harness := (true, "a9a2b1ce4dee7c523e21d7ac569a21a1c0307e9c7ca1f570a5c32a6bf662f949"), looks := false }, kinds := [], alts := [], laidByText := true, laidKinds := [.data], laidTests := true, laidLooks := .later }
def FnPairBoundsCardSaid : Prop := Claim7.holds Tryd.pinned (.plain (OpenSpec.ofChange fnPairBoundsSpec)) fnPairBoundsCard

/-- THE TIED CARD OF 'laws.FnGathers'. -/
def fnGathersCard : Claim7 := { stood := { row := fnGathersRow, standIns := [], harness := (true, "a9a2b1ce4dee7c523e21d7ac569a21a1c0307e9c7ca1f570a5c32a6bf662f949"), looks := false }, kinds := [], alts := [], laidByText := true, laidKinds := [.data], laidTests := true, laidLooks := .later }
def FnGathersCardSaid : Prop := Claim7.holds Tryd.pinned (.plain (OpenSpec.ofChange fnGathersSpec)) fnGathersCard

/-- THE TIED CARD OF 'laws.FnFrameBounds'. -/
def fnFrameBoundsCard : Claim7 := { stood := { row := fnFrameBoundsRow, standIns := [], harness := (true, "a9a2b1ce4dee7c523e21d7ac569a21a1c0307e9c7ca1f570a5c32a6bf662f949"), looks := false }, kinds := [], alts := [], laidByText := true, laidKinds := [.data], laidTests := true, laidLooks := .later }
def FnFrameBoundsCardSaid : Prop := Claim7.holds Tryd.pinned (.plain (OpenSpec.ofChange fnFrameBoundsSpec)) fnFrameBoundsCard

/-- THE TIED CARD OF 'laws.FnExactTurnBounds'. -/
def fnExactTurnBoundsCard : Claim7 := { stood := { row := fnExactTurnBoundsRow, standIns := [], harness := (true, "a9a2b1ce4dee7c523e21d7ac569a21a1c0307e9c7ca1f570a5c32a6bf662f949"), looks := false }, kinds := [], alts := [], laidByText := true, laidKinds := [.data], laidTests := true, laidLooks := .later }
def FnExactTurnBoundsCardSaid : Prop := Claim7.holds Tryd.pinned (.plain (OpenSpec.ofChange fnExactTurnBoundsSpec)) fnExactTurnBoundsCard

/-- THE TIED CARD OF 'laws.FnExactGatherBounds'. -/
def fnExactGatherBoundsCard : Claim7 := { stood := { row := fnExactGatherBoundsRow, standIns := [], harness := (true, "a9a2b1ce4dee7c523e21d7ac569a21a1c0307e9c7ca1f570a5c32a6bf662f949"), looks := false }, kinds := [], alts := [], laidByText := true, laidKinds := [.data], laidTests := true, laidLooks := .later }
def FnExactGatherBoundsCardSaid : Prop := Claim7.holds Tryd.pinned (.plain (OpenSpec.ofChange fnExactGatherBoundsSpec)) fnExactGatherBoundsCard

/-- THE TIED CARD OF 'laws.FnExactFrameBounds'. -/
def fnExactFrameBoundsCard : Claim7 := { stood := { row := fnExactFrameBoundsRow, standIns := [], harness := (true, "a9a2b1ce4dee7c523e21d7ac569a21a1c0307e9c7ca1f570a5c32a6bf662f949"), looks := false }, kinds := [], alts := [], laidByText := true, laidKinds := [.data], laidTests := true, laidLooks := .later }
def FnExactFrameBoundsCardSaid : Prop := Claim7.holds Tryd.pinned (.plain (OpenSpec.ofChange fnExactFrameBoundsSpec)) fnExactFrameBoundsCard

/-- THE SECOND FORM's CARD OF 'laws.FnPairBounds'. -/
def fnPairBoundsUptoCard : Claim7 := { stood := { row := fnPairBoundsUptoRow, standIns := [], harness := (true, "a9a2b1ce4dee7c523e21d7ac569a21a1c0307e9c7ca1f570a5c32a6bf662f949"), looks := false }, kinds := [], alts := [], laidByText := true, laidKinds := [.data], laidTests := true, laidLooks := .later }
def FnPairBoundsUptoCardSaid : Prop := Claim7.holds Tryd.pinned (.plain (OpenSpec.upto fnPairBoundsSpec)) fnPairBoundsUptoCard

/-- THE SECOND FORM's CARD OF 'laws.FnGathers'. -/
def fnGathersUptoCard : Claim7 := { stood := { row := fnGathersUptoRow, standIns := [], harness := (true, "a9a2b1ce4dee7c523e21d7ac569a21a1c0307e9c7ca1f570a5c32a6bf662f949"), looks := false }, kinds := [], alts := [], laidByText := true, laidKinds := [.data], laidTests := true, laidLooks := .later }
def FnGathersUptoCardSaid : Prop := Claim7.holds Tryd.pinned (.plain (OpenSpec.upto fnGathersSpec)) fnGathersUptoCard

/-- THE SECOND FORM's CARD OF 'laws.FnFrameBounds'. -/
def fnFrameBoundsUptoCard : Claim7 := { stood := { row := fnFrameBoundsUptoRow, standIns := [], harness := (true, "a9a2b1ce4dee7c523e21d7ac569a21a1c0307e9c7ca1f570a5c32a6bf662f949"), looks := false }, kinds := [], alts := [], laidByText := true, laidKinds := [.data], laidTests := true, laidLooks := .later }
def FnFrameBoundsUptoCardSaid : Prop := Claim7.holds Tryd.pinned (.plain (OpenSpec.upto fnFrameBoundsSpec)) fnFrameBoundsUptoCard

/-- THE SECOND FORM's CARD OF 'laws.FnExactTurnBounds'. -/
def fnExactTurnBoundsUptoCard : Claim7 := { stood := { row := fnExactTurnBoundsUptoRow, standIns := [], harness := (true, "a9a2b1ce4dee7c523e21d7ac569a21a1c0307e9c7ca1f570a5c32a6bf662f949"), looks := false }, kinds := [], alts := [], laidByText := true, laidKinds := [.data], laidTests := true, laidLooks := .later }
def FnExactTurnBoundsUptoCardSaid : Prop := Claim7.holds Tryd.pinned (.plain (OpenSpec.upto fnExactTurnBoundsSpec)) fnExactTurnBoundsUptoCard

/-- THE SECOND FORM's CARD OF 'laws.FnExactGatherBounds'. -/
def fnExactGatherBoundsUptoCard : Claim7 := { stood := { row := fnExactGatherBoundsUptoRow, standIns := [], harness := (true, "a9a2b1ce4dee7c523e21d7ac569a21a1c0307e9c7ca1f570a5c32a6bf662f949"), looks := false }, kinds := [], alts := [], laidByText := true, laidKinds := [.data], laidTests := true, laidLooks := .later }
def FnExactGatherBoundsUptoCardSaid : Prop := Claim7.holds Tryd.pinned (.plain (OpenSpec.upto fnExactGatherBoundsSpec)) fnExactGatherBoundsUptoCard

/-- THE SECOND FORM's CARD OF 'laws.FnExactFrameBounds'. -/
def fnExactFrameBoundsUptoCard : Claim7 := { stood := { row := fnExactFrameBoundsUptoRow, standIns := [], harness := (true, "a9a2b1ce4dee7c523e21d7ac569a21a1c0307e9c7ca1f570a5c32a6bf662f949"), looks := false }, kinds := [], alts := [], laidByText := true, laidKinds := [.data], laidTests := true, laidLooks := .later }
def FnExactFrameBoundsUptoCardSaid : Prop := Claim7.holds Tryd.pinned (.plain (OpenSpec.upto fnExactFrameBoundsSpec)) fnExactFrameBoundsUptoCard
end Rows
end Go.Proofs.YtbakmphopgkpmaaDoor
