/-
  DERIVED. GIVEN WITH THE SEED: THE CARDS: each row of YtmpdkediffpjdaaDoorRows.lean that lists a variable, with what it lists TIED to the program's text (the seventh form; the later family's looks); each row that meets fmt, with fmt's text TOLD by the authors' own Lean function (tested against real Go, not proved from fmt's source: count such statements apart). THE CARD IS WHAT COUNTS. Prove the row's statement (the work); the ties are given (YtmpdkediffpjdaaDoorTie.lean); close each card by the builder's one call (the guide's Derived/Test/ToyasCard.lean, 'card_holds'). Laid BY PROGRAM, IN A SANDBOX (cutbox-door.mjs). By AI agents, Wed Nov 11 2026. No macro, syntax, notation, axiom, sorry.
-/
import Derived.Test.YtmpdkediffpjdaaDoorRows
import GoSem.ClaimSeven
namespace Go.Proofs.YtmpdkediffpjdaaDoor
namespace Rows

/-- THE TIED CARD OF 'laws.FnBlocks'. -/
def fnBlocksCard : Claim7 := { stood := { row := fnBlocksRow, standIns := [], harness := (true, "e59be118d0b98746e58a895a32b7843278326c3f6dc072a2fd651c53d0ef12fa"), looks := false }, kinds := [], alts := [], laidByText := true, laidKinds := [.data], laidTests := true, laidLooks := .later }
def FnBlocksCardSaid : Prop := Claim7.holds Tryd.pinned (.plain (OpenSpec.ofChange fnBlocksSpec)) fnBlocksCard

/-- THE TIED CARD OF 'laws.FnCoefs'. -/
def fnCoefsCard : Claim7 := { stood := { row := fnCoefsRow, standIns := [], harness := (true, "e59be118d0b98746e58a895a32b7843278326c3f6dc072a2fd651c53d0ef12fa"), looks := false }, kinds := [], alts := [], laidByText := true, laidKinds := [.data], laidTests := true, laidLooks := .later }
def FnCoefsCardSaid : Prop := Claim7.holds Tryd.pinned (.plain (OpenSpec.ofChange fnCoefsSpec)) fnCoefsCard

/-- THE TIED CARD OF 'laws.FnExactHalveList'. -/
def fnExactHalveListCard : Claim7 := { stood := { row := fnExactHalveListRow, standIns := [], harness := (true, "e59be118d0b98746e58a895a32b7843278326c3f6dc072a2fd651c53d0ef12fa"), looks := false }, kinds := [], alts := [], laidByText := true, laidKinds := [.data], laidTests := true, laidLooks := .later }
def FnExactHalveListCardSaid : Prop := Claim7.holds Tryd.pinned (.plain (OpenSpec.ofChange fnExactHalveListSpec)) fnExactHalveListCard

/-- THE TIED CARD OF 'laws.FnExactUniteHalves'. -/
def fnExactUniteHalvesCard : Claim7 := { stood := { row := fnExactUniteHalvesRow, standIns := [], harness := (true, "e59be118d0b98746e58a895a32b7843278326c3f6dc072a2fd651c53d0ef12fa"), looks := false }, kinds := [], alts := [], laidByText := true, laidKinds := [.data], laidTests := true, laidLooks := .later }
def FnExactUniteHalvesCardSaid : Prop := Claim7.holds Tryd.pinned (.plain (OpenSpec.ofChange fnExactUniteHalvesSpec)) fnExactUniteHalvesCard

/-- THE TIED CARD OF 'laws.FnExactSpreadBlock'. -/
def fnExactSpreadBlockCard : Claim7 := { stood := { row := fnExactSpreadBlockRow, standIns := [], harness := (true, "e59be118d0b98746e58a895a32b7843278326c3f6dc072a2fd651c53d0ef12fa"), looks := false }, kinds := [], alts := [], laidByText := true, laidKinds := [.data], laidTests := true, laidLooks := .later }
def FnExactSpreadBlockCardSaid : Prop := Claim7.holds Tryd.pinned (.plain (OpenSpec.ofChange fnExactSpreadBlockSpec)) fnExactSpreadBlockCard

/-- THE TIED CARD OF 'laws.FnExactGatherBlock'. -/
def fnExactGatherBlockCard : Claim7 := { stood := { row := fnExactGatherBlockRow, standIns := [], harness := (true, "e59be118d0b98746e58a895a32b7843278326c3f6dc072a2fd651c53d0ef12fa"), looks := false }, kinds := [], alts := [], laidByText := true, laidKinds := [.data], laidTests := true, laidLooks := .later }
def FnExactGatherBlockCardSaid : Prop := Claim7.holds Tryd.pinned (.plain (OpenSpec.ofChange fnExactGatherBlockSpec)) fnExactGatherBlockCard

/-- THE SECOND FORM's CARD OF 'laws.FnBlocks'. -/
def fnBlocksUptoCard : Claim7 := { stood := { row := fnBlocksUptoRow, standIns := [], harness := (true, "e59be118d0b98746e58a895a32b7843278326c3f6dc072a2fd651c53d0ef12fa"), looks := false }, kinds := [], alts := [], laidByText := true, laidKinds := [.data], laidTests := true, laidLooks := .later }
def FnBlocksUptoCardSaid : Prop := Claim7.holds Tryd.pinned (.plain (OpenSpec.upto fnBlocksSpec)) fnBlocksUptoCard

/-- THE SECOND FORM's CARD OF 'laws.FnCoefs'. -/
def fnCoefsUptoCard : Claim7 := { stood := { row := fnCoefsUptoRow, standIns := [], harness := (true, "e59be118d0b98746e58a895a32b7843278326c3f6dc072a2fd651c53d0ef12fa"), looks := false }, kinds := [], alts := [], laidByText := true, laidKinds := [.data], laidTests := true, laidLooks := .later }
def FnCoefsUptoCardSaid : Prop := Claim7.holds Tryd.pinned (.plain (OpenSpec.upto fnCoefsSpec)) fnCoefsUptoCard

/-- THE SECOND FORM's CARD OF 'laws.FnExactHalveList'. -/
def fnExactHalveListUptoCard : Claim7 := { stood := { row := fnExactHalveListUptoRow, standIns := [], harness := (true, "e59be118d0b98746e58a895a32b7843278326c3f6dc072a2fd651c53d0ef12fa"), looks := false }, kinds := [], alts := [], laidByText := true, laidKinds := [.data], laidTests := true, laidLooks := .later }
def FnExactHalveListUptoCardSaid : Prop := Claim7.holds Tryd.pinned (.plain (OpenSpec.upto fnExactHalveListSpec)) fnExactHalveListUptoCard

/-- THE SECOND FORM's CARD OF 'laws.FnExactUniteHalves'. -/
def fnExactUniteHalvesUptoCard : Claim7 := { stood := { row := fnExactUniteHalvesUptoRow, standIns := [], harness := (true, "e59be118d0b98746e58a895a32b7843278326c3f6dc072a2fd651c53d0ef12fa"), looks := false }, kinds := [], alts := [], laidByText := true, laidKinds := [.data], laidTests := true, laidLooks := .later }
def FnExactUniteHalvesUptoCardSaid : Prop := Claim7.holds Tryd.pinned (.plain (OpenSpec.upto fnExactUniteHalvesSpec)) fnExactUniteHalvesUptoCard

/-- THE SECOND FORM's CARD OF 'laws.FnExactSpreadBlock'. -/
def fnExactSpreadBlockUptoCard : Claim7 := { stood := { row := fnExactSpreadBlockUptoRow, standIns := [], harness := (true, "e59be118d0b98746e58a895a32b7843278326c3f6dc072a2fd651c53d0ef12fa"), looks := false }, kinds := [], alts := [], laidByText := true, laidKinds := [.data], laidTests := true, laidLooks := .later }
def FnExactSpreadBlockUptoCardSaid : Prop := Claim7.holds Tryd.pinned (.plain (OpenSpec.upto fnExactSpreadBlockSpec)) fnExactSpreadBlockUptoCard

/-- THE SECOND FORM's CARD OF 'laws.FnExactGatherBlock'. -/
def fnExactGatherBlockUptoCard : Claim7 := { stood := { row := fnExactGatherBlockUptoRow, standIns := [], harness := (true, "e59be118d0b98746e58a895a32b7843278326c3f6dc072a2fd651c53d0ef12fa"), looks := false }, kinds := [], alts := [], laidByText := true, laidKinds := [.data], laidTests := true, laidLooks := .later }
def FnExactGatherBlockUptoCardSaid : Prop := Claim7.holds Tryd.pinned (.plain (OpenSpec.upto fnExactGatherBlockSpec)) fnExactGatherBlockUptoCard
end Rows
end Go.Proofs.YtmpdkediffpjdaaDoor
