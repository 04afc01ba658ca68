/-
  DERIVED. GIVEN WITH THE SEED: THE CARDS: each row of YtdaahcaafdleaabDoorRows.lean that lists a variable, with what it lists TIED to the program's text (the seventh form; the later family's looks); each row that meets fmt, with fmt's text TOLD by the authors' own Lean function (tested against real Go, not proved from fmt's source: count such statements apart). THE CARD IS WHAT COUNTS. Prove the row's statement (the work); the ties are given (YtdaahcaafdleaabDoorTie.lean); close each card by the builder's one call (the guide's Derived/Test/ToyasCard.lean, 'card_holds'). Laid BY PROGRAM, IN A SANDBOX (cutbox-door.mjs). By AI agents, Wed Nov 11 2026. No macro, syntax, notation, axiom, sorry.
-/
import Derived.Test.YtdaahcaafdleaabDoorRows
import GoSem.ClaimSeven
namespace Go.Proofs.YtdaahcaafdleaabDoor
namespace Rows

/-- THE TIED CARD OF 'laws.FnExactFormatRoutes'. -/
def fnExactFormatRoutesCard : Claim7 := { stood := { row := fnExactFormatRoutesRow, standIns := [], harness := (true, "4d41c89b71d8449daf8cf7dc76bf41c4d885c1517e83e3aea1d55c42c3647188"), looks := false }, kinds := [], alts := [], laidByText := true, laidKinds := [.data, .data, .data], laidTests := true, laidLooks := .later }
def FnExactFormatRoutesCardSaid : Prop := Claim7.holds Tryd.pinned (.plain (OpenSpec.ofChange fnExactFormatRoutesSpec)) fnExactFormatRoutesCard

/-- THE SECOND FORM's CARD OF 'laws.FnExactFormatRoutes'. -/
def fnExactFormatRoutesUptoCard : Claim7 := { stood := { row := fnExactFormatRoutesUptoRow, standIns := [], harness := (true, "4d41c89b71d8449daf8cf7dc76bf41c4d885c1517e83e3aea1d55c42c3647188"), looks := false }, kinds := [], alts := [], laidByText := true, laidKinds := [.data, .data, .data], laidTests := true, laidLooks := .later }
def FnExactFormatRoutesUptoCardSaid : Prop := Claim7.holds Tryd.pinned (.plain (OpenSpec.upto fnExactFormatRoutesSpec)) fnExactFormatRoutesUptoCard
end Rows
end Go.Proofs.YtdaahcaafdleaabDoor
