/-
  DERIVED. GIVEN WITH THE SEED: THE CARDS: each row of YtcidfmmeonhkhaaGreatDoorRows.lean that lists a variable, with what it lists TIED to the program's text (the seventh form; the later family's looks); each row that meets fmt, with fmt's text TOLD by the authors' own Lean function (tested against real Go, not proved from fmt's source: count such statements apart). THE CARD IS WHAT COUNTS. Prove the row's statement (the work); the ties are given (YtcidfmmeonhkhaaGreatDoorTie.lean); close each card by the builder's one call (the guide's Derived/Test/ToyasCard.lean, 'card_holds'). Laid BY PROGRAM, IN A SANDBOX (cutbox-door.mjs). By AI agents, Wed Nov 11 2026. No macro, syntax, notation, axiom, sorry.
-/
import Derived.Test.YtcidfmmeonhkhaaGreatDoorRows
import GoSem.ClaimSeven
namespace Go.Proofs.YtcidfmmeonhkhaaGreatDoor
namespace Rows

/-- THE TIED CARD OF 'laws.FnTrusts'. -/
def fnTrustsCard : Claim7 := { stood := { row := fnTrustsRow, standIns := [], harness := (true, "9243e8fb69f1cad4bd82ae42b653654ef9f73344360ad12808e095ae4ad31ad9"), looks := true }, kinds := [], alts := [], laidByText := true, laidKinds := [.handle], laidTests := true, laidLooks := .later }
def FnTrustsCardSaid : Prop := Claim7.holds Tryz.pinned (.plain (OpenSpec.ofChange fnTrustsSpec)) fnTrustsCard

/-- THE TIED CARD OF 'laws.FnForgers'. -/
def fnForgersCard : Claim7 := { stood := { row := fnForgersRow, standIns := [], harness := (true, "9243e8fb69f1cad4bd82ae42b653654ef9f73344360ad12808e095ae4ad31ad9"), looks := true }, kinds := [], alts := [], laidByText := true, laidKinds := [.handle], laidTests := true, laidLooks := .later }
def FnForgersCardSaid : Prop := Claim7.holds Tryz.pinned (.plain (OpenSpec.ofChange fnForgersSpec)) fnForgersCard

/-- THE TIED CARD OF 'laws.FnOldPapers'. -/
def fnOldPapersCard : Claim7 := { stood := { row := fnOldPapersRow, standIns := [], harness := (true, "9243e8fb69f1cad4bd82ae42b653654ef9f73344360ad12808e095ae4ad31ad9"), looks := true }, kinds := [], alts := [], laidByText := true, laidKinds := [.handle], laidTests := true, laidLooks := .later }
def FnOldPapersCardSaid : Prop := Claim7.holds Tryz.pinned (.plain (OpenSpec.ofChange fnOldPapersSpec)) fnOldPapersCard

/-- THE TIED CARD OF 'laws.FnExactTrustChain'. -/
def fnExactTrustChainCard : Claim7 := { stood := { row := fnExactTrustChainRow, standIns := [], harness := (true, "9243e8fb69f1cad4bd82ae42b653654ef9f73344360ad12808e095ae4ad31ad9"), looks := true }, kinds := [], alts := [], laidByText := true, laidKinds := [.handle], laidTests := true, laidLooks := .later }
def FnExactTrustChainCardSaid : Prop := Claim7.holds Tryz.pinned (.plain (OpenSpec.ofChange fnExactTrustChainSpec)) fnExactTrustChainCard

/-- THE TIED CARD OF 'laws.FnExactIsTrusted'. -/
def fnExactIsTrustedCard : Claim7 := { stood := { row := fnExactIsTrustedRow, standIns := [], harness := (true, "9243e8fb69f1cad4bd82ae42b653654ef9f73344360ad12808e095ae4ad31ad9"), looks := true }, kinds := [], alts := [], laidByText := true, laidKinds := [.handle], laidTests := true, laidLooks := .later }
def FnExactIsTrustedCardSaid : Prop := Claim7.holds Tryz.pinned (.plain (OpenSpec.ofChange fnExactIsTrustedSpec)) fnExactIsTrustedCard

/-- THE SECOND FORM's CARD OF 'laws.FnTrusts'. -/
def fnTrustsUptoCard : Claim7 := { stood := { row := fnTrustsUptoRow, standIns := [], harness := (true, "9243e8fb69f1cad4bd82ae42b653654ef9f73344360ad12808e095ae4ad31ad9"), looks := true }, kinds := [], alts := [], laidByText := true, laidKinds := [.handle], laidTests := true, laidLooks := .later }
def FnTrustsUptoCardSaid : Prop := Claim7.holds Tryz.pinned (.plain (OpenSpec.upto fnTrustsSpec)) fnTrustsUptoCard

/-- THE SECOND FORM's CARD OF 'laws.FnForgers'. -/
def fnForgersUptoCard : Claim7 := { stood := { row := fnForgersUptoRow, standIns := [], harness := (true, "9243e8fb69f1cad4bd82ae42b653654ef9f73344360ad12808e095ae4ad31ad9"), looks := true }, kinds := [], alts := [], laidByText := true, laidKinds := [.handle], laidTests := true, laidLooks := .later }
def FnForgersUptoCardSaid : Prop := Claim7.holds Tryz.pinned (.plain (OpenSpec.upto fnForgersSpec)) fnForgersUptoCard

/-- THE SECOND FORM's CARD OF 'laws.FnOldPapers'. -/
def fnOldPapersUptoCard : Claim7 := { stood := { row := fnOldPapersUptoRow, standIns := [], harness := (true, "9243e8fb69f1cad4bd82ae42b653654ef9f73344360ad12808e095ae4ad31ad9"), looks := true }, kinds := [], alts := [], laidByText := true, laidKinds := [.handle], laidTests := true, laidLooks := .later }
def FnOldPapersUptoCardSaid : Prop := Claim7.holds Tryz.pinned (.plain (OpenSpec.upto fnOldPapersSpec)) fnOldPapersUptoCard

/-- THE SECOND FORM's CARD OF 'laws.FnExactTrustChain'. -/
def fnExactTrustChainUptoCard : Claim7 := { stood := { row := fnExactTrustChainUptoRow, standIns := [], harness := (true, "9243e8fb69f1cad4bd82ae42b653654ef9f73344360ad12808e095ae4ad31ad9"), looks := true }, kinds := [], alts := [], laidByText := true, laidKinds := [.handle], laidTests := true, laidLooks := .later }
def FnExactTrustChainUptoCardSaid : Prop := Claim7.holds Tryz.pinned (.plain (OpenSpec.upto fnExactTrustChainSpec)) fnExactTrustChainUptoCard

/-- THE SECOND FORM's CARD OF 'laws.FnExactIsTrusted'. -/
def fnExactIsTrustedUptoCard : Claim7 := { stood := { row := fnExactIsTrustedUptoRow, standIns := [], harness := (true, "9243e8fb69f1cad4bd82ae42b653654ef9f73344360ad12808e095ae4ad31ad9"), looks := true }, kinds := [], alts := [], laidByText := true, laidKinds := [.handle], laidTests := true, laidLooks := .later }
def FnExactIsTrustedUptoCardSaid : Prop := Claim7.holds Tryz.pinned (.plain (OpenSpec.upto fnExactIsTrustedSpec)) fnExactIsTrustedUptoCard
end Rows
end Go.Proofs.YtcidfmmeonhkhaaGreatDoor
