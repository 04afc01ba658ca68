/-
  DERIVED. GIVEN WITH THE SEED: THE CARDS: each row of YtlhchmjnaanjpaaGreatDoorRows.lean that lists a variable, with what it lists TIED to the program's text (the seventh form; the later family's looks); each row that meets fmt, with fmt's text TOLD by the authors' own Lean function (tested against real Go, not proved from fmt's source: count such statements apart). THE CARD IS WHAT COUNTS. Prove the row's statement (the work); the ties are given (YtlhchmjnaanjpaaGreatDoorTie.lean); close each card by the builder's one call (the guide's Derived/Test/ToyasCard.lean, 'card_holds'). Laid BY PROGRAM, IN A SANDBOX (cutbox-door.mjs). By AI agents, Wed Nov 11 2026. No macro, syntax, notation, axiom, sorry.
-/
import Derived.Test.YtlhchmjnaanjpaaGreatDoorRows
import GoSem.ClaimSeven
namespace Go.Proofs.YtlhchmjnaanjpaaGreatDoor
namespace Rows

/-- THE TIED CARD OF 'laws.FnTrusts'. -/
def fnTrustsCard : Claim7 := { stood := { row := fnTrustsRow, standIns := [], harness := (true, "bb5f66c0bc60a66406c1a00d8a7952baee4b78b7c9667bef30291e1f62ea1e61"), looks := true }, kinds := [], alts := [], laidByText := true, laidKinds := [.handle], laidTests := true, laidLooks := .later }
def FnTrustsCardSaid : Prop := Claim7.holds Tryz.pinned (.plain (OpenSpec.ofChange fnTrustsSpec)) fnTrustsCard

/-- THE TIED CARD OF 'laws.FnForgers'. -/
def fnForgersCard : Claim7 := { stood := { row := fnForgersRow, standIns := [], harness := (true, "bb5f66c0bc60a66406c1a00d8a7952baee4b78b7c9667bef30291e1f62ea1e61"), looks := true }, kinds := [], alts := [], laidByText := true, laidKinds := [.handle], laidTests := true, laidLooks := .later }
def FnForgersCardSaid : Prop := Claim7.holds Tryz.pinned (.plain (OpenSpec.ofChange fnForgersSpec)) fnForgersCard

/-- THE SECOND FORM's CARD OF 'laws.FnTrusts'. -/
def fnTrustsUptoCard : Claim7 := { stood := { row := fnTrustsUptoRow, standIns := [], harness := (true, "bb5f66c0bc60a66406c1a00d8a7952baee4b78b7c9667bef30291e1f62ea1e61"), looks := true }, kinds := [], alts := [], laidByText := true, laidKinds := [.handle], laidTests := true, laidLooks := .later }
def FnTrustsUptoCardSaid : Prop := Claim7.holds Tryz.pinned (.plain (OpenSpec.upto fnTrustsSpec)) fnTrustsUptoCard

/-- THE SECOND FORM's CARD OF 'laws.FnForgers'. -/
def fnForgersUptoCard : Claim7 := { stood := { row := fnForgersUptoRow, standIns := [], harness := (true, "bb5f66c0bc60a66406c1a00d8a7952baee4b78b7c9667bef30291e1f62ea1e61"), looks := true }, kinds := [], alts := [], laidByText := true, laidKinds := [.handle], laidTests := true, laidLooks := .later }
def FnForgersUptoCardSaid : Prop := Claim7.holds Tryz.pinned (.plain (OpenSpec.upto fnForgersSpec)) fnForgersUptoCard
end Rows
end Go.Proofs.YtlhchmjnaanjpaaGreatDoor
