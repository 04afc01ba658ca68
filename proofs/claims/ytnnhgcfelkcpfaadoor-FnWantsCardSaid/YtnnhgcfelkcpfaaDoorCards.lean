/-
  DERIVED. GIVEN WITH THE SEED: THE CARDS: each row of YtnnhgcfelkcpfaaDoorRows.lean that lists a variable, with what it lists TIED to the program's text (the seventh form; the later family's looks); each row that meets fmt, with fmt's text TOLD by the authors' own Lean function (tested against real Go, not proved from fmt's source: count such statements apart). THE CARD IS WHAT COUNTS. Prove the row's statement (the work); the ties are given (YtnnhgcfelkcpfaaDoorTie.lean); close each card by the builder's one call (the guide's Derived/Test/ToyasCard.lean, 'card_holds'). Laid BY PROGRAM, IN A SANDBOX (cutbox-door.mjs). By AI agents, Wed Nov 11 2026. No macro, syntax, notation, axiom, sorry.
-/
import Derived.Test.YtnnhgcfelkcpfaaDoorRows
import GoSem.ClaimSeven
namespace Go.Proofs.YtnnhgcfelkcpfaaDoor
namespace Rows

/-- THE TIED CARD OF 'laws.FnWants'. -/
def fnWantsCard : Claim7 := { stood := { row := fnWantsRow, standIns := [], harness := (true, "c446101b1e61c8ce8d4073beca173acd97e1a0272f98ba6e86a8e5da55afba3a"), looks := false }, kinds := [], alts := [], laidByText := true, laidKinds := [.data, .data, .data], laidTests := true, laidLooks := .later }
def FnWantsCardSaid : Prop := Claim7.holds Tryd.pinned (.plain (OpenSpec.ofChange fnWantsSpec)) fnWantsCard

/-- THE TIED CARD OF 'laws.FnExactFormatInterest'. -/
def fnExactFormatInterestCard : Claim7 := { stood := { row := fnExactFormatInterestRow, standIns := [], harness := (true, "c446101b1e61c8ce8d4073beca173acd97e1a0272f98ba6e86a8e5da55afba3a"), looks := false }, kinds := [], alts := [], laidByText := true, laidKinds := [.data, .data, .data], laidTests := true, laidLooks := .later }
def FnExactFormatInterestCardSaid : Prop := Claim7.holds Tryd.pinned (.plain (OpenSpec.ofChange fnExactFormatInterestSpec)) fnExactFormatInterestCard

/-- THE SECOND FORM's CARD OF 'laws.FnWants'. -/
def fnWantsUptoCard : Claim7 := { stood := { row := fnWantsUptoRow, standIns := [], harness := (true, "c446101b1e61c8ce8d4073beca173acd97e1a0272f98ba6e86a8e5da55afba3a"), looks := false }, kinds := [], alts := [], laidByText := true, laidKinds := [.data, .data, .data], laidTests := true, laidLooks := .later }
def FnWantsUptoCardSaid : Prop := Claim7.holds Tryd.pinned (.plain (OpenSpec.upto fnWantsSpec)) fnWantsUptoCard

/-- THE SECOND FORM's CARD OF 'laws.FnExactFormatInterest'. -/
def fnExactFormatInterestUptoCard : Claim7 := { stood := { row := fnExactFormatInterestUptoRow, standIns := [], harness := (true, "c446101b1e61c8ce8d4073beca173acd97e1a0272f98ba6e86a8e5da55afba3a"), looks := false }, kinds := [], alts := [], laidByText := true, laidKinds := [.data, .data, .data], laidTests := true, laidLooks := .later }
def FnExactFormatInterestUptoCardSaid : Prop := Claim7.holds Tryd.pinned (.plain (OpenSpec.upto fnExactFormatInterestSpec)) fnExactFormatInterestUptoCard
end Rows
end Go.Proofs.YtnnhgcfelkcpfaaDoor
