/-
  DERIVED. GIVEN WITH THE SEED: THE CARDS: each row of YtapbjnfopniicaaGreatDoorRows.lean that lists a variable, with what it lists TIED to the program's text (the seventh form; the later family's looks); each row that meets fmt, with fmt's text TOLD by the authors' own Lean function (tested against real Go, not proved from fmt's source: count such statements apart). THE CARD IS WHAT COUNTS. Prove the row's statement (the work); the ties are given (YtapbjnfopniicaaGreatDoorTie.lean); close each card by the builder's one call (the guide's Derived/Test/ToyasCard.lean, 'card_holds'). Laid BY PROGRAM, IN A SANDBOX (cutbox-door.mjs). By AI agents, Wed Nov 11 2026. No macro, syntax, notation, axiom, sorry.
-/
import Derived.Test.YtapbjnfopniicaaGreatDoorRows
import GoSem.ClaimSeven
namespace Go.Proofs.YtapbjnfopniicaaGreatDoor
namespace Rows

/-- THE TIED CARD OF 'laws.FnExactStepLocal'. -/
def fnExactStepLocalCard : Claim7 := { stood := { row := fnExactStepLocalRow, standIns := [], harness := (true, "56c66e7282f158e492f1d8c6262b26001faae9f080e996b78e09f3549f88e190"), looks := false }, kinds := [], alts := [], laidByText := true, laidKinds := [.data, .data], laidTests := true, laidLooks := .later }
def FnExactStepLocalCardSaid : Prop := Claim7.holds Tryz.pinned (.plain (OpenSpec.ofChange fnExactStepLocalSpec)) fnExactStepLocalCard

/-- THE TIED CARD OF 'laws.FnExactBurn'. -/
def fnExactBurnCard : Claim7 := { stood := { row := fnExactBurnRow, standIns := [], harness := (true, "56c66e7282f158e492f1d8c6262b26001faae9f080e996b78e09f3549f88e190"), looks := false }, kinds := [], alts := [], laidByText := true, laidKinds := [.data, .data], laidTests := true, laidLooks := .later }
def FnExactBurnCardSaid : Prop := Claim7.holds Tryz.pinned (.plain (OpenSpec.ofChange fnExactBurnSpec)) fnExactBurnCard

/-- THE TIED CARD OF 'laws.FnExactNextShared'. -/
def fnExactNextSharedCard : Claim7 := { stood := { row := fnExactNextSharedRow, standIns := [], harness := (true, "56c66e7282f158e492f1d8c6262b26001faae9f080e996b78e09f3549f88e190"), looks := false }, kinds := [], alts := [], laidByText := true, laidKinds := [.data, .data], laidTests := true, laidLooks := .later }
def FnExactNextSharedCardSaid : Prop := Claim7.holds Tryz.pinned (.plain (OpenSpec.ofChange fnExactNextSharedSpec)) fnExactNextSharedCard

/-- THE SECOND FORM's CARD OF 'laws.FnExactStepLocal'. -/
def fnExactStepLocalUptoCard : Claim7 := { stood := { row := fnExactStepLocalUptoRow, standIns := [], harness := (true, "56c66e7282f158e492f1d8c6262b26001faae9f080e996b78e09f3549f88e190"), looks := false }, kinds := [], alts := [], laidByText := true, laidKinds := [.data, .data], laidTests := true, laidLooks := .later }
def FnExactStepLocalUptoCardSaid : Prop := Claim7.holds Tryz.pinned (.plain (OpenSpec.upto fnExactStepLocalSpec)) fnExactStepLocalUptoCard

/-- THE SECOND FORM's CARD OF 'laws.FnExactBurn'. -/
def fnExactBurnUptoCard : Claim7 := { stood := { row := fnExactBurnUptoRow, standIns := [], harness := (true, "56c66e7282f158e492f1d8c6262b26001faae9f080e996b78e09f3549f88e190"), looks := false }, kinds := [], alts := [], laidByText := true, laidKinds := [.data, .data], laidTests := true, laidLooks := .later }
def FnExactBurnUptoCardSaid : Prop := Claim7.holds Tryz.pinned (.plain (OpenSpec.upto fnExactBurnSpec)) fnExactBurnUptoCard

/-- THE SECOND FORM's CARD OF 'laws.FnExactNextShared'. -/
def fnExactNextSharedUptoCard : Claim7 := { stood := { row := fnExactNextSharedUptoRow, standIns := [], harness := (true, "56c66e7282f158e492f1d8c6262b26001faae9f080e996b78e09f3549f88e190"), looks := false }, kinds := [], alts := [], laidByText := true, laidKinds := [.data, .data], laidTests := true, laidLooks := .later }
def FnExactNextSharedUptoCardSaid : Prop := Claim7.holds Tryz.pinned (.plain (OpenSpec.upto fnExactNextSharedSpec)) fnExactNextSharedUptoCard
end Rows
end Go.Proofs.YtapbjnfopniicaaGreatDoor
