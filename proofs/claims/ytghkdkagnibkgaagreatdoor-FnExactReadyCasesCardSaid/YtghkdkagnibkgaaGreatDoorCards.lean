/-
  DERIVED. GIVEN WITH THE SEED: THE CARDS: each row of YtghkdkagnibkgaaGreatDoorRows.lean that lists a variable, with what it lists TIED to the program's text (the seventh form; the later family's looks); each row that meets fmt, with fmt's text TOLD by the authors' own Lean function (tested against real Go, not proved from fmt's source: count such statements apart). THE CARD IS WHAT COUNTS. Prove the row's statement (the work); the ties are given (YtghkdkagnibkgaaGreatDoorTie.lean); close each card by the builder's one call (the guide's Derived/Test/ToyasCard.lean, 'card_holds'). Laid BY PROGRAM, IN A SANDBOX (cutbox-door.mjs). By AI agents, Wed Nov 11 2026. No macro, syntax, notation, axiom, sorry.
-/
import Derived.Test.YtghkdkagnibkgaaGreatDoorRows
import GoSem.ClaimSeven
namespace Go.Proofs.YtghkdkagnibkgaaGreatDoor
namespace Rows

/-- THE TIED CARD OF 'laws.FnExactReadyCases'. -/
def fnExactReadyCasesCard : Claim7 := { stood := { row := fnExactReadyCasesRow, standIns := [], harness := (true, "127ccc7b3dedd35ba3f8aba58048db804333b0932bcdfc114acb82c8fe97cf82"), looks := false }, kinds := [], alts := [], laidByText := true, laidKinds := [.data, .data], laidTests := true, laidLooks := .later }
def FnExactReadyCasesCardSaid : Prop := Claim7.holds Tryz.pinned (.plain (OpenSpec.ofChange fnExactReadyCasesSpec)) fnExactReadyCasesCard

/-- THE TIED CARD OF 'laws.FnExactBlocks'. -/
def fnExactBlocksCard : Claim7 := { stood := { row := fnExactBlocksRow, standIns := [], harness := (true, "127ccc7b3dedd35ba3f8aba58048db804333b0932bcdfc114acb82c8fe97cf82"), looks := false }, kinds := [], alts := [], laidByText := true, laidKinds := [.data, .data], laidTests := true, laidLooks := .later }
def FnExactBlocksCardSaid : Prop := Claim7.holds Tryz.pinned (.plain (OpenSpec.ofChange fnExactBlocksSpec)) fnExactBlocksCard

/-- THE TIED CARD OF 'laws.FnExactChoices'. -/
def fnExactChoicesCard : Claim7 := { stood := { row := fnExactChoicesRow, standIns := [], harness := (true, "127ccc7b3dedd35ba3f8aba58048db804333b0932bcdfc114acb82c8fe97cf82"), looks := false }, kinds := [], alts := [], laidByText := true, laidKinds := [.data, .data], laidTests := true, laidLooks := .later }
def FnExactChoicesCardSaid : Prop := Claim7.holds Tryz.pinned (.plain (OpenSpec.ofChange fnExactChoicesSpec)) fnExactChoicesCard

/-- THE SECOND FORM's CARD OF 'laws.FnExactReadyCases'. -/
def fnExactReadyCasesUptoCard : Claim7 := { stood := { row := fnExactReadyCasesUptoRow, standIns := [], harness := (true, "127ccc7b3dedd35ba3f8aba58048db804333b0932bcdfc114acb82c8fe97cf82"), looks := false }, kinds := [], alts := [], laidByText := true, laidKinds := [.data, .data], laidTests := true, laidLooks := .later }
def FnExactReadyCasesUptoCardSaid : Prop := Claim7.holds Tryz.pinned (.plain (OpenSpec.upto fnExactReadyCasesSpec)) fnExactReadyCasesUptoCard

/-- THE SECOND FORM's CARD OF 'laws.FnExactBlocks'. -/
def fnExactBlocksUptoCard : Claim7 := { stood := { row := fnExactBlocksUptoRow, standIns := [], harness := (true, "127ccc7b3dedd35ba3f8aba58048db804333b0932bcdfc114acb82c8fe97cf82"), looks := false }, kinds := [], alts := [], laidByText := true, laidKinds := [.data, .data], laidTests := true, laidLooks := .later }
def FnExactBlocksUptoCardSaid : Prop := Claim7.holds Tryz.pinned (.plain (OpenSpec.upto fnExactBlocksSpec)) fnExactBlocksUptoCard

/-- THE SECOND FORM's CARD OF 'laws.FnExactChoices'. -/
def fnExactChoicesUptoCard : Claim7 := { stood := { row := fnExactChoicesUptoRow, standIns := [], harness := (true, "127ccc7b3dedd35ba3f8aba58048db804333b0932bcdfc114acb82c8fe97cf82"), looks := false }, kinds := [], alts := [], laidByText := true, laidKinds := [.data, .data], laidTests := true, laidLooks := .later }
def FnExactChoicesUptoCardSaid : Prop := Claim7.holds Tryz.pinned (.plain (OpenSpec.upto fnExactChoicesSpec)) fnExactChoicesUptoCard
end Rows
end Go.Proofs.YtghkdkagnibkgaaGreatDoor
