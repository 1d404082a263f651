/-
  DERIVED. GIVEN WITH THE SEED: THE CARDS: each row of YtlaiiphngekhnaaDoorRows.lean that lists a variable, with what it lists TIED to the program's text (the seventh form; the later family's looks); each row that meets fmt, with fmt's text TOLD by the authors' own Lean function (tested against real Go, not proved from fmt's source: count such statements apart). THE CARD IS WHAT COUNTS. Prove the row's statement (the work); the ties are given (YtlaiiphngekhnaaDoorTie.lean); close each card by the builder's one call (the guide's Derived/Test/ToyasCard.lean, 'card_holds'). Laid BY PROGRAM, IN A SANDBOX (cutbox-door.mjs). By AI agents, Wed Nov 11 2026. No macro, syntax, notation, axiom, sorry.
-/
import Derived.Test.YtlaiiphngekhnaaDoorRows
import GoSem.ClaimSeven
namespace Go.Proofs.YtlaiiphngekhnaaDoor
namespace Rows

/-- THE TIED CARD OF 'laws.FnExactParts'. -/
def fnExactPartsCard : Claim7 := { stood := { row := fnExactPartsRow, standIns := [], harness := (true, "263573798479bd05c19e9cbaaa302540b4a70b6cd8cb3afc37f21ae18fde0f73"), looks := false }, kinds := [], alts := [], laidByText := true, laidKinds := [.data, .pinned], laidTests := true, laidLooks := .later }
def FnExactPartsCardSaid : Prop := Claim7.holds Tryd.pinned (.plain (OpenSpec.ofChange fnExactPartsSpec)) fnExactPartsCard

/-- THE TIED CARD OF 'laws.FnExactLines'. -/
def fnExactLinesCard : Claim7 := { stood := { row := fnExactLinesRow, standIns := [], harness := (true, "263573798479bd05c19e9cbaaa302540b4a70b6cd8cb3afc37f21ae18fde0f73"), looks := false }, kinds := [], alts := [], laidByText := true, laidKinds := [.data, .pinned], laidTests := true, laidLooks := .later }
def FnExactLinesCardSaid : Prop := Claim7.holds Tryd.pinned (.plain (OpenSpec.ofChange fnExactLinesSpec)) fnExactLinesCard

/-- THE TIED CARD OF 'laws.FnExactOpWord'. -/
def fnExactOpWordCard : Claim7 := { stood := { row := fnExactOpWordRow, standIns := [], harness := (true, "263573798479bd05c19e9cbaaa302540b4a70b6cd8cb3afc37f21ae18fde0f73"), looks := false }, kinds := [], alts := [], laidByText := true, laidKinds := [.data], laidTests := true, laidLooks := .later }
def FnExactOpWordCardSaid : Prop := Claim7.holds Tryd.pinned (.plain (OpenSpec.ofChange fnExactOpWordSpec)) fnExactOpWordCard

/-- THE TIED CARD OF 'laws.FnExactFields'. -/
def fnExactFieldsCard : Claim7 := { stood := { row := fnExactFieldsRow, standIns := [], harness := (true, "263573798479bd05c19e9cbaaa302540b4a70b6cd8cb3afc37f21ae18fde0f73"), looks := false }, kinds := [], alts := [], laidByText := true, laidKinds := [.data], laidTests := true, laidLooks := .later }
def FnExactFieldsCardSaid : Prop := Claim7.holds Tryd.pinned (.plain (OpenSpec.ofChange fnExactFieldsSpec)) fnExactFieldsCard

/-- THE SECOND FORM's CARD OF 'laws.FnExactParts'. -/
def fnExactPartsUptoCard : Claim7 := { stood := { row := fnExactPartsUptoRow, standIns := [], harness := (true, "263573798479bd05c19e9cbaaa302540b4a70b6cd8cb3afc37f21ae18fde0f73"), looks := false }, kinds := [], alts := [], laidByText := true, laidKinds := [.data, .pinned], laidTests := true, laidLooks := .later }
def FnExactPartsUptoCardSaid : Prop := Claim7.holds Tryd.pinned (.plain (OpenSpec.upto fnExactPartsSpec)) fnExactPartsUptoCard

/-- THE SECOND FORM's CARD OF 'laws.FnExactLines'. -/
def fnExactLinesUptoCard : Claim7 := { stood := { row := fnExactLinesUptoRow, standIns := [], harness := (true, "263573798479bd05c19e9cbaaa302540b4a70b6cd8cb3afc37f21ae18fde0f73"), looks := false }, kinds := [], alts := [], laidByText := true, laidKinds := [.data, .pinned], laidTests := true, laidLooks := .later }
def FnExactLinesUptoCardSaid : Prop := Claim7.holds Tryd.pinned (.plain (OpenSpec.upto fnExactLinesSpec)) fnExactLinesUptoCard

/-- THE SECOND FORM's CARD OF 'laws.FnExactOpWord'. -/
def fnExactOpWordUptoCard : Claim7 := { stood := { row := fnExactOpWordUptoRow, standIns := [], harness := (true, "263573798479bd05c19e9cbaaa302540b4a70b6cd8cb3afc37f21ae18fde0f73"), looks := false }, kinds := [], alts := [], laidByText := true, laidKinds := [.data], laidTests := true, laidLooks := .later }
def FnExactOpWordUptoCardSaid : Prop := Claim7.holds Tryd.pinned (.plain (OpenSpec.upto fnExactOpWordSpec)) fnExactOpWordUptoCard

/-- THE SECOND FORM's CARD OF 'laws.FnExactFields'. -/
def fnExactFieldsUptoCard : Claim7 := { stood := { row := fnExactFieldsUptoRow, standIns := [], harness := (true, "263573798479bd05c19e9cbaaa302540b4a70b6cd8cb3afc37f21ae18fde0f73"), looks := false }, kinds := [], alts := [], laidByText := true, laidKinds := [.data], laidTests := true, laidLooks := .later }
def FnExactFieldsUptoCardSaid : Prop := Claim7.holds Tryd.pinned (.plain (OpenSpec.upto fnExactFieldsSpec)) fnExactFieldsUptoCard
end Rows
end Go.Proofs.YtlaiiphngekhnaaDoor
