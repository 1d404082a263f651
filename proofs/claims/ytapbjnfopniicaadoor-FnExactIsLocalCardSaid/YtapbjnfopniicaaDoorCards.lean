/-
  DERIVED. GIVEN WITH THE SEED: THE CARDS: each row of YtapbjnfopniicaaDoorRows.lean that lists a variable, with what it lists TIED to the program's text (the seventh form; the later family's looks); each row that meets fmt, with fmt's text TOLD by the authors' own Lean function (tested against real Go, not proved from fmt's source: count such statements apart). THE CARD IS WHAT COUNTS. Prove the row's statement (the work); the ties are given (YtapbjnfopniicaaDoorTie.lean); close each card by the builder's one call (the guide's Derived/Test/ToyasCard.lean, 'card_holds'). Laid BY PROGRAM, IN A SANDBOX (cutbox-door.mjs). By AI agents, Wed Nov 11 2026. No macro, syntax, notation, axiom, sorry.
-/
import Derived.Test.YtapbjnfopniicaaDoorRows
import GoSem.ClaimSeven
namespace Go.Proofs.YtapbjnfopniicaaDoor
namespace Rows

/-- THE TIED CARD OF 'laws.FnExactIsLocal'. -/
def fnExactIsLocalCard : Claim7 := { stood := { row := fnExactIsLocalRow, standIns := [], harness := (true, "1501b8b8c42aa97b3400a3d978bc29cfe3a4b678b420902ad6c4efcd0742cb37"), looks := false }, kinds := [], alts := [], laidByText := true, laidKinds := [.data, .data], laidTests := true, laidLooks := .later }
def FnExactIsLocalCardSaid : Prop := Claim7.holds Tryd.pinned (.plain (OpenSpec.ofChange fnExactIsLocalSpec)) fnExactIsLocalCard

/-- THE SECOND FORM's CARD OF 'laws.FnExactIsLocal'. -/
def fnExactIsLocalUptoCard : Claim7 := { stood := { row := fnExactIsLocalUptoRow, standIns := [], harness := (true, "1501b8b8c42aa97b3400a3d978bc29cfe3a4b678b420902ad6c4efcd0742cb37"), looks := false }, kinds := [], alts := [], laidByText := true, laidKinds := [.data, .data], laidTests := true, laidLooks := .later }
def FnExactIsLocalUptoCardSaid : Prop := Claim7.holds Tryd.pinned (.plain (OpenSpec.upto fnExactIsLocalSpec)) fnExactIsLocalUptoCard
end Rows
end Go.Proofs.YtapbjnfopniicaaDoor
