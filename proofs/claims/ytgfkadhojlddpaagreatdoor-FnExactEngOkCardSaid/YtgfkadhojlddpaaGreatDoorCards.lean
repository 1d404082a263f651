/-
  DERIVED. GIVEN WITH THE SEED: THE CARDS: each row of YtgfkadhojlddpaaGreatDoorRows.lean that lists a variable, with what it lists TIED to the program's text (the seventh form; the later family's looks); each row that meets fmt, with fmt's text TOLD by the authors' own Lean function (tested against real Go, not proved from fmt's source: count such statements apart). THE CARD IS WHAT COUNTS. Prove the row's statement (the work); the ties are given (YtgfkadhojlddpaaGreatDoorTie.lean); close each card by the builder's one call (the guide's Derived/Test/ToyasCard.lean, 'card_holds'). Laid BY PROGRAM, IN A SANDBOX (cutbox-door.mjs). By AI agents, Wed Nov 11 2026. No macro, syntax, notation, axiom, sorry.
-/
import Derived.Test.YtgfkadhojlddpaaGreatDoorRows
import GoSem.ClaimSeven
namespace Go.Proofs.YtgfkadhojlddpaaGreatDoor
namespace Rows

/-- THE TIED CARD OF 'laws.FnExactProgText'. -/
def fnExactProgTextCard : Claim7 := { stood := { row := fnExactProgTextRow, standIns := [], harness := (true, "e466181221deef6e34523c6bb023814789354f1e5f0f63156e1347b8e485b2f2"), looks := false }, kinds := [], alts := [], laidByText := true, laidKinds := [.data, .data, .data, .data], laidTests := true, laidLooks := .later }
def FnExactProgTextCardSaid : Prop := Claim7.holds Tryz.pinned (.plain (OpenSpec.ofChange fnExactProgTextSpec)) fnExactProgTextCard

/-- THE TIED CARD OF 'laws.FnExactPlaces'. -/
def fnExactPlacesCard : Claim7 := { stood := { row := fnExactPlacesRow, standIns := [], harness := (true, "e466181221deef6e34523c6bb023814789354f1e5f0f63156e1347b8e485b2f2"), looks := false }, kinds := [], alts := [], laidByText := true, laidKinds := [.data, .data], laidTests := true, laidLooks := .later }
def FnExactPlacesCardSaid : Prop := Claim7.holds Tryz.pinned (.plain (OpenSpec.ofChange fnExactPlacesSpec)) fnExactPlacesCard

/-- THE TIED CARD OF 'laws.FnExactEngOk'. -/
def fnExactEngOkCard : Claim7 := { stood := { row := fnExactEngOkRow, standIns := [], harness := (true, "e466181221deef6e34523c6bb023814789354f1e5f0f63156e1347b8e485b2f2"), looks := false }, kinds := [], alts := [], laidByText := true, laidKinds := [.data, .data], laidTests := true, laidLooks := .later }
def FnExactEngOkCardSaid : Prop := Claim7.holds Tryz.pinned (.plain (OpenSpec.ofChange fnExactEngOkSpec)) fnExactEngOkCard

/-- THE SECOND FORM's CARD OF 'laws.FnExactProgText'. -/
def fnExactProgTextUptoCard : Claim7 := { stood := { row := fnExactProgTextUptoRow, standIns := [], harness := (true, "e466181221deef6e34523c6bb023814789354f1e5f0f63156e1347b8e485b2f2"), looks := false }, kinds := [], alts := [], laidByText := true, laidKinds := [.data, .data, .data, .data], laidTests := true, laidLooks := .later }
def FnExactProgTextUptoCardSaid : Prop := Claim7.holds Tryz.pinned (.plain (OpenSpec.upto fnExactProgTextSpec)) fnExactProgTextUptoCard

/-- THE SECOND FORM's CARD OF 'laws.FnExactPlaces'. -/
def fnExactPlacesUptoCard : Claim7 := { stood := { row := fnExactPlacesUptoRow, standIns := [], harness := (true, "e466181221deef6e34523c6bb023814789354f1e5f0f63156e1347b8e485b2f2"), looks := false }, kinds := [], alts := [], laidByText := true, laidKinds := [.data, .data], laidTests := true, laidLooks := .later }
def FnExactPlacesUptoCardSaid : Prop := Claim7.holds Tryz.pinned (.plain (OpenSpec.upto fnExactPlacesSpec)) fnExactPlacesUptoCard

/-- THE SECOND FORM's CARD OF 'laws.FnExactEngOk'. -/
def fnExactEngOkUptoCard : Claim7 := { stood := { row := fnExactEngOkUptoRow, standIns := [], harness := (true, "e466181221deef6e34523c6bb023814789354f1e5f0f63156e1347b8e485b2f2"), looks := false }, kinds := [], alts := [], laidByText := true, laidKinds := [.data, .data], laidTests := true, laidLooks := .later }
def FnExactEngOkUptoCardSaid : Prop := Claim7.holds Tryz.pinned (.plain (OpenSpec.upto fnExactEngOkSpec)) fnExactEngOkUptoCard
end Rows
end Go.Proofs.YtgfkadhojlddpaaGreatDoor
