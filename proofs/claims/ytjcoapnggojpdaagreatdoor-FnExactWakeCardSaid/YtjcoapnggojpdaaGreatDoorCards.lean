/-
  DERIVED. GIVEN WITH THE SEED: THE CARDS: each row of YtjcoapnggojpdaaGreatDoorRows.lean that lists a variable, with what it lists TIED to the program's text (the seventh form; the later family's looks); each row that meets fmt, with fmt's text TOLD by the authors' own Lean function (tested against real Go, not proved from fmt's source: count such statements apart). THE CARD IS WHAT COUNTS. Prove the row's statement (the work); the ties are given (YtjcoapnggojpdaaGreatDoorTie.lean); close each card by the builder's one call (the guide's Derived/Test/ToyasCard.lean, 'card_holds'). Laid BY PROGRAM, IN A SANDBOX (cutbox-door.mjs). By AI agents, Wed Nov 11 2026. No macro, syntax, notation, axiom, sorry.
-/
import Derived.Test.YtjcoapnggojpdaaGreatDoorRows
import GoSem.ClaimSeven
namespace Go.Proofs.YtjcoapnggojpdaaGreatDoor
namespace Rows

/-- THE TIED CARD OF 'laws.FnExactWake'. -/
def fnExactWakeCard : Claim7 := { stood := { row := fnExactWakeRow, standIns := [], harness := (true, "7fc4a13f0a102f43bef252d868ef189bb0db11f96e3613f17c1137877ca2d25e"), looks := false }, kinds := [], alts := [], laidByText := true, laidKinds := [.data, .data], laidTests := true, laidLooks := .later }
def FnExactWakeCardSaid : Prop := Claim7.holds Tryz.pinned (.plain (OpenSpec.ofChange fnExactWakeSpec)) fnExactWakeCard

/-- THE TIED CARD OF 'laws.FnExactDoShared'. -/
def fnExactDoSharedCard : Claim7 := { stood := { row := fnExactDoSharedRow, standIns := [], harness := (true, "7fc4a13f0a102f43bef252d868ef189bb0db11f96e3613f17c1137877ca2d25e"), looks := false }, kinds := [], alts := [], laidByText := true, laidKinds := [.data, .data], laidTests := true, laidLooks := .later }
def FnExactDoSharedCardSaid : Prop := Claim7.holds Tryz.pinned (.plain (OpenSpec.ofChange fnExactDoSharedSpec)) fnExactDoSharedCard

/-- THE TIED CARD OF 'laws.FnLocal'. -/
def fnLocalCard : Claim7 := { stood := { row := fnLocalRow, standIns := [], harness := (true, "7fc4a13f0a102f43bef252d868ef189bb0db11f96e3613f17c1137877ca2d25e"), looks := false }, kinds := [], alts := [], laidByText := true, laidKinds := [.data, .data], laidTests := true, laidLooks := .later }
def FnLocalCardSaid : Prop := Claim7.holds Tryz.pinned (.plain (OpenSpec.ofChange fnLocalSpec)) fnLocalCard

/-- THE SECOND FORM's CARD OF 'laws.FnExactWake'. -/
def fnExactWakeUptoCard : Claim7 := { stood := { row := fnExactWakeUptoRow, standIns := [], harness := (true, "7fc4a13f0a102f43bef252d868ef189bb0db11f96e3613f17c1137877ca2d25e"), looks := false }, kinds := [], alts := [], laidByText := true, laidKinds := [.data, .data], laidTests := true, laidLooks := .later }
def FnExactWakeUptoCardSaid : Prop := Claim7.holds Tryz.pinned (.plain (OpenSpec.upto fnExactWakeSpec)) fnExactWakeUptoCard

/-- THE SECOND FORM's CARD OF 'laws.FnExactDoShared'. -/
def fnExactDoSharedUptoCard : Claim7 := { stood := { row := fnExactDoSharedUptoRow, standIns := [], harness := (true, "7fc4a13f0a102f43bef252d868ef189bb0db11f96e3613f17c1137877ca2d25e"), looks := false }, kinds := [], alts := [], laidByText := true, laidKinds := [.data, .data], laidTests := true, laidLooks := .later }
def FnExactDoSharedUptoCardSaid : Prop := Claim7.holds Tryz.pinned (.plain (OpenSpec.upto fnExactDoSharedSpec)) fnExactDoSharedUptoCard

/-- THE SECOND FORM's CARD OF 'laws.FnLocal'. -/
def fnLocalUptoCard : Claim7 := { stood := { row := fnLocalUptoRow, standIns := [], harness := (true, "7fc4a13f0a102f43bef252d868ef189bb0db11f96e3613f17c1137877ca2d25e"), looks := false }, kinds := [], alts := [], laidByText := true, laidKinds := [.data, .data], laidTests := true, laidLooks := .later }
def FnLocalUptoCardSaid : Prop := Claim7.holds Tryz.pinned (.plain (OpenSpec.upto fnLocalSpec)) fnLocalUptoCard
end Rows
end Go.Proofs.YtjcoapnggojpdaaGreatDoor
