/-
  DERIVED. GIVEN WITH THE SEED: THE CARDS: each row of YtgfkadhojlddpaaDoorRows.lean that lists a variable, with what it lists TIED to the program's text (the seventh form; the later family's looks); each row that meets fmt, with fmt's text TOLD by the authors' own Lean function (tested against real Go, not proved from fmt's source: count such statements apart). THE CARD IS WHAT COUNTS. Prove the row's statement (the work); the ties are given (YtgfkadhojlddpaaDoorTie.lean); close each card by the builder's one call (the guide's Derived/Test/ToyasCard.lean, 'card_holds'). Laid BY PROGRAM, IN A SANDBOX (cutbox-door.mjs). By AI agents, Wed Nov 11 2026. No macro, syntax, notation, axiom, sorry.
-/
import Derived.Test.YtgfkadhojlddpaaDoorRows
import GoSem.ClaimSeven
namespace Go.Proofs.YtgfkadhojlddpaaDoor
namespace Rows

/-- THE TIED CARD OF 'laws.FnExactInstrText'. -/
def fnExactInstrTextCard : Claim7 := { stood := { row := fnExactInstrTextRow, standIns := [], harness := (true, "8d8fa13fe9e61912b1cd07b5fd58b60a8be084ef019df55bfe92f9b0a2206233"), looks := false }, kinds := [], alts := [], laidByText := true, laidKinds := [.data, .data, .data, .data], laidTests := true, laidLooks := .later }
def FnExactInstrTextCardSaid : Prop := Claim7.holds Tryd.pinned (.plain (OpenSpec.ofChange fnExactInstrTextSpec)) fnExactInstrTextCard

/-- THE TIED CARD OF 'laws.FnExactSelectText'. -/
def fnExactSelectTextCard : Claim7 := { stood := { row := fnExactSelectTextRow, standIns := [], harness := (true, "8d8fa13fe9e61912b1cd07b5fd58b60a8be084ef019df55bfe92f9b0a2206233"), looks := false }, kinds := [], alts := [], laidByText := true, laidKinds := [.data, .data, .data, .data], laidTests := true, laidLooks := .later }
def FnExactSelectTextCardSaid : Prop := Claim7.holds Tryd.pinned (.plain (OpenSpec.ofChange fnExactSelectTextSpec)) fnExactSelectTextCard

/-- THE TIED CARD OF 'laws.FnExactGorOk'. -/
def fnExactGorOkCard : Claim7 := { stood := { row := fnExactGorOkRow, standIns := [], harness := (true, "8d8fa13fe9e61912b1cd07b5fd58b60a8be084ef019df55bfe92f9b0a2206233"), looks := false }, kinds := [], alts := [], laidByText := true, laidKinds := [.data, .data], laidTests := true, laidLooks := .later }
def FnExactGorOkCardSaid : Prop := Claim7.holds Tryd.pinned (.plain (OpenSpec.ofChange fnExactGorOkSpec)) fnExactGorOkCard

/-- THE TIED CARD OF 'laws.FnExactEngNew'. -/
def fnExactEngNewCard : Claim7 := { stood := { row := fnExactEngNewRow, standIns := [], harness := (true, "8d8fa13fe9e61912b1cd07b5fd58b60a8be084ef019df55bfe92f9b0a2206233"), looks := false }, kinds := [], alts := [], laidByText := true, laidKinds := [.data], laidTests := true, laidLooks := .later }
def FnExactEngNewCardSaid : Prop := Claim7.holds Tryd.pinned (.plain (OpenSpec.ofChange fnExactEngNewSpec)) fnExactEngNewCard

/-- THE TIED CARD OF 'laws.FnExactMayWait'. -/
def fnExactMayWaitCard : Claim7 := { stood := { row := fnExactMayWaitRow, standIns := [], harness := (true, "8d8fa13fe9e61912b1cd07b5fd58b60a8be084ef019df55bfe92f9b0a2206233"), looks := false }, kinds := [], alts := [], laidByText := true, laidKinds := [.data, .data], laidTests := true, laidLooks := .later }
def FnExactMayWaitCardSaid : Prop := Claim7.holds Tryd.pinned (.plain (OpenSpec.ofChange fnExactMayWaitSpec)) fnExactMayWaitCard

/-- THE SECOND FORM's CARD OF 'laws.FnExactInstrText'. -/
def fnExactInstrTextUptoCard : Claim7 := { stood := { row := fnExactInstrTextUptoRow, standIns := [], harness := (true, "8d8fa13fe9e61912b1cd07b5fd58b60a8be084ef019df55bfe92f9b0a2206233"), looks := false }, kinds := [], alts := [], laidByText := true, laidKinds := [.data, .data, .data, .data], laidTests := true, laidLooks := .later }
def FnExactInstrTextUptoCardSaid : Prop := Claim7.holds Tryd.pinned (.plain (OpenSpec.upto fnExactInstrTextSpec)) fnExactInstrTextUptoCard

/-- THE SECOND FORM's CARD OF 'laws.FnExactSelectText'. -/
def fnExactSelectTextUptoCard : Claim7 := { stood := { row := fnExactSelectTextUptoRow, standIns := [], harness := (true, "8d8fa13fe9e61912b1cd07b5fd58b60a8be084ef019df55bfe92f9b0a2206233"), looks := false }, kinds := [], alts := [], laidByText := true, laidKinds := [.data, .data, .data, .data], laidTests := true, laidLooks := .later }
def FnExactSelectTextUptoCardSaid : Prop := Claim7.holds Tryd.pinned (.plain (OpenSpec.upto fnExactSelectTextSpec)) fnExactSelectTextUptoCard

/-- THE SECOND FORM's CARD OF 'laws.FnExactGorOk'. -/
def fnExactGorOkUptoCard : Claim7 := { stood := { row := fnExactGorOkUptoRow, standIns := [], harness := (true, "8d8fa13fe9e61912b1cd07b5fd58b60a8be084ef019df55bfe92f9b0a2206233"), looks := false }, kinds := [], alts := [], laidByText := true, laidKinds := [.data, .data], laidTests := true, laidLooks := .later }
def FnExactGorOkUptoCardSaid : Prop := Claim7.holds Tryd.pinned (.plain (OpenSpec.upto fnExactGorOkSpec)) fnExactGorOkUptoCard

/-- THE SECOND FORM's CARD OF 'laws.FnExactEngNew'. -/
def fnExactEngNewUptoCard : Claim7 := { stood := { row := fnExactEngNewUptoRow, standIns := [], harness := (true, "8d8fa13fe9e61912b1cd07b5fd58b60a8be084ef019df55bfe92f9b0a2206233"), looks := false }, kinds := [], alts := [], laidByText := true, laidKinds := [.data], laidTests := true, laidLooks := .later }
def FnExactEngNewUptoCardSaid : Prop := Claim7.holds Tryd.pinned (.plain (OpenSpec.upto fnExactEngNewSpec)) fnExactEngNewUptoCard

/-- THE SECOND FORM's CARD OF 'laws.FnExactMayWait'. -/
def fnExactMayWaitUptoCard : Claim7 := { stood := { row := fnExactMayWaitUptoRow, standIns := [], harness := (true, "8d8fa13fe9e61912b1cd07b5fd58b60a8be084ef019df55bfe92f9b0a2206233"), looks := false }, kinds := [], alts := [], laidByText := true, laidKinds := [.data, .data], laidTests := true, laidLooks := .later }
def FnExactMayWaitUptoCardSaid : Prop := Claim7.holds Tryd.pinned (.plain (OpenSpec.upto fnExactMayWaitSpec)) fnExactMayWaitUptoCard
end Rows
end Go.Proofs.YtgfkadhojlddpaaDoor
