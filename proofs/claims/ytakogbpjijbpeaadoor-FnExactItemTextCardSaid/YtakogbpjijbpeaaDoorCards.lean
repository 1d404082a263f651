/-
  DERIVED. GIVEN WITH THE SEED: THE CARDS: each row of YtakogbpjijbpeaaDoorRows.lean that lists a variable, with what it lists TIED to the program's text (the seventh form; the later family's looks); each row that meets fmt, with fmt's text TOLD by the authors' own Lean function (tested against real Go, not proved from fmt's source: count such statements apart). THE CARD IS WHAT COUNTS. Prove the row's statement (the work); the ties are given (YtakogbpjijbpeaaDoorTie.lean); close each card by the builder's one call (the guide's Derived/Test/ToyasCard.lean, 'card_holds'). Laid BY PROGRAM, IN A SANDBOX (cutbox-door.mjs). By AI agents, Wed Nov 11 2026. No macro, syntax, notation, axiom, sorry.
-/
import Derived.Test.YtakogbpjijbpeaaDoorRows
import GoSem.ClaimSeven
namespace Go.Proofs.YtakogbpjijbpeaaDoor
namespace Rows

/-- THE TIED CARD OF 'laws.FnExactItemOk'. -/
def fnExactItemOkCard : Claim7 := { stood := { row := fnExactItemOkRow, standIns := [], harness := (true, "633c501b2635f7b33f7093f928739c765a8202766b95e7ec98024b7f734ec22e"), looks := false }, kinds := [], alts := [], laidByText := true, laidKinds := [.data], laidTests := true, laidLooks := .later }
def FnExactItemOkCardSaid : Prop := Claim7.holds Tryd.pinned (.plain (OpenSpec.ofChange fnExactItemOkSpec)) fnExactItemOkCard

/-- THE TIED CARD OF 'laws.FnExactItemText'. -/
def fnExactItemTextCard : Claim7 := { stood := { row := fnExactItemTextRow, standIns := [], harness := (true, "633c501b2635f7b33f7093f928739c765a8202766b95e7ec98024b7f734ec22e"), looks := false }, kinds := [], alts := [], laidByText := true, laidKinds := [.data, .data, .data, .data], laidTests := true, laidLooks := .later }
def FnExactItemTextCardSaid : Prop := Claim7.holds Tryd.pinned (.plain (OpenSpec.ofChange fnExactItemTextSpec)) fnExactItemTextCard

/-- THE TIED CARD OF 'laws.FnExactGorOk'. -/
def fnExactGorOkCard : Claim7 := { stood := { row := fnExactGorOkRow, standIns := [], harness := (true, "633c501b2635f7b33f7093f928739c765a8202766b95e7ec98024b7f734ec22e"), looks := false }, kinds := [], alts := [], laidByText := true, laidKinds := [.data, .data], laidTests := true, laidLooks := .later }
def FnExactGorOkCardSaid : Prop := Claim7.holds Tryd.pinned (.plain (OpenSpec.ofChange fnExactGorOkSpec)) fnExactGorOkCard

/-- THE SECOND FORM's CARD OF 'laws.FnExactItemOk'. -/
def fnExactItemOkUptoCard : Claim7 := { stood := { row := fnExactItemOkUptoRow, standIns := [], harness := (true, "633c501b2635f7b33f7093f928739c765a8202766b95e7ec98024b7f734ec22e"), looks := false }, kinds := [], alts := [], laidByText := true, laidKinds := [.data], laidTests := true, laidLooks := .later }
def FnExactItemOkUptoCardSaid : Prop := Claim7.holds Tryd.pinned (.plain (OpenSpec.upto fnExactItemOkSpec)) fnExactItemOkUptoCard

/-- THE SECOND FORM's CARD OF 'laws.FnExactItemText'. -/
def fnExactItemTextUptoCard : Claim7 := { stood := { row := fnExactItemTextUptoRow, standIns := [], harness := (true, "633c501b2635f7b33f7093f928739c765a8202766b95e7ec98024b7f734ec22e"), looks := false }, kinds := [], alts := [], laidByText := true, laidKinds := [.data, .data, .data, .data], laidTests := true, laidLooks := .later }
def FnExactItemTextUptoCardSaid : Prop := Claim7.holds Tryd.pinned (.plain (OpenSpec.upto fnExactItemTextSpec)) fnExactItemTextUptoCard

/-- THE SECOND FORM's CARD OF 'laws.FnExactGorOk'. -/
def fnExactGorOkUptoCard : Claim7 := { stood := { row := fnExactGorOkUptoRow, standIns := [], harness := (true, "633c501b2635f7b33f7093f928739c765a8202766b95e7ec98024b7f734ec22e"), looks := false }, kinds := [], alts := [], laidByText := true, laidKinds := [.data, .data], laidTests := true, laidLooks := .later }
def FnExactGorOkUptoCardSaid : Prop := Claim7.holds Tryd.pinned (.plain (OpenSpec.upto fnExactGorOkSpec)) fnExactGorOkUptoCard
end Rows
end Go.Proofs.YtakogbpjijbpeaaDoor
