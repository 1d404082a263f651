/-
  DERIVED. GIVEN WITH THE SEED: THE CARDS: each row of YtllkbikhclfgpaaDoorRows.lean that lists a variable, with what it lists TIED to the program's text (the seventh form; the later family's looks); each row that meets fmt, with fmt's text TOLD by the authors' own Lean function (tested against real Go, not proved from fmt's source: count such statements apart). THE CARD IS WHAT COUNTS. Prove the row's statement (the work); the ties are given (YtllkbikhclfgpaaDoorTie.lean); close each card by the builder's one call (the guide's Derived/Test/ToyasCard.lean, 'card_holds'). Laid BY PROGRAM, IN A SANDBOX (cutbox-door.mjs). By AI agents, Wed Nov 11 2026. No macro, syntax, notation, axiom, sorry.
-/
import Derived.Test.YtllkbikhclfgpaaDoorRows
import GoSem.ClaimSeven
namespace Go.Proofs.YtllkbikhclfgpaaDoor
namespace Rows

/-- THE TIED CARD OF 'laws.FnExactInstrText'. -/
def fnExactInstrTextCard : Claim7 := { stood := { row := fnExactInstrTextRow, standIns := [], harness := (true, "af027917504cf5f9473f1e5d5f3feee460b3ce08acd13b9122399eaded77c154"), looks := true }, kinds := [], alts := [], laidByText := true, laidKinds := [.data, .data, .data, .data], laidTests := true, laidLooks := .later }
def FnExactInstrTextCardSaid : Prop := Claim7.holds Tryd.pinned (.plain (OpenSpec.ofChange fnExactInstrTextSpec)) fnExactInstrTextCard

/-- THE TIED CARD OF 'laws.FnExactTextInstr'. -/
def fnExactTextInstrCard : Claim7 := { stood := { row := fnExactTextInstrRow, standIns := [], harness := (true, "af027917504cf5f9473f1e5d5f3feee460b3ce08acd13b9122399eaded77c154"), looks := true }, kinds := [], alts := [], laidByText := true, laidKinds := [.data, .data, .data, .data, .sentinel, .sentinel, .data, .pinned], laidTests := true, laidLooks := .later }
def FnExactTextInstrCardSaid : Prop := Claim7.holds Tryd.pinned (.plain (OpenSpec.ofChange fnExactTextInstrSpec)) fnExactTextInstrCard

/-- THE TIED CARD OF 'laws.FnExactSelectText'. -/
def fnExactSelectTextCard : Claim7 := { stood := { row := fnExactSelectTextRow, standIns := [], harness := (true, "af027917504cf5f9473f1e5d5f3feee460b3ce08acd13b9122399eaded77c154"), looks := true }, kinds := [], alts := [], laidByText := true, laidKinds := [.data, .data, .data, .data], laidTests := true, laidLooks := .later }
def FnExactSelectTextCardSaid : Prop := Claim7.holds Tryd.pinned (.plain (OpenSpec.ofChange fnExactSelectTextSpec)) fnExactSelectTextCard

/-- THE TIED CARD OF 'laws.FnExactTextSelect'. -/
def fnExactTextSelectCard : Claim7 := { stood := { row := fnExactTextSelectRow, standIns := [], harness := (true, "af027917504cf5f9473f1e5d5f3feee460b3ce08acd13b9122399eaded77c154"), looks := true }, kinds := [], alts := [], laidByText := true, laidKinds := [.data, .data, .data, .data, .sentinel, .sentinel, .data, .pinned], laidTests := true, laidLooks := .later }
def FnExactTextSelectCardSaid : Prop := Claim7.holds Tryd.pinned (.plain (OpenSpec.ofChange fnExactTextSelectSpec)) fnExactTextSelectCard

/-- THE SECOND FORM's CARD OF 'laws.FnExactInstrText'. -/
def fnExactInstrTextUptoCard : Claim7 := { stood := { row := fnExactInstrTextUptoRow, standIns := [], harness := (true, "af027917504cf5f9473f1e5d5f3feee460b3ce08acd13b9122399eaded77c154"), looks := true }, kinds := [], alts := [], laidByText := true, laidKinds := [.data, .data, .data, .data], laidTests := true, laidLooks := .later }
def FnExactInstrTextUptoCardSaid : Prop := Claim7.holds Tryd.pinned (.plain (OpenSpec.upto fnExactInstrTextSpec)) fnExactInstrTextUptoCard

/-- THE SECOND FORM's CARD OF 'laws.FnExactTextInstr'. -/
def fnExactTextInstrUptoCard : Claim7 := { stood := { row := fnExactTextInstrUptoRow, standIns := [], harness := (true, "af027917504cf5f9473f1e5d5f3feee460b3ce08acd13b9122399eaded77c154"), looks := true }, kinds := [], alts := [], laidByText := true, laidKinds := [.data, .data, .data, .data, .sentinel, .sentinel, .data, .pinned], laidTests := true, laidLooks := .later }
def FnExactTextInstrUptoCardSaid : Prop := Claim7.holds Tryd.pinned (.plain (OpenSpec.upto fnExactTextInstrSpec)) fnExactTextInstrUptoCard

/-- THE SECOND FORM's CARD OF 'laws.FnExactSelectText'. -/
def fnExactSelectTextUptoCard : Claim7 := { stood := { row := fnExactSelectTextUptoRow, standIns := [], harness := (true, "af027917504cf5f9473f1e5d5f3feee460b3ce08acd13b9122399eaded77c154"), looks := true }, kinds := [], alts := [], laidByText := true, laidKinds := [.data, .data, .data, .data], laidTests := true, laidLooks := .later }
def FnExactSelectTextUptoCardSaid : Prop := Claim7.holds Tryd.pinned (.plain (OpenSpec.upto fnExactSelectTextSpec)) fnExactSelectTextUptoCard

/-- THE SECOND FORM's CARD OF 'laws.FnExactTextSelect'. -/
def fnExactTextSelectUptoCard : Claim7 := { stood := { row := fnExactTextSelectUptoRow, standIns := [], harness := (true, "af027917504cf5f9473f1e5d5f3feee460b3ce08acd13b9122399eaded77c154"), looks := true }, kinds := [], alts := [], laidByText := true, laidKinds := [.data, .data, .data, .data, .sentinel, .sentinel, .data, .pinned], laidTests := true, laidLooks := .later }
def FnExactTextSelectUptoCardSaid : Prop := Claim7.holds Tryd.pinned (.plain (OpenSpec.upto fnExactTextSelectSpec)) fnExactTextSelectUptoCard
end Rows
end Go.Proofs.YtllkbikhclfgpaaDoor
