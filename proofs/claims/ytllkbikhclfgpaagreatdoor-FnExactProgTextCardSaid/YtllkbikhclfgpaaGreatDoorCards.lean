/-
  DERIVED. GIVEN WITH THE SEED: THE CARDS: each row of YtllkbikhclfgpaaGreatDoorRows.lean that lists a variable, with what it lists TIED to the program's text (the seventh form; the later family's looks); each row that meets fmt, with fmt's text TOLD by the authors' own Lean function (tested against real Go, not proved from fmt's source: count such statements apart). THE CARD IS WHAT COUNTS. Prove the row's statement (the work); the ties are given (YtllkbikhclfgpaaGreatDoorTie.lean); close each card by the builder's one call (the guide's Derived/Test/ToyasCard.lean, 'card_holds'). Laid BY PROGRAM, IN A SANDBOX (cutbox-door.mjs). By AI agents, Wed Nov 11 2026. No macro, syntax, notation, axiom, sorry.
-/
import Derived.Test.YtllkbikhclfgpaaGreatDoorRows
import GoSem.ClaimSeven
namespace Go.Proofs.YtllkbikhclfgpaaGreatDoor
namespace Rows

/-- THE TIED CARD OF 'laws.FnAsm'. -/
def fnAsmCard : Claim7 := { stood := { row := fnAsmRow, standIns := [], harness := (true, "5b3de3d6fff41094c3af5b941070a0c3b366ff62b9d2e1e5faead8212a921bc8"), looks := true }, kinds := [], alts := [], laidByText := true, laidKinds := [.data, .data, .data, .data, .handle, .sentinel, .sentinel, .data, .pinned], laidTests := true, laidLooks := .later }
def FnAsmCardSaid : Prop := Claim7.holds Tryz.pinned (.plain (OpenSpec.ofChange fnAsmSpec)) fnAsmCard

/-- THE TIED CARD OF 'laws.FnExactProgText'. -/
def fnExactProgTextCard : Claim7 := { stood := { row := fnExactProgTextRow, standIns := [], harness := (true, "5b3de3d6fff41094c3af5b941070a0c3b366ff62b9d2e1e5faead8212a921bc8"), looks := true }, kinds := [], alts := [], laidByText := true, laidKinds := [.data, .data, .data, .data], laidTests := true, laidLooks := .later }
def FnExactProgTextCardSaid : Prop := Claim7.holds Tryz.pinned (.plain (OpenSpec.ofChange fnExactProgTextSpec)) fnExactProgTextCard

/-- THE TIED CARD OF 'laws.FnExactTextProg'. -/
def fnExactTextProgCard : Claim7 := { stood := { row := fnExactTextProgRow, standIns := [], harness := (true, "5b3de3d6fff41094c3af5b941070a0c3b366ff62b9d2e1e5faead8212a921bc8"), looks := true }, kinds := [], alts := [], laidByText := true, laidKinds := [.data, .data, .data, .data, .handle, .sentinel, .sentinel, .data, .pinned], laidTests := true, laidLooks := .later }
def FnExactTextProgCardSaid : Prop := Claim7.holds Tryz.pinned (.plain (OpenSpec.ofChange fnExactTextProgSpec)) fnExactTextProgCard

/-- THE SECOND FORM's CARD OF 'laws.FnAsm'. -/
def fnAsmUptoCard : Claim7 := { stood := { row := fnAsmUptoRow, standIns := [], harness := (true, "5b3de3d6fff41094c3af5b941070a0c3b366ff62b9d2e1e5faead8212a921bc8"), looks := true }, kinds := [], alts := [], laidByText := true, laidKinds := [.data, .data, .data, .data, .handle, .sentinel, .sentinel, .data, .pinned], laidTests := true, laidLooks := .later }
def FnAsmUptoCardSaid : Prop := Claim7.holds Tryz.pinned (.plain (OpenSpec.upto fnAsmSpec)) fnAsmUptoCard

/-- THE SECOND FORM's CARD OF 'laws.FnExactProgText'. -/
def fnExactProgTextUptoCard : Claim7 := { stood := { row := fnExactProgTextUptoRow, standIns := [], harness := (true, "5b3de3d6fff41094c3af5b941070a0c3b366ff62b9d2e1e5faead8212a921bc8"), looks := true }, kinds := [], alts := [], laidByText := true, laidKinds := [.data, .data, .data, .data], laidTests := true, laidLooks := .later }
def FnExactProgTextUptoCardSaid : Prop := Claim7.holds Tryz.pinned (.plain (OpenSpec.upto fnExactProgTextSpec)) fnExactProgTextUptoCard

/-- THE SECOND FORM's CARD OF 'laws.FnExactTextProg'. -/
def fnExactTextProgUptoCard : Claim7 := { stood := { row := fnExactTextProgUptoRow, standIns := [], harness := (true, "5b3de3d6fff41094c3af5b941070a0c3b366ff62b9d2e1e5faead8212a921bc8"), looks := true }, kinds := [], alts := [], laidByText := true, laidKinds := [.data, .data, .data, .data, .handle, .sentinel, .sentinel, .data, .pinned], laidTests := true, laidLooks := .later }
def FnExactTextProgUptoCardSaid : Prop := Claim7.holds Tryz.pinned (.plain (OpenSpec.upto fnExactTextProgSpec)) fnExactTextProgUptoCard
end Rows
end Go.Proofs.YtllkbikhclfgpaaGreatDoor
