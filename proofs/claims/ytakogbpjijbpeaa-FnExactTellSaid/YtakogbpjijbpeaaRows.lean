/-
  No cell of these rows narrows 'for every input' (looked for: loops, veiled, ifaces, maps, wideKeys, modest, calm, conditions, laid).
  DERIVED. THE GIVEN ROWS OF THIS SEAT. 5 by the template 'for every input the law returns true; each argument reads behind the call as it read before'; 0 by the template 'total and deterministic' (their statements: YtakogbpjijbpeaaTotals.lean).
  GIVEN WITH THE SEED: the statements are not yours to turn. If you find one false, say at which input.
  Laid BY PROGRAM, IN A SANDBOX (cutbox-rows.mjs): the forced cells as the released guide's own fill.sh prints them over the translation e7de204716cc42b5… (all of the seat's roots in one cut). By AI agents, Wed Nov 11 2026. No macro, syntax, notation, axiom, sorry.
-/
import Derived.Test.YtakogbpjijbpeaaChecked
import GoSem.Claim
import GoSem.ClaimJoined
import GoSem.ClaimMapViews
import Derived.JoinedTies
import Derived.KernelRfl
namespace Go.Proofs.Ytakogbpjijbpeaa
/- THE CELL 'sum', in the pinned program and in every row, IS THE sha256 OF THE DUMP (.gsa) THAT YtakogbpjijbpeaaProg.lean LOADS. Nothing in Lean hashes anything: it is a label: what it is worth is what the hold of that sum in a sandbox is worth. -/
noncomputable def Try.pinned : Pinned := { name := "ytakogbpjijbpeaa", sum := "e7de204716cc42b5e35e6ea600035cb2f264bb7f22e92ac10f36623c273e8c74", checked := Try.checked }
namespace Rows
def none {H : Type} : Left H := { results := [], args := [] }

/-- 'laws.FnExactGorNew': WHATEVER THE INPUT: true; the input reads as it did. -/
def fnExactGorNewSpec : ChangeSpec := { name := "fnExactGorNew", fn := fun _ => fun
  | [d1, d2] => { results := [.lit (.bool true)], args := [d1, d2] }
  | _ => none }
def fnExactGorNewRow : OpenClaim := { program := "ytakogbpjijbpeaa", sum := "e7de204716cc42b5e35e6ea600035cb2f264bb7f22e92ac10f36623c273e8c74", func := "loop.example/g00679/laws.FnExactGorNew", spec := "fnExactGorNew", apart := false }
def FnExactGorNewSaid : Prop := fnExactGorNewRow.holds Try.pinned (OpenSpec.ofChange fnExactGorNewSpec)

/-- ITS FALSE NEIGHBOUR: 'it returns false'. Refute it at one input. -/
def fnExactGorNewWrong : ChangeSpec := { name := "fnExactGorNew", fn := fun _ => fun
  | [d1, d2] => { results := [.lit (.bool false)], args := [d1, d2] }
  | _ => none }
def FnExactGorNewWrongFalsely : Prop := fnExactGorNewRow.holds Try.pinned (OpenSpec.ofChange fnExactGorNewWrong)

/-- 'laws.FnExactSetReg': WHATEVER THE INPUT: true; the input reads as it did. -/
def fnExactSetRegSpec : ChangeSpec := { name := "fnExactSetReg", fn := fun _ => fun
  | [d1, d2, d3] => { results := [.lit (.bool true)], args := [d1, d2, d3] }
  | _ => none }
def fnExactSetRegRow : OpenClaim := { program := "ytakogbpjijbpeaa", sum := "e7de204716cc42b5e35e6ea600035cb2f264bb7f22e92ac10f36623c273e8c74", func := "loop.example/g00679/laws.FnExactSetReg", spec := "fnExactSetReg", apart := false }
def FnExactSetRegSaid : Prop := fnExactSetRegRow.holds Try.pinned (OpenSpec.ofChange fnExactSetRegSpec)

/-- ITS FALSE NEIGHBOUR: 'it returns false'. Refute it at one input. -/
def fnExactSetRegWrong : ChangeSpec := { name := "fnExactSetReg", fn := fun _ => fun
  | [d1, d2, d3] => { results := [.lit (.bool false)], args := [d1, d2, d3] }
  | _ => none }
def FnExactSetRegWrongFalsely : Prop := fnExactSetRegRow.holds Try.pinned (OpenSpec.ofChange fnExactSetRegWrong)

/-- 'laws.FnExactReg': WHATEVER THE INPUT: true; the input reads as it did. -/
def fnExactRegSpec : ChangeSpec := { name := "fnExactReg", fn := fun _ => fun
  | [d1, d2] => { results := [.lit (.bool true)], args := [d1, d2] }
  | _ => none }
def fnExactRegRow : OpenClaim := { program := "ytakogbpjijbpeaa", sum := "e7de204716cc42b5e35e6ea600035cb2f264bb7f22e92ac10f36623c273e8c74", func := "loop.example/g00679/laws.FnExactReg", spec := "fnExactReg", apart := false }
def FnExactRegSaid : Prop := fnExactRegRow.holds Try.pinned (OpenSpec.ofChange fnExactRegSpec)

/-- ITS FALSE NEIGHBOUR: 'it returns false'. Refute it at one input. -/
def fnExactRegWrong : ChangeSpec := { name := "fnExactReg", fn := fun _ => fun
  | [d1, d2] => { results := [.lit (.bool false)], args := [d1, d2] }
  | _ => none }
def FnExactRegWrongFalsely : Prop := fnExactRegRow.holds Try.pinned (OpenSpec.ofChange fnExactRegWrong)

/-- 'laws.FnExactTell': WHATEVER THE INPUT: true; the input reads as it did. -/
def fnExactTellSpec : ChangeSpec := { name := "fnExactTell", fn := fun _ => fun
  | [d1, d2] => { results := [.lit (.bool true)], args := [d1, d2] }
  | _ => none }
def fnExactTellRow : OpenClaim := { program := "ytakogbpjijbpeaa", sum := "e7de204716cc42b5e35e6ea600035cb2f264bb7f22e92ac10f36623c273e8c74", func := "loop.example/g00679/laws.FnExactTell", spec := "fnExactTell", apart := false }
def FnExactTellSaid : Prop := fnExactTellRow.holds Try.pinned (OpenSpec.ofChange fnExactTellSpec)

/-- ITS FALSE NEIGHBOUR: 'it returns false'. Refute it at one input. -/
def fnExactTellWrong : ChangeSpec := { name := "fnExactTell", fn := fun _ => fun
  | [d1, d2] => { results := [.lit (.bool false)], args := [d1, d2] }
  | _ => none }
def FnExactTellWrongFalsely : Prop := fnExactTellRow.holds Try.pinned (OpenSpec.ofChange fnExactTellWrong)

/-- 'laws.FnExactOver': WHATEVER THE INPUT: true; the input reads as it did. -/
def fnExactOverSpec : ChangeSpec := { name := "fnExactOver", fn := fun _ => fun
  | [d1, d2] => { results := [.lit (.bool true)], args := [d1, d2] }
  | _ => none }
def fnExactOverRow : OpenClaim := { program := "ytakogbpjijbpeaa", sum := "e7de204716cc42b5e35e6ea600035cb2f264bb7f22e92ac10f36623c273e8c74", func := "loop.example/g00679/laws.FnExactOver", spec := "fnExactOver", apart := false }
def FnExactOverSaid : Prop := fnExactOverRow.holds Try.pinned (OpenSpec.ofChange fnExactOverSpec)

/-- ITS FALSE NEIGHBOUR: 'it returns false'. Refute it at one input. -/
def fnExactOverWrong : ChangeSpec := { name := "fnExactOver", fn := fun _ => fun
  | [d1, d2] => { results := [.lit (.bool false)], args := [d1, d2] }
  | _ => none }
def FnExactOverWrongFalsely : Prop := fnExactOverRow.holds Try.pinned (OpenSpec.ofChange fnExactOverWrong)

/- THE SECOND FORM. 'bulk': how many values and letters a reading holds, each counted each time it is reached (what is shared counts as often as it is met; a slice's spare places count too). A statement '..UptoSaid' is the law's where the arguments, and the package variables that the reading takes, are together of bulk at most 1048576: NARROWER than '..Said'. Prove '..Said' where nothing that the law and all that it calls make is longer than what came in: it says more and counts as full. Else prove '..UptoSaid'. A law counts once. -/
mutual
def uptoBulk {H : Type} : DataW H → Nat
  | .lit (.string bytes) => bytes.length + 1
  | .lit _ => 1
  | .nil => 1
  | .ptr d => uptoBulk d + 1
  | .slice elems spare => uptoBulkAll elems + uptoBulkAll spare + 1
  | .agg parts => uptoBulkAll parts + 1
  | .iface _ d => uptoBulk d + 1
  | .map entries => uptoBulkEntries entries + 1
  | .held _ => 1
def uptoBulkAll {H : Type} : List (DataW H) → Nat
  | [] => 0
  | d :: r => uptoBulk d + uptoBulkAll r
def uptoBulkEntries {H : Type} : List (Lit × DataW H) → Nat
  | [] => 0
  | x :: r => uptoBulkEntry x + uptoBulkEntries r
def uptoBulkEntry {H : Type} : Lit × DataW H → Nat
  | (.string bytes, d) => bytes.length + uptoBulk d + 1
  | (_, d) => uptoBulk d + 1
 end
def uptoSmall : (H : Type) → List (DataW H) → Bool := fun _ ds => decide (uptoBulkAll ds ≤ 1048576)
def OpenSpec.upto (s : _root_.Go.ChangeSpec) : _root_.Go.OpenSpec := { _root_.Go.OpenSpec.ofChange s with cond := some uptoSmall }

/-- 'laws.FnExactGorNew', WHERE WHAT IT READS IS OF BULK AT MOST 1048576: true; the input reads as it did. -/
def fnExactGorNewUptoRow : OpenClaim := { program := "ytakogbpjijbpeaa", sum := "e7de204716cc42b5e35e6ea600035cb2f264bb7f22e92ac10f36623c273e8c74", func := "loop.example/g00679/laws.FnExactGorNew", spec := "fnExactGorNew", apart := false, narrowed := true }
def FnExactGorNewUptoSaid : Prop := fnExactGorNewUptoRow.holds Try.pinned (OpenSpec.upto fnExactGorNewSpec)

/-- 'laws.FnExactSetReg', WHERE WHAT IT READS IS OF BULK AT MOST 1048576: true; the input reads as it did. -/
def fnExactSetRegUptoRow : OpenClaim := { program := "ytakogbpjijbpeaa", sum := "e7de204716cc42b5e35e6ea600035cb2f264bb7f22e92ac10f36623c273e8c74", func := "loop.example/g00679/laws.FnExactSetReg", spec := "fnExactSetReg", apart := false, narrowed := true }
def FnExactSetRegUptoSaid : Prop := fnExactSetRegUptoRow.holds Try.pinned (OpenSpec.upto fnExactSetRegSpec)

/-- 'laws.FnExactReg', WHERE WHAT IT READS IS OF BULK AT MOST 1048576: true; the input reads as it did. -/
def fnExactRegUptoRow : OpenClaim := { program := "ytakogbpjijbpeaa", sum := "e7de204716cc42b5e35e6ea600035cb2f264bb7f22e92ac10f36623c273e8c74", func := "loop.example/g00679/laws.FnExactReg", spec := "fnExactReg", apart := false, narrowed := true }
def FnExactRegUptoSaid : Prop := fnExactRegUptoRow.holds Try.pinned (OpenSpec.upto fnExactRegSpec)

/-- 'laws.FnExactTell', WHERE WHAT IT READS IS OF BULK AT MOST 1048576: true; the input reads as it did. -/
def fnExactTellUptoRow : OpenClaim := { program := "ytakogbpjijbpeaa", sum := "e7de204716cc42b5e35e6ea600035cb2f264bb7f22e92ac10f36623c273e8c74", func := "loop.example/g00679/laws.FnExactTell", spec := "fnExactTell", apart := false, narrowed := true }
def FnExactTellUptoSaid : Prop := fnExactTellUptoRow.holds Try.pinned (OpenSpec.upto fnExactTellSpec)

/-- 'laws.FnExactOver', WHERE WHAT IT READS IS OF BULK AT MOST 1048576: true; the input reads as it did. -/
def fnExactOverUptoRow : OpenClaim := { program := "ytakogbpjijbpeaa", sum := "e7de204716cc42b5e35e6ea600035cb2f264bb7f22e92ac10f36623c273e8c74", func := "loop.example/g00679/laws.FnExactOver", spec := "fnExactOver", apart := false, narrowed := true }
def FnExactOverUptoSaid : Prop := fnExactOverUptoRow.holds Try.pinned (OpenSpec.upto fnExactOverSpec)

end Rows
end Go.Proofs.Ytakogbpjijbpeaa
