/-
  NARROWER THAN 'FOR EVERY INPUT', by the rows' own cells (each row's printed sentence says how): FnExactReadyCases: laid · FnExactBlocks: laid · FnExactChoices: laid.
  DERIVED. THE GIVEN ROWS OF THIS SEAT. 3 by the template 'for every input the law returns true; each argument reads behind the call as it read before'; 0 by the template 'total and deterministic' (their statements: YtghkdkagnibkgaaGreatDoorTotals.lean).
  GIVEN WITH THE SEED: the statements are not yours to turn. If you find one false, say at which input.
  Laid BY PROGRAM, IN A SANDBOX (cutbox-rows.mjs): the forced cells as the released guide's own fill.sh prints them over the translation 00e486d78189a464… (all of the seat's roots in one cut). By AI agents, Wed Nov 11 2026. No macro, syntax, notation, axiom, sorry.
-/
import Derived.Test.YtghkdkagnibkgaaGreatDoorChecked
import GoSem.Claim
import GoSem.ClaimJoined
import GoSem.ClaimMapViews
import Derived.JoinedTies
import Derived.KernelRfl
namespace Go.Proofs.YtghkdkagnibkgaaGreatDoor
/- THE CELL 'sum', in the pinned program and in every row, IS THE sha256 OF THE DUMP (.gsa) THAT YtghkdkagnibkgaaGreatDoorProg.lean LOADS. Nothing in Lean hashes anything: it is a label: what it is worth is what the hold of that sum in a sandbox is worth. -/
noncomputable def Tryz.pinned : Pinned := { name := "ytghkdkagnibkgaagreatdoor", sum := "00e486d78189a464ee61897e66c3cb67147face4bb0855d40a5b1660c97416fc", checked := Tryz.checked }
namespace Rows
def none {H : Type} : Left H := { results := [], args := [] }

/- WHAT THE LISTED PACKAGE-LEVEL VARIABLES READ AS WHEN THE CALL BEGINS. Each datum BY PROGRAM (the guide's laid-datum.mjs) off the statement by which the dump's own 'gosem.cut.vars' lays the variable. In a bare row this is a premise. The card (YtghkdkagnibkgaaGreatDoorCards.lean) ties it to the program's text. -/
def laid_loop_example_g00679_impl_opRows {H : Type} : DataW H := .agg [.agg [.lit (.string []), .agg [.lit (.int .i64 0), .lit (.int .i64 0), .lit (.int .i64 0)]], .agg [.lit (.string [104, 97, 108, 116]), .agg [.lit (.int .i64 0), .lit (.int .i64 0), .lit (.int .i64 0)]], .agg [.lit (.string [115, 101, 116]), .agg [.lit (.int .i64 1), .lit (.int .i64 2), .lit (.int .i64 0)]], .agg [.lit (.string [97, 100, 100]), .agg [.lit (.int .i64 1), .lit (.int .i64 1), .lit (.int .i64 1)]], .agg [.lit (.string [115, 117, 98]), .agg [.lit (.int .i64 1), .lit (.int .i64 1), .lit (.int .i64 1)]], .agg [.lit (.string [108, 101, 115, 115]), .agg [.lit (.int .i64 1), .lit (.int .i64 1), .lit (.int .i64 1)]], .agg [.lit (.string [106, 117, 109, 112]), .agg [.lit (.int .i64 3), .lit (.int .i64 0), .lit (.int .i64 0)]], .agg [.lit (.string [105, 102]), .agg [.lit (.int .i64 1), .lit (.int .i64 3), .lit (.int .i64 0)]], .agg [.lit (.string [115, 101, 110, 100]), .agg [.lit (.int .i64 4), .lit (.int .i64 1), .lit (.int .i64 0)]], .agg [.lit (.string [114, 101, 99, 118]), .agg [.lit (.int .i64 4), .lit (.int .i64 1), .lit (.int .i64 1)]], .agg [.lit (.string [99, 108, 111, 115, 101]), .agg [.lit (.int .i64 4), .lit (.int .i64 0), .lit (.int .i64 0)]], .agg [.lit (.string [115, 101, 108, 101, 99, 116]), .agg [.lit (.int .i64 5), .lit (.int .i64 0), .lit (.int .i64 0)]], .agg [.lit (.string [108, 111, 99, 107]), .agg [.lit (.int .i64 6), .lit (.int .i64 0), .lit (.int .i64 0)]], .agg [.lit (.string [117, 110, 108, 111, 99, 107]), .agg [.lit (.int .i64 6), .lit (.int .i64 0), .lit (.int .i64 0)]], .agg [.lit (.string [115, 112, 97, 119, 110]), .agg [.lit (.int .i64 7), .lit (.int .i64 1), .lit (.int .i64 0)]], .agg [.lit (.string [112, 114, 105, 110, 116]), .agg [.lit (.int .i64 1), .lit (.int .i64 0), .lit (.int .i64 0)]]]
def laid_loop_example_g00679_impl_itemRows {H : Type} : DataW H := .agg [.agg [.lit (.string []), .lit (.bool false), .lit (.int .i64 0), .lit (.int .i64 0)], .agg [.lit (.string [115, 101, 110, 116]), .lit (.bool true), .lit (.int .i64 0), .lit (.int .i64 999)], .agg [.lit (.string [103, 111, 116]), .lit (.bool true), .lit (.int .i64 0), .lit (.int .i64 999)], .agg [.lit (.string [99, 108, 111, 115, 101, 100]), .lit (.bool true), .lit (.int .i64 0), .lit (.int .i64 0)], .agg [.lit (.string [112, 105, 99, 107, 101, 100]), .lit (.bool true), .lit (.int .i64 (-1)), .lit (.int .i64 9223372036854775807)], .agg [.lit (.string [108, 111, 99, 107, 101, 100]), .lit (.bool true), .lit (.int .i64 0), .lit (.int .i64 0)], .agg [.lit (.string [117, 110, 108, 111, 99, 107, 101, 100]), .lit (.bool true), .lit (.int .i64 0), .lit (.int .i64 0)], .agg [.lit (.string [115, 112, 97, 119, 110, 101, 100]), .lit (.bool true), .lit (.int .i64 0), .lit (.int .i64 9223372036854775807)], .agg [.lit (.string [112, 114, 105, 110, 116, 101, 100]), .lit (.bool false), .lit (.int .i64 0), .lit (.int .i64 999)], .agg [.lit (.string [100, 111, 110, 101]), .lit (.bool false), .lit (.int .i64 0), .lit (.int .i64 0)], .agg [.lit (.string [100, 101, 97, 100]), .lit (.bool false), .lit (.int .i64 1), .lit (.int .i64 5)]]

/-- 'laws.FnExactReadyCases': WHATEVER THE INPUT: true; the input reads as it did. -/
def fnExactReadyCasesSpec : ChangeSpec := { name := "fnExactReadyCases", vars := ["loop.example/g00679/impl.opRows", "loop.example/g00679/impl.itemRows"], fn := fun _ => fun
  | [d1, d2, d3, g1, g2] => { results := [.lit (.bool true)], args := [d1, d2, d3], vars := [g1, g2] }
  | _ => none }
def fnExactReadyCasesRow : OpenClaim := { program := "ytghkdkagnibkgaagreatdoor", sum := "00e486d78189a464ee61897e66c3cb67147face4bb0855d40a5b1660c97416fc", func := "loop.example/g00679/laws.FnExactReadyCases", spec := "fnExactReadyCases", unfollowed := true, recurses := true, named := ["loop.example/g00679/impl.opRows", "loop.example/g00679/impl.itemRows"], plainKeys := false, apart := false, laid := [("loop.example/g00679/impl.opRows", laid_loop_example_g00679_impl_opRows), ("loop.example/g00679/impl.itemRows", laid_loop_example_g00679_impl_itemRows)] }
def FnExactReadyCasesSaid : Prop := fnExactReadyCasesRow.holds Tryz.pinned (OpenSpec.ofChange fnExactReadyCasesSpec)

/-- ITS FALSE NEIGHBOUR: 'it returns false'. Refute it at one input. -/
def fnExactReadyCasesWrong : ChangeSpec := { name := "fnExactReadyCases", vars := ["loop.example/g00679/impl.opRows", "loop.example/g00679/impl.itemRows"], fn := fun _ => fun
  | [d1, d2, d3, g1, g2] => { results := [.lit (.bool false)], args := [d1, d2, d3], vars := [g1, g2] }
  | _ => none }
def FnExactReadyCasesWrongFalsely : Prop := fnExactReadyCasesRow.holds Tryz.pinned (OpenSpec.ofChange fnExactReadyCasesWrong)

/-- 'laws.FnExactBlocks': WHATEVER THE INPUT: true; the input reads as it did. -/
def fnExactBlocksSpec : ChangeSpec := { name := "fnExactBlocks", vars := ["loop.example/g00679/impl.opRows", "loop.example/g00679/impl.itemRows"], fn := fun _ => fun
  | [d1, d2, d3, g1, g2] => { results := [.lit (.bool true)], args := [d1, d2, d3], vars := [g1, g2] }
  | _ => none }
def fnExactBlocksRow : OpenClaim := { program := "ytghkdkagnibkgaagreatdoor", sum := "00e486d78189a464ee61897e66c3cb67147face4bb0855d40a5b1660c97416fc", func := "loop.example/g00679/laws.FnExactBlocks", spec := "fnExactBlocks", unfollowed := true, recurses := true, named := ["loop.example/g00679/impl.opRows", "loop.example/g00679/impl.itemRows"], plainKeys := false, apart := false, laid := [("loop.example/g00679/impl.opRows", laid_loop_example_g00679_impl_opRows), ("loop.example/g00679/impl.itemRows", laid_loop_example_g00679_impl_itemRows)] }
def FnExactBlocksSaid : Prop := fnExactBlocksRow.holds Tryz.pinned (OpenSpec.ofChange fnExactBlocksSpec)

/-- ITS FALSE NEIGHBOUR: 'it returns false'. Refute it at one input. -/
def fnExactBlocksWrong : ChangeSpec := { name := "fnExactBlocks", vars := ["loop.example/g00679/impl.opRows", "loop.example/g00679/impl.itemRows"], fn := fun _ => fun
  | [d1, d2, d3, g1, g2] => { results := [.lit (.bool false)], args := [d1, d2, d3], vars := [g1, g2] }
  | _ => none }
def FnExactBlocksWrongFalsely : Prop := fnExactBlocksRow.holds Tryz.pinned (OpenSpec.ofChange fnExactBlocksWrong)

/-- 'laws.FnExactChoices': WHATEVER THE INPUT: true; the input reads as it did. -/
def fnExactChoicesSpec : ChangeSpec := { name := "fnExactChoices", vars := ["loop.example/g00679/impl.opRows", "loop.example/g00679/impl.itemRows"], fn := fun _ => fun
  | [d1, d2, d3, g1, g2] => { results := [.lit (.bool true)], args := [d1, d2, d3], vars := [g1, g2] }
  | _ => none }
def fnExactChoicesRow : OpenClaim := { program := "ytghkdkagnibkgaagreatdoor", sum := "00e486d78189a464ee61897e66c3cb67147face4bb0855d40a5b1660c97416fc", func := "loop.example/g00679/laws.FnExactChoices", spec := "fnExactChoices", unfollowed := true, recurses := true, named := ["loop.example/g00679/impl.opRows", "loop.example/g00679/impl.itemRows"], plainKeys := false, apart := false, laid := [("loop.example/g00679/impl.opRows", laid_loop_example_g00679_impl_opRows), ("loop.example/g00679/impl.itemRows", laid_loop_example_g00679_impl_itemRows)] }
def FnExactChoicesSaid : Prop := fnExactChoicesRow.holds Tryz.pinned (OpenSpec.ofChange fnExactChoicesSpec)

/-- ITS FALSE NEIGHBOUR: 'it returns false'. Refute it at one input. -/
def fnExactChoicesWrong : ChangeSpec := { name := "fnExactChoices", vars := ["loop.example/g00679/impl.opRows", "loop.example/g00679/impl.itemRows"], fn := fun _ => fun
  | [d1, d2, d3, g1, g2] => { results := [.lit (.bool false)], args := [d1, d2, d3], vars := [g1, g2] }
  | _ => none }
def FnExactChoicesWrongFalsely : Prop := fnExactChoicesRow.holds Tryz.pinned (OpenSpec.ofChange fnExactChoicesWrong)

/- THE SECOND FORM. 'bulk': how many values and letters a reading holds, each counted each time it is reached (what is shared counts as often as it is met; a slice's spare places count too). A statement '..UptoSaid' is the law's where the arguments, and the package variables that the reading takes, are together of bulk at most 1048576: NARROWER than '..Said'. Prove '..Said' where nothing that the law and all that it calls make is longer than what came in: it says more and counts as full. Else prove '..UptoSaid'. A law counts once. -/
mutual
def uptoBulk {H : Type} : DataW H → Nat
  | .lit (.string bytes) => bytes.length + 1
  | .lit _ => 1
  | .nil => 1
  | .ptr d => uptoBulk d + 1
  | .slice elems spare => uptoBulkAll elems + uptoBulkAll spare + 1
  | .agg parts => uptoBulkAll parts + 1
  | .iface _ d => uptoBulk d + 1
  | .map entries => uptoBulkEntries entries + 1
  | .held _ => 1
def uptoBulkAll {H : Type} : List (DataW H) → Nat
  | [] => 0
  | d :: r => uptoBulk d + uptoBulkAll r
def uptoBulkEntries {H : Type} : List (Lit × DataW H) → Nat
  | [] => 0
  | x :: r => uptoBulkEntry x + uptoBulkEntries r
def uptoBulkEntry {H : Type} : Lit × DataW H → Nat
  | (.string bytes, d) => bytes.length + uptoBulk d + 1
  | (_, d) => uptoBulk d + 1
 end
def uptoSmall : (H : Type) → List (DataW H) → Bool := fun _ ds => decide (uptoBulkAll ds ≤ 1048576)
def OpenSpec.upto (s : _root_.Go.ChangeSpec) : _root_.Go.OpenSpec := { _root_.Go.OpenSpec.ofChange s with cond := some uptoSmall }

/-- 'laws.FnExactReadyCases', WHERE WHAT IT READS IS OF BULK AT MOST 1048576: true; the input reads as it did. -/
def fnExactReadyCasesUptoRow : OpenClaim := { program := "ytghkdkagnibkgaagreatdoor", sum := "00e486d78189a464ee61897e66c3cb67147face4bb0855d40a5b1660c97416fc", func := "loop.example/g00679/laws.FnExactReadyCases", spec := "fnExactReadyCases", unfollowed := true, recurses := true, named := ["loop.example/g00679/impl.opRows", "loop.example/g00679/impl.itemRows"], plainKeys := false, apart := false, laid := [("loop.example/g00679/impl.opRows", laid_loop_example_g00679_impl_opRows), ("loop.example/g00679/impl.itemRows", laid_loop_example_g00679_impl_itemRows)], narrowed := true }
def FnExactReadyCasesUptoSaid : Prop := fnExactReadyCasesUptoRow.holds Tryz.pinned (OpenSpec.upto fnExactReadyCasesSpec)

/-- 'laws.FnExactBlocks', WHERE WHAT IT READS IS OF BULK AT MOST 1048576: true; the input reads as it did. -/
def fnExactBlocksUptoRow : OpenClaim := { program := "ytghkdkagnibkgaagreatdoor", sum := "00e486d78189a464ee61897e66c3cb67147face4bb0855d40a5b1660c97416fc", func := "loop.example/g00679/laws.FnExactBlocks", spec := "fnExactBlocks", unfollowed := true, recurses := true, named := ["loop.example/g00679/impl.opRows", "loop.example/g00679/impl.itemRows"], plainKeys := false, apart := false, laid := [("loop.example/g00679/impl.opRows", laid_loop_example_g00679_impl_opRows), ("loop.example/g00679/impl.itemRows", laid_loop_example_g00679_impl_itemRows)], narrowed := true }
def FnExactBlocksUptoSaid : Prop := fnExactBlocksUptoRow.holds Tryz.pinned (OpenSpec.upto fnExactBlocksSpec)

/-- 'laws.FnExactChoices', WHERE WHAT IT READS IS OF BULK AT MOST 1048576: true; the input reads as it did. -/
def fnExactChoicesUptoRow : OpenClaim := { program := "ytghkdkagnibkgaagreatdoor", sum := "00e486d78189a464ee61897e66c3cb67147face4bb0855d40a5b1660c97416fc", func := "loop.example/g00679/laws.FnExactChoices", spec := "fnExactChoices", unfollowed := true, recurses := true, named := ["loop.example/g00679/impl.opRows", "loop.example/g00679/impl.itemRows"], plainKeys := false, apart := false, laid := [("loop.example/g00679/impl.opRows", laid_loop_example_g00679_impl_opRows), ("loop.example/g00679/impl.itemRows", laid_loop_example_g00679_impl_itemRows)], narrowed := true }
def FnExactChoicesUptoSaid : Prop := fnExactChoicesUptoRow.holds Tryz.pinned (OpenSpec.upto fnExactChoicesSpec)

end Rows
end Go.Proofs.YtghkdkagnibkgaaGreatDoor
