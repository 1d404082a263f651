/-
  NARROWER THAN 'FOR EVERY INPUT', by the rows' own cells (each row's printed sentence says how): FnExactProgOk: laid · FnExactProgNums: laid · FnExactPrint: laid.
  DERIVED. THE GIVEN ROWS OF THIS SEAT. 3 by the template 'for every input the law returns true; each argument reads behind the call as it read before'; 0 by the template 'total and deterministic' (their statements: YtikcoplihfoiiaaDoorTotals.lean).
  GIVEN WITH THE SEED: the statements are not yours to turn. If you find one false, say at which input.
  Laid BY PROGRAM, IN A SANDBOX (cutbox-rows.mjs): the forced cells as the released guide's own fill.sh prints them over the translation 82e24db646b833f0… (all of the seat's roots in one cut). By AI agents, Wed Nov 11 2026. No macro, syntax, notation, axiom, sorry.
-/
import Derived.Test.YtikcoplihfoiiaaDoorChecked
import GoSem.Claim
import GoSem.ClaimJoined
import GoSem.ClaimMapViews
import Derived.JoinedTies
import Derived.KernelRfl
namespace Go.Proofs.YtikcoplihfoiiaaDoor
/- THE CELL 'sum', in the pinned program and in every row, IS THE sha256 OF THE DUMP (.gsa) THAT YtikcoplihfoiiaaDoorProg.lean LOADS. Nothing in Lean hashes anything: it is a label: what it is worth is what the hold of that sum in a sandbox is worth. -/
noncomputable def Tryd.pinned : Pinned := { name := "ytikcoplihfoiiaadoor", sum := "82e24db646b833f02ab074a93eb466d5636cec53a2f141726c1f2279b4ff73ec", checked := Tryd.checked }
namespace Rows
def none {H : Type} : Left H := { results := [], args := [] }

/- WHAT THE LISTED PACKAGE-LEVEL VARIABLES READ AS WHEN THE CALL BEGINS. Each datum BY PROGRAM (the guide's laid-datum.mjs) off the statement by which the dump's own 'gosem.cut.vars' lays the variable. In a bare row this is a premise. The card (YtikcoplihfoiiaaDoorCards.lean) ties it to the program's text. -/
def laid_loop_example_g00679_impl_opRows {H : Type} : DataW H := .agg [.agg [.lit (.string []), .agg [.lit (.int .i64 0), .lit (.int .i64 0), .lit (.int .i64 0)]], .agg [.lit (.string [104, 97, 108, 116]), .agg [.lit (.int .i64 0), .lit (.int .i64 0), .lit (.int .i64 0)]], .agg [.lit (.string [115, 101, 116]), .agg [.lit (.int .i64 1), .lit (.int .i64 2), .lit (.int .i64 0)]], .agg [.lit (.string [97, 100, 100]), .agg [.lit (.int .i64 1), .lit (.int .i64 1), .lit (.int .i64 1)]], .agg [.lit (.string [115, 117, 98]), .agg [.lit (.int .i64 1), .lit (.int .i64 1), .lit (.int .i64 1)]], .agg [.lit (.string [108, 101, 115, 115]), .agg [.lit (.int .i64 1), .lit (.int .i64 1), .lit (.int .i64 1)]], .agg [.lit (.string [106, 117, 109, 112]), .agg [.lit (.int .i64 3), .lit (.int .i64 0), .lit (.int .i64 0)]], .agg [.lit (.string [105, 102]), .agg [.lit (.int .i64 1), .lit (.int .i64 3), .lit (.int .i64 0)]], .agg [.lit (.string [115, 101, 110, 100]), .agg [.lit (.int .i64 4), .lit (.int .i64 1), .lit (.int .i64 0)]], .agg [.lit (.string [114, 101, 99, 118]), .agg [.lit (.int .i64 4), .lit (.int .i64 1), .lit (.int .i64 1)]], .agg [.lit (.string [99, 108, 111, 115, 101]), .agg [.lit (.int .i64 4), .lit (.int .i64 0), .lit (.int .i64 0)]], .agg [.lit (.string [115, 101, 108, 101, 99, 116]), .agg [.lit (.int .i64 5), .lit (.int .i64 0), .lit (.int .i64 0)]], .agg [.lit (.string [108, 111, 99, 107]), .agg [.lit (.int .i64 6), .lit (.int .i64 0), .lit (.int .i64 0)]], .agg [.lit (.string [117, 110, 108, 111, 99, 107]), .agg [.lit (.int .i64 6), .lit (.int .i64 0), .lit (.int .i64 0)]], .agg [.lit (.string [115, 112, 97, 119, 110]), .agg [.lit (.int .i64 7), .lit (.int .i64 1), .lit (.int .i64 0)]], .agg [.lit (.string [112, 114, 105, 110, 116]), .agg [.lit (.int .i64 1), .lit (.int .i64 0), .lit (.int .i64 0)]]]

/-- 'laws.FnExactProgOk': WHATEVER THE INPUT: true; the input reads as it did. -/
def fnExactProgOkSpec : ChangeSpec := { name := "fnExactProgOk", vars := ["loop.example/g00679/impl.opRows"], fn := fun _ => fun
  | [d, g1] => { results := [.lit (.bool true)], args := [d], vars := [g1] }
  | _ => none }
def fnExactProgOkRow : OpenClaim := { program := "ytikcoplihfoiiaadoor", sum := "82e24db646b833f02ab074a93eb466d5636cec53a2f141726c1f2279b4ff73ec", func := "loop.example/g00679/laws.FnExactProgOk", spec := "fnExactProgOk", named := ["loop.example/g00679/impl.opRows"], plainKeys := false, apart := false, laid := [("loop.example/g00679/impl.opRows", laid_loop_example_g00679_impl_opRows)] }
def FnExactProgOkSaid : Prop := fnExactProgOkRow.holds Tryd.pinned (OpenSpec.ofChange fnExactProgOkSpec)

/-- ITS FALSE NEIGHBOUR: 'it returns false'. Refute it at one input. -/
def fnExactProgOkWrong : ChangeSpec := { name := "fnExactProgOk", vars := ["loop.example/g00679/impl.opRows"], fn := fun _ => fun
  | [d, g1] => { results := [.lit (.bool false)], args := [d], vars := [g1] }
  | _ => none }
def FnExactProgOkWrongFalsely : Prop := fnExactProgOkRow.holds Tryd.pinned (OpenSpec.ofChange fnExactProgOkWrong)

/-- 'laws.FnExactProgNums': WHATEVER THE INPUT: true; the input reads as it did. -/
def fnExactProgNumsSpec : ChangeSpec := { name := "fnExactProgNums", vars := ["loop.example/g00679/impl.opRows"], fn := fun _ => fun
  | [d, g1] => { results := [.lit (.bool true)], args := [d], vars := [g1] }
  | _ => none }
def fnExactProgNumsRow : OpenClaim := { program := "ytikcoplihfoiiaadoor", sum := "82e24db646b833f02ab074a93eb466d5636cec53a2f141726c1f2279b4ff73ec", func := "loop.example/g00679/laws.FnExactProgNums", spec := "fnExactProgNums", named := ["loop.example/g00679/impl.opRows"], plainKeys := false, apart := false, laid := [("loop.example/g00679/impl.opRows", laid_loop_example_g00679_impl_opRows)] }
def FnExactProgNumsSaid : Prop := fnExactProgNumsRow.holds Tryd.pinned (OpenSpec.ofChange fnExactProgNumsSpec)

/-- ITS FALSE NEIGHBOUR: 'it returns false'. Refute it at one input. -/
def fnExactProgNumsWrong : ChangeSpec := { name := "fnExactProgNums", vars := ["loop.example/g00679/impl.opRows"], fn := fun _ => fun
  | [d, g1] => { results := [.lit (.bool false)], args := [d], vars := [g1] }
  | _ => none }
def FnExactProgNumsWrongFalsely : Prop := fnExactProgNumsRow.holds Tryd.pinned (OpenSpec.ofChange fnExactProgNumsWrong)

/-- 'laws.FnExactPrint': WHATEVER THE INPUT: true; the input reads as it did. -/
def fnExactPrintSpec : ChangeSpec := { name := "fnExactPrint", vars := ["loop.example/g00679/impl.opRows"], fn := fun _ => fun
  | [d, g1] => { results := [.lit (.bool true)], args := [d], vars := [g1] }
  | _ => none }
def fnExactPrintRow : OpenClaim := { program := "ytikcoplihfoiiaadoor", sum := "82e24db646b833f02ab074a93eb466d5636cec53a2f141726c1f2279b4ff73ec", func := "loop.example/g00679/laws.FnExactPrint", spec := "fnExactPrint", unfollowed := true, recurses := true, named := ["loop.example/g00679/impl.opRows"], plainKeys := false, apart := false, laid := [("loop.example/g00679/impl.opRows", laid_loop_example_g00679_impl_opRows)] }
def FnExactPrintSaid : Prop := fnExactPrintRow.holds Tryd.pinned (OpenSpec.ofChange fnExactPrintSpec)

/-- ITS FALSE NEIGHBOUR: 'it returns false'. Refute it at one input. -/
def fnExactPrintWrong : ChangeSpec := { name := "fnExactPrint", vars := ["loop.example/g00679/impl.opRows"], fn := fun _ => fun
  | [d, g1] => { results := [.lit (.bool false)], args := [d], vars := [g1] }
  | _ => none }
def FnExactPrintWrongFalsely : Prop := fnExactPrintRow.holds Tryd.pinned (OpenSpec.ofChange fnExactPrintWrong)

/- THE SECOND FORM. 'bulk': how many values and letters a reading holds, each counted each time it is reached (what is shared counts as often as it is met; a slice's spare places count too). A statement '..UptoSaid' is the law's where the arguments, and the package variables that the reading takes, are together of bulk at most 1048576: NARROWER than '..Said'. Prove '..Said' where nothing that the law and all that it calls make is longer than what came in: it says more and counts as full. Else prove '..UptoSaid'. A law counts once. -/
mutual
def uptoBulk {H : Type} : DataW H → Nat
  | .lit (.string bytes) => bytes.length + 1
  | .lit _ => 1
  | .nil => 1
  | .ptr d => uptoBulk d + 1
  | .slice elems spare => uptoBulkAll elems + uptoBulkAll spare + 1
  | .agg parts => uptoBulkAll parts + 1
  | .iface _ d => uptoBulk d + 1
  | .map entries => uptoBulkEntries entries + 1
  | .held _ => 1
def uptoBulkAll {H : Type} : List (DataW H) → Nat
  | [] => 0
  | d :: r => uptoBulk d + uptoBulkAll r
def uptoBulkEntries {H : Type} : List (Lit × DataW H) → Nat
  | [] => 0
  | x :: r => uptoBulkEntry x + uptoBulkEntries r
def uptoBulkEntry {H : Type} : Lit × DataW H → Nat
  | (.string bytes, d) => bytes.length + uptoBulk d + 1
  | (_, d) => uptoBulk d + 1
 end
def uptoSmall : (H : Type) → List (DataW H) → Bool := fun _ ds => decide (uptoBulkAll ds ≤ 1048576)
def OpenSpec.upto (s : _root_.Go.ChangeSpec) : _root_.Go.OpenSpec := { _root_.Go.OpenSpec.ofChange s with cond := some uptoSmall }

/-- 'laws.FnExactProgOk', WHERE WHAT IT READS IS OF BULK AT MOST 1048576: true; the input reads as it did. -/
def fnExactProgOkUptoRow : OpenClaim := { program := "ytikcoplihfoiiaadoor", sum := "82e24db646b833f02ab074a93eb466d5636cec53a2f141726c1f2279b4ff73ec", func := "loop.example/g00679/laws.FnExactProgOk", spec := "fnExactProgOk", named := ["loop.example/g00679/impl.opRows"], plainKeys := false, apart := false, laid := [("loop.example/g00679/impl.opRows", laid_loop_example_g00679_impl_opRows)], narrowed := true }
def FnExactProgOkUptoSaid : Prop := fnExactProgOkUptoRow.holds Tryd.pinned (OpenSpec.upto fnExactProgOkSpec)

/-- 'laws.FnExactProgNums', WHERE WHAT IT READS IS OF BULK AT MOST 1048576: true; the input reads as it did. -/
def fnExactProgNumsUptoRow : OpenClaim := { program := "ytikcoplihfoiiaadoor", sum := "82e24db646b833f02ab074a93eb466d5636cec53a2f141726c1f2279b4ff73ec", func := "loop.example/g00679/laws.FnExactProgNums", spec := "fnExactProgNums", named := ["loop.example/g00679/impl.opRows"], plainKeys := false, apart := false, laid := [("loop.example/g00679/impl.opRows", laid_loop_example_g00679_impl_opRows)], narrowed := true }
def FnExactProgNumsUptoSaid : Prop := fnExactProgNumsUptoRow.holds Tryd.pinned (OpenSpec.upto fnExactProgNumsSpec)

/-- 'laws.FnExactPrint', WHERE WHAT IT READS IS OF BULK AT MOST 1048576: true; the input reads as it did. -/
def fnExactPrintUptoRow : OpenClaim := { program := "ytikcoplihfoiiaadoor", sum := "82e24db646b833f02ab074a93eb466d5636cec53a2f141726c1f2279b4ff73ec", func := "loop.example/g00679/laws.FnExactPrint", spec := "fnExactPrint", unfollowed := true, recurses := true, named := ["loop.example/g00679/impl.opRows"], plainKeys := false, apart := false, laid := [("loop.example/g00679/impl.opRows", laid_loop_example_g00679_impl_opRows)], narrowed := true }
def FnExactPrintUptoSaid : Prop := fnExactPrintUptoRow.holds Tryd.pinned (OpenSpec.upto fnExactPrintSpec)

end Rows
end Go.Proofs.YtikcoplihfoiiaaDoor
