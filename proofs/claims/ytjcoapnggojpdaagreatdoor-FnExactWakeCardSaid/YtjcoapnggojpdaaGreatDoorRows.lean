/-
  NARROWER THAN 'FOR EVERY INPUT', by the rows' own cells (each row's printed sentence says how): FnExactWake: laid · FnExactDoShared: laid · FnLocal: laid.
  DERIVED. THE GIVEN ROWS OF THIS SEAT. 3 by the template 'for every input the law returns true; each argument reads behind the call as it read before'; 0 by the template 'total and deterministic' (their statements: YtjcoapnggojpdaaGreatDoorTotals.lean).
  GIVEN WITH THE SEED: the statements are not yours to turn. If you find one false, say at which input.
  Laid BY PROGRAM, IN A SANDBOX (cutbox-rows.mjs): the forced cells as the released guide's own fill.sh prints them over the translation 2863f60e313a6972… (all of the seat's roots in one cut). By AI agents, Wed Nov 11 2026. No macro, syntax, notation, axiom, sorry.
-/
import Derived.Test.YtjcoapnggojpdaaGreatDoorChecked
import GoSem.Claim
import GoSem.ClaimJoined
import GoSem.ClaimMapViews
import Derived.JoinedTies
import Derived.KernelRfl
namespace Go.Proofs.YtjcoapnggojpdaaGreatDoor
/- THE CELL 'sum', in the pinned program and in every row, IS THE sha256 OF THE DUMP (.gsa) THAT YtjcoapnggojpdaaGreatDoorProg.lean LOADS. Nothing in Lean hashes anything: it is a label: what it is worth is what the hold of that sum in a sandbox is worth. -/
noncomputable def Tryz.pinned : Pinned := { name := "ytjcoapnggojpdaagreatdoor", sum := "2863f60e313a69727789171c8495aa2a20aceab31e2367fdb3b106b374b7e76f", checked := Tryz.checked }
namespace Rows
def none {H : Type} : Left H := { results := [], args := [] }

/- WHAT THE LISTED PACKAGE-LEVEL VARIABLES READ AS WHEN THE CALL BEGINS. Each datum BY PROGRAM (the guide's laid-datum.mjs) off the statement by which the dump's own 'gosem.cut.vars' lays the variable. In a bare row this is a premise. The card (YtjcoapnggojpdaaGreatDoorCards.lean) ties it to the program's text. -/
def laid_loop_example_g00679_impl_opRows {H : Type} : DataW H := .agg [.agg [.lit (.string []), .agg [.lit (.int .i64 0), .lit (.int .i64 0), .lit (.int .i64 0)]], .agg [.lit (.string [104, 97, 108, 116]), .agg [.lit (.int .i64 0), .lit (.int .i64 0), .lit (.int .i64 0)]], .agg [.lit (.string [115, 101, 116]), .agg [.lit (.int .i64 1), .lit (.int .i64 2), .lit (.int .i64 0)]], .agg [.lit (.string [97, 100, 100]), .agg [.lit (.int .i64 1), .lit (.int .i64 1), .lit (.int .i64 1)]], .agg [.lit (.string [115, 117, 98]), .agg [.lit (.int .i64 1), .lit (.int .i64 1), .lit (.int .i64 1)]], .agg [.lit (.string [108, 101, 115, 115]), .agg [.lit (.int .i64 1), .lit (.int .i64 1), .lit (.int .i64 1)]], .agg [.lit (.string [106, 117, 109, 112]), .agg [.lit (.int .i64 3), .lit (.int .i64 0), .lit (.int .i64 0)]], .agg [.lit (.string [105, 102]), .agg [.lit (.int .i64 1), .lit (.int .i64 3), .lit (.int .i64 0)]], .agg [.lit (.string [115, 101, 110, 100]), .agg [.lit (.int .i64 4), .lit (.int .i64 1), .lit (.int .i64 0)]], .agg [.lit (.string [114, 101, 99, 118]), .agg [.lit (.int .i64 4), .lit (.int .i64 1), .lit (.int .i64 1)]], .agg [.lit (.string [99, 108, 111, 115, 101]), .agg [.lit (.int .i64 4), .lit (.int .i64 0), .lit (.int .i64 0)]], .agg [.lit (.string [115, 101, 108, 101, 99, 116]), .agg [.lit (.int .i64 5), .lit (.int .i64 0), .lit (.int .i64 0)]], .agg [.lit (.string [108, 111, 99, 107]), .agg [.lit (.int .i64 6), .lit (.int .i64 0), .lit (.int .i64 0)]], .agg [.lit (.string [117, 110, 108, 111, 99, 107]), .agg [.lit (.int .i64 6), .lit (.int .i64 0), .lit (.int .i64 0)]], .agg [.lit (.string [115, 112, 97, 119, 110]), .agg [.lit (.int .i64 7), .lit (.int .i64 1), .lit (.int .i64 0)]], .agg [.lit (.string [112, 114, 105, 110, 116]), .agg [.lit (.int .i64 1), .lit (.int .i64 0), .lit (.int .i64 0)]]]
def laid_loop_example_g00679_impl_itemRows {H : Type} : DataW H := .agg [.agg [.lit (.string []), .lit (.bool false), .lit (.int .i64 0), .lit (.int .i64 0)], .agg [.lit (.string [115, 101, 110, 116]), .lit (.bool true), .lit (.int .i64 0), .lit (.int .i64 999)], .agg [.lit (.string [103, 111, 116]), .lit (.bool true), .lit (.int .i64 0), .lit (.int .i64 999)], .agg [.lit (.string [99, 108, 111, 115, 101, 100]), .lit (.bool true), .lit (.int .i64 0), .lit (.int .i64 0)], .agg [.lit (.string [112, 105, 99, 107, 101, 100]), .lit (.bool true), .lit (.int .i64 (-1)), .lit (.int .i64 9223372036854775807)], .agg [.lit (.string [108, 111, 99, 107, 101, 100]), .lit (.bool true), .lit (.int .i64 0), .lit (.int .i64 0)], .agg [.lit (.string [117, 110, 108, 111, 99, 107, 101, 100]), .lit (.bool true), .lit (.int .i64 0), .lit (.int .i64 0)], .agg [.lit (.string [115, 112, 97, 119, 110, 101, 100]), .lit (.bool true), .lit (.int .i64 0), .lit (.int .i64 9223372036854775807)], .agg [.lit (.string [112, 114, 105, 110, 116, 101, 100]), .lit (.bool false), .lit (.int .i64 0), .lit (.int .i64 999)], .agg [.lit (.string [100, 111, 110, 101]), .lit (.bool false), .lit (.int .i64 0), .lit (.int .i64 0)], .agg [.lit (.string [100, 101, 97, 100]), .lit (.bool false), .lit (.int .i64 1), .lit (.int .i64 5)]]

/-- 'laws.FnExactWake': WHATEVER THE INPUT: true; the input reads as it did. -/
def fnExactWakeSpec : ChangeSpec := { name := "fnExactWake", vars := ["loop.example/g00679/impl.opRows", "loop.example/g00679/impl.itemRows"], fn := fun _ => fun
  | [d1, d2, d3, d4, d5, d6, g1, g2] => { results := [.lit (.bool true)], args := [d1, d2, d3, d4, d5, d6], vars := [g1, g2] }
  | _ => none }
def fnExactWakeRow : OpenClaim := { program := "ytjcoapnggojpdaagreatdoor", sum := "2863f60e313a69727789171c8495aa2a20aceab31e2367fdb3b106b374b7e76f", func := "loop.example/g00679/laws.FnExactWake", spec := "fnExactWake", unfollowed := true, recurses := true, named := ["loop.example/g00679/impl.opRows", "loop.example/g00679/impl.itemRows"], plainKeys := false, apart := false, laid := [("loop.example/g00679/impl.opRows", laid_loop_example_g00679_impl_opRows), ("loop.example/g00679/impl.itemRows", laid_loop_example_g00679_impl_itemRows)] }
def FnExactWakeSaid : Prop := fnExactWakeRow.holds Tryz.pinned (OpenSpec.ofChange fnExactWakeSpec)

/-- ITS FALSE NEIGHBOUR: 'it returns false'. Refute it at one input. -/
def fnExactWakeWrong : ChangeSpec := { name := "fnExactWake", vars := ["loop.example/g00679/impl.opRows", "loop.example/g00679/impl.itemRows"], fn := fun _ => fun
  | [d1, d2, d3, d4, d5, d6, g1, g2] => { results := [.lit (.bool false)], args := [d1, d2, d3, d4, d5, d6], vars := [g1, g2] }
  | _ => none }
def FnExactWakeWrongFalsely : Prop := fnExactWakeRow.holds Tryz.pinned (OpenSpec.ofChange fnExactWakeWrong)

/-- 'laws.FnExactDoShared': WHATEVER THE INPUT: true; the input reads as it did. -/
def fnExactDoSharedSpec : ChangeSpec := { name := "fnExactDoShared", vars := ["loop.example/g00679/impl.opRows", "loop.example/g00679/impl.itemRows"], fn := fun _ => fun
  | [d1, d2, d3, d4, g1, g2] => { results := [.lit (.bool true)], args := [d1, d2, d3, d4], vars := [g1, g2] }
  | _ => none }
def fnExactDoSharedRow : OpenClaim := { program := "ytjcoapnggojpdaagreatdoor", sum := "2863f60e313a69727789171c8495aa2a20aceab31e2367fdb3b106b374b7e76f", func := "loop.example/g00679/laws.FnExactDoShared", spec := "fnExactDoShared", unfollowed := true, recurses := true, named := ["loop.example/g00679/impl.opRows", "loop.example/g00679/impl.itemRows"], plainKeys := false, apart := false, laid := [("loop.example/g00679/impl.opRows", laid_loop_example_g00679_impl_opRows), ("loop.example/g00679/impl.itemRows", laid_loop_example_g00679_impl_itemRows)] }
def FnExactDoSharedSaid : Prop := fnExactDoSharedRow.holds Tryz.pinned (OpenSpec.ofChange fnExactDoSharedSpec)

/-- ITS FALSE NEIGHBOUR: 'it returns false'. Refute it at one input. -/
def fnExactDoSharedWrong : ChangeSpec := { name := "fnExactDoShared", vars := ["loop.example/g00679/impl.opRows", "loop.example/g00679/impl.itemRows"], fn := fun _ => fun
  | [d1, d2, d3, d4, g1, g2] => { results := [.lit (.bool false)], args := [d1, d2, d3, d4], vars := [g1, g2] }
  | _ => none }
def FnExactDoSharedWrongFalsely : Prop := fnExactDoSharedRow.holds Tryz.pinned (OpenSpec.ofChange fnExactDoSharedWrong)

/-- 'laws.FnLocal': WHATEVER THE INPUT: true; the input reads as it did. -/
def fnLocalSpec : ChangeSpec := { name := "fnLocal", vars := ["loop.example/g00679/impl.opRows", "loop.example/g00679/impl.itemRows"], fn := fun _ => fun
  | [d, g1, g2] => { results := [.lit (.bool true)], args := [d], vars := [g1, g2] }
  | _ => none }
def fnLocalRow : OpenClaim := { program := "ytjcoapnggojpdaagreatdoor", sum := "2863f60e313a69727789171c8495aa2a20aceab31e2367fdb3b106b374b7e76f", func := "loop.example/g00679/laws.FnLocal", spec := "fnLocal", unfollowed := true, recurses := true, named := ["loop.example/g00679/impl.opRows", "loop.example/g00679/impl.itemRows"], plainKeys := false, apart := false, laid := [("loop.example/g00679/impl.opRows", laid_loop_example_g00679_impl_opRows), ("loop.example/g00679/impl.itemRows", laid_loop_example_g00679_impl_itemRows)] }
def FnLocalSaid : Prop := fnLocalRow.holds Tryz.pinned (OpenSpec.ofChange fnLocalSpec)

/-- ITS FALSE NEIGHBOUR: 'it returns false'. Refute it at one input. -/
def fnLocalWrong : ChangeSpec := { name := "fnLocal", vars := ["loop.example/g00679/impl.opRows", "loop.example/g00679/impl.itemRows"], fn := fun _ => fun
  | [d, g1, g2] => { results := [.lit (.bool false)], args := [d], vars := [g1, g2] }
  | _ => none }
def FnLocalWrongFalsely : Prop := fnLocalRow.holds Tryz.pinned (OpenSpec.ofChange fnLocalWrong)

/- THE SECOND FORM. 'bulk': how many values and letters a reading holds, each counted each time it is reached (what is shared counts as often as it is met; a slice's spare places count too). A statement '..UptoSaid' is the law's where the arguments, and the package variables that the reading takes, are together of bulk at most 1048576: NARROWER than '..Said'. Prove '..Said' where nothing that the law and all that it calls make is longer than what came in: it says more and counts as full. Else prove '..UptoSaid'. A law counts once. -/
mutual
def uptoBulk {H : Type} : DataW H → Nat
  | .lit (.string bytes) => bytes.length + 1
  | .lit _ => 1
  | .nil => 1
  | .ptr d => uptoBulk d + 1
  | .slice elems spare => uptoBulkAll elems + uptoBulkAll spare + 1
  | .agg parts => uptoBulkAll parts + 1
  | .iface _ d => uptoBulk d + 1
  | .map entries => uptoBulkEntries entries + 1
  | .held _ => 1
def uptoBulkAll {H : Type} : List (DataW H) → Nat
  | [] => 0
  | d :: r => uptoBulk d + uptoBulkAll r
def uptoBulkEntries {H : Type} : List (Lit × DataW H) → Nat
  | [] => 0
  | x :: r => uptoBulkEntry x + uptoBulkEntries r
def uptoBulkEntry {H : Type} : Lit × DataW H → Nat
  | (.string bytes, d) => bytes.length + uptoBulk d + 1
  | (_, d) => uptoBulk d + 1
 end
def uptoSmall : (H : Type) → List (DataW H) → Bool := fun _ ds => decide (uptoBulkAll ds ≤ 1048576)
def OpenSpec.upto (s : _root_.Go.ChangeSpec) : _root_.Go.OpenSpec := { _root_.Go.OpenSpec.ofChange s with cond := some uptoSmall }

/-- 'laws.FnExactWake', WHERE WHAT IT READS IS OF BULK AT MOST 1048576: true; the input reads as it did. -/
def fnExactWakeUptoRow : OpenClaim := { program := "ytjcoapnggojpdaagreatdoor", sum := "2863f60e313a69727789171c8495aa2a20aceab31e2367fdb3b106b374b7e76f", func := "loop.example/g00679/laws.FnExactWake", spec := "fnExactWake", unfollowed := true, recurses := true, named := ["loop.example/g00679/impl.opRows", "loop.example/g00679/impl.itemRows"], plainKeys := false, apart := false, laid := [("loop.example/g00679/impl.opRows", laid_loop_example_g00679_impl_opRows), ("loop.example/g00679/impl.itemRows", laid_loop_example_g00679_impl_itemRows)], narrowed := true }
def FnExactWakeUptoSaid : Prop := fnExactWakeUptoRow.holds Tryz.pinned (OpenSpec.upto fnExactWakeSpec)

/-- 'laws.FnExactDoShared', WHERE WHAT IT READS IS OF BULK AT MOST 1048576: true; the input reads as it did. -/
def fnExactDoSharedUptoRow : OpenClaim := { program := "ytjcoapnggojpdaagreatdoor", sum := "2863f60e313a69727789171c8495aa2a20aceab31e2367fdb3b106b374b7e76f", func := "loop.example/g00679/laws.FnExactDoShared", spec := "fnExactDoShared", unfollowed := true, recurses := true, named := ["loop.example/g00679/impl.opRows", "loop.example/g00679/impl.itemRows"], plainKeys := false, apart := false, laid := [("loop.example/g00679/impl.opRows", laid_loop_example_g00679_impl_opRows), ("loop.example/g00679/impl.itemRows", laid_loop_example_g00679_impl_itemRows)], narrowed := true }
def FnExactDoSharedUptoSaid : Prop := fnExactDoSharedUptoRow.holds Tryz.pinned (OpenSpec.upto fnExactDoSharedSpec)

/-- 'laws.FnLocal', WHERE WHAT IT READS IS OF BULK AT MOST 1048576: true; the input reads as it did. -/
def fnLocalUptoRow : OpenClaim := { program := "ytjcoapnggojpdaagreatdoor", sum := "2863f60e313a69727789171c8495aa2a20aceab31e2367fdb3b106b374b7e76f", func := "loop.example/g00679/laws.FnLocal", spec := "fnLocal", unfollowed := true, recurses := true, named := ["loop.example/g00679/impl.opRows", "loop.example/g00679/impl.itemRows"], plainKeys := false, apart := false, laid := [("loop.example/g00679/impl.opRows", laid_loop_example_g00679_impl_opRows), ("loop.example/g00679/impl.itemRows", laid_loop_example_g00679_impl_itemRows)], narrowed := true }
def FnLocalUptoSaid : Prop := fnLocalUptoRow.holds Tryz.pinned (OpenSpec.upto fnLocalSpec)

end Rows
end Go.Proofs.YtjcoapnggojpdaaGreatDoor
