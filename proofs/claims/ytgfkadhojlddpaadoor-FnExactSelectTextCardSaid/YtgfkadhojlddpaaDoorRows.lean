/-
  NARROWER THAN 'FOR EVERY INPUT', by the rows' own cells (each row's printed sentence says how): FnExactInstrText: laid · FnExactSelectText: laid · FnExactGorOk: laid · FnExactEngNew: laid · FnExactMayWait: laid.
  DERIVED. THE GIVEN ROWS OF THIS SEAT. 5 by the template 'for every input the law returns true; each argument reads behind the call as it read before'; 0 by the template 'total and deterministic' (their statements: YtgfkadhojlddpaaDoorTotals.lean).
  GIVEN WITH THE SEED: the statements are not yours to turn. If you find one false, say at which input.
  Laid BY PROGRAM, IN A SANDBOX (cutbox-rows.mjs): the forced cells as the released guide's own fill.sh prints them over the translation b4206ec5626c858a… (all of the seat's roots in one cut). By AI agents, Wed Nov 11 2026. No macro, syntax, notation, axiom, sorry.
-/
import Derived.Test.YtgfkadhojlddpaaDoorChecked
import GoSem.Claim
import GoSem.ClaimJoined
import GoSem.ClaimMapViews
import Derived.JoinedTies
import Derived.KernelRfl
namespace Go.Proofs.YtgfkadhojlddpaaDoor
/- THE CELL 'sum', in the pinned program and in every row, IS THE sha256 OF THE DUMP (.gsa) THAT YtgfkadhojlddpaaDoorProg.lean LOADS. Nothing in Lean hashes anything: it is a label: what it is worth is what the hold of that sum in a sandbox is worth. -/
noncomputable def Tryd.pinned : Pinned := { name := "ytgfkadhojlddpaadoor", sum := "b4206ec5626c858a9e771bf0735d246a5b2f96cf0ab2b81b4d390b38b5e8cc1c", checked := Tryd.checked }
namespace Rows
def none {H : Type} : Left H := { results := [], args := [] }

/- WHAT THE LISTED PACKAGE-LEVEL VARIABLES READ AS WHEN THE CALL BEGINS. Each datum BY PROGRAM (the guide's laid-datum.mjs) off the statement by which the dump's own 'gosem.cut.vars' lays the variable. In a bare row this is a premise. The card (YtgfkadhojlddpaaDoorCards.lean) ties it to the program's text. -/
def laid_math_bits_deBruijn32tab {H : Type} : DataW H := .agg [.lit (.int .u8 0), .lit (.int .u8 1), .lit (.int .u8 28), .lit (.int .u8 2), .lit (.int .u8 29), .lit (.int .u8 14), .lit (.int .u8 24), .lit (.int .u8 3), .lit (.int .u8 30), .lit (.int .u8 22), .lit (.int .u8 20), .lit (.int .u8 15), .lit (.int .u8 25), .lit (.int .u8 17), .lit (.int .u8 4), .lit (.int .u8 8), .lit (.int .u8 31), .lit (.int .u8 27), .lit (.int .u8 13), .lit (.int .u8 23), .lit (.int .u8 21), .lit (.int .u8 19), .lit (.int .u8 16), .lit (.int .u8 7), .lit (.int .u8 26), .lit (.int .u8 12), .lit (.int .u8 18), .lit (.int .u8 6), .lit (.int .u8 11), .lit (.int .u8 5), .lit (.int .u8 10), .lit (.int .u8 9)]
def laid_math_bits_deBruijn64tab {H : Type} : DataW H := .agg [.lit (.int .u8 0), .lit (.int .u8 1), .lit (.int .u8 56), .lit (.int .u8 2), .lit (.int .u8 57), .lit (.int .u8 49), .lit (.int .u8 28), .lit (.int .u8 3), .lit (.int .u8 61), .lit (.int .u8 58), .lit (.int .u8 42), .lit (.int .u8 50), .lit (.int .u8 38), .lit (.int .u8 29), .lit (.int .u8 17), .lit (.int .u8 4), .lit (.int .u8 62), .lit (.int .u8 47), .lit (.int .u8 59), .lit (.int .u8 36), .lit (.int .u8 45), .lit (.int .u8 43), .lit (.int .u8 51), .lit (.int .u8 22), .lit (.int .u8 53), .lit (.int .u8 39), .lit (.int .u8 33), .lit (.int .u8 30), .lit (.int .u8 24), .lit (.int .u8 18), .lit (.int .u8 12), .lit (.int .u8 5), .lit (.int .u8 63), .lit (.int .u8 55), .lit (.int .u8 48), .lit (.int .u8 27), .lit (.int .u8 60), .lit (.int .u8 41), .lit (.int .u8 37), .lit (.int .u8 16), .lit (.int .u8 46), .lit (.int .u8 35), .lit (.int .u8 44), .lit (.int .u8 21), .lit (.int .u8 52), .lit (.int .u8 32), .lit (.int .u8 23), .lit (.int .u8 11), .lit (.int .u8 54), .lit (.int .u8 26), .lit (.int .u8 40), .lit (.int .u8 15), .lit (.int .u8 34), .lit (.int .u8 20), .lit (.int .u8 31), .lit (.int .u8 10), .lit (.int .u8 25), .lit (.int .u8 14), .lit (.int .u8 19), .lit (.int .u8 9), .lit (.int .u8 13), .lit (.int .u8 8), .lit (.int .u8 7), .lit (.int .u8 6)]
def laid_internal_strconv_uint64pow10 {H : Type} : DataW H := .agg [.lit (.int .u64 1), .lit (.int .u64 10), .lit (.int .u64 100), .lit (.int .u64 1000), .lit (.int .u64 10000), .lit (.int .u64 100000), .lit (.int .u64 1000000), .lit (.int .u64 10000000), .lit (.int .u64 100000000), .lit (.int .u64 1000000000), .lit (.int .u64 10000000000), .lit (.int .u64 100000000000), .lit (.int .u64 1000000000000), .lit (.int .u64 10000000000000), .lit (.int .u64 100000000000000), .lit (.int .u64 1000000000000000), .lit (.int .u64 10000000000000000), .lit (.int .u64 100000000000000000), .lit (.int .u64 1000000000000000000), .lit (.int .u64 10000000000000000000)]
def laid_loop_example_g00679_impl_opRows {H : Type} : DataW H := .agg [.agg [.lit (.string []), .agg [.lit (.int .i64 0), .lit (.int .i64 0), .lit (.int .i64 0)]], .agg [.lit (.string [104, 97, 108, 116]), .agg [.lit (.int .i64 0), .lit (.int .i64 0), .lit (.int .i64 0)]], .agg [.lit (.string [115, 101, 116]), .agg [.lit (.int .i64 1), .lit (.int .i64 2), .lit (.int .i64 0)]], .agg [.lit (.string [97, 100, 100]), .agg [.lit (.int .i64 1), .lit (.int .i64 1), .lit (.int .i64 1)]], .agg [.lit (.string [115, 117, 98]), .agg [.lit (.int .i64 1), .lit (.int .i64 1), .lit (.int .i64 1)]], .agg [.lit (.string [108, 101, 115, 115]), .agg [.lit (.int .i64 1), .lit (.int .i64 1), .lit (.int .i64 1)]], .agg [.lit (.string [106, 117, 109, 112]), .agg [.lit (.int .i64 3), .lit (.int .i64 0), .lit (.int .i64 0)]], .agg [.lit (.string [105, 102]), .agg [.lit (.int .i64 1), .lit (.int .i64 3), .lit (.int .i64 0)]], .agg [.lit (.string [115, 101, 110, 100]), .agg [.lit (.int .i64 4), .lit (.int .i64 1), .lit (.int .i64 0)]], .agg [.lit (.string [114, 101, 99, 118]), .agg [.lit (.int .i64 4), .lit (.int .i64 1), .lit (.int .i64 1)]], .agg [.lit (.string [99, 108, 111, 115, 101]), .agg [.lit (.int .i64 4), .lit (.int .i64 0), .lit (.int .i64 0)]], .agg [.lit (.string [115, 101, 108, 101, 99, 116]), .agg [.lit (.int .i64 5), .lit (.int .i64 0), .lit (.int .i64 0)]], .agg [.lit (.string [108, 111, 99, 107]), .agg [.lit (.int .i64 6), .lit (.int .i64 0), .lit (.int .i64 0)]], .agg [.lit (.string [117, 110, 108, 111, 99, 107]), .agg [.lit (.int .i64 6), .lit (.int .i64 0), .lit (.int .i64 0)]], .agg [.lit (.string [115, 112, 97, 119, 110]), .agg [.lit (.int .i64 7), .lit (.int .i64 1), .lit (.int .i64 0)]], .agg [.lit (.string [112, 114, 105, 110, 116]), .agg [.lit (.int .i64 1), .lit (.int .i64 0), .lit (.int .i64 0)]]]
def laid_loop_example_g00679_impl_itemRows {H : Type} : DataW H := .agg [.agg [.lit (.string []), .lit (.bool false), .lit (.int .i64 0), .lit (.int .i64 0)], .agg [.lit (.string [115, 101, 110, 116]), .lit (.bool true), .lit (.int .i64 0), .lit (.int .i64 999)], .agg [.lit (.string [103, 111, 116]), .lit (.bool true), .lit (.int .i64 0), .lit (.int .i64 999)], .agg [.lit (.string [99, 108, 111, 115, 101, 100]), .lit (.bool true), .lit (.int .i64 0), .lit (.int .i64 0)], .agg [.lit (.string [112, 105, 99, 107, 101, 100]), .lit (.bool true), .lit (.int .i64 (-1)), .lit (.int .i64 9223372036854775807)], .agg [.lit (.string [108, 111, 99, 107, 101, 100]), .lit (.bool true), .lit (.int .i64 0), .lit (.int .i64 0)], .agg [.lit (.string [117, 110, 108, 111, 99, 107, 101, 100]), .lit (.bool true), .lit (.int .i64 0), .lit (.int .i64 0)], .agg [.lit (.string [115, 112, 97, 119, 110, 101, 100]), .lit (.bool true), .lit (.int .i64 0), .lit (.int .i64 9223372036854775807)], .agg [.lit (.string [112, 114, 105, 110, 116, 101, 100]), .lit (.bool false), .lit (.int .i64 0), .lit (.int .i64 999)], .agg [.lit (.string [100, 111, 110, 101]), .lit (.bool false), .lit (.int .i64 0), .lit (.int .i64 0)], .agg [.lit (.string [100, 101, 97, 100]), .lit (.bool false), .lit (.int .i64 1), .lit (.int .i64 5)]]

/-- 'laws.FnExactInstrText': WHATEVER THE INPUT: true; the input reads as it did. -/
def fnExactInstrTextSpec : ChangeSpec := { name := "fnExactInstrText", vars := ["loop.example/g00679/impl.opRows"], fn := fun _ => fun
  | [d, g1] => { results := [.lit (.bool true)], args := [d], vars := [g1] }
  | _ => none }
def fnExactInstrTextRow : OpenClaim := { program := "ytgfkadhojlddpaadoor", sum := "b4206ec5626c858a9e771bf0735d246a5b2f96cf0ab2b81b4d390b38b5e8cc1c", func := "loop.example/g00679/laws.FnExactInstrText", spec := "fnExactInstrText", inPlace := ["internal/abi.NoEscape", "internal/bytealg.MakeNoZero"], recurses := true, named := ["loop.example/g00679/impl.opRows", "internal/strconv.uint64pow10", "math/bits.deBruijn32tab", "math/bits.deBruijn64tab"], plainKeys := false, apart := false, laid := [("math/bits.deBruijn32tab", laid_math_bits_deBruijn32tab), ("math/bits.deBruijn64tab", laid_math_bits_deBruijn64tab), ("internal/strconv.uint64pow10", laid_internal_strconv_uint64pow10), ("loop.example/g00679/impl.opRows", laid_loop_example_g00679_impl_opRows)] }
def FnExactInstrTextSaid : Prop := fnExactInstrTextRow.holds Tryd.pinned (OpenSpec.ofChange fnExactInstrTextSpec)

/-- ITS FALSE NEIGHBOUR: 'it returns false'. Refute it at one input. -/
def fnExactInstrTextWrong : ChangeSpec := { name := "fnExactInstrText", vars := ["loop.example/g00679/impl.opRows"], fn := fun _ => fun
  | [d, g1] => { results := [.lit (.bool false)], args := [d], vars := [g1] }
  | _ => none }
def FnExactInstrTextWrongFalsely : Prop := fnExactInstrTextRow.holds Tryd.pinned (OpenSpec.ofChange fnExactInstrTextWrong)

/-- 'laws.FnExactSelectText': WHATEVER THE INPUT: true; the input reads as it did. -/
def fnExactSelectTextSpec : ChangeSpec := { name := "fnExactSelectText", vars := ["loop.example/g00679/impl.opRows"], fn := fun _ => fun
  | [d, g1] => { results := [.lit (.bool true)], args := [d], vars := [g1] }
  | _ => none }
def fnExactSelectTextRow : OpenClaim := { program := "ytgfkadhojlddpaadoor", sum := "b4206ec5626c858a9e771bf0735d246a5b2f96cf0ab2b81b4d390b38b5e8cc1c", func := "loop.example/g00679/laws.FnExactSelectText", spec := "fnExactSelectText", inPlace := ["internal/abi.NoEscape", "internal/bytealg.MakeNoZero"], recurses := true, named := ["internal/strconv.uint64pow10", "math/bits.deBruijn32tab", "math/bits.deBruijn64tab", "loop.example/g00679/impl.opRows"], plainKeys := false, apart := false, laid := [("math/bits.deBruijn32tab", laid_math_bits_deBruijn32tab), ("math/bits.deBruijn64tab", laid_math_bits_deBruijn64tab), ("internal/strconv.uint64pow10", laid_internal_strconv_uint64pow10), ("loop.example/g00679/impl.opRows", laid_loop_example_g00679_impl_opRows)] }
def FnExactSelectTextSaid : Prop := fnExactSelectTextRow.holds Tryd.pinned (OpenSpec.ofChange fnExactSelectTextSpec)

/-- ITS FALSE NEIGHBOUR: 'it returns false'. Refute it at one input. -/
def fnExactSelectTextWrong : ChangeSpec := { name := "fnExactSelectText", vars := ["loop.example/g00679/impl.opRows"], fn := fun _ => fun
  | [d, g1] => { results := [.lit (.bool false)], args := [d], vars := [g1] }
  | _ => none }
def FnExactSelectTextWrongFalsely : Prop := fnExactSelectTextRow.holds Tryd.pinned (OpenSpec.ofChange fnExactSelectTextWrong)

/-- 'laws.FnExactGorOk': WHATEVER THE INPUT: true; the input reads as it did. -/
def fnExactGorOkSpec : ChangeSpec := { name := "fnExactGorOk", vars := ["loop.example/g00679/impl.opRows", "loop.example/g00679/impl.itemRows"], fn := fun _ => fun
  | [d1, d2, g1, g2] => { results := [.lit (.bool true)], args := [d1, d2], vars := [g1, g2] }
  | _ => none }
def fnExactGorOkRow : OpenClaim := { program := "ytgfkadhojlddpaadoor", sum := "b4206ec5626c858a9e771bf0735d246a5b2f96cf0ab2b81b4d390b38b5e8cc1c", func := "loop.example/g00679/laws.FnExactGorOk", spec := "fnExactGorOk", unfollowed := true, recurses := true, named := ["loop.example/g00679/impl.opRows", "loop.example/g00679/impl.itemRows"], plainKeys := false, apart := false, laid := [("loop.example/g00679/impl.opRows", laid_loop_example_g00679_impl_opRows), ("loop.example/g00679/impl.itemRows", laid_loop_example_g00679_impl_itemRows)] }
def FnExactGorOkSaid : Prop := fnExactGorOkRow.holds Tryd.pinned (OpenSpec.ofChange fnExactGorOkSpec)

/-- ITS FALSE NEIGHBOUR: 'it returns false'. Refute it at one input. -/
def fnExactGorOkWrong : ChangeSpec := { name := "fnExactGorOk", vars := ["loop.example/g00679/impl.opRows", "loop.example/g00679/impl.itemRows"], fn := fun _ => fun
  | [d1, d2, g1, g2] => { results := [.lit (.bool false)], args := [d1, d2], vars := [g1, g2] }
  | _ => none }
def FnExactGorOkWrongFalsely : Prop := fnExactGorOkRow.holds Tryd.pinned (OpenSpec.ofChange fnExactGorOkWrong)

/-- 'laws.FnExactEngNew': WHATEVER THE INPUT: true; the input reads as it did. -/
def fnExactEngNewSpec : ChangeSpec := { name := "fnExactEngNew", vars := ["loop.example/g00679/impl.opRows"], fn := fun _ => fun
  | [d, g1] => { results := [.lit (.bool true)], args := [d], vars := [g1] }
  | _ => none }
def fnExactEngNewRow : OpenClaim := { program := "ytgfkadhojlddpaadoor", sum := "b4206ec5626c858a9e771bf0735d246a5b2f96cf0ab2b81b4d390b38b5e8cc1c", func := "loop.example/g00679/laws.FnExactEngNew", spec := "fnExactEngNew", named := ["loop.example/g00679/impl.opRows"], plainKeys := false, apart := false, laid := [("loop.example/g00679/impl.opRows", laid_loop_example_g00679_impl_opRows)] }
def FnExactEngNewSaid : Prop := fnExactEngNewRow.holds Tryd.pinned (OpenSpec.ofChange fnExactEngNewSpec)

/-- ITS FALSE NEIGHBOUR: 'it returns false'. Refute it at one input. -/
def fnExactEngNewWrong : ChangeSpec := { name := "fnExactEngNew", vars := ["loop.example/g00679/impl.opRows"], fn := fun _ => fun
  | [d, g1] => { results := [.lit (.bool false)], args := [d], vars := [g1] }
  | _ => none }
def FnExactEngNewWrongFalsely : Prop := fnExactEngNewRow.holds Tryd.pinned (OpenSpec.ofChange fnExactEngNewWrong)

/-- 'laws.FnExactMayWait': WHATEVER THE INPUT: true; the input reads as it did. -/
def fnExactMayWaitSpec : ChangeSpec := { name := "fnExactMayWait", vars := ["loop.example/g00679/impl.opRows", "loop.example/g00679/impl.itemRows"], fn := fun _ => fun
  | [d1, d2, g1, g2] => { results := [.lit (.bool true)], args := [d1, d2], vars := [g1, g2] }
  | _ => none }
def fnExactMayWaitRow : OpenClaim := { program := "ytgfkadhojlddpaadoor", sum := "b4206ec5626c858a9e771bf0735d246a5b2f96cf0ab2b81b4d390b38b5e8cc1c", func := "loop.example/g00679/laws.FnExactMayWait", spec := "fnExactMayWait", unfollowed := true, recurses := true, named := ["loop.example/g00679/impl.opRows", "loop.example/g00679/impl.itemRows"], plainKeys := false, apart := false, laid := [("loop.example/g00679/impl.opRows", laid_loop_example_g00679_impl_opRows), ("loop.example/g00679/impl.itemRows", laid_loop_example_g00679_impl_itemRows)] }
def FnExactMayWaitSaid : Prop := fnExactMayWaitRow.holds Tryd.pinned (OpenSpec.ofChange fnExactMayWaitSpec)

/-- ITS FALSE NEIGHBOUR: 'it returns false'. Refute it at one input. -/
def fnExactMayWaitWrong : ChangeSpec := { name := "fnExactMayWait", vars := ["loop.example/g00679/impl.opRows", "loop.example/g00679/impl.itemRows"], fn := fun _ => fun
  | [d1, d2, g1, g2] => { results := [.lit (.bool false)], args := [d1, d2], vars := [g1, g2] }
  | _ => none }
def FnExactMayWaitWrongFalsely : Prop := fnExactMayWaitRow.holds Tryd.pinned (OpenSpec.ofChange fnExactMayWaitWrong)

/- THE SECOND FORM. 'bulk': how many values and letters a reading holds, each counted each time it is reached (what is shared counts as often as it is met; a slice's spare places count too). A statement '..UptoSaid' is the law's where the arguments, and the package variables that the reading takes, are together of bulk at most 1048576: NARROWER than '..Said'. Prove '..Said' where nothing that the law and all that it calls make is longer than what came in: it says more and counts as full. Else prove '..UptoSaid'. A law counts once. -/
mutual
def uptoBulk {H : Type} : DataW H → Nat
  | .lit (.string bytes) => bytes.length + 1
  | .lit _ => 1
  | .nil => 1
  | .ptr d => uptoBulk d + 1
  | .slice elems spare => uptoBulkAll elems + uptoBulkAll spare + 1
  | .agg parts => uptoBulkAll parts + 1
  | .iface _ d => uptoBulk d + 1
  | .map entries => uptoBulkEntries entries + 1
  | .held _ => 1
def uptoBulkAll {H : Type} : List (DataW H) → Nat
  | [] => 0
  | d :: r => uptoBulk d + uptoBulkAll r
def uptoBulkEntries {H : Type} : List (Lit × DataW H) → Nat
  | [] => 0
  | x :: r => uptoBulkEntry x + uptoBulkEntries r
def uptoBulkEntry {H : Type} : Lit × DataW H → Nat
  | (.string bytes, d) => bytes.length + uptoBulk d + 1
  | (_, d) => uptoBulk d + 1
 end
def uptoSmall : (H : Type) → List (DataW H) → Bool := fun _ ds => decide (uptoBulkAll ds ≤ 1048576)
def OpenSpec.upto (s : _root_.Go.ChangeSpec) : _root_.Go.OpenSpec := { _root_.Go.OpenSpec.ofChange s with cond := some uptoSmall }

/-- 'laws.FnExactInstrText', WHERE WHAT IT READS IS OF BULK AT MOST 1048576: true; the input reads as it did. -/
def fnExactInstrTextUptoRow : OpenClaim := { program := "ytgfkadhojlddpaadoor", sum := "b4206ec5626c858a9e771bf0735d246a5b2f96cf0ab2b81b4d390b38b5e8cc1c", func := "loop.example/g00679/laws.FnExactInstrText", spec := "fnExactInstrText", inPlace := ["internal/abi.NoEscape", "internal/bytealg.MakeNoZero"], recurses := true, named := ["loop.example/g00679/impl.opRows", "internal/strconv.uint64pow10", "math/bits.deBruijn32tab", "math/bits.deBruijn64tab"], plainKeys := false, apart := false, laid := [("math/bits.deBruijn32tab", laid_math_bits_deBruijn32tab), ("math/bits.deBruijn64tab", laid_math_bits_deBruijn64tab), ("internal/strconv.uint64pow10", laid_internal_strconv_uint64pow10), ("loop.example/g00679/impl.opRows", laid_loop_example_g00679_impl_opRows)], narrowed := true }
def FnExactInstrTextUptoSaid : Prop := fnExactInstrTextUptoRow.holds Tryd.pinned (OpenSpec.upto fnExactInstrTextSpec)

/-- 'laws.FnExactSelectText', WHERE WHAT IT READS IS OF BULK AT MOST 1048576: true; the input reads as it did. -/
def fnExactSelectTextUptoRow : OpenClaim := { program := "ytgfkadhojlddpaadoor", sum := "b4206ec5626c858a9e771bf0735d246a5b2f96cf0ab2b81b4d390b38b5e8cc1c", func := "loop.example/g00679/laws.FnExactSelectText", spec := "fnExactSelectText", inPlace := ["internal/abi.NoEscape", "internal/bytealg.MakeNoZero"], recurses := true, named := ["internal/strconv.uint64pow10", "math/bits.deBruijn32tab", "math/bits.deBruijn64tab", "loop.example/g00679/impl.opRows"], plainKeys := false, apart := false, laid := [("math/bits.deBruijn32tab", laid_math_bits_deBruijn32tab), ("math/bits.deBruijn64tab", laid_math_bits_deBruijn64tab), ("internal/strconv.uint64pow10", laid_internal_strconv_uint64pow10), ("loop.example/g00679/impl.opRows", laid_loop_example_g00679_impl_opRows)], narrowed := true }
def FnExactSelectTextUptoSaid : Prop := fnExactSelectTextUptoRow.holds Tryd.pinned (OpenSpec.upto fnExactSelectTextSpec)

/-- 'laws.FnExactGorOk', WHERE WHAT IT READS IS OF BULK AT MOST 1048576: true; the input reads as it did. -/
def fnExactGorOkUptoRow : OpenClaim := { program := "ytgfkadhojlddpaadoor", sum := "b4206ec5626c858a9e771bf0735d246a5b2f96cf0ab2b81b4d390b38b5e8cc1c", func := "loop.example/g00679/laws.FnExactGorOk", spec := "fnExactGorOk", unfollowed := true, recurses := true, named := ["loop.example/g00679/impl.opRows", "loop.example/g00679/impl.itemRows"], plainKeys := false, apart := false, laid := [("loop.example/g00679/impl.opRows", laid_loop_example_g00679_impl_opRows), ("loop.example/g00679/impl.itemRows", laid_loop_example_g00679_impl_itemRows)], narrowed := true }
def FnExactGorOkUptoSaid : Prop := fnExactGorOkUptoRow.holds Tryd.pinned (OpenSpec.upto fnExactGorOkSpec)

/-- 'laws.FnExactEngNew', WHERE WHAT IT READS IS OF BULK AT MOST 1048576: true; the input reads as it did. -/
def fnExactEngNewUptoRow : OpenClaim := { program := "ytgfkadhojlddpaadoor", sum := "b4206ec5626c858a9e771bf0735d246a5b2f96cf0ab2b81b4d390b38b5e8cc1c", func := "loop.example/g00679/laws.FnExactEngNew", spec := "fnExactEngNew", named := ["loop.example/g00679/impl.opRows"], plainKeys := false, apart := false, laid := [("loop.example/g00679/impl.opRows", laid_loop_example_g00679_impl_opRows)], narrowed := true }
def FnExactEngNewUptoSaid : Prop := fnExactEngNewUptoRow.holds Tryd.pinned (OpenSpec.upto fnExactEngNewSpec)

/-- 'laws.FnExactMayWait', WHERE WHAT IT READS IS OF BULK AT MOST 1048576: true; the input reads as it did. -/
def fnExactMayWaitUptoRow : OpenClaim := { program := "ytgfkadhojlddpaadoor", sum := "b4206ec5626c858a9e771bf0735d246a5b2f96cf0ab2b81b4d390b38b5e8cc1c", func := "loop.example/g00679/laws.FnExactMayWait", spec := "fnExactMayWait", unfollowed := true, recurses := true, named := ["loop.example/g00679/impl.opRows", "loop.example/g00679/impl.itemRows"], plainKeys := false, apart := false, laid := [("loop.example/g00679/impl.opRows", laid_loop_example_g00679_impl_opRows), ("loop.example/g00679/impl.itemRows", laid_loop_example_g00679_impl_itemRows)], narrowed := true }
def FnExactMayWaitUptoSaid : Prop := fnExactMayWaitUptoRow.holds Tryd.pinned (OpenSpec.upto fnExactMayWaitSpec)

end Rows
end Go.Proofs.YtgfkadhojlddpaaDoor
