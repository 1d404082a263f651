/-
  No cell of these rows narrows 'for every input' (looked for: loops, veiled, ifaces, maps, wideKeys, modest, calm, conditions, laid).
  DERIVED. THE GIVEN ROWS OF THIS SEAT. 9 by the template 'for every input the law returns true; each argument reads behind the call as it read before'; 0 by the template 'total and deterministic' (their statements: YtgdmcdblhpdlmaaTotals.lean).
  GIVEN WITH THE SEED: the statements are not yours to turn. If you find one false, say at which input.
  Laid BY PROGRAM, IN A SANDBOX (cutbox-rows.mjs): the forced cells as the released guide's own fill.sh prints them over the translation 61749e753889bc8e… (all of the seat's roots in one cut). By AI agents, Wed Nov 11 2026. No macro, syntax, notation, axiom, sorry.
-/
import Derived.Test.YtgdmcdblhpdlmaaChecked
import GoSem.Claim
import GoSem.ClaimJoined
import GoSem.ClaimMapViews
import Derived.JoinedTies
import Derived.KernelRfl
namespace Go.Proofs.Ytgdmcdblhpdlmaa
/- THE CELL 'sum', in the pinned program and in every row, IS THE sha256 OF THE DUMP (.gsa) THAT YtgdmcdblhpdlmaaProg.lean LOADS. Nothing in Lean hashes anything: it is a label: what it is worth is what the hold of that sum in a sandbox is worth. -/
noncomputable def Try.pinned : Pinned := { name := "ytgdmcdblhpdlmaa", sum := "61749e753889bc8e58964604f406e914b0961a2b4a277fe463107754e8b0e3f3", checked := Try.checked }
namespace Rows
def none {H : Type} : Left H := { results := [], args := [] }

/-- 'laws.FnChan': WHATEVER THE INPUT: true; the input reads as it did. -/
def fnChanSpec : ChangeSpec := { name := "fnChan", fn := fun _ => fun
  | [d] => { results := [.lit (.bool true)], args := [d] }
  | _ => none }
def fnChanRow : OpenClaim := { program := "ytgdmcdblhpdlmaa", sum := "61749e753889bc8e58964604f406e914b0961a2b4a277fe463107754e8b0e3f3", func := "loop.example/g00679/laws.FnChan", spec := "fnChan", unfollowed := true, recurses := true, apart := false }
def FnChanSaid : Prop := fnChanRow.holds Try.pinned (OpenSpec.ofChange fnChanSpec)

/-- ITS FALSE NEIGHBOUR: 'it returns false'. Refute it at one input. -/
def fnChanWrong : ChangeSpec := { name := "fnChan", fn := fun _ => fun
  | [d] => { results := [.lit (.bool false)], args := [d] }
  | _ => none }
def FnChanWrongFalsely : Prop := fnChanRow.holds Try.pinned (OpenSpec.ofChange fnChanWrong)

/-- 'laws.FnExactChanOk': WHATEVER THE INPUT: true; the input reads as it did. -/
def fnExactChanOkSpec : ChangeSpec := { name := "fnExactChanOk", fn := fun _ => fun
  | [d] => { results := [.lit (.bool true)], args := [d] }
  | _ => none }
def fnExactChanOkRow : OpenClaim := { program := "ytgdmcdblhpdlmaa", sum := "61749e753889bc8e58964604f406e914b0961a2b4a277fe463107754e8b0e3f3", func := "loop.example/g00679/laws.FnExactChanOk", spec := "fnExactChanOk", unfollowed := true, recurses := true, apart := false }
def FnExactChanOkSaid : Prop := fnExactChanOkRow.holds Try.pinned (OpenSpec.ofChange fnExactChanOkSpec)

/-- ITS FALSE NEIGHBOUR: 'it returns false'. Refute it at one input. -/
def fnExactChanOkWrong : ChangeSpec := { name := "fnExactChanOk", fn := fun _ => fun
  | [d] => { results := [.lit (.bool false)], args := [d] }
  | _ => none }
def FnExactChanOkWrongFalsely : Prop := fnExactChanOkRow.holds Try.pinned (OpenSpec.ofChange fnExactChanOkWrong)

/-- 'laws.FnExactCanSend': WHATEVER THE INPUT: true; the input reads as it did. -/
def fnExactCanSendSpec : ChangeSpec := { name := "fnExactCanSend", fn := fun _ => fun
  | [d] => { results := [.lit (.bool true)], args := [d] }
  | _ => none }
def fnExactCanSendRow : OpenClaim := { program := "ytgdmcdblhpdlmaa", sum := "61749e753889bc8e58964604f406e914b0961a2b4a277fe463107754e8b0e3f3", func := "loop.example/g00679/laws.FnExactCanSend", spec := "fnExactCanSend", unfollowed := true, recurses := true, apart := false }
def FnExactCanSendSaid : Prop := fnExactCanSendRow.holds Try.pinned (OpenSpec.ofChange fnExactCanSendSpec)

/-- ITS FALSE NEIGHBOUR: 'it returns false'. Refute it at one input. -/
def fnExactCanSendWrong : ChangeSpec := { name := "fnExactCanSend", fn := fun _ => fun
  | [d] => { results := [.lit (.bool false)], args := [d] }
  | _ => none }
def FnExactCanSendWrongFalsely : Prop := fnExactCanSendRow.holds Try.pinned (OpenSpec.ofChange fnExactCanSendWrong)

/-- 'laws.FnExactCanRecv': WHATEVER THE INPUT: true; the input reads as it did. -/
def fnExactCanRecvSpec : ChangeSpec := { name := "fnExactCanRecv", fn := fun _ => fun
  | [d] => { results := [.lit (.bool true)], args := [d] }
  | _ => none }
def fnExactCanRecvRow : OpenClaim := { program := "ytgdmcdblhpdlmaa", sum := "61749e753889bc8e58964604f406e914b0961a2b4a277fe463107754e8b0e3f3", func := "loop.example/g00679/laws.FnExactCanRecv", spec := "fnExactCanRecv", unfollowed := true, recurses := true, apart := false }
def FnExactCanRecvSaid : Prop := fnExactCanRecvRow.holds Try.pinned (OpenSpec.ofChange fnExactCanRecvSpec)

/-- ITS FALSE NEIGHBOUR: 'it returns false'. Refute it at one input. -/
def fnExactCanRecvWrong : ChangeSpec := { name := "fnExactCanRecv", fn := fun _ => fun
  | [d] => { results := [.lit (.bool false)], args := [d] }
  | _ => none }
def FnExactCanRecvWrongFalsely : Prop := fnExactCanRecvRow.holds Try.pinned (OpenSpec.ofChange fnExactCanRecvWrong)

/-- 'laws.FnExactSendTo': WHATEVER THE INPUT: true; the input reads as it did. -/
def fnExactSendToSpec : ChangeSpec := { name := "fnExactSendTo", fn := fun _ => fun
  | [d1, d2] => { results := [.lit (.bool true)], args := [d1, d2] }
  | _ => none }
def fnExactSendToRow : OpenClaim := { program := "ytgdmcdblhpdlmaa", sum := "61749e753889bc8e58964604f406e914b0961a2b4a277fe463107754e8b0e3f3", func := "loop.example/g00679/laws.FnExactSendTo", spec := "fnExactSendTo", unfollowed := true, recurses := true, apart := false }
def FnExactSendToSaid : Prop := fnExactSendToRow.holds Try.pinned (OpenSpec.ofChange fnExactSendToSpec)

/-- ITS FALSE NEIGHBOUR: 'it returns false'. Refute it at one input. -/
def fnExactSendToWrong : ChangeSpec := { name := "fnExactSendTo", fn := fun _ => fun
  | [d1, d2] => { results := [.lit (.bool false)], args := [d1, d2] }
  | _ => none }
def FnExactSendToWrongFalsely : Prop := fnExactSendToRow.holds Try.pinned (OpenSpec.ofChange fnExactSendToWrong)

/-- 'laws.FnExactRecvFrom': WHATEVER THE INPUT: true; the input reads as it did. -/
def fnExactRecvFromSpec : ChangeSpec := { name := "fnExactRecvFrom", fn := fun _ => fun
  | [d] => { results := [.lit (.bool true)], args := [d] }
  | _ => none }
def fnExactRecvFromRow : OpenClaim := { program := "ytgdmcdblhpdlmaa", sum := "61749e753889bc8e58964604f406e914b0961a2b4a277fe463107754e8b0e3f3", func := "loop.example/g00679/laws.FnExactRecvFrom", spec := "fnExactRecvFrom", unfollowed := true, recurses := true, apart := false }
def FnExactRecvFromSaid : Prop := fnExactRecvFromRow.holds Try.pinned (OpenSpec.ofChange fnExactRecvFromSpec)

/-- ITS FALSE NEIGHBOUR: 'it returns false'. Refute it at one input. -/
def fnExactRecvFromWrong : ChangeSpec := { name := "fnExactRecvFrom", fn := fun _ => fun
  | [d] => { results := [.lit (.bool false)], args := [d] }
  | _ => none }
def FnExactRecvFromWrongFalsely : Prop := fnExactRecvFromRow.holds Try.pinned (OpenSpec.ofChange fnExactRecvFromWrong)

/-- 'laws.FnExactCloseIt': WHATEVER THE INPUT: true; the input reads as it did. -/
def fnExactCloseItSpec : ChangeSpec := { name := "fnExactCloseIt", fn := fun _ => fun
  | [d] => { results := [.lit (.bool true)], args := [d] }
  | _ => none }
def fnExactCloseItRow : OpenClaim := { program := "ytgdmcdblhpdlmaa", sum := "61749e753889bc8e58964604f406e914b0961a2b4a277fe463107754e8b0e3f3", func := "loop.example/g00679/laws.FnExactCloseIt", spec := "fnExactCloseIt", unfollowed := true, recurses := true, apart := false }
def FnExactCloseItSaid : Prop := fnExactCloseItRow.holds Try.pinned (OpenSpec.ofChange fnExactCloseItSpec)

/-- ITS FALSE NEIGHBOUR: 'it returns false'. Refute it at one input. -/
def fnExactCloseItWrong : ChangeSpec := { name := "fnExactCloseIt", fn := fun _ => fun
  | [d] => { results := [.lit (.bool false)], args := [d] }
  | _ => none }
def FnExactCloseItWrongFalsely : Prop := fnExactCloseItRow.holds Try.pinned (OpenSpec.ofChange fnExactCloseItWrong)

/-- 'laws.FnExactDrop': WHATEVER THE INPUT: true; the input reads as it did. -/
def fnExactDropSpec : ChangeSpec := { name := "fnExactDrop", fn := fun _ => fun
  | [d1, d2] => { results := [.lit (.bool true)], args := [d1, d2] }
  | _ => none }
def fnExactDropRow : OpenClaim := { program := "ytgdmcdblhpdlmaa", sum := "61749e753889bc8e58964604f406e914b0961a2b4a277fe463107754e8b0e3f3", func := "loop.example/g00679/laws.FnExactDrop", spec := "fnExactDrop", unfollowed := true, recurses := true, apart := false }
def FnExactDropSaid : Prop := fnExactDropRow.holds Try.pinned (OpenSpec.ofChange fnExactDropSpec)

/-- ITS FALSE NEIGHBOUR: 'it returns false'. Refute it at one input. -/
def fnExactDropWrong : ChangeSpec := { name := "fnExactDrop", fn := fun _ => fun
  | [d1, d2] => { results := [.lit (.bool false)], args := [d1, d2] }
  | _ => none }
def FnExactDropWrongFalsely : Prop := fnExactDropRow.holds Try.pinned (OpenSpec.ofChange fnExactDropWrong)

/-- 'laws.FnExactWaits': WHATEVER THE INPUT: true; the input reads as it did. -/
def fnExactWaitsSpec : ChangeSpec := { name := "fnExactWaits", fn := fun _ => fun
  | [d1, d2] => { results := [.lit (.bool true)], args := [d1, d2] }
  | _ => none }
def fnExactWaitsRow : OpenClaim := { program := "ytgdmcdblhpdlmaa", sum := "61749e753889bc8e58964604f406e914b0961a2b4a277fe463107754e8b0e3f3", func := "loop.example/g00679/laws.FnExactWaits", spec := "fnExactWaits", unfollowed := true, recurses := true, apart := false }
def FnExactWaitsSaid : Prop := fnExactWaitsRow.holds Try.pinned (OpenSpec.ofChange fnExactWaitsSpec)

/-- ITS FALSE NEIGHBOUR: 'it returns false'. Refute it at one input. -/
def fnExactWaitsWrong : ChangeSpec := { name := "fnExactWaits", fn := fun _ => fun
  | [d1, d2] => { results := [.lit (.bool false)], args := [d1, d2] }
  | _ => none }
def FnExactWaitsWrongFalsely : Prop := fnExactWaitsRow.holds Try.pinned (OpenSpec.ofChange fnExactWaitsWrong)

/- THE SECOND FORM. 'bulk': how many values and letters a reading holds, each counted each time it is reached (what is shared counts as often as it is met; a slice's spare places count too). A statement '..UptoSaid' is the law's where the arguments, and the package variables that the reading takes, are together of bulk at most 1048576: NARROWER than '..Said'. Prove '..Said' where nothing that the law and all that it calls make is longer than what came in: it says more and counts as full. Else prove '..UptoSaid'. A law counts once. -/
mutual
def uptoBulk {H : Type} : DataW H → Nat
  | .lit (.string bytes) => bytes.length + 1
  | .lit _ => 1
  | .nil => 1
  | .ptr d => uptoBulk d + 1
  | .slice elems spare => uptoBulkAll elems + uptoBulkAll spare + 1
  | .agg parts => uptoBulkAll parts + 1
  | .iface _ d => uptoBulk d + 1
  | .map entries => uptoBulkEntries entries + 1
  | .held _ => 1
def uptoBulkAll {H : Type} : List (DataW H) → Nat
  | [] => 0
  | d :: r => uptoBulk d + uptoBulkAll r
def uptoBulkEntries {H : Type} : List (Lit × DataW H) → Nat
  | [] => 0
  | x :: r => uptoBulkEntry x + uptoBulkEntries r
def uptoBulkEntry {H : Type} : Lit × DataW H → Nat
  | (.string bytes, d) => bytes.length + uptoBulk d + 1
  | (_, d) => uptoBulk d + 1
 end
def uptoSmall : (H : Type) → List (DataW H) → Bool := fun _ ds => decide (uptoBulkAll ds ≤ 1048576)
def OpenSpec.upto (s : _root_.Go.ChangeSpec) : _root_.Go.OpenSpec := { _root_.Go.OpenSpec.ofChange s with cond := some uptoSmall }

/-- 'laws.FnChan', WHERE WHAT IT READS IS OF BULK AT MOST 1048576: true; the input reads as it did. -/
def fnChanUptoRow : OpenClaim := { program := "ytgdmcdblhpdlmaa", sum := "61749e753889bc8e58964604f406e914b0961a2b4a277fe463107754e8b0e3f3", func := "loop.example/g00679/laws.FnChan", spec := "fnChan", unfollowed := true, recurses := true, apart := false, narrowed := true }
def FnChanUptoSaid : Prop := fnChanUptoRow.holds Try.pinned (OpenSpec.upto fnChanSpec)

/-- 'laws.FnExactChanOk', WHERE WHAT IT READS IS OF BULK AT MOST 1048576: true; the input reads as it did. -/
def fnExactChanOkUptoRow : OpenClaim := { program := "ytgdmcdblhpdlmaa", sum := "61749e753889bc8e58964604f406e914b0961a2b4a277fe463107754e8b0e3f3", func := "loop.example/g00679/laws.FnExactChanOk", spec := "fnExactChanOk", unfollowed := true, recurses := true, apart := false, narrowed := true }
def FnExactChanOkUptoSaid : Prop := fnExactChanOkUptoRow.holds Try.pinned (OpenSpec.upto fnExactChanOkSpec)

/-- 'laws.FnExactCanSend', WHERE WHAT IT READS IS OF BULK AT MOST 1048576: true; the input reads as it did. -/
def fnExactCanSendUptoRow : OpenClaim := { program := "ytgdmcdblhpdlmaa", sum := "61749e753889bc8e58964604f406e914b0961a2b4a277fe463107754e8b0e3f3", func := "loop.example/g00679/laws.FnExactCanSend", spec := "fnExactCanSend", unfollowed := true, recurses := true, apart := false, narrowed := true }
def FnExactCanSendUptoSaid : Prop := fnExactCanSendUptoRow.holds Try.pinned (OpenSpec.upto fnExactCanSendSpec)

/-- 'laws.FnExactCanRecv', WHERE WHAT IT READS IS OF BULK AT MOST 1048576: true; the input reads as it did. -/
def fnExactCanRecvUptoRow : OpenClaim := { program := "ytgdmcdblhpdlmaa", sum := "61749e753889bc8e58964604f406e914b0961a2b4a277fe463107754e8b0e3f3", func := "loop.example/g00679/laws.FnExactCanRecv", spec := "fnExactCanRecv", unfollowed := true, recurses := true, apart := false, narrowed := true }
def FnExactCanRecvUptoSaid : Prop := fnExactCanRecvUptoRow.holds Try.pinned (OpenSpec.upto fnExactCanRecvSpec)

/-- 'laws.FnExactSendTo', WHERE WHAT IT READS IS OF BULK AT MOST 1048576: true; the input reads as it did. -/
def fnExactSendToUptoRow : OpenClaim := { program := "ytgdmcdblhpdlmaa", sum := "61749e753889bc8e58964604f406e914b0961a2b4a277fe463107754e8b0e3f3", func := "loop.example/g00679/laws.FnExactSendTo", spec := "fnExactSendTo", unfollowed := true, recurses := true, apart := false, narrowed := true }
def FnExactSendToUptoSaid : Prop := fnExactSendToUptoRow.holds Try.pinned (OpenSpec.upto fnExactSendToSpec)

/-- 'laws.FnExactRecvFrom', WHERE WHAT IT READS IS OF BULK AT MOST 1048576: true; the input reads as it did. -/
def fnExactRecvFromUptoRow : OpenClaim := { program := "ytgdmcdblhpdlmaa", sum := "61749e753889bc8e58964604f406e914b0961a2b4a277fe463107754e8b0e3f3", func := "loop.example/g00679/laws.FnExactRecvFrom", spec := "fnExactRecvFrom", unfollowed := true, recurses := true, apart := false, narrowed := true }
def FnExactRecvFromUptoSaid : Prop := fnExactRecvFromUptoRow.holds Try.pinned (OpenSpec.upto fnExactRecvFromSpec)

/-- 'laws.FnExactCloseIt', WHERE WHAT IT READS IS OF BULK AT MOST 1048576: true; the input reads as it did. -/
def fnExactCloseItUptoRow : OpenClaim := { program := "ytgdmcdblhpdlmaa", sum := "61749e753889bc8e58964604f406e914b0961a2b4a277fe463107754e8b0e3f3", func := "loop.example/g00679/laws.FnExactCloseIt", spec := "fnExactCloseIt", unfollowed := true, recurses := true, apart := false, narrowed := true }
def FnExactCloseItUptoSaid : Prop := fnExactCloseItUptoRow.holds Try.pinned (OpenSpec.upto fnExactCloseItSpec)

/-- 'laws.FnExactDrop', WHERE WHAT IT READS IS OF BULK AT MOST 1048576: true; the input reads as it did. -/
def fnExactDropUptoRow : OpenClaim := { program := "ytgdmcdblhpdlmaa", sum := "61749e753889bc8e58964604f406e914b0961a2b4a277fe463107754e8b0e3f3", func := "loop.example/g00679/laws.FnExactDrop", spec := "fnExactDrop", unfollowed := true, recurses := true, apart := false, narrowed := true }
def FnExactDropUptoSaid : Prop := fnExactDropUptoRow.holds Try.pinned (OpenSpec.upto fnExactDropSpec)

/-- 'laws.FnExactWaits', WHERE WHAT IT READS IS OF BULK AT MOST 1048576: true; the input reads as it did. -/
def fnExactWaitsUptoRow : OpenClaim := { program := "ytgdmcdblhpdlmaa", sum := "61749e753889bc8e58964604f406e914b0961a2b4a277fe463107754e8b0e3f3", func := "loop.example/g00679/laws.FnExactWaits", spec := "fnExactWaits", unfollowed := true, recurses := true, apart := false, narrowed := true }
def FnExactWaitsUptoSaid : Prop := fnExactWaitsUptoRow.holds Try.pinned (OpenSpec.upto fnExactWaitsSpec)

end Rows
end Go.Proofs.Ytgdmcdblhpdlmaa
