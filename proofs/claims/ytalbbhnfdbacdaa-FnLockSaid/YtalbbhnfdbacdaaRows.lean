/-
  No cell of these rows narrows 'for every input' (looked for: loops, veiled, ifaces, maps, wideKeys, modest, calm, conditions, laid).
  DERIVED. THE GIVEN ROWS OF THIS SEAT. 5 by the template 'for every input the law returns true; each argument reads behind the call as it read before'; 0 by the template 'total and deterministic' (their statements: YtalbbhnfdbacdaaTotals.lean).
  GIVEN WITH THE SEED: the statements are not yours to turn. If you find one false, say at which input.
  Laid BY PROGRAM, IN A SANDBOX (cutbox-rows.mjs): the forced cells as the released guide's own fill.sh prints them over the translation 9b2007207fc63f27… (all of the seat's roots in one cut). By AI agents, Wed Nov 11 2026. No macro, syntax, notation, axiom, sorry.
-/
import Derived.Test.YtalbbhnfdbacdaaChecked
import GoSem.Claim
import GoSem.ClaimJoined
import GoSem.ClaimMapViews
import Derived.JoinedTies
import Derived.KernelRfl
namespace Go.Proofs.Ytalbbhnfdbacdaa
/- THE CELL 'sum', in the pinned program and in every row, IS THE sha256 OF THE DUMP (.gsa) THAT YtalbbhnfdbacdaaProg.lean LOADS. Nothing in Lean hashes anything: it is a label: what it is worth is what the hold of that sum in a sandbox is worth. -/
noncomputable def Try.pinned : Pinned := { name := "ytalbbhnfdbacdaa", sum := "9b2007207fc63f27538ed6ab820f48be0e37acd5b71a618e6a965c9ce562a282", checked := Try.checked }
namespace Rows
def none {H : Type} : Left H := { results := [], args := [] }

/-- 'laws.FnLock': WHATEVER THE INPUT: true; the input reads as it did. -/
def fnLockSpec : ChangeSpec := { name := "fnLock", fn := fun _ => fun
  | [d] => { results := [.lit (.bool true)], args := [d] }
  | _ => none }
def fnLockRow : OpenClaim := { program := "ytalbbhnfdbacdaa", sum := "9b2007207fc63f27538ed6ab820f48be0e37acd5b71a618e6a965c9ce562a282", func := "loop.example/g00679/laws.FnLock", spec := "fnLock", unfollowed := true, recurses := true, apart := false }
def FnLockSaid : Prop := fnLockRow.holds Try.pinned (OpenSpec.ofChange fnLockSpec)

/-- ITS FALSE NEIGHBOUR: 'it returns false'. Refute it at one input. -/
def fnLockWrong : ChangeSpec := { name := "fnLock", fn := fun _ => fun
  | [d] => { results := [.lit (.bool false)], args := [d] }
  | _ => none }
def FnLockWrongFalsely : Prop := fnLockRow.holds Try.pinned (OpenSpec.ofChange fnLockWrong)

/-- 'laws.FnExactMutexOk': WHATEVER THE INPUT: true; the input reads as it did. -/
def fnExactMutexOkSpec : ChangeSpec := { name := "fnExactMutexOk", fn := fun _ => fun
  | [d] => { results := [.lit (.bool true)], args := [d] }
  | _ => none }
def fnExactMutexOkRow : OpenClaim := { program := "ytalbbhnfdbacdaa", sum := "9b2007207fc63f27538ed6ab820f48be0e37acd5b71a618e6a965c9ce562a282", func := "loop.example/g00679/laws.FnExactMutexOk", spec := "fnExactMutexOk", unfollowed := true, recurses := true, apart := false }
def FnExactMutexOkSaid : Prop := fnExactMutexOkRow.holds Try.pinned (OpenSpec.ofChange fnExactMutexOkSpec)

/-- ITS FALSE NEIGHBOUR: 'it returns false'. Refute it at one input. -/
def fnExactMutexOkWrong : ChangeSpec := { name := "fnExactMutexOk", fn := fun _ => fun
  | [d] => { results := [.lit (.bool false)], args := [d] }
  | _ => none }
def FnExactMutexOkWrongFalsely : Prop := fnExactMutexOkRow.holds Try.pinned (OpenSpec.ofChange fnExactMutexOkWrong)

/-- 'laws.FnExactMutexNew': WHATEVER THE INPUT: true; the input reads as it did. -/
def fnExactMutexNewSpec : ChangeSpec := { name := "fnExactMutexNew", fn := fun _ => fun
  | [] => { results := [.lit (.bool true)], args := [] }
  | _ => none }
def fnExactMutexNewRow : OpenClaim := { program := "ytalbbhnfdbacdaa", sum := "9b2007207fc63f27538ed6ab820f48be0e37acd5b71a618e6a965c9ce562a282", func := "loop.example/g00679/laws.FnExactMutexNew", spec := "fnExactMutexNew", apart := false }
def FnExactMutexNewSaid : Prop := fnExactMutexNewRow.holds Try.pinned (OpenSpec.ofChange fnExactMutexNewSpec)

/-- ITS FALSE NEIGHBOUR: 'it returns false'. Refute it at one input. -/
def fnExactMutexNewWrong : ChangeSpec := { name := "fnExactMutexNew", fn := fun _ => fun
  | [] => { results := [.lit (.bool false)], args := [] }
  | _ => none }
def FnExactMutexNewWrongFalsely : Prop := fnExactMutexNewRow.holds Try.pinned (OpenSpec.ofChange fnExactMutexNewWrong)

/-- 'laws.FnExactLock': WHATEVER THE INPUT: true; the input reads as it did. -/
def fnExactLockSpec : ChangeSpec := { name := "fnExactLock", fn := fun _ => fun
  | [d1, d2] => { results := [.lit (.bool true)], args := [d1, d2] }
  | _ => none }
def fnExactLockRow : OpenClaim := { program := "ytalbbhnfdbacdaa", sum := "9b2007207fc63f27538ed6ab820f48be0e37acd5b71a618e6a965c9ce562a282", func := "loop.example/g00679/laws.FnExactLock", spec := "fnExactLock", unfollowed := true, recurses := true, apart := false }
def FnExactLockSaid : Prop := fnExactLockRow.holds Try.pinned (OpenSpec.ofChange fnExactLockSpec)

/-- ITS FALSE NEIGHBOUR: 'it returns false'. Refute it at one input. -/
def fnExactLockWrong : ChangeSpec := { name := "fnExactLock", fn := fun _ => fun
  | [d1, d2] => { results := [.lit (.bool false)], args := [d1, d2] }
  | _ => none }
def FnExactLockWrongFalsely : Prop := fnExactLockRow.holds Try.pinned (OpenSpec.ofChange fnExactLockWrong)

/-- 'laws.FnExactUnlock': WHATEVER THE INPUT: true; the input reads as it did. -/
def fnExactUnlockSpec : ChangeSpec := { name := "fnExactUnlock", fn := fun _ => fun
  | [d1, d2] => { results := [.lit (.bool true)], args := [d1, d2] }
  | _ => none }
def fnExactUnlockRow : OpenClaim := { program := "ytalbbhnfdbacdaa", sum := "9b2007207fc63f27538ed6ab820f48be0e37acd5b71a618e6a965c9ce562a282", func := "loop.example/g00679/laws.FnExactUnlock", spec := "fnExactUnlock", unfollowed := true, recurses := true, apart := false }
def FnExactUnlockSaid : Prop := fnExactUnlockRow.holds Try.pinned (OpenSpec.ofChange fnExactUnlockSpec)

/-- ITS FALSE NEIGHBOUR: 'it returns false'. Refute it at one input. -/
def fnExactUnlockWrong : ChangeSpec := { name := "fnExactUnlock", fn := fun _ => fun
  | [d1, d2] => { results := [.lit (.bool false)], args := [d1, d2] }
  | _ => none }
def FnExactUnlockWrongFalsely : Prop := fnExactUnlockRow.holds Try.pinned (OpenSpec.ofChange fnExactUnlockWrong)

/- THE SECOND FORM. 'bulk': how many values and letters a reading holds, each counted each time it is reached (what is shared counts as often as it is met; a slice's spare places count too). A statement '..UptoSaid' is the law's where the arguments, and the package variables that the reading takes, are together of bulk at most 1048576: NARROWER than '..Said'. Prove '..Said' where nothing that the law and all that it calls make is longer than what came in: it says more and counts as full. Else prove '..UptoSaid'. A law counts once. -/
mutual
def uptoBulk {H : Type} : DataW H → Nat
  | .lit (.string bytes) => bytes.length + 1
  | .lit _ => 1
  | .nil => 1
  | .ptr d => uptoBulk d + 1
  | .slice elems spare => uptoBulkAll elems + uptoBulkAll spare + 1
  | .agg parts => uptoBulkAll parts + 1
  | .iface _ d => uptoBulk d + 1
  | .map entries => uptoBulkEntries entries + 1
  | .held _ => 1
def uptoBulkAll {H : Type} : List (DataW H) → Nat
  | [] => 0
  | d :: r => uptoBulk d + uptoBulkAll r
def uptoBulkEntries {H : Type} : List (Lit × DataW H) → Nat
  | [] => 0
  | x :: r => uptoBulkEntry x + uptoBulkEntries r
def uptoBulkEntry {H : Type} : Lit × DataW H → Nat
  | (.string bytes, d) => bytes.length + uptoBulk d + 1
  | (_, d) => uptoBulk d + 1
 end
def uptoSmall : (H : Type) → List (DataW H) → Bool := fun _ ds => decide (uptoBulkAll ds ≤ 1048576)
def OpenSpec.upto (s : _root_.Go.ChangeSpec) : _root_.Go.OpenSpec := { _root_.Go.OpenSpec.ofChange s with cond := some uptoSmall }

/-- 'laws.FnLock', WHERE WHAT IT READS IS OF BULK AT MOST 1048576: true; the input reads as it did. -/
def fnLockUptoRow : OpenClaim := { program := "ytalbbhnfdbacdaa", sum := "9b2007207fc63f27538ed6ab820f48be0e37acd5b71a618e6a965c9ce562a282", func := "loop.example/g00679/laws.FnLock", spec := "fnLock", unfollowed := true, recurses := true, apart := false, narrowed := true }
def FnLockUptoSaid : Prop := fnLockUptoRow.holds Try.pinned (OpenSpec.upto fnLockSpec)

/-- 'laws.FnExactMutexOk', WHERE WHAT IT READS IS OF BULK AT MOST 1048576: true; the input reads as it did. -/
def fnExactMutexOkUptoRow : OpenClaim := { program := "ytalbbhnfdbacdaa", sum := "9b2007207fc63f27538ed6ab820f48be0e37acd5b71a618e6a965c9ce562a282", func := "loop.example/g00679/laws.FnExactMutexOk", spec := "fnExactMutexOk", unfollowed := true, recurses := true, apart := false, narrowed := true }
def FnExactMutexOkUptoSaid : Prop := fnExactMutexOkUptoRow.holds Try.pinned (OpenSpec.upto fnExactMutexOkSpec)

/-- 'laws.FnExactMutexNew', WHERE WHAT IT READS IS OF BULK AT MOST 1048576: true; the input reads as it did. -/
def fnExactMutexNewUptoRow : OpenClaim := { program := "ytalbbhnfdbacdaa", sum := "9b2007207fc63f27538ed6ab820f48be0e37acd5b71a618e6a965c9ce562a282", func := "loop.example/g00679/laws.FnExactMutexNew", spec := "fnExactMutexNew", apart := false, narrowed := true }
def FnExactMutexNewUptoSaid : Prop := fnExactMutexNewUptoRow.holds Try.pinned (OpenSpec.upto fnExactMutexNewSpec)

/-- 'laws.FnExactLock', WHERE WHAT IT READS IS OF BULK AT MOST 1048576: true; the input reads as it did. -/
def fnExactLockUptoRow : OpenClaim := { program := "ytalbbhnfdbacdaa", sum := "9b2007207fc63f27538ed6ab820f48be0e37acd5b71a618e6a965c9ce562a282", func := "loop.example/g00679/laws.FnExactLock", spec := "fnExactLock", unfollowed := true, recurses := true, apart := false, narrowed := true }
def FnExactLockUptoSaid : Prop := fnExactLockUptoRow.holds Try.pinned (OpenSpec.upto fnExactLockSpec)

/-- 'laws.FnExactUnlock', WHERE WHAT IT READS IS OF BULK AT MOST 1048576: true; the input reads as it did. -/
def fnExactUnlockUptoRow : OpenClaim := { program := "ytalbbhnfdbacdaa", sum := "9b2007207fc63f27538ed6ab820f48be0e37acd5b71a618e6a965c9ce562a282", func := "loop.example/g00679/laws.FnExactUnlock", spec := "fnExactUnlock", unfollowed := true, recurses := true, apart := false, narrowed := true }
def FnExactUnlockUptoSaid : Prop := fnExactUnlockUptoRow.holds Try.pinned (OpenSpec.upto fnExactUnlockSpec)

end Rows
end Go.Proofs.Ytalbbhnfdbacdaa
