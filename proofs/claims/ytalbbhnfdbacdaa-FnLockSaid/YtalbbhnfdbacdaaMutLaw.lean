
/- The contracts of Lock and Unlock, as a law's walk takes them; how much their answers hold. -/

import Derived.Test.YtalbbhnfdbacdaaMutLockI

import Derived.Test.YtalbbhnfdbacdaaMutLockS

import Derived.Test.YtalbbhnfdbacdaaMMutex

namespace Go.Proofs.Ytalbbhnfdbacdaa
set_option linter.unusedSimpArgs false
set_option linter.unusedVariables false
open Go.RowKit

def LockL (w : World) (r : DMutex × Bool × Bool) (e : Ending) (w' : World) : Prop :=
  ∃ (vs : List Value) (F : Nat → Prop), e = .returned (.tuple #[.agg vs.toArray, .bool r.2.1, .bool r.2.2]) ∧ layMutex.own w' F r.1 vs ∧ (∀ g, F g → w.heap.size ≤ g ∧ g < w'.heap.size) ∧ Below w.heap.size w w'
def UnlockL (w : World) (r : DMutex × Int × Bool) (e : Ending) (w' : World) : Prop :=
  ∃ (vs : List Value) (F : Nat → Prop), e = .returned (.tuple #[.agg vs.toArray, .int .i64 r.2.1, .bool r.2.2]) ∧ layMutex.own w' F r.1 vs ∧ (∀ g, F g → w.heap.size ≤ g ∧ g < w'.heap.size) ∧ Below w.heap.size w w'
theorem specLock_law {w : World} {hi : Nat} {x : DMutex} {vs : List Value} {g : Int} (h : layMutex.see w hi x vs) (hhi : hi ≤ w.heap.size) (hn : szMutex x ≤ 1048576) (hv : (Lit.int .i64 g).wf = true) :
    Calls Try.prog 20 #[.agg vs.toArray, .int .i64 g] w (LockL w (lockR x g)) :=
  (specLock_any h hhi hn hv).mono fun _ _ ⟨u, h1, h2, h3⟩ => ⟨u, _, h1, h2, fun _ h => h, h3⟩
theorem implLock_law {w : World} {hi : Nat} {x : DMutex} {vs : List Value} {g : Int} (h : layMutex.see w hi x vs) (hhi : hi ≤ w.heap.size) (hn : szMutex x ≤ 1048576) (hv : (Lit.int .i64 g).wf = true) :
    Calls Try.prog 10 #[.agg vs.toArray, .int .i64 g] w (LockL w (lockR x g)) :=
  (implLock_any h hhi hn hv).mono fun _ _ ⟨u, h1, h2, h3⟩ => ⟨u, _, h1, h2, fun _ h => h, h3⟩
theorem specUnlock_law {w : World} {hi : Nat} {x : DMutex} {vs : List Value} {g : Int} (h : layMutex.see w hi x vs) (hhi : hi ≤ w.heap.size) (hn : szMutex x ≤ 1048576) (hv : (Lit.int .i64 g).wf = true) :
    Calls Try.prog 21 #[.agg vs.toArray, .int .i64 g] w (UnlockL w (unlockR x g)) :=
  (specUnlock_any h hhi hn hv).mono fun _ _ ⟨u, h1, h2, h3⟩ => ⟨u, _, h1, h2, fun _ h => h, h3⟩
theorem implUnlock_law {w : World} {hi : Nat} {x : DMutex} {vs : List Value} {g : Int} (h : layMutex.see w hi x vs) (hhi : hi ≤ w.heap.size) (hn : szMutex x ≤ 1048576) (hv : (Lit.int .i64 g).wf = true) :
    Calls Try.prog 12 #[.agg vs.toArray, .int .i64 g] w (UnlockL w (unlockR x g)) :=
  (implUnlock_any h hhi hn hv).mono fun _ _ ⟨u, h1, h2, h3⟩ => ⟨u, _, h1, h2, fun _ h => h, h3⟩
theorem vcntMutex_le {x : DMutex} (h : szMutex x ≤ 1048580) : 0 ≤ vcntMutex x ∧ vcntMutex x ≤ 3145728 := by
  unfold szMutex at h
  unfold vcntMutex
  omega
theorem lockR_sz {x : DMutex} {g : Int} (h : szMutex x ≤ 1048576) : szMutex (lockR x g).1 ≤ 1048580 := by
  unfold lockR szMutex at *
  split
  · split
    · simp only; omega
    · split
      · simp only; omega
      · simp; omega
  · simp [zeroM]
theorem unlockR_sz {x : DMutex} {g : Int} (h : szMutex x ≤ 1048576) : szMutex (unlockR x g).1 ≤ 1048580 := by
  unfold unlockR szMutex at *
  split
  · simp; omega
  · simp [zeroM]
end Go.Proofs.Ytalbbhnfdbacdaa
