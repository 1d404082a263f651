
/- RecvFrom's contracts, as a law's walk takes them; how much the answer holds. -/

import Derived.Test.YtgdmcdblhpdlmaaChanRecvI

import Derived.Test.YtgdmcdblhpdlmaaChanRecvS

import Derived.Test.YtgdmcdblhpdlmaaChanLawX

namespace Go.Proofs.Ytgdmcdblhpdlmaa
set_option linter.unusedSimpArgs false
set_option linter.unusedVariables false
open Go.RowKit

def RecvL (w : World) (r : DChan × Int × Bool × DWaiter × Int) (e : Ending) (w' : World) : Prop :=
  ∃ (vs : List Value) (F : Nat → Prop), e = .returned (.tuple #[.agg vs.toArray, .int .i64 r.2.1, .bool r.2.2.1, .agg #[.int .i64 r.2.2.2.1.fG, .int .i64 r.2.2.2.1.fCase, .int .i64 r.2.2.2.1.fVal], .int .i64 r.2.2.2.2]) ∧ layChan.own w' F r.1 vs ∧ (∀ g, F g → w.heap.size ≤ g ∧ g < w'.heap.size) ∧ Below w.heap.size w w'
theorem specRecvFrom_law {w : World} {hi : Nat} {x : DChan} {vs : List Value} (h : layChan.see w hi x vs) (hhi : hi ≤ w.heap.size) (hn : szChan x ≤ 1048576) :
    Calls Try.prog 30 #[.agg vs.toArray] w (RecvL w (recvR x)) :=
  (specRecvFrom_any h hhi hn).mono fun _ _ ⟨u, h1, h2, h3⟩ => ⟨u, _, h1, h2, fun _ h => h, h3⟩
theorem implRecvFrom_law {w : World} {hi : Nat} {x : DChan} {vs : List Value} (h : layChan.see w hi x vs) (hhi : hi ≤ w.heap.size) (hn : szChan x ≤ 1048576) :
    Calls Try.prog 17 #[.agg vs.toArray] w (RecvL w (recvR x)) :=
  (implRecvFrom_any h hhi hn).mono fun _ _ ⟨u, h1, h2, h3⟩ => ⟨u, _, h1, h2, fun _ h => h, h3⟩
theorem recvR_sz {x : DChan} (h : szChan x ≤ 1048576) : szChan (recvR x).1 ≤ 1048576 := by
  unfold recvR
  split
  · obtain ⟨cap, buf, sends, recvs, cl⟩ := x
    unfold szChan at h
    simp only at h
    cases sends with
    | nil =>
      cases buf with
      | nil => simp [szChan, recvX] at h ⊢; omega
      | cons b bs => simp [szChan, recvX] at h ⊢; omega
    | cons s ss =>
      obtain ⟨d, ds, hdd⟩ : ∃ d ds, buf ++ [s.fVal] = d :: ds := by cases buf <;> simp
      have hlen : buf.length = ds.length := by have := congrArg List.length hdd; simpa using this
      simp only [szChan, recvX, hdd]
      simp at h
      omega
  · simp [szChan, zeroC]
end Go.Proofs.Ytgdmcdblhpdlmaa
