
/- CloseIt's contracts, as a law's walk takes them; how much the answer holds. -/

import Derived.Test.YtgdmcdblhpdlmaaChanClose

import Derived.Test.YtgdmcdblhpdlmaaMChan

namespace Go.Proofs.Ytgdmcdblhpdlmaa
set_option linter.unusedSimpArgs false
set_option linter.unusedVariables false
open Go.RowKit

def ClosedL (w : World) (r : DChan × List DWaiter × List DWaiter × Int) (e : Ending) (w' : World) : Prop :=
  ∃ (vs : List Value) (A1 : Option Addr) (n1 c1 : Nat) (A2 : Option Addr) (n2 c2 : Nat) (F0 F1 F2 : Nat → Prop), e = .returned (.tuple #[.agg vs.toArray, .slice A1 n1 c1, .slice A2 n2 c2, .int .i64 r.2.2.2]) ∧ layChan.own w' F0 r.1 vs ∧ OwnR layWaiter 29 w' F1 A1 n1 c1 r.2.1 ∧ OwnR layWaiter 29 w' F2 A2 n2 c2 r.2.2.1 ∧
    (∀ g, F0 g → w.heap.size ≤ g ∧ g < w'.heap.size) ∧ (∀ g, F1 g → w.heap.size ≤ g ∧ g < w'.heap.size) ∧ (∀ g, F2 g → w.heap.size ≤ g ∧ g < w'.heap.size) ∧ (∀ g, F0 g → ¬ F1 g) ∧ (∀ g, F0 g → ¬ F2 g) ∧ (∀ g, F1 g → ¬ F2 g) ∧ Below w.heap.size w w'
theorem madeE_law {w w' : World} {r : DChan × List DWaiter × List DWaiter × Int} {e : Ending} (h : MadeE w r e w') : ClosedL w r e w' := by
  obtain ⟨vs, A1, n1, c1, A2, n2, c2, F0, F1, F2, h1, h2, h3, h4, hb, d1, d2, d3, hbl⟩ := h
  exact ⟨vs, A1, n1, c1, A2, n2, c2, F0, F1, F2, h1, h2, h3, h4, fun g h => hb g (.inl h), fun g h => hb g (.inr (.inl h)), fun g h => hb g (.inr (.inr h)), d1, d2, d3, hbl⟩
theorem specCloseIt_law {w : World} {hi : Nat} {x : DChan} {vs : List Value} (h : layChan.see w hi x vs) (hhi : hi ≤ w.heap.size) (hn : szChan x ≤ 1048576) :
    Calls Try.prog 31 #[.agg vs.toArray] w (ClosedL w (closeR x)) := (specCloseIt_any h hhi hn).mono fun _ _ => madeE_law
theorem implCloseIt_law {w : World} {hi : Nat} {x : DChan} {vs : List Value} (h : layChan.see w hi x vs) (hhi : hi ≤ w.heap.size) (hn : szChan x ≤ 1048576) :
    Calls Try.prog 19 #[.agg vs.toArray] w (ClosedL w (closeR x)) := (implCloseIt_any h hhi hn).mono fun _ _ => madeE_law
theorem vcntChan_leZ {x : DChan} (h : szChan x ≤ 1048576) : 0 ≤ vcntChan x ∧ vcntChan x ≤ 3145728 := by
  unfold szChan at h
  unfold vcntChan
  omega
theorem closeR_sz {x : DChan} (h : szChan x ≤ 1048576) : szChan (closeR x).1 ≤ 1048576 ∧ (closeR x).2.1.length ≤ 1048576 ∧ (closeR x).2.2.1.length ≤ 1048576 := by
  unfold szChan at h
  unfold closeR
  split
  · simp [szChan, zeroC]
  · split
    · simp [szChan, zeroC]
    · simp only [szChan, List.length_nil]
      omega
end Go.Proofs.Ytgdmcdblhpdlmaa
