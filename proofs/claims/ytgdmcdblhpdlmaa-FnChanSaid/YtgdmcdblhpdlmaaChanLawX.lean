
/- The contracts of SendTo and RecvFrom, as a law's walk takes them; how much their answers hold. -/

import Derived.Test.YtgdmcdblhpdlmaaChanSendI

import Derived.Test.YtgdmcdblhpdlmaaChanSendS

import Derived.Test.YtgdmcdblhpdlmaaMChan

namespace Go.Proofs.Ytgdmcdblhpdlmaa
set_option linter.unusedSimpArgs false
set_option linter.unusedVariables false
open Go.RowKit

def SentL (w : World) (r : DChan × DWaiter × Int) (e : Ending) (w' : World) : Prop :=
  ∃ (vs : List Value) (F : Nat → Prop), e = .returned (.tuple #[.agg vs.toArray, .agg #[.int .i64 r.2.1.fG, .int .i64 r.2.1.fCase, .int .i64 r.2.1.fVal], .int .i64 r.2.2]) ∧ layChan.own w' F r.1 vs ∧ (∀ g, F g → w.heap.size ≤ g ∧ g < w'.heap.size) ∧ Below w.heap.size w w'
theorem specSendTo_law {w : World} {hi : Nat} {x : DChan} {vs : List Value} {v : Int} (h : layChan.see w hi x vs) (hhi : hi ≤ w.heap.size) (hn : szChan x ≤ 1048576) (hv : (Lit.int .i64 v).wf = true) :
    Calls Try.prog 14 #[.agg vs.toArray, .int .i64 v] w (SentL w (sendR x v)) :=
  (specSendTo_any h hhi hn hv).mono fun _ _ ⟨u, h1, h2, h3⟩ => ⟨u, _, h1, h2, fun _ h => h, h3⟩
theorem implSendTo_law {w : World} {hi : Nat} {x : DChan} {vs : List Value} {v : Int} (h : layChan.see w hi x vs) (hhi : hi ≤ w.heap.size) (hn : szChan x ≤ 1048576) (hv : (Lit.int .i64 v).wf = true) :
    Calls Try.prog 13 #[.agg vs.toArray, .int .i64 v] w (SentL w (sendR x v)) :=
  (implSendTo_any h hhi hn hv).mono fun _ _ ⟨u, h1, h2, h3⟩ => ⟨u, _, h1, h2, fun _ h => h, h3⟩
theorem vcntChan_le {x : DChan} (h : szChan x ≤ 1048576) : 0 ≤ vcntChan x ∧ vcntChan x ≤ 3145728 := by
  unfold szChan at h
  unfold vcntChan
  omega
theorem sendR_sz {x : DChan} {v : Int} (h : szChan x ≤ 1048576) : szChan (sendR x v).1 ≤ 1048576 := by
  unfold sendR
  split
  · rename_i h0
    obtain ⟨cap, buf, sends, recvs, cl⟩ := x
    unfold szChan at h
    simp only at h
    have hok : rangeB buf.length cap = true := by
      unfold sendC at h0
      by_cases hb : chanOkB ⟨cap, buf, sends, recvs, cl⟩ = true
      · unfold chanOkB at hb
        simp only [Bool.and_eq_true] at hb
        exact hb.1
      · simp [hb] at h0
    unfold rangeB at hok
    have hr := of_decide_eq_true hok
    have hvn : sends.length + recvs.length ≤ 1048576 := by omega
    cases recvs with
    | nil =>
      have hsd : sends.length = 0 ∨ 0 < sends.length := by omega
      have h9 : sends.length ≤ 1048570 := by
        rcases hsd with h1 | h1
        · omega
        · exfalso
          unfold sendC at h0
          by_cases hb : chanOkB ⟨cap, buf, sends, [], cl⟩ = true
          · unfold chanOkB vainB at hb
            simp only [Bool.and_eq_true, Bool.not_eq_true', Bool.or_eq_false_iff, Bool.and_eq_false_iff] at hb
            have h2 := hb.2.1.1
            rcases h2 with h2 | h2
            · have := of_decide_eq_false h2; omega
            · have h2' : takesB buf.length 0 cap cl = false := h2
              simp [h2'] at h0
              revert h0
              by_cases hc1 : chanOkB ⟨cap, buf, sends, [], cl⟩ = false ∨ okV v = false
              · rw [if_pos hc1]; intro h0; omega
              · rw [if_neg hc1]
                by_cases hc2 : cl = true
                · rw [if_pos hc2]; intro h0; omega
                · rw [if_neg hc2]; intro h0; first | omega | simp [h2'] at h0
          · simp [hb] at h0
      simp [szChan, sendX]
      omega
    | cons r rs =>
      simp at h
      simp [szChan, sendX]
      omega
  · simp [szChan, zeroC]
end Go.Proofs.Ytgdmcdblhpdlmaa
