
/- ChanM, ChanI, merged for claims. -/

import Derived.Test.YtapbjnfopniicaaGreatDoorGDEng

namespace Go.Proofs.YtapbjnfopniicaaGreatDoor
set_option linter.unusedSimpArgs false
set_option linter.unusedVariables false
open Go.RowKit

def okV (v : Int) : Bool := decide (0 ≤ v ∧ v ≤ 999)
def okW (d : DWaiter) : Bool := decide (0 ≤ d.fG ∧ -1 ≤ d.fCase) && okV d.fVal
def okR (d : DWaiter) : Bool := okW d && decide (d.fVal = 0)
def takesB (n1 n3 : Nat) (cap : Int) (cl : Bool) : Bool := cl || decide (0 < n3 ∨ (n1 : Int) < cap)
def givesB (n1 n2 : Nat) (cl : Bool) : Bool := decide (0 < n1 ∨ 0 < n2) || cl
def vainB (n1 n2 n3 : Nat) (cap : Int) (cl : Bool) : Bool := decide (0 < n2) && takesB n1 n3 cap cl || decide (0 < n3) && givesB n1 n2 cl
def rangeB (n1 : Nat) (cap : Int) : Bool := decide (0 ≤ cap ∧ cap ≤ 4 ∧ (n1 : Int) ≤ cap)
def chanOkB (c : DChan) : Bool :=
  rangeB c.fBuf.length c.fCap && (!vainB c.fBuf.length c.fSends.length c.fRecvs.length c.fCap c.fClosed && (c.fBuf.all okV && (c.fSends.all okW && c.fRecvs.all okR)))
def canSendB (c : DChan) : Bool := chanOkB c && takesB c.fBuf.length c.fRecvs.length c.fCap c.fClosed
def canRecvB (c : DChan) : Bool := chanOkB c && givesB c.fBuf.length c.fSends.length c.fClosed

theorem okV_yes {v : Int} (h : 0 ≤ v ∧ v ≤ 999) : okV v = true := decide_eq_true h
theorem okV_no {v : Int} (h : ¬ (0 ≤ v ∧ v ≤ 999)) : okV v = false := decide_eq_false h

/-- The model's order of asking comes to the same. -/
theorem chanOkB_eq (c : DChan) : chanOkB c = (rangeB c.fBuf.length c.fCap && (c.fSends.all okW && (c.fRecvs.all okR && (c.fBuf.all okV &&
    (!(decide (0 < c.fSends.length) && (decide ((c.fBuf.length : Int) < c.fCap ∨ 0 < c.fRecvs.length) || c.fClosed)) && (decide (c.fRecvs.length = 0) || (decide (c.fBuf.length = 0) && !c.fClosed))))))) := by
  unfold chanOkB vainB takesB givesB rangeB
  generalize c.fSends.all okW = a
  generalize c.fRecvs.all okR = b
  generalize c.fBuf.all okV = d
  generalize c.fClosed = e
  generalize c.fBuf.length = n1
  generalize c.fSends.length = n2
  generalize c.fRecvs.length = n3
  generalize c.fCap = q
  by_cases hr : 0 ≤ q ∧ q ≤ 4 ∧ (n1 : Int) ≤ q
  · rcases Nat.eq_zero_or_pos n2 with h2 | h2 <;> rcases Nat.eq_zero_or_pos n3 with h3 | h3 <;> rcases Nat.eq_zero_or_pos n1 with h1 | h1 <;> by_cases h4 : (n1 : Int) < q <;>
      cases a <;> cases b <;> cases d <;> cases e <;> simp [hr, h1, h2, h3, h4, Nat.ne_of_gt] <;> omega
  · simp [hr]
end Go.Proofs.YtapbjnfopniicaaGreatDoor

namespace Go.Proofs.YtapbjnfopniicaaGreatDoor
set_option linter.unusedSimpArgs false
set_option linter.unusedVariables false
open Go.RowKit

theorem isValC_any (v : Int) (w : World) : Calls Tryz.prog 91 #[.int .i64 v] w fun e w' => e = .returned (.bool (okV v)) ∧ w = w' := by
  by_cases h0 : 0 ≤ v
  · by_cases h1 : v ≤ 999
    · rw [okV_yes (by omega)]
      go_enter Tryz.func91, Tryz.ntmps91
      go_wp2
      go_ret
      exact ⟨rfl, rfl⟩
    · rw [okV_no (by omega)]
      have h2 : decide (v ≤ 999) = false := decide_eq_false h1
      clear h1
      go_enter Tryz.func91, Tryz.ntmps91
      go_wp2
      go_ret
      exact ⟨rfl, rfl⟩
  · rw [okV_no (by omega)]
    have h2 : decide (0 ≤ v) = false := decide_eq_false h0
    clear h0
    go_enter Tryz.func91, Tryz.ntmps91
    go_wp2
    go_ret
    exact ⟨rfl, rfl⟩

/-- A waiter as a value. -/
def wtV (d : DWaiter) : Value := .agg #[.int .i64 d.fG, .int .i64 d.fCase, .int .i64 d.fVal]

end Go.Proofs.YtapbjnfopniicaaGreatDoor
