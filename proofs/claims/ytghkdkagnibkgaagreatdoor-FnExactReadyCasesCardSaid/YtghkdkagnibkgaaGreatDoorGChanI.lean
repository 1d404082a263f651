
/- ChanM, ChanI, merged for claims. -/

import Derived.Test.YtghkdkagnibkgaaGreatDoorGDEng

namespace Go.Proofs.YtghkdkagnibkgaaGreatDoor
set_option linter.unusedSimpArgs false
set_option linter.unusedVariables false
open Go.RowKit

def okV (v : Int) : Bool := decide (0 ≤ v ∧ v ≤ 999)
def okW (d : DWaiter) : Bool := decide (0 ≤ d.fG ∧ -1 ≤ d.fCase) && okV d.fVal
def okR (d : DWaiter) : Bool := okW d && decide (d.fVal = 0)
def takesB (n1 n3 : Nat) (cap : Int) (cl : Bool) : Bool := cl || decide (0 < n3 ∨ (n1 : Int) < cap)
def givesB (n1 n2 : Nat) (cl : Bool) : Bool := decide (0 < n1 ∨ 0 < n2) || cl
def vainB (n1 n2 n3 : Nat) (cap : Int) (cl : Bool) : Bool := decide (0 < n2) && takesB n1 n3 cap cl || decide (0 < n3) && givesB n1 n2 cl
def rangeB (n1 : Nat) (cap : Int) : Bool := decide (0 ≤ cap ∧ cap ≤ 4 ∧ (n1 : Int) ≤ cap)
def chanOkB (c : DChan) : Bool :=
  rangeB c.fBuf.length c.fCap && (!vainB c.fBuf.length c.fSends.length c.fRecvs.length c.fCap c.fClosed && (c.fBuf.all okV && (c.fSends.all okW && c.fRecvs.all okR)))
def canSendB (c : DChan) : Bool := chanOkB c && takesB c.fBuf.length c.fRecvs.length c.fCap c.fClosed
def canRecvB (c : DChan) : Bool := chanOkB c && givesB c.fBuf.length c.fSends.length c.fClosed

theorem okV_yes {v : Int} (h : 0 ≤ v ∧ v ≤ 999) : okV v = true := decide_eq_true h
theorem okV_no {v : Int} (h : ¬ (0 ≤ v ∧ v ≤ 999)) : okV v = false := decide_eq_false h

/-- The model's order of asking comes to the same. -/
theorem chanOkB_eq (c : DChan) : chanOkB c = (rangeB c.fBuf.length c.fCap && (c.fSends.all okW && (c.fRecvs.all okR && (c.fBuf.all okV &&
    (!(decide (0 < c.fSends.length) && (decide ((c.fBuf.length : Int) < c.fCap ∨ 0 < c.fRecvs.length) || c.fClosed)) && (decide (c.fRecvs.length = 0) || (decide (c.fBuf.length = 0) && !c.fClosed))))))) := by
  unfold chanOkB vainB takesB givesB rangeB
  generalize c.fSends.all okW = a
  generalize c.fRecvs.all okR = b
  generalize c.fBuf.all okV = d
  generalize c.fClosed = e
  generalize c.fBuf.length = n1
  generalize c.fSends.length = n2
  generalize c.fRecvs.length = n3
  generalize c.fCap = q
  by_cases hr : 0 ≤ q ∧ q ≤ 4 ∧ (n1 : Int) ≤ q
  · rcases Nat.eq_zero_or_pos n2 with h2 | h2 <;> rcases Nat.eq_zero_or_pos n3 with h3 | h3 <;> rcases Nat.eq_zero_or_pos n1 with h1 | h1 <;> by_cases h4 : (n1 : Int) < q <;>
      cases a <;> cases b <;> cases d <;> cases e <;> simp [hr, h1, h2, h3, h4, Nat.ne_of_gt] <;> omega
  · simp [hr]
end Go.Proofs.YtghkdkagnibkgaaGreatDoor

namespace Go.Proofs.YtghkdkagnibkgaaGreatDoor
set_option linter.unusedSimpArgs false
set_option linter.unusedVariables false
open Go.RowKit

theorem isValC_any (v : Int) (w : World) : Calls Tryz.prog 155 #[.int .i64 v] w fun e w' => e = .returned (.bool (okV v)) ∧ w = w' := by
  by_cases h0 : 0 ≤ v
  · by_cases h1 : v ≤ 999
    · rw [okV_yes (by omega)]
      go_enter Tryz.func155, Tryz.ntmps155
      go_wp2
      go_ret
      exact ⟨rfl, rfl⟩
    · rw [okV_no (by omega)]
      have h2 : decide (v ≤ 999) = false := decide_eq_false h1
      clear h1
      go_enter Tryz.func155, Tryz.ntmps155
      go_wp2
      go_ret
      exact ⟨rfl, rfl⟩
  · rw [okV_no (by omega)]
    have h2 : decide (0 ≤ v) = false := decide_eq_false h0
    clear h0
    go_enter Tryz.func155, Tryz.ntmps155
    go_wp2
    go_ret
    exact ⟨rfl, rfl⟩

/-- A waiter as a value. -/
def wtV (d : DWaiter) : Value := .agg #[.int .i64 d.fG, .int .i64 d.fCase, .int .i64 d.fVal]

set_option maxRecDepth 100000 in
set_option maxHeartbeats 2000000 in
theorem waiterOk_any (d : DWaiter) (w : World) : Calls Tryz.prog 161 #[.agg #[.int .i64 d.fG, .int .i64 d.fCase, .int .i64 d.fVal]] w fun e w' => e = .returned (.bool (okW d)) ∧ Below w.heap.size w w' := by
  obtain ⟨g, q, v⟩ := d
  show Calls Tryz.prog 161 #[.agg #[.int .i64 g, .int .i64 q, .int .i64 v]] w fun e w' => e = .returned (.bool (decide (0 ≤ g ∧ -1 ≤ q) && okV v)) ∧ Below w.heap.size w w'
  by_cases h0 : 0 ≤ g
  · by_cases h1 : -1 ≤ q
    · rw [decide_eq_true (show 0 ≤ g ∧ -1 ≤ q from ⟨h0, h1⟩), Bool.true_and]
      go_enter Tryz.func161, Tryz.ntmps161
      go_wp2_with fail
      refine (isValC_any v _).mono ?_
      rintro e w1 ⟨rfl, rfl⟩
      go_wp2_with fail
      go_ret
      exact ⟨rfl, by go_grown⟩
    · rw [decide_eq_false (show ¬ (0 ≤ g ∧ -1 ≤ q) from fun h => h1 h.2), Bool.false_and]
      have h2 : decide (-1 ≤ q) = false := decide_eq_false h1
      clear h1
      go_enter Tryz.func161, Tryz.ntmps161
      go_wp2_with fail
      go_ret
      exact ⟨rfl, by go_grown⟩
  · rw [decide_eq_false (show ¬ (0 ≤ g ∧ -1 ≤ q) from fun h => h0 h.1), Bool.false_and]
    have h2 : decide (0 ≤ g) = false := decide_eq_false h0
    clear h0
    go_enter Tryz.func161, Tryz.ntmps161
    go_wp2_with fail
    go_ret
    exact ⟨rfl, by go_grown⟩

set_option maxRecDepth 100000 in
set_option maxHeartbeats 2000000 in
theorem receiverOk_any (d : DWaiter) (w : World) : Calls Tryz.prog 162 #[.agg #[.int .i64 d.fG, .int .i64 d.fCase, .int .i64 d.fVal]] w fun e w' => e = .returned (.bool (okR d)) ∧ Below w.heap.size w w' := by
  obtain ⟨g, q, v⟩ := d
  have HO := Lib.hid (show ∀ W, Calls Tryz.prog 161 #[.agg #[.int .i64 g, .int .i64 q, .int .i64 v]] W fun e w' => e = .returned (.bool (okW ⟨g, q, v⟩)) ∧ Below W.heap.size W w' from fun W => waiterOk_any ⟨g, q, v⟩ W)
  show Calls Tryz.prog 162 #[.agg #[.int .i64 g, .int .i64 q, .int .i64 v]] w fun e w' => e = .returned (.bool (okW ⟨g, q, v⟩ && decide (v = 0))) ∧ Below w.heap.size w w'
  generalize okW ⟨g, q, v⟩ = b at *
  have HB := Lib.hid ((Below.refl w.heap.size w).alloc (Nat.le_refl _) (.cells #[.int .i64 g, .int .i64 q, .int .i64 v] 166))
  have HX := Lib.hid (box_new w #[.int .i64 g, .int .i64 q, .int .i64 v] 166)
  by_cases h0 : v = 0
  · subst h0
    go_enter Tryz.func162, Tryz.ntmps162
    go_wp2_with fail
    refine (HO.out _).mono ?_
    rintro e w1 ⟨rfl, hb⟩
    have hx2 := box_cell (j := 2) (box_keep HX.out hb (by simp)) rfl
    have hB := HB.out.trans (hb.mono (by simp))
    cases b
    · go_wp2_with fail
      go_ret
      exact ⟨rfl, hB⟩
    · go_wp2_with fail
      go_ret
      exact ⟨by simp, hB⟩
  · go_enter Tryz.func162, Tryz.ntmps162
    go_wp2_with fail
    refine (HO.out _).mono ?_
    rintro e w1 ⟨rfl, hb⟩
    have hx2 := box_cell (j := 2) (box_keep HX.out hb (by simp)) rfl
    have hB := HB.out.trans (hb.mono (by simp))
    cases b
    · go_wp2_with fail
      go_ret
      exact ⟨rfl, hB⟩
    · go_wp2_with fail
      go_ret
      exact ⟨by simp [h0], hB⟩

set_option maxRecDepth 100000 in
set_option maxHeartbeats 2000000 in
theorem takes_any {A1 A2 A3 : Option Addr} {n1 c1 n2 c2 n3 c3 : Nat} {cap : Int} {cl : Bool} (w : World) :
    Calls Tryz.prog 139 #[.agg #[.int .i64 cap, .slice A1 n1 c1, .slice A2 n2 c2, .slice A3 n3 c3, .bool cl]] w fun e w' => e = .returned (.bool (takesB n1 n3 cap cl)) ∧ Below w.heap.size w w' := by
  unfold takesB
  cases cl
  · by_cases h3 : 0 < n3
    · rw [decide_eq_true (show 0 < n3 ∨ (n1 : Int) < cap from .inl h3)]
      go_enter Tryz.func139, Tryz.ntmps139
      go_wp2_with fail
      go_ret
      exact ⟨rfl, by go_grown⟩
    · obtain rfl : n3 = 0 := by omega
      by_cases h1 : (n1 : Int) < cap
      · rw [decide_eq_true (show 0 < 0 ∨ (n1 : Int) < cap from .inr h1)]
        go_enter Tryz.func139, Tryz.ntmps139
        go_wp2_with fail
        go_ret
        exact ⟨rfl, by go_grown⟩
      · rw [decide_eq_false (show ¬ (0 < 0 ∨ (n1 : Int) < cap) by omega)]
        have h2 : decide ((n1 : Int) < cap) = false := decide_eq_false h1
        clear h1
        go_enter Tryz.func139, Tryz.ntmps139
        go_wp2_with fail
        go_ret
        exact ⟨rfl, by go_grown⟩
  · go_enter Tryz.func139, Tryz.ntmps139
    go_wp2_with fail
    go_ret
    exact ⟨rfl, by go_grown⟩

set_option maxRecDepth 100000 in
set_option maxHeartbeats 2000000 in
theorem gives_any {A1 A2 A3 : Option Addr} {n1 c1 n2 c2 n3 c3 : Nat} {cap : Int} {cl : Bool} (w : World) :
    Calls Tryz.prog 138 #[.agg #[.int .i64 cap, .slice A1 n1 c1, .slice A2 n2 c2, .slice A3 n3 c3, .bool cl]] w fun e w' => e = .returned (.bool (givesB n1 n2 cl)) ∧ Below w.heap.size w w' := by
  unfold givesB
  by_cases h1 : 0 < n1
  · rw [decide_eq_true (show 0 < n1 ∨ 0 < n2 from .inl h1)]
    go_enter Tryz.func138, Tryz.ntmps138
    go_wp2_with fail
    go_ret
    exact ⟨rfl, by go_grown⟩
  · obtain rfl : n1 = 0 := by omega
    by_cases h2 : 0 < n2
    · rw [decide_eq_true (show 0 < 0 ∨ 0 < n2 from .inr h2)]
      go_enter Tryz.func138, Tryz.ntmps138
      go_wp2_with fail
      go_ret
      exact ⟨rfl, by go_grown⟩
    · obtain rfl : n2 = 0 := by omega
      rw [decide_eq_false (show ¬ (0 < 0 ∨ 0 < 0) by omega)]
      cases cl
      · go_enter Tryz.func138, Tryz.ntmps138
        go_wp2_with fail
        go_ret
        exact ⟨rfl, by go_grown⟩
      · go_enter Tryz.func138, Tryz.ntmps138
        go_wp2_with fail
        go_ret
        exact ⟨rfl, by go_grown⟩

set_option maxRecDepth 100000 in
set_option maxHeartbeats 2000000 in
theorem waitsInVain_any {A1 A2 A3 : Option Addr} {n1 c1 n2 c2 n3 c3 : Nat} {cap : Int} {cl : Bool} (w : World) :
    Calls Tryz.prog 159 #[.agg #[.int .i64 cap, .slice A1 n1 c1, .slice A2 n2 c2, .slice A3 n3 c3, .bool cl]] w fun e w' => e = .returned (.bool (vainB n1 n2 n3 cap cl)) ∧ Below w.heap.size w w' := by
  have HT := Lib.hid (fun W => takes_any (A1 := A1) (A2 := A2) (A3 := A3) (n1 := n1) (c1 := c1) (n2 := n2) (c2 := c2) (n3 := n3) (c3 := c3) (cap := cap) (cl := cl) W)
  have HG := Lib.hid (fun W => gives_any (A1 := A1) (A2 := A2) (A3 := A3) (n1 := n1) (c1 := c1) (n2 := n2) (c2 := c2) (n3 := n3) (c3 := c3) (cap := cap) (cl := cl) W)
  unfold vainB
  generalize takesB n1 n3 cap cl = tk at *
  generalize givesB n1 n2 cl = gv at *
  have HB := Lib.hid ((Below.refl w.heap.size w).alloc (Nat.le_refl _) (.cells #[.int .i64 cap, .slice A1 n1 c1, .slice A2 n2 c2, .slice A3 n3 c3, .bool cl] 124))
  have HX := Lib.hid (box_new w #[.int .i64 cap, .slice A1 n1 c1, .slice A2 n2 c2, .slice A3 n3 c3, .bool cl] 124)
  by_cases h2 : 0 < n2
  · rw [decide_eq_true h2, Bool.true_and]
    go_enter Tryz.func159, Tryz.ntmps159
    go_wp2_with fail
    refine (HT.out _).mono ?_
    rintro e w1 ⟨rfl, hb⟩
    have HX1 := Lib.hid (box_keep HX.out hb (by simp))
    have q0 := box_cell (j := 0) HX1.out rfl
    have q1 := box_cell (j := 1) HX1.out rfl
    have q2 := box_cell (j := 2) HX1.out rfl
    have q3 := box_cell (j := 3) HX1.out rfl
    have q4 := box_cell (j := 4) HX1.out rfl
    have hl1 : w.heap.size < w1.heap.size := by have := hb.size; simp at this; omega
    have HB1 := Lib.hid (HB.out.trans (hb.mono (by simp)))
    clear hb
    cases tk
    · by_cases h3 : 0 < n3
      · go_wp2_with fail
        refine (HG.out _).mono ?_
        rintro e w2 ⟨rfl, hb2⟩
        have HB2 := Lib.hid (HB1.out.trans (hb2.mono (by omega)))
        clear hb2
        go_wp2_with fail
        go_ret
        exact ⟨by simp [h3], HB2.out⟩
      · obtain rfl : n3 = 0 := by omega
        go_wp2_with fail
        go_ret
        exact ⟨rfl, HB1.out⟩
    · go_wp2_with fail
      go_ret
      exact ⟨rfl, HB1.out⟩
  · obtain rfl : n2 = 0 := by omega
    by_cases h3 : 0 < n3
    · rw [decide_eq_true h3, Bool.true_and]
      go_enter Tryz.func159, Tryz.ntmps159
      go_wp2_with fail
      refine (HG.out _).mono ?_
      rintro e w2 ⟨rfl, hb2⟩
      have HB2 := Lib.hid (HB.out.trans (hb2.mono (by simp)))
      clear hb2
      go_wp2_with fail
      go_ret
      exact ⟨rfl, HB2.out⟩
    · obtain rfl : n3 = 0 := by omega
      go_enter Tryz.func159, Tryz.ntmps159
      go_wp2_with fail
      go_ret
      exact ⟨rfl, by go_grown⟩
end Go.Proofs.YtghkdkagnibkgaaGreatDoor
