
/- The program's CanSend, CanRecv, sendCode, recvCode. -/

import Derived.Test.YtghkdkagnibkgaaGreatDoorChanOkI

import Derived.Test.YtghkdkagnibkgaaGreatDoorGQueue

namespace Go.Proofs.YtghkdkagnibkgaaGreatDoor
set_option linter.unusedSimpArgs false
set_option linter.unusedVariables false
open Go.RowKit

set_option maxRecDepth 100000 in
set_option maxHeartbeats 2000000 in
theorem implCanSend_any {w : World} {hi : Nat} {x : DChan} {vs : List Value} (h : layChan.see w hi x vs) (hhi : hi ≤ w.heap.size) :
    Calls Tryz.prog 104 #[.agg vs.toArray] w fun e w' => e = .returned (.bool (canSendB x)) ∧ Below w.heap.size w w' := by
  obtain ⟨A1, n1, c1, A2, n2, c2, A3, n3, c3, rfl, hw0, ⟨hc1, hm1, s1⟩, ⟨hc2, hm2, s2⟩, ⟨hc3, hm3, s3⟩⟩ := seeChan h
  have HOK := Lib.hid (fun (W : World) (hW : Below w.heap.size w W) => implChanOk_any (layChan.keep h (w' := W) fun k hk => hW.block k (by omega)) (by have := hW.size; omega))
  have l1 := s1.1
  have l2 := s2.1
  have l3 := s3.1
  clear s1 s2 s3 h hw0
  have hg : canSendB x = (chanOkB x && takesB n1 n3 x.fCap x.fClosed) := by unfold canSendB; rw [l1, l3]
  rw [hg]
  obtain ⟨cap, buf, sends, recvs, cl⟩ := x
  generalize chanOkB ⟨cap, buf, sends, recvs, cl⟩ = ok at *
  simp only at HOK ⊢
  have HT := Lib.hid (fun W => takes_any (A1 := A1) (A2 := A2) (A3 := A3) (n1 := n1) (c1 := c1) (n2 := n2) (c2 := c2) (n3 := n3) (c3 := c3) (cap := cap) (cl := cl) W)
  generalize takesB n1 n3 cap cl = tk at *
  clear hg l1 l2 l3
  have HB := Lib.hid ((Below.refl w.heap.size w).alloc (Nat.le_refl _) (.cells #[.int .i64 cap, .slice A1 n1 c1, .slice A2 n2 c2, .slice A3 n3 c3, .bool cl] 124))
  have HX := Lib.hid (box_new w #[.int .i64 cap, .slice A1 n1 c1, .slice A2 n2 c2, .slice A3 n3 c3, .bool cl] 124)
  show Calls Tryz.prog 104 #[.agg #[.int .i64 cap, .slice A1 n1 c1, .slice A2 n2 c2, .slice A3 n3 c3, .bool cl]] w _
  go_enter Tryz.func104, Tryz.ntmps104
  go_wp2_with fail
  refine (HOK.out _ HB.out).mono ?_
  rintro e w1 ⟨rfl, hb1⟩
  have HB1 := Lib.hid (HB.out.trans (hb1.mono (by simp)))
  have HX1 := Lib.hid (box_keep HX.out hb1 (by simp))
  have q1_0 := box_cell (j := 0) HX1.out rfl
  have q1_1 := box_cell (j := 1) HX1.out rfl
  have q1_2 := box_cell (j := 2) HX1.out rfl
  have q1_3 := box_cell (j := 3) HX1.out rfl
  have q1_4 := box_cell (j := 4) HX1.out rfl
  have z1 : w.heap.size < w1.heap.size := by have := hb1.size; simp at this; omega
  clear hb1
  cases ok
  · go_wp2_with fail
    go_ret
    exact ⟨rfl, HB1.out⟩
  · go_wp2_with fail
    refine (HT.out _).mono ?_
    rintro e w2 ⟨rfl, hb2⟩
    have HB2 := Lib.hid (HB1.out.trans (hb2.mono (by omega)))
    clear hb2
    go_wp2_with fail
    go_ret
    exact ⟨rfl, HB2.out⟩

set_option maxRecDepth 100000 in
set_option maxHeartbeats 2000000 in
theorem implCanRecv_any {w : World} {hi : Nat} {x : DChan} {vs : List Value} (h : layChan.see w hi x vs) (hhi : hi ≤ w.heap.size) :
    Calls Tryz.prog 103 #[.agg vs.toArray] w fun e w' => e = .returned (.bool (canRecvB x)) ∧ Below w.heap.size w w' := by
  obtain ⟨A1, n1, c1, A2, n2, c2, A3, n3, c3, rfl, hw0, ⟨hc1, hm1, s1⟩, ⟨hc2, hm2, s2⟩, ⟨hc3, hm3, s3⟩⟩ := seeChan h
  have HOK := Lib.hid (fun (W : World) (hW : Below w.heap.size w W) => implChanOk_any (layChan.keep h (w' := W) fun k hk => hW.block k (by omega)) (by have := hW.size; omega))
  have l1 := s1.1
  have l2 := s2.1
  have l3 := s3.1
  clear s1 s2 s3 h hw0
  have hg : canRecvB x = (chanOkB x && givesB n1 n2 x.fClosed) := by unfold canRecvB; rw [l1, l2]
  rw [hg]
  obtain ⟨cap, buf, sends, recvs, cl⟩ := x
  generalize chanOkB ⟨cap, buf, sends, recvs, cl⟩ = ok at *
  simp only at HOK ⊢
  have HT := Lib.hid (fun W => gives_any (A1 := A1) (A2 := A2) (A3 := A3) (n1 := n1) (c1 := c1) (n2 := n2) (c2 := c2) (n3 := n3) (c3 := c3) (cap := cap) (cl := cl) W)
  generalize givesB n1 n2 cl = tk at *
  clear hg l1 l2 l3
  have HB := Lib.hid ((Below.refl w.heap.size w).alloc (Nat.le_refl _) (.cells #[.int .i64 cap, .slice A1 n1 c1, .slice A2 n2 c2, .slice A3 n3 c3, .bool cl] 124))
  have HX := Lib.hid (box_new w #[.int .i64 cap, .slice A1 n1 c1, .slice A2 n2 c2, .slice A3 n3 c3, .bool cl] 124)
  show Calls Tryz.prog 103 #[.agg #[.int .i64 cap, .slice A1 n1 c1, .slice A2 n2 c2, .slice A3 n3 c3, .bool cl]] w _
  go_enter Tryz.func103, Tryz.ntmps103
  go_wp2_with fail
  refine (HOK.out _ HB.out).mono ?_
  rintro e w1 ⟨rfl, hb1⟩
  have HB1 := Lib.hid (HB.out.trans (hb1.mono (by simp)))
  have HX1 := Lib.hid (box_keep HX.out hb1 (by simp))
  have q1_0 := box_cell (j := 0) HX1.out rfl
  have q1_1 := box_cell (j := 1) HX1.out rfl
  have q1_2 := box_cell (j := 2) HX1.out rfl
  have q1_3 := box_cell (j := 3) HX1.out rfl
  have q1_4 := box_cell (j := 4) HX1.out rfl
  have z1 : w.heap.size < w1.heap.size := by have := hb1.size; simp at this; omega
  clear hb1
  cases ok
  · go_wp2_with fail
    go_ret
    exact ⟨rfl, HB1.out⟩
  · go_wp2_with fail
    refine (HT.out _).mono ?_
    rintro e w2 ⟨rfl, hb2⟩
    have HB2 := Lib.hid (HB1.out.trans (hb2.mono (by omega)))
    clear hb2
    go_wp2_with fail
    go_ret
    exact ⟨rfl, HB2.out⟩

end Go.Proofs.YtghkdkagnibkgaaGreatDoor
