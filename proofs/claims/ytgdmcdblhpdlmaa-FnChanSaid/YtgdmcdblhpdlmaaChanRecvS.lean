
/- The model's RecvFrom. -/

import Derived.Test.YtgdmcdblhpdlmaaChanSendS

import Derived.Test.YtgdmcdblhpdlmaaChanY

namespace Go.Proofs.Ytgdmcdblhpdlmaa
set_option linter.unusedSimpArgs false
set_option linter.unusedVariables false
open Go.RowKit

set_option maxRecDepth 100000 in
set_option maxHeartbeats 8000000 in
theorem specRecvFrom_any {w : World} {hi : Nat} {x : DChan} {vs : List Value} (h : layChan.see w hi x vs) (hhi : hi ≤ w.heap.size) (hn : szChan x ≤ 1048576) :
    Calls Try.prog 30 #[.agg vs.toArray] w (MadeD w (recvR x)) := by
  have hw0 := wf_cap h
  have HWF := Lib.hid (wf_rows h)
  obtain ⟨A1, n1, c1, A2, n2, c2, A3, n3, c3, rfl, -, ⟨-, -, s1⟩, ⟨-, -, s2⟩, ⟨-, -, s3⟩⟩ := seeChan h
  have hn0 := hn
  unfold szChan at hn0
  have HSE := Lib.hid (fun (W : World) (hW : Below w.heap.size w W) => layChan.keep h (w' := W) fun k hk => hW.block k (by omega))
  have HOK := Lib.hid (fun (W : World) (hW : Below w.heap.size w W) => specChanOk_any (HSE.out W hW) (by have := hW.size; omega))
  have HCS := Lib.hid (fun (W : World) (hW : Below w.heap.size w W) => specCanRecv_any (HSE.out W hW) (by have := hW.size; omega))
  have HCP := Lib.hid (fun (W : World) (hW : Below w.heap.size w W) => l06Copy_any (HSE.out W hW) (by have := hW.size; omega) hn)
  have HS2c := Lib.hid (fun (W : World) (hW : Below w.heap.size w W) => s2.below hW hhi)
  have HRR := Lib.hid (show recvR x = if (if !chanOkB x then (1 : Int) else if !givesB x.fBuf.length x.fSends.length x.fClosed then 3 else 0) = 0 then ((recvX x).1, (recvX x).2.1, (recvX x).2.2.1, (recvX x).2.2.2, 0) else (zeroC, 0, false, zeroW, (if !chanOkB x then (1 : Int) else if !givesB x.fBuf.length x.fSends.length x.fClosed then 3 else 0)) from rfl)
  have hcs : canRecvB x = (chanOkB x && givesB x.fBuf.length x.fSends.length x.fClosed) := rfl
  rw [hcs] at HCS
  have l2 := s2.1
  clear s1 s2 s3 h HSE hcs
  obtain ⟨cap, buf, sends, recvs, cl⟩ := x
  simp only at hw0 hn0 HCS HRR l2
  subst l2
  generalize chanOkB ⟨cap, buf, sends, recvs, cl⟩ = ok at *
  generalize givesB buf.length sends.length cl = tk at *
  show Calls Try.prog 30 #[.agg #[.int .i64 cap, .slice A1 n1 c1, .slice A2 sends.length c2, .slice A3 n3 c3, .bool cl]] w _
  have HX0 := Lib.hid (show (((w.alloc (.cells #[.int .i64 cap, .slice A1 n1 c1, .slice A2 sends.length c2, .slice A3 n3 c3, .bool cl] 26)).alloc (.cells #[.int .i64 0, .slice none 0 0, .slice none 0 0, .slice none 0 0, .bool false] 26)).alloc (.cells #[.int .i64 0, .int .i64 0, .int .i64 0] 29)).heap[w.heap.size]? = some (.cells #[.int .i64 cap, .slice A1 n1 c1, .slice A2 sends.length c2, .slice A3 n3 c3, .bool cl] 26 (0, 0)) from by have := box_new w #[.int .i64 cap, .slice A1 n1 c1, .slice A2 sends.length c2, .slice A3 n3 c3, .bool cl] 26; exact box_keep (box_keep this ((Below.refl _ _).alloc (Nat.le_refl _) _) (by simp)) ((Below.refl _ _).alloc (Nat.le_refl _) _) (by simp; omega))
  have HRc0 := Lib.hid (show (((w.alloc (.cells #[.int .i64 cap, .slice A1 n1 c1, .slice A2 sends.length c2, .slice A3 n3 c3, .bool cl] 26)).alloc (.cells #[.int .i64 0, .slice none 0 0, .slice none 0 0, .slice none 0 0, .bool false] 26)).alloc (.cells #[.int .i64 0, .int .i64 0, .int .i64 0] 29)).heap[w.heap.size + 1]? = some (.cells #[.int .i64 0, .slice none 0 0, .slice none 0 0, .slice none 0 0, .bool false] 26 (0, 0)) from by have := box_new (w.alloc (.cells #[.int .i64 cap, .slice A1 n1 c1, .slice A2 sends.length c2, .slice A3 n3 c3, .bool cl] 26)) #[.int .i64 0, .slice none 0 0, .slice none 0 0, .slice none 0 0, .bool false] 26; rw [World.size_alloc] at this; exact box_keep this ((Below.refl _ _).alloc (Nat.le_refl _) _) (by simp))
  have HRw0 := Lib.hid (show (((w.alloc (.cells #[.int .i64 cap, .slice A1 n1 c1, .slice A2 sends.length c2, .slice A3 n3 c3, .bool cl] 26)).alloc (.cells #[.int .i64 0, .slice none 0 0, .slice none 0 0, .slice none 0 0, .bool false] 26)).alloc (.cells #[.int .i64 0, .int .i64 0, .int .i64 0] 29)).heap[w.heap.size + 2]? = some (.cells #[.int .i64 0, .int .i64 0, .int .i64 0] 29 (0, 0)) from by have := box_new ((w.alloc (.cells #[.int .i64 cap, .slice A1 n1 c1, .slice A2 sends.length c2, .slice A3 n3 c3, .bool cl] 26)).alloc (.cells #[.int .i64 0, .slice none 0 0, .slice none 0 0, .slice none 0 0, .bool false] 26)) #[.int .i64 0, .int .i64 0, .int .i64 0] 29; rw [World.size_alloc, World.size_alloc] at this; exact this)
  have HB0 := Lib.hid (show Below w.heap.size w (((w.alloc (.cells #[.int .i64 cap, .slice A1 n1 c1, .slice A2 sends.length c2, .slice A3 n3 c3, .bool cl] 26)).alloc (.cells #[.int .i64 0, .slice none 0 0, .slice none 0 0, .slice none 0 0, .bool false] 26)).alloc (.cells #[.int .i64 0, .int .i64 0, .int .i64 0] 29)) by go_grown)
  have zz0 : w.heap.size + 3 ≤ (((w.alloc (.cells #[.int .i64 cap, .slice A1 n1 c1, .slice A2 sends.length c2, .slice A3 n3 c3, .bool cl] 26)).alloc (.cells #[.int .i64 0, .slice none 0 0, .slice none 0 0, .slice none 0 0, .bool false] 26)).alloc (.cells #[.int .i64 0, .int .i64 0, .int .i64 0] 29)).heap.size := by simp
  go_enter Try.func30, Try.ntmps30
  go_upto_region 1 with (fail)
  generalize (((w.alloc (.cells #[.int .i64 cap, .slice A1 n1 c1, .slice A2 sends.length c2, .slice A3 n3 c3, .bool cl] 26)).alloc (.cells #[.int .i64 0, .slice none 0 0, .slice none 0 0, .slice none 0 0, .bool false] 26)).alloc (.cells #[.int .i64 0, .int .i64 0, .int .i64 0] 29)) = w0 at *
  have q0 := box_cell (j := 0) HX0.out rfl
  have q1 := box_cell (j := 1) HX0.out rfl
  have q2 := box_cell (j := 2) HX0.out rfl
  have q3 := box_cell (j := 3) HX0.out rfl
  have q4 := box_cell (j := 4) HX0.out rfl
  go_wp2_with fail
  refine (HOK.out _ HB0.out).mono ?_
  rintro e w1 ⟨rfl, hb1⟩
  have hz1 := hb1.size
  have HX1 := Lib.hid (box_keep HX0.out hb1 (by omega))
  have HRc1 := Lib.hid (box_keep HRc0.out hb1 (by omega))
  have HRw1 := Lib.hid (box_keep HRw0.out hb1 (by omega))
  have HB1 := Lib.hid (HB0.out.trans (hb1.mono (by omega)))
  clear q0 q1 q2 q3 q4 hb1
  cases ok
  · skip
    have g0 := box_free HRc1.out 0
    have g1 := box_free HRc1.out 1
    have g2 := box_free HRc1.out 2
    have g3 := box_free HRc1.out 3
    have g4 := box_free HRc1.out 4
    have a0 := box_cell (j := 0) HRc1.out rfl
    have a1 := box_cell (j := 1) HRc1.out rfl
    have a2 := box_cell (j := 2) HRc1.out rfl
    have a3 := box_cell (j := 3) HRc1.out rfl
    have a4 := box_cell (j := 4) HRc1.out rfl
    have h0 := box_free HRw1.out 0
    have h1 := box_free HRw1.out 1
    have h2 := box_free HRw1.out 2
    have b0 := box_cell (j := 0) HRw1.out rfl
    have b1 := box_cell (j := 1) HRw1.out rfl
    have b2 := box_cell (j := 2) HRw1.out rfl
    go_wp2_with fail
    have hRC_0 : (w1.setCell ⟨w.heap.size + 1, 0, none⟩ (.int .i64 0)).heap[w.heap.size + 1]? = some (.cells #[.int .i64 0, .slice none 0 0, .slice none 0 0, .slice none 0 0, .bool false] 26 (0, 0)) := box_set (j := 0) (u := .int .i64 0) HRc1.out
    have hRC_1 : ((w1.setCell ⟨w.heap.size + 1, 0, none⟩ (.int .i64 0)).setCell ⟨w.heap.size + 1, 1, none⟩ (.slice none 0 0)).heap[w.heap.size + 1]? = some (.cells #[.int .i64 0, .slice none 0 0, .slice none 0 0, .slice none 0 0, .bool false] 26 (0, 0)) := box_set (j := 1) (u := .slice none 0 0) hRC_0
    clear hRC_0
    have hRC_2 : (((w1.setCell ⟨w.heap.size + 1, 0, none⟩ (.int .i64 0)).setCell ⟨w.heap.size + 1, 1, none⟩ (.slice none 0 0)).setCell ⟨w.heap.size + 1, 2, none⟩ (.slice none 0 0)).heap[w.heap.size + 1]? = some (.cells #[.int .i64 0, .slice none 0 0, .slice none 0 0, .slice none 0 0, .bool false] 26 (0, 0)) := box_set (j := 2) (u := .slice none 0 0) hRC_1
    clear hRC_1
    have hRC_3 : ((((w1.setCell ⟨w.heap.size + 1, 0, none⟩ (.int .i64 0)).setCell ⟨w.heap.size + 1, 1, none⟩ (.slice none 0 0)).setCell ⟨w.heap.size + 1, 2, none⟩ (.slice none 0 0)).setCell ⟨w.heap.size + 1, 3, none⟩ (.slice none 0 0)).heap[w.heap.size + 1]? = some (.cells #[.int .i64 0, .slice none 0 0, .slice none 0 0, .slice none 0 0, .bool false] 26 (0, 0)) := box_set (j := 3) (u := .slice none 0 0) hRC_2
    clear hRC_2
    have hRC_4 : (((((w1.setCell ⟨w.heap.size + 1, 0, none⟩ (.int .i64 0)).setCell ⟨w.heap.size + 1, 1, none⟩ (.slice none 0 0)).setCell ⟨w.heap.size + 1, 2, none⟩ (.slice none 0 0)).setCell ⟨w.heap.size + 1, 3, none⟩ (.slice none 0 0)).setCell ⟨w.heap.size + 1, 4, none⟩ (.bool false)).heap[w.heap.size + 1]? = some (.cells #[.int .i64 0, .slice none 0 0, .slice none 0 0, .slice none 0 0, .bool false] 26 (0, 0)) := box_set (j := 4) (u := .bool false) hRC_3
    clear hRC_3
    have hRC_5 : ((((((w1.setCell ⟨w.heap.size + 1, 0, none⟩ (.int .i64 0)).setCell ⟨w.heap.size + 1, 1, none⟩ (.slice none 0 0)).setCell ⟨w.heap.size + 1, 2, none⟩ (.slice none 0 0)).setCell ⟨w.heap.size + 1, 3, none⟩ (.slice none 0 0)).setCell ⟨w.heap.size + 1, 4, none⟩ (.bool false)).setCell ⟨w.heap.size + 2, 0, none⟩ (.int .i64 0)).heap[w.heap.size + 1]? = some (.cells #[.int .i64 0, .slice none 0 0, .slice none 0 0, .slice none 0 0, .bool false] 26 (0, 0)) := (Below.heap_setCell (((((w1.setCell ⟨w.heap.size + 1, 0, none⟩ (.int .i64 0)).setCell ⟨w.heap.size + 1, 1, none⟩ (.slice none 0 0)).setCell ⟨w.heap.size + 1, 2, none⟩ (.slice none 0 0)).setCell ⟨w.heap.size + 1, 3, none⟩ (.slice none 0 0)).setCell ⟨w.heap.size + 1, 4, none⟩ (.bool false)) ⟨w.heap.size + 2, 0, none⟩ (.int .i64 0) (w.heap.size + 1) (by simp only; omega)).trans hRC_4
    clear hRC_4
    have hRC_6 : (((((((w1.setCell ⟨w.heap.size + 1, 0, none⟩ (.int .i64 0)).setCell ⟨w.heap.size + 1, 1, none⟩ (.slice none 0 0)).setCell ⟨w.heap.size + 1, 2, none⟩ (.slice none 0 0)).setCell ⟨w.heap.size + 1, 3, none⟩ (.slice none 0 0)).setCell ⟨w.heap.size + 1, 4, none⟩ (.bool false)).setCell ⟨w.heap.size + 2, 0, none⟩ (.int .i64 0)).setCell ⟨w.heap.size + 2, 1, none⟩ (.int .i64 0)).heap[w.heap.size + 1]? = some (.cells #[.int .i64 0, .slice none 0 0, .slice none 0 0, .slice none 0 0, .bool false] 26 (0, 0)) := (Below.heap_setCell ((((((w1.setCell ⟨w.heap.size + 1, 0, none⟩ (.int .i64 0)).setCell ⟨w.heap.size + 1, 1, none⟩ (.slice none 0 0)).setCell ⟨w.heap.size + 1, 2, none⟩ (.slice none 0 0)).setCell ⟨w.heap.size + 1, 3, none⟩ (.slice none 0 0)).setCell ⟨w.heap.size + 1, 4, none⟩ (.bool false)).setCell ⟨w.heap.size + 2, 0, none⟩ (.int .i64 0)) ⟨w.heap.size + 2, 1, none⟩ (.int .i64 0) (w.heap.size + 1) (by simp only; omega)).trans hRC_5
    clear hRC_5
    have hRC_7 : ((((((((w1.setCell ⟨w.heap.size + 1, 0, none⟩ (.int .i64 0)).setCell ⟨w.heap.size + 1, 1, none⟩ (.slice none 0 0)).setCell ⟨w.heap.size + 1, 2, none⟩ (.slice none 0 0)).setCell ⟨w.heap.size + 1, 3, none⟩ (.slice none 0 0)).setCell ⟨w.heap.size + 1, 4, none⟩ (.bool false)).setCell ⟨w.heap.size + 2, 0, none⟩ (.int .i64 0)).setCell ⟨w.heap.size + 2, 1, none⟩ (.int .i64 0)).setCell ⟨w.heap.size + 2, 2, none⟩ (.int .i64 0)).heap[w.heap.size + 1]? = some (.cells #[.int .i64 0, .slice none 0 0, .slice none 0 0, .slice none 0 0, .bool false] 26 (0, 0)) := (Below.heap_setCell (((((((w1.setCell ⟨w.heap.size + 1, 0, none⟩ (.int .i64 0)).setCell ⟨w.heap.size + 1, 1, none⟩ (.slice none 0 0)).setCell ⟨w.heap.size + 1, 2, none⟩ (.slice none 0 0)).setCell ⟨w.heap.size + 1, 3, none⟩ (.slice none 0 0)).setCell ⟨w.heap.size + 1, 4, none⟩ (.bool false)).setCell ⟨w.heap.size + 2, 0, none⟩ (.int .i64 0)).setCell ⟨w.heap.size + 2, 1, none⟩ (.int .i64 0)) ⟨w.heap.size + 2, 2, none⟩ (.int .i64 0) (w.heap.size + 1) (by simp only; omega)).trans hRC_6
    clear hRC_6
    have hRC := hRC_7
    clear hRC_7
    have hRW_0 : (w1.setCell ⟨w.heap.size + 1, 0, none⟩ (.int .i64 0)).heap[w.heap.size + 2]? = some (.cells #[.int .i64 0, .int .i64 0, .int .i64 0] 29 (0, 0)) := (Below.heap_setCell w1 ⟨w.heap.size + 1, 0, none⟩ (.int .i64 0) (w.heap.size + 2) (by simp only; omega)).trans HRw1.out
    have hRW_1 : ((w1.setCell ⟨w.heap.size + 1, 0, none⟩ (.int .i64 0)).setCell ⟨w.heap.size + 1, 1, none⟩ (.slice none 0 0)).heap[w.heap.size + 2]? = some (.cells #[.int .i64 0, .int .i64 0, .int .i64 0] 29 (0, 0)) := (Below.heap_setCell (w1.setCell ⟨w.heap.size + 1, 0, none⟩ (.int .i64 0)) ⟨w.heap.size + 1, 1, none⟩ (.slice none 0 0) (w.heap.size + 2) (by simp only; omega)).trans hRW_0
    clear hRW_0
    have hRW_2 : (((w1.setCell ⟨w.heap.size + 1, 0, none⟩ (.int .i64 0)).setCell ⟨w.heap.size + 1, 1, none⟩ (.slice none 0 0)).setCell ⟨w.heap.size + 1, 2, none⟩ (.slice none 0 0)).heap[w.heap.size + 2]? = some (.cells #[.int .i64 0, .int .i64 0, .int .i64 0] 29 (0, 0)) := (Below.heap_setCell ((w1.setCell ⟨w.heap.size + 1, 0, none⟩ (.int .i64 0)).setCell ⟨w.heap.size + 1, 1, none⟩ (.slice none 0 0)) ⟨w.heap.size + 1, 2, none⟩ (.slice none 0 0) (w.heap.size + 2) (by simp only; omega)).trans hRW_1
    clear hRW_1
    have hRW_3 : ((((w1.setCell ⟨w.heap.size + 1, 0, none⟩ (.int .i64 0)).setCell ⟨w.heap.size + 1, 1, none⟩ (.slice none 0 0)).setCell ⟨w.heap.size + 1, 2, none⟩ (.slice none 0 0)).setCell ⟨w.heap.size + 1, 3, none⟩ (.slice none 0 0)).heap[w.heap.size + 2]? = some (.cells #[.int .i64 0, .int .i64 0, .int .i64 0] 29 (0, 0)) := (Below.heap_setCell (((w1.setCell ⟨w.heap.size + 1, 0, none⟩ (.int .i64 0)).setCell ⟨w.heap.size + 1, 1, none⟩ (.slice none 0 0)).setCell ⟨w.heap.size + 1, 2, none⟩ (.slice none 0 0)) ⟨w.heap.size + 1, 3, none⟩ (.slice none 0 0) (w.heap.size + 2) (by simp only; omega)).trans hRW_2
    clear hRW_2
    have hRW_4 : (((((w1.setCell ⟨w.heap.size + 1, 0, none⟩ (.int .i64 0)).setCell ⟨w.heap.size + 1, 1, none⟩ (.slice none 0 0)).setCell ⟨w.heap.size + 1, 2, none⟩ (.slice none 0 0)).setCell ⟨w.heap.size + 1, 3, none⟩ (.slice none 0 0)).setCell ⟨w.heap.size + 1, 4, none⟩ (.bool false)).heap[w.heap.size + 2]? = some (.cells #[.int .i64 0, .int .i64 0, .int .i64 0] 29 (0, 0)) := (Below.heap_setCell ((((w1.setCell ⟨w.heap.size + 1, 0, none⟩ (.int .i64 0)).setCell ⟨w.heap.size + 1, 1, none⟩ (.slice none 0 0)).setCell ⟨w.heap.size + 1, 2, none⟩ (.slice none 0 0)).setCell ⟨w.heap.size + 1, 3, none⟩ (.slice none 0 0)) ⟨w.heap.size + 1, 4, none⟩ (.bool false) (w.heap.size + 2) (by simp only; omega)).trans hRW_3
    clear hRW_3
    have hRW_5 : ((((((w1.setCell ⟨w.heap.size + 1, 0, none⟩ (.int .i64 0)).setCell ⟨w.heap.size + 1, 1, none⟩ (.slice none 0 0)).setCell ⟨w.heap.size + 1, 2, none⟩ (.slice none 0 0)).setCell ⟨w.heap.size + 1, 3, none⟩ (.slice none 0 0)).setCell ⟨w.heap.size + 1, 4, none⟩ (.bool false)).setCell ⟨w.heap.size + 2, 0, none⟩ (.int .i64 0)).heap[w.heap.size + 2]? = some (.cells #[.int .i64 0, .int .i64 0, .int .i64 0] 29 (0, 0)) := box_set (j := 0) (u := .int .i64 0) hRW_4
    clear hRW_4
    have hRW_6 : (((((((w1.setCell ⟨w.heap.size + 1, 0, none⟩ (.int .i64 0)).setCell ⟨w.heap.size + 1, 1, none⟩ (.slice none 0 0)).setCell ⟨w.heap.size + 1, 2, none⟩ (.slice none 0 0)).setCell ⟨w.heap.size + 1, 3, none⟩ (.slice none 0 0)).setCell ⟨w.heap.size + 1, 4, none⟩ (.bool false)).setCell ⟨w.heap.size + 2, 0, none⟩ (.int .i64 0)).setCell ⟨w.heap.size + 2, 1, none⟩ (.int .i64 0)).heap[w.heap.size + 2]? = some (.cells #[.int .i64 0, .int .i64 0, .int .i64 0] 29 (0, 0)) := box_set (j := 1) (u := .int .i64 0) hRW_5
    clear hRW_5
    have hRW_7 : ((((((((w1.setCell ⟨w.heap.size + 1, 0, none⟩ (.int .i64 0)).setCell ⟨w.heap.size + 1, 1, none⟩ (.slice none 0 0)).setCell ⟨w.heap.size + 1, 2, none⟩ (.slice none 0 0)).setCell ⟨w.heap.size + 1, 3, none⟩ (.slice none 0 0)).setCell ⟨w.heap.size + 1, 4, none⟩ (.bool false)).setCell ⟨w.heap.size + 2, 0, none⟩ (.int .i64 0)).setCell ⟨w.heap.size + 2, 1, none⟩ (.int .i64 0)).setCell ⟨w.heap.size + 2, 2, none⟩ (.int .i64 0)).heap[w.heap.size + 2]? = some (.cells #[.int .i64 0, .int .i64 0, .int .i64 0] 29 (0, 0)) := box_set (j := 2) (u := .int .i64 0) hRW_6
    clear hRW_6
    have hRW := hRW_7
    clear hRW_7
    have hBF : Below w.heap.size w ((((((((w1.setCell ⟨w.heap.size + 1, 0, none⟩ (.int .i64 0)).setCell ⟨w.heap.size + 1, 1, none⟩ (.slice none 0 0)).setCell ⟨w.heap.size + 1, 2, none⟩ (.slice none 0 0)).setCell ⟨w.heap.size + 1, 3, none⟩ (.slice none 0 0)).setCell ⟨w.heap.size + 1, 4, none⟩ (.bool false)).setCell ⟨w.heap.size + 2, 0, none⟩ (.int .i64 0)).setCell ⟨w.heap.size + 2, 1, none⟩ (.int .i64 0)).setCell ⟨w.heap.size + 2, 2, none⟩ (.int .i64 0)) := (below_set (below_set (below_set (below_set (below_set (below_set (below_set (below_set HB1.out (by simp only; omega) (.int .i64 0)) (by simp only; omega) (.slice none 0 0)) (by simp only; omega) (.slice none 0 0)) (by simp only; omega) (.slice none 0 0)) (by simp only; omega) (.bool false)) (by simp only; omega) (.int .i64 0)) (by simp only; omega) (.int .i64 0)) (by simp only; omega) (.int .i64 0))
    generalize ((((((((w1.setCell ⟨w.heap.size + 1, 0, none⟩ (.int .i64 0)).setCell ⟨w.heap.size + 1, 1, none⟩ (.slice none 0 0)).setCell ⟨w.heap.size + 1, 2, none⟩ (.slice none 0 0)).setCell ⟨w.heap.size + 1, 3, none⟩ (.slice none 0 0)).setCell ⟨w.heap.size + 1, 4, none⟩ (.bool false)).setCell ⟨w.heap.size + 2, 0, none⟩ (.int .i64 0)).setCell ⟨w.heap.size + 2, 1, none⟩ (.int .i64 0)).setCell ⟨w.heap.size + 2, 2, none⟩ (.int .i64 0)) = WF at *
    have y0 := box_cell (j := 0) hRC rfl
    have y1 := box_cell (j := 1) hRC rfl
    have y2 := box_cell (j := 2) hRC rfl
    have y3 := box_cell (j := 3) hRC rfl
    have y4 := box_cell (j := 4) hRC rfl
    have z0 := box_cell (j := 0) hRW rfl
    have z1 := box_cell (j := 1) hRW rfl
    have z2 := box_cell (j := 2) hRW rfl
    refine bodyPost_ret (v := .tuple #[.agg #[.int .i64 0, .slice none 0 0, .slice none 0 0, .slice none 0 0, .bool false], .int .i64 0, .bool false, .agg #[.int .i64 0, .int .i64 0, .int .i64 0], .int .i64 1]) (by simp [results, Try.results30, go_sem, y0, y1, y2, y3, y4, z0, z1, z2]) rfl ?_
    rw [HRR.out]
    exact ⟨_, rfl, own_zeroC _ _, hBF⟩
  · skip
    have q0 := box_cell (j := 0) HX1.out rfl
    have q1 := box_cell (j := 1) HX1.out rfl
    have q2 := box_cell (j := 2) HX1.out rfl
    have q3 := box_cell (j := 3) HX1.out rfl
    have q4 := box_cell (j := 4) HX1.out rfl
    go_wp2_with fail
    refine (HCS.out _ HB1.out).mono ?_
    rintro e w2 ⟨rfl, hb2⟩
    have hz2 := hb2.size
    have HX2 := Lib.hid (box_keep HX1.out hb2 (by omega))
    have HRc2 := Lib.hid (box_keep HRc1.out hb2 (by omega))
    have HRw2 := Lib.hid (box_keep HRw1.out hb2 (by omega))
    have HB2 := Lib.hid (HB1.out.trans (hb2.mono (by omega)))
    clear q0 q1 q2 q3 q4 hb2
    cases tk
    · skip
      have g0 := box_free HRc2.out 0
      have g1 := box_free HRc2.out 1
      have g2 := box_free HRc2.out 2
      have g3 := box_free HRc2.out 3
      have g4 := box_free HRc2.out 4
      have a0 := box_cell (j := 0) HRc2.out rfl
      have a1 := box_cell (j := 1) HRc2.out rfl
      have a2 := box_cell (j := 2) HRc2.out rfl
      have a3 := box_cell (j := 3) HRc2.out rfl
      have a4 := box_cell (j := 4) HRc2.out rfl
      have h0 := box_free HRw2.out 0
      have h1 := box_free HRw2.out 1
      have h2 := box_free HRw2.out 2
      have b0 := box_cell (j := 0) HRw2.out rfl
      have b1 := box_cell (j := 1) HRw2.out rfl
      have b2 := box_cell (j := 2) HRw2.out rfl
      go_wp2_with fail
      have hRC_0 : (w2.setCell ⟨w.heap.size + 1, 0, none⟩ (.int .i64 0)).heap[w.heap.size + 1]? = some (.cells #[.int .i64 0, .slice none 0 0, .slice none 0 0, .slice none 0 0, .bool false] 26 (0, 0)) := box_set (j := 0) (u := .int .i64 0) HRc2.out
      have hRC_1 : ((w2.setCell ⟨w.heap.size + 1, 0, none⟩ (.int .i64 0)).setCell ⟨w.heap.size + 1, 1, none⟩ (.slice none 0 0)).heap[w.heap.size + 1]? = some (.cells #[.int .i64 0, .slice none 0 0, .slice none 0 0, .slice none 0 0, .bool false] 26 (0, 0)) := box_set (j := 1) (u := .slice none 0 0) hRC_0
      clear hRC_0
      have hRC_2 : (((w2.setCell ⟨w.heap.size + 1, 0, none⟩ (.int .i64 0)).setCell ⟨w.heap.size + 1, 1, none⟩ (.slice none 0 0)).setCell ⟨w.heap.size + 1, 2, none⟩ (.slice none 0 0)).heap[w.heap.size + 1]? = some (.cells #[.int .i64 0, .slice none 0 0, .slice none 0 0, .slice none 0 0, .bool false] 26 (0, 0)) := box_set (j := 2) (u := .slice none 0 0) hRC_1
      clear hRC_1
      have hRC_3 : ((((w2.setCell ⟨w.heap.size + 1, 0, none⟩ (.int .i64 0)).setCell ⟨w.heap.size + 1, 1, none⟩ (.slice none 0 0)).setCell ⟨w.heap.size + 1, 2, none⟩ (.slice none 0 0)).setCell ⟨w.heap.size + 1, 3, none⟩ (.slice none 0 0)).heap[w.heap.size + 1]? = some (.cells #[.int .i64 0, .slice none 0 0, .slice none 0 0, .slice none 0 0, .bool false] 26 (0, 0)) := box_set (j := 3) (u := .slice none 0 0) hRC_2
      clear hRC_2
      have hRC_4 : (((((w2.setCell ⟨w.heap.size + 1, 0, none⟩ (.int .i64 0)).setCell ⟨w.heap.size + 1, 1, none⟩ (.slice none 0 0)).setCell ⟨w.heap.size + 1, 2, none⟩ (.slice none 0 0)).setCell ⟨w.heap.size + 1, 3, none⟩ (.slice none 0 0)).setCell ⟨w.heap.size + 1, 4, none⟩ (.bool false)).heap[w.heap.size + 1]? = some (.cells #[.int .i64 0, .slice none 0 0, .slice none 0 0, .slice none 0 0, .bool false] 26 (0, 0)) := box_set (j := 4) (u := .bool false) hRC_3
      clear hRC_3
      have hRC_5 : ((((((w2.setCell ⟨w.heap.size + 1, 0, none⟩ (.int .i64 0)).setCell ⟨w.heap.size + 1, 1, none⟩ (.slice none 0 0)).setCell ⟨w.heap.size + 1, 2, none⟩ (.slice none 0 0)).setCell ⟨w.heap.size + 1, 3, none⟩ (.slice none 0 0)).setCell ⟨w.heap.size + 1, 4, none⟩ (.bool false)).setCell ⟨w.heap.size + 2, 0, none⟩ (.int .i64 0)).heap[w.heap.size + 1]? = some (.cells #[.int .i64 0, .slice none 0 0, .slice none 0 0, .slice none 0 0, .bool false] 26 (0, 0)) := (Below.heap_setCell (((((w2.setCell ⟨w.heap.size + 1, 0, none⟩ (.int .i64 0)).setCell ⟨w.heap.size + 1, 1, none⟩ (.slice none 0 0)).setCell ⟨w.heap.size + 1, 2, none⟩ (.slice none 0 0)).setCell ⟨w.heap.size + 1, 3, none⟩ (.slice none 0 0)).setCell ⟨w.heap.size + 1, 4, none⟩ (.bool false)) ⟨w.heap.size + 2, 0, none⟩ (.int .i64 0) (w.heap.size + 1) (by simp only; omega)).trans hRC_4
      clear hRC_4
      have hRC_6 : (((((((w2.setCell ⟨w.heap.size + 1, 0, none⟩ (.int .i64 0)).setCell ⟨w.heap.size + 1, 1, none⟩ (.slice none 0 0)).setCell ⟨w.heap.size + 1, 2, none⟩ (.slice none 0 0)).setCell ⟨w.heap.size + 1, 3, none⟩ (.slice none 0 0)).setCell ⟨w.heap.size + 1, 4, none⟩ (.bool false)).setCell ⟨w.heap.size + 2, 0, none⟩ (.int .i64 0)).setCell ⟨w.heap.size + 2, 1, none⟩ (.int .i64 0)).heap[w.heap.size + 1]? = some (.cells #[.int .i64 0, .slice none 0 0, .slice none 0 0, .slice none 0 0, .bool false] 26 (0, 0)) := (Below.heap_setCell ((((((w2.setCell ⟨w.heap.size + 1, 0, none⟩ (.int .i64 0)).setCell ⟨w.heap.size + 1, 1, none⟩ (.slice none 0 0)).setCell ⟨w.heap.size + 1, 2, none⟩ (.slice none 0 0)).setCell ⟨w.heap.size + 1, 3, none⟩ (.slice none 0 0)).setCell ⟨w.heap.size + 1, 4, none⟩ (.bool false)).setCell ⟨w.heap.size + 2, 0, none⟩ (.int .i64 0)) ⟨w.heap.size + 2, 1, none⟩ (.int .i64 0) (w.heap.size + 1) (by simp only; omega)).trans hRC_5
      clear hRC_5
      have hRC_7 : ((((((((w2.setCell ⟨w.heap.size + 1, 0, none⟩ (.int .i64 0)).setCell ⟨w.heap.size + 1, 1, none⟩ (.slice none 0 0)).setCell ⟨w.heap.size + 1, 2, none⟩ (.slice none 0 0)).setCell ⟨w.heap.size + 1, 3, none⟩ (.slice none 0 0)).setCell ⟨w.heap.size + 1, 4, none⟩ (.bool false)).setCell ⟨w.heap.size + 2, 0, none⟩ (.int .i64 0)).setCell ⟨w.heap.size + 2, 1, none⟩ (.int .i64 0)).setCell ⟨w.heap.size + 2, 2, none⟩ (.int .i64 0)).heap[w.heap.size + 1]? = some (.cells #[.int .i64 0, .slice none 0 0, .slice none 0 0, .slice none 0 0, .bool false] 26 (0, 0)) := (Below.heap_setCell (((((((w2.setCell ⟨w.heap.size + 1, 0, none⟩ (.int .i64 0)).setCell ⟨w.heap.size + 1, 1, none⟩ (.slice none 0 0)).setCell ⟨w.heap.size + 1, 2, none⟩ (.slice none 0 0)).setCell ⟨w.heap.size + 1, 3, none⟩ (.slice none 0 0)).setCell ⟨w.heap.size + 1, 4, none⟩ (.bool false)).setCell ⟨w.heap.size + 2, 0, none⟩ (.int .i64 0)).setCell ⟨w.heap.size + 2, 1, none⟩ (.int .i64 0)) ⟨w.heap.size + 2, 2, none⟩ (.int .i64 0) (w.heap.size + 1) (by simp only; omega)).trans hRC_6
      clear hRC_6
      have hRC := hRC_7
      clear hRC_7
      have hRW_0 : (w2.setCell ⟨w.heap.size + 1, 0, none⟩ (.int .i64 0)).heap[w.heap.size + 2]? = some (.cells #[.int .i64 0, .int .i64 0, .int .i64 0] 29 (0, 0)) := (Below.heap_setCell w2 ⟨w.heap.size + 1, 0, none⟩ (.int .i64 0) (w.heap.size + 2) (by simp only; omega)).trans HRw2.out
      have hRW_1 : ((w2.setCell ⟨w.heap.size + 1, 0, none⟩ (.int .i64 0)).setCell ⟨w.heap.size + 1, 1, none⟩ (.slice none 0 0)).heap[w.heap.size + 2]? = some (.cells #[.int .i64 0, .int .i64 0, .int .i64 0] 29 (0, 0)) := (Below.heap_setCell (w2.setCell ⟨w.heap.size + 1, 0, none⟩ (.int .i64 0)) ⟨w.heap.size + 1, 1, none⟩ (.slice none 0 0) (w.heap.size + 2) (by simp only; omega)).trans hRW_0
      clear hRW_0
      have hRW_2 : (((w2.setCell ⟨w.heap.size + 1, 0, none⟩ (.int .i64 0)).setCell ⟨w.heap.size + 1, 1, none⟩ (.slice none 0 0)).setCell ⟨w.heap.size + 1, 2, none⟩ (.slice none 0 0)).heap[w.heap.size + 2]? = some (.cells #[.int .i64 0, .int .i64 0, .int .i64 0] 29 (0, 0)) := (Below.heap_setCell ((w2.setCell ⟨w.heap.size + 1, 0, none⟩ (.int .i64 0)).setCell ⟨w.heap.size + 1, 1, none⟩ (.slice none 0 0)) ⟨w.heap.size + 1, 2, none⟩ (.slice none 0 0) (w.heap.size + 2) (by simp only; omega)).trans hRW_1
      clear hRW_1
      have hRW_3 : ((((w2.setCell ⟨w.heap.size + 1, 0, none⟩ (.int .i64 0)).setCell ⟨w.heap.size + 1, 1, none⟩ (.slice none 0 0)).setCell ⟨w.heap.size + 1, 2, none⟩ (.slice none 0 0)).setCell ⟨w.heap.size + 1, 3, none⟩ (.slice none 0 0)).heap[w.heap.size + 2]? = some (.cells #[.int .i64 0, .int .i64 0, .int .i64 0] 29 (0, 0)) := (Below.heap_setCell (((w2.setCell ⟨w.heap.size + 1, 0, none⟩ (.int .i64 0)).setCell ⟨w.heap.size + 1, 1, none⟩ (.slice none 0 0)).setCell ⟨w.heap.size + 1, 2, none⟩ (.slice none 0 0)) ⟨w.heap.size + 1, 3, none⟩ (.slice none 0 0) (w.heap.size + 2) (by simp only; omega)).trans hRW_2
      clear hRW_2
      have hRW_4 : (((((w2.setCell ⟨w.heap.size + 1, 0, none⟩ (.int .i64 0)).setCell ⟨w.heap.size + 1, 1, none⟩ (.slice none 0 0)).setCell ⟨w.heap.size + 1, 2, none⟩ (.slice none 0 0)).setCell ⟨w.heap.size + 1, 3, none⟩ (.slice none 0 0)).setCell ⟨w.heap.size + 1, 4, none⟩ (.bool false)).heap[w.heap.size + 2]? = some (.cells #[.int .i64 0, .int .i64 0, .int .i64 0] 29 (0, 0)) := (Below.heap_setCell ((((w2.setCell ⟨w.heap.size + 1, 0, none⟩ (.int .i64 0)).setCell ⟨w.heap.size + 1, 1, none⟩ (.slice none 0 0)).setCell ⟨w.heap.size + 1, 2, none⟩ (.slice none 0 0)).setCell ⟨w.heap.size + 1, 3, none⟩ (.slice none 0 0)) ⟨w.heap.size + 1, 4, none⟩ (.bool false) (w.heap.size + 2) (by simp only; omega)).trans hRW_3
      clear hRW_3
      have hRW_5 : ((((((w2.setCell ⟨w.heap.size + 1, 0, none⟩ (.int .i64 0)).setCell ⟨w.heap.size + 1, 1, none⟩ (.slice none 0 0)).setCell ⟨w.heap.size + 1, 2, none⟩ (.slice none 0 0)).setCell ⟨w.heap.size + 1, 3, none⟩ (.slice none 0 0)).setCell ⟨w.heap.size + 1, 4, none⟩ (.bool false)).setCell ⟨w.heap.size + 2, 0, none⟩ (.int .i64 0)).heap[w.heap.size + 2]? = some (.cells #[.int .i64 0, .int .i64 0, .int .i64 0] 29 (0, 0)) := box_set (j := 0) (u := .int .i64 0) hRW_4
      clear hRW_4
      have hRW_6 : (((((((w2.setCell ⟨w.heap.size + 1, 0, none⟩ (.int .i64 0)).setCell ⟨w.heap.size + 1, 1, none⟩ (.slice none 0 0)).setCell ⟨w.heap.size + 1, 2, none⟩ (.slice none 0 0)).setCell ⟨w.heap.size + 1, 3, none⟩ (.slice none 0 0)).setCell ⟨w.heap.size + 1, 4, none⟩ (.bool false)).setCell ⟨w.heap.size + 2, 0, none⟩ (.int .i64 0)).setCell ⟨w.heap.size + 2, 1, none⟩ (.int .i64 0)).heap[w.heap.size + 2]? = some (.cells #[.int .i64 0, .int .i64 0, .int .i64 0] 29 (0, 0)) := box_set (j := 1) (u := .int .i64 0) hRW_5
      clear hRW_5
      have hRW_7 : ((((((((w2.setCell ⟨w.heap.size + 1, 0, none⟩ (.int .i64 0)).setCell ⟨w.heap.size + 1, 1, none⟩ (.slice none 0 0)).setCell ⟨w.heap.size + 1, 2, none⟩ (.slice none 0 0)).setCell ⟨w.heap.size + 1, 3, none⟩ (.slice none 0 0)).setCell ⟨w.heap.size + 1, 4, none⟩ (.bool false)).setCell ⟨w.heap.size + 2, 0, none⟩ (.int .i64 0)).setCell ⟨w.heap.size + 2, 1, none⟩ (.int .i64 0)).setCell ⟨w.heap.size + 2, 2, none⟩ (.int .i64 0)).heap[w.heap.size + 2]? = some (.cells #[.int .i64 0, .int .i64 0, .int .i64 0] 29 (0, 0)) := box_set (j := 2) (u := .int .i64 0) hRW_6
      clear hRW_6
      have hRW := hRW_7
      clear hRW_7
      have hBF : Below w.heap.size w ((((((((w2.setCell ⟨w.heap.size + 1, 0, none⟩ (.int .i64 0)).setCell ⟨w.heap.size + 1, 1, none⟩ (.slice none 0 0)).setCell ⟨w.heap.size + 1, 2, none⟩ (.slice none 0 0)).setCell ⟨w.heap.size + 1, 3, none⟩ (.slice none 0 0)).setCell ⟨w.heap.size + 1, 4, none⟩ (.bool false)).setCell ⟨w.heap.size + 2, 0, none⟩ (.int .i64 0)).setCell ⟨w.heap.size + 2, 1, none⟩ (.int .i64 0)).setCell ⟨w.heap.size + 2, 2, none⟩ (.int .i64 0)) := (below_set (below_set (below_set (below_set (below_set (below_set (below_set (below_set HB2.out (by simp only; omega) (.int .i64 0)) (by simp only; omega) (.slice none 0 0)) (by simp only; omega) (.slice none 0 0)) (by simp only; omega) (.slice none 0 0)) (by simp only; omega) (.bool false)) (by simp only; omega) (.int .i64 0)) (by simp only; omega) (.int .i64 0)) (by simp only; omega) (.int .i64 0))
      generalize ((((((((w2.setCell ⟨w.heap.size + 1, 0, none⟩ (.int .i64 0)).setCell ⟨w.heap.size + 1, 1, none⟩ (.slice none 0 0)).setCell ⟨w.heap.size + 1, 2, none⟩ (.slice none 0 0)).setCell ⟨w.heap.size + 1, 3, none⟩ (.slice none 0 0)).setCell ⟨w.heap.size + 1, 4, none⟩ (.bool false)).setCell ⟨w.heap.size + 2, 0, none⟩ (.int .i64 0)).setCell ⟨w.heap.size + 2, 1, none⟩ (.int .i64 0)).setCell ⟨w.heap.size + 2, 2, none⟩ (.int .i64 0)) = WF at *
      have y0 := box_cell (j := 0) hRC rfl
      have y1 := box_cell (j := 1) hRC rfl
      have y2 := box_cell (j := 2) hRC rfl
      have y3 := box_cell (j := 3) hRC rfl
      have y4 := box_cell (j := 4) hRC rfl
      have z0 := box_cell (j := 0) hRW rfl
      have z1 := box_cell (j := 1) hRW rfl
      have z2 := box_cell (j := 2) hRW rfl
      refine bodyPost_ret (v := .tuple #[.agg #[.int .i64 0, .slice none 0 0, .slice none 0 0, .slice none 0 0, .bool false], .int .i64 0, .bool false, .agg #[.int .i64 0, .int .i64 0, .int .i64 0], .int .i64 3]) (by simp [results, Try.results30, go_sem, y0, y1, y2, y3, y4, z0, z1, z2]) rfl ?_
      rw [HRR.out]
      exact ⟨_, rfl, own_zeroC _ _, hBF⟩
    · skip
      have HR0 := Lib.hid (show recvR ⟨cap, buf, sends, recvs, cl⟩ = ((recvX ⟨cap, buf, sends, recvs, cl⟩).1, (recvX ⟨cap, buf, sends, recvs, cl⟩).2.1, (recvX ⟨cap, buf, sends, recvs, cl⟩).2.2.1, (recvX ⟨cap, buf, sends, recvs, cl⟩).2.2.2, 0) from HRR.out)
      clear HRR
      have HRR := HR0
      clear HR0
      have q0 := box_cell (j := 0) HX2.out rfl
      have q1 := box_cell (j := 1) HX2.out rfl
      have q2 := box_cell (j := 2) HX2.out rfl
      have q3 := box_cell (j := 3) HX2.out rfl
      have q4 := box_cell (j := 4) HX2.out rfl
      go_wp2_with fail
      refine (HCP.out _ HB2.out).mono ?_
      rintro e w3 ⟨hb3, B1, e1, B2, e2, B3, e3, F1, F2, F3, rfl, o1, o2, o3, hF, d12, d13, d23⟩
      simp only at o1 o2 o3
      have hz3 := hb3.size
      have hal : Below w2.heap.size w2 (w3.alloc (.cells #[.int .i64 cap, .slice B1 buf.length e1, .slice B2 sends.length e2, .slice B3 recvs.length e3, .bool cl] 26)) := (hb3).alloc hz3 _
      have hal3 : Below w3.heap.size w3 (w3.alloc (.cells #[.int .i64 cap, .slice B1 buf.length e1, .slice B2 sends.length e2, .slice B3 recvs.length e3, .bool cl] 26)) := (Below.refl _ _).alloc (Nat.le_refl _) _
      have HX4 := Lib.hid (box_keep HX2.out hal (by omega))
      have HRc4 := Lib.hid (box_keep HRc2.out hal (by omega))
      have HRw4 := Lib.hid (box_keep HRw2.out hal (by omega))
      have HO4 := Lib.hid (box_new w3 #[.int .i64 cap, .slice B1 buf.length e1, .slice B2 sends.length e2, .slice B3 recvs.length e3, .bool cl] 26)
      have HB4 := Lib.hid (HB2.out.trans (hal.mono (by omega)))
      have HP1 := Lib.hid (o1.stay (w' := (w3.alloc (.cells #[.int .i64 cap, .slice B1 buf.length e1, .slice B2 sends.length e2, .slice B3 recvs.length e3, .bool cl] 26))) (fun g hg hlt => hal3.block g hlt) hal3.size)
      have HP2 := Lib.hid (o2.stay (w' := (w3.alloc (.cells #[.int .i64 cap, .slice B1 buf.length e1, .slice B2 sends.length e2, .slice B3 recvs.length e3, .bool cl] 26))) (fun g hg hlt => hal3.block g hlt) hal3.size)
      have HP3 := Lib.hid (o3.stay (w' := (w3.alloc (.cells #[.int .i64 cap, .slice B1 buf.length e1, .slice B2 sends.length e2, .slice B3 recvs.length e3, .bool cl] 26))) (fun g hg hlt => hal3.block g hlt) hal3.size)
      have hz4a : (w3.alloc (.cells #[.int .i64 cap, .slice B1 buf.length e1, .slice B2 sends.length e2, .slice B3 recvs.length e3, .bool cl] 26)).heap.size ≤ w3.heap.size + 1 := by simp
      have hz4b : w3.heap.size + 1 ≤ (w3.alloc (.cells #[.int .i64 cap, .slice B1 buf.length e1, .slice B2 sends.length e2, .slice B3 recvs.length e3, .bool cl] 26)).heap.size := by simp
      have HF := Lib.hid hF
      have HLOW := Lib.hid (show ∀ g, g < w2.heap.size ∨ w3.heap.size ≤ g → ¬ F1 g ∧ ¬ F2 g ∧ ¬ F3 g from fun g hg => ⟨fun h => by have := hF g (.inl h); omega, fun h => by have := hF g (.inr (.inl h)); omega, fun h => by have := hF g (.inr (.inr h)); omega⟩)
      have HD := Lib.hid (And.intro d12 (And.intro d13 d23))
      clear hal hal3 hb3 o1 o2 o3 hF d12 d13 d23 q0 q1 q2 q3 q4
      go_upto_region 6 with (fail)
      generalize (w3.alloc (.cells #[.int .i64 cap, .slice B1 buf.length e1, .slice B2 sends.length e2, .slice B3 recvs.length e3, .bool cl] 26)) = w4 at *
      go_wp2_with fail
      refine (l06None_any _).mono ?_
      rintro e w5 ⟨rfl, hb5⟩
      have hz5 := hb5.size
      have hal : Below w4.heap.size w4 (w5.alloc (.cells #[.int .i64 (-1), .int .i64 0, .int .i64 0] 29)) := hb5.alloc hz5 _
      have HX6 := Lib.hid (box_keep HX4.out hal (by omega))
      have HRc6 := Lib.hid (box_keep HRc4.out hal (by omega))
      have HRw6 := Lib.hid (box_keep HRw4.out hal (by omega))
      have HO6 := Lib.hid (box_keep HO4.out hal (by omega))
      have HW6 := Lib.hid (box_new w5 #[.int .i64 (-1), .int .i64 0, .int .i64 0] 29)
      have HB6 := Lib.hid (HB4.out.trans (hal.mono (by omega)))
      have HQ1 := Lib.hid (HP1.out.stay (w' := (w5.alloc (.cells #[.int .i64 (-1), .int .i64 0, .int .i64 0] 29))) (fun g hg hlt => hal.block g hlt) hal.size)
      have HQ2 := Lib.hid (HP2.out.stay (w' := (w5.alloc (.cells #[.int .i64 (-1), .int .i64 0, .int .i64 0] 29))) (fun g hg hlt => hal.block g hlt) hal.size)
      have HQ3 := Lib.hid (HP3.out.stay (w' := (w5.alloc (.cells #[.int .i64 (-1), .int .i64 0, .int .i64 0] 29))) (fun g hg hlt => hal.block g hlt) hal.size)
      have hz6a : (w5.alloc (.cells #[.int .i64 (-1), .int .i64 0, .int .i64 0] 29)).heap.size ≤ w5.heap.size + 1 := by simp
      have hz6b : w5.heap.size + 1 ≤ (w5.alloc (.cells #[.int .i64 (-1), .int .i64 0, .int .i64 0] 29)).heap.size := by simp
      clear hal hb5 HP1 HP2 HP3
      go_upto_region 7 with (fail)
      generalize (w5.alloc (.cells #[.int .i64 (-1), .int .i64 0, .int .i64 0] 29)) = w6 at *
      rcases sends with _ | ⟨sd, ss⟩
      · have b2 := box_cell (j := 2) HX6.out rfl
        rcases buf with _ | ⟨d, ds⟩
        · skip
          have m0 := box_cell (j := 0) HO6.out rfl
          have m1 := box_cell (j := 1) HO6.out rfl
          have m2 := box_cell (j := 2) HO6.out rfl
          have m3 := box_cell (j := 3) HO6.out rfl
          have m4 := box_cell (j := 4) HO6.out rfl
          have n0 := box_cell (j := 0) HW6.out rfl
          have n1 := box_cell (j := 1) HW6.out rfl
          have n2 := box_cell (j := 2) HW6.out rfl
          have gg0 := box_free HRc6.out 0
          have gg1 := box_free HRc6.out 1
          have gg2 := box_free HRc6.out 2
          have gg3 := box_free HRc6.out 3
          have gg4 := box_free HRc6.out 4
          have h0 := box_free HRw6.out 0
          have h1 := box_free HRw6.out 1
          have h2 := box_free HRw6.out 2
          have a0 := box_cell (j := 0) HRc6.out rfl
          have a1 := box_cell (j := 1) HRc6.out rfl
          have a2 := box_cell (j := 2) HRc6.out rfl
          have a3 := box_cell (j := 3) HRc6.out rfl
          have a4 := box_cell (j := 4) HRc6.out rfl
          have bb0 := box_cell (j := 0) HRw6.out rfl
          have bb1 := box_cell (j := 1) HRw6.out rfl
          have bb2 := box_cell (j := 2) HRw6.out rfl
          go_wp2_with fail
          go_region
          all_goals
            go_wp2_with fail
            have HN6 := Lib.hid (show ∀ g, g < w2.heap.size → ¬ F1 g ∧ ¬ F2 g ∧ ¬ F3 g from fun g hg => HLOW.out g (.inl hg))
            have HE6 := HD
            have HG6 := Lib.hid (show ∀ g, F1 g ∨ F2 g ∨ F3 g → w.heap.size ≤ g ∧ g < w6.heap.size from fun g hg => by have := HF.out g hg; omega)
            have hRC0_0 : (w6.setCell ⟨w.heap.size + 1, 0, none⟩ (.int .i64 cap)).heap[w.heap.size + 1]? = some (.cells #[.int .i64 cap, .slice none 0 0, .slice none 0 0, .slice none 0 0, .bool false] 26 (0, 0)) := box_set (j := 0) (u := .int .i64 cap) HRc6.out
            have hRC0_1 : ((w6.setCell ⟨w.heap.size + 1, 0, none⟩ (.int .i64 cap)).setCell ⟨w.heap.size + 1, 1, none⟩ (.slice B1 0 e1)).heap[w.heap.size + 1]? = some (.cells #[.int .i64 cap, .slice B1 0 e1, .slice none 0 0, .slice none 0 0, .bool false] 26 (0, 0)) := box_set (j := 1) (u := .slice B1 0 e1) hRC0_0
            clear hRC0_0
            have hRC0_2 : (((w6.setCell ⟨w.heap.size + 1, 0, none⟩ (.int .i64 cap)).setCell ⟨w.heap.size + 1, 1, none⟩ (.slice B1 0 e1)).setCell ⟨w.heap.size + 1, 2, none⟩ (.slice B2 0 e2)).heap[w.heap.size + 1]? = some (.cells #[.int .i64 cap, .slice B1 0 e1, .slice B2 0 e2, .slice none 0 0, .bool false] 26 (0, 0)) := box_set (j := 2) (u := .slice B2 0 e2) hRC0_1
            clear hRC0_1
            have hRC0_3 : ((((w6.setCell ⟨w.heap.size + 1, 0, none⟩ (.int .i64 cap)).setCell ⟨w.heap.size + 1, 1, none⟩ (.slice B1 0 e1)).setCell ⟨w.heap.size + 1, 2, none⟩ (.slice B2 0 e2)).setCell ⟨w.heap.size + 1, 3, none⟩ (.slice B3 recvs.length e3)).heap[w.heap.size + 1]? = some (.cells #[.int .i64 cap, .slice B1 0 e1, .slice B2 0 e2, .slice B3 recvs.length e3, .bool false] 26 (0, 0)) := box_set (j := 3) (u := .slice B3 recvs.length e3) hRC0_2
            clear hRC0_2
            have hRC0_4 : (((((w6.setCell ⟨w.heap.size + 1, 0, none⟩ (.int .i64 cap)).setCell ⟨w.heap.size + 1, 1, none⟩ (.slice B1 0 e1)).setCell ⟨w.heap.size + 1, 2, none⟩ (.slice B2 0 e2)).setCell ⟨w.heap.size + 1, 3, none⟩ (.slice B3 recvs.length e3)).setCell ⟨w.heap.size + 1, 4, none⟩ (.bool cl)).heap[w.heap.size + 1]? = some (.cells #[.int .i64 cap, .slice B1 0 e1, .slice B2 0 e2, .slice B3 recvs.length e3, .bool cl] 26 (0, 0)) := box_set (j := 4) (u := .bool cl) hRC0_3
            clear hRC0_3
            have hRC0_5 : ((((((w6.setCell ⟨w.heap.size + 1, 0, none⟩ (.int .i64 cap)).setCell ⟨w.heap.size + 1, 1, none⟩ (.slice B1 0 e1)).setCell ⟨w.heap.size + 1, 2, none⟩ (.slice B2 0 e2)).setCell ⟨w.heap.size + 1, 3, none⟩ (.slice B3 recvs.length e3)).setCell ⟨w.heap.size + 1, 4, none⟩ (.bool cl)).setCell ⟨w.heap.size + 2, 0, none⟩ (.int .i64 (-1))).heap[w.heap.size + 1]? = some (.cells #[.int .i64 cap, .slice B1 0 e1, .slice B2 0 e2, .slice B3 recvs.length e3, .bool cl] 26 (0, 0)) := (Below.heap_setCell (((((w6.setCell ⟨w.heap.size + 1, 0, none⟩ (.int .i64 cap)).setCell ⟨w.heap.size + 1, 1, none⟩ (.slice B1 0 e1)).setCell ⟨w.heap.size + 1, 2, none⟩ (.slice B2 0 e2)).setCell ⟨w.heap.size + 1, 3, none⟩ (.slice B3 recvs.length e3)).setCell ⟨w.heap.size + 1, 4, none⟩ (.bool cl)) ⟨w.heap.size + 2, 0, none⟩ (.int .i64 (-1)) (w.heap.size + 1) (by simp only; omega)).trans hRC0_4
            clear hRC0_4
            have hRC0_6 : (((((((w6.setCell ⟨w.heap.size + 1, 0, none⟩ (.int .i64 cap)).setCell ⟨w.heap.size + 1, 1, none⟩ (.slice B1 0 e1)).setCell ⟨w.heap.size + 1, 2, none⟩ (.slice B2 0 e2)).setCell ⟨w.heap.size + 1, 3, none⟩ (.slice B3 recvs.length e3)).setCell ⟨w.heap.size + 1, 4, none⟩ (.bool cl)).setCell ⟨w.heap.size + 2, 0, none⟩ (.int .i64 (-1))).setCell ⟨w.heap.size + 2, 1, none⟩ (.int .i64 0)).heap[w.heap.size + 1]? = some (.cells #[.int .i64 cap, .slice B1 0 e1, .slice B2 0 e2, .slice B3 recvs.length e3, .bool cl] 26 (0, 0)) := (Below.heap_setCell ((((((w6.setCell ⟨w.heap.size + 1, 0, none⟩ (.int .i64 cap)).setCell ⟨w.heap.size + 1, 1, none⟩ (.slice B1 0 e1)).setCell ⟨w.heap.size + 1, 2, none⟩ (.slice B2 0 e2)).setCell ⟨w.heap.size + 1, 3, none⟩ (.slice B3 recvs.length e3)).setCell ⟨w.heap.size + 1, 4, none⟩ (.bool cl)).setCell ⟨w.heap.size + 2, 0, none⟩ (.int .i64 (-1))) ⟨w.heap.size + 2, 1, none⟩ (.int .i64 0) (w.heap.size + 1) (by simp only; omega)).trans hRC0_5
            clear hRC0_5
            have hRC0_7 : ((((((((w6.setCell ⟨w.heap.size + 1, 0, none⟩ (.int .i64 cap)).setCell ⟨w.heap.size + 1, 1, none⟩ (.slice B1 0 e1)).setCell ⟨w.heap.size + 1, 2, none⟩ (.slice B2 0 e2)).setCell ⟨w.heap.size + 1, 3, none⟩ (.slice B3 recvs.length e3)).setCell ⟨w.heap.size + 1, 4, none⟩ (.bool cl)).setCell ⟨w.heap.size + 2, 0, none⟩ (.int .i64 (-1))).setCell ⟨w.heap.size + 2, 1, none⟩ (.int .i64 0)).setCell ⟨w.heap.size + 2, 2, none⟩ (.int .i64 0)).heap[w.heap.size + 1]? = some (.cells #[.int .i64 cap, .slice B1 0 e1, .slice B2 0 e2, .slice B3 recvs.length e3, .bool cl] 26 (0, 0)) := (Below.heap_setCell (((((((w6.setCell ⟨w.heap.size + 1, 0, none⟩ (.int .i64 cap)).setCell ⟨w.heap.size + 1, 1, none⟩ (.slice B1 0 e1)).setCell ⟨w.heap.size + 1, 2, none⟩ (.slice B2 0 e2)).setCell ⟨w.heap.size + 1, 3, none⟩ (.slice B3 recvs.length e3)).setCell ⟨w.heap.size + 1, 4, none⟩ (.bool cl)).setCell ⟨w.heap.size + 2, 0, none⟩ (.int .i64 (-1))).setCell ⟨w.heap.size + 2, 1, none⟩ (.int .i64 0)) ⟨w.heap.size + 2, 2, none⟩ (.int .i64 0) (w.heap.size + 1) (by simp only; omega)).trans hRC0_6
            clear hRC0_6
            have hRC0 := hRC0_7
            clear hRC0_7
            have hRW0_0 : (w6.setCell ⟨w.heap.size + 1, 0, none⟩ (.int .i64 cap)).heap[w.heap.size + 2]? = some (.cells #[.int .i64 0, .int .i64 0, .int .i64 0] 29 (0, 0)) := (Below.heap_setCell w6 ⟨w.heap.size + 1, 0, none⟩ (.int .i64 cap) (w.heap.size + 2) (by simp only; omega)).trans HRw6.out
            have hRW0_1 : ((w6.setCell ⟨w.heap.size + 1, 0, none⟩ (.int .i64 cap)).setCell ⟨w.heap.size + 1, 1, none⟩ (.slice B1 0 e1)).heap[w.heap.size + 2]? = some (.cells #[.int .i64 0, .int .i64 0, .int .i64 0] 29 (0, 0)) := (Below.heap_setCell (w6.setCell ⟨w.heap.size + 1, 0, none⟩ (.int .i64 cap)) ⟨w.heap.size + 1, 1, none⟩ (.slice B1 0 e1) (w.heap.size + 2) (by simp only; omega)).trans hRW0_0
            clear hRW0_0
            have hRW0_2 : (((w6.setCell ⟨w.heap.size + 1, 0, none⟩ (.int .i64 cap)).setCell ⟨w.heap.size + 1, 1, none⟩ (.slice B1 0 e1)).setCell ⟨w.heap.size + 1, 2, none⟩ (.slice B2 0 e2)).heap[w.heap.size + 2]? = some (.cells #[.int .i64 0, .int .i64 0, .int .i64 0] 29 (0, 0)) := (Below.heap_setCell ((w6.setCell ⟨w.heap.size + 1, 0, none⟩ (.int .i64 cap)).setCell ⟨w.heap.size + 1, 1, none⟩ (.slice B1 0 e1)) ⟨w.heap.size + 1, 2, none⟩ (.slice B2 0 e2) (w.heap.size + 2) (by simp only; omega)).trans hRW0_1
            clear hRW0_1
            have hRW0_3 : ((((w6.setCell ⟨w.heap.size + 1, 0, none⟩ (.int .i64 cap)).setCell ⟨w.heap.size + 1, 1, none⟩ (.slice B1 0 e1)).setCell ⟨w.heap.size + 1, 2, none⟩ (.slice B2 0 e2)).setCell ⟨w.heap.size + 1, 3, none⟩ (.slice B3 recvs.length e3)).heap[w.heap.size + 2]? = some (.cells #[.int .i64 0, .int .i64 0, .int .i64 0] 29 (0, 0)) := (Below.heap_setCell (((w6.setCell ⟨w.heap.size + 1, 0, none⟩ (.int .i64 cap)).setCell ⟨w.heap.size + 1, 1, none⟩ (.slice B1 0 e1)).setCell ⟨w.heap.size + 1, 2, none⟩ (.slice B2 0 e2)) ⟨w.heap.size + 1, 3, none⟩ (.slice B3 recvs.length e3) (w.heap.size + 2) (by simp only; omega)).trans hRW0_2
            clear hRW0_2
            have hRW0_4 : (((((w6.setCell ⟨w.heap.size + 1, 0, none⟩ (.int .i64 cap)).setCell ⟨w.heap.size + 1, 1, none⟩ (.slice B1 0 e1)).setCell ⟨w.heap.size + 1, 2, none⟩ (.slice B2 0 e2)).setCell ⟨w.heap.size + 1, 3, none⟩ (.slice B3 recvs.length e3)).setCell ⟨w.heap.size + 1, 4, none⟩ (.bool cl)).heap[w.heap.size + 2]? = some (.cells #[.int .i64 0, .int .i64 0, .int .i64 0] 29 (0, 0)) := (Below.heap_setCell ((((w6.setCell ⟨w.heap.size + 1, 0, none⟩ (.int .i64 cap)).setCell ⟨w.heap.size + 1, 1, none⟩ (.slice B1 0 e1)).setCell ⟨w.heap.size + 1, 2, none⟩ (.slice B2 0 e2)).setCell ⟨w.heap.size + 1, 3, none⟩ (.slice B3 recvs.length e3)) ⟨w.heap.size + 1, 4, none⟩ (.bool cl) (w.heap.size + 2) (by simp only; omega)).trans hRW0_3
            clear hRW0_3
            have hRW0_5 : ((((((w6.setCell ⟨w.heap.size + 1, 0, none⟩ (.int .i64 cap)).setCell ⟨w.heap.size + 1, 1, none⟩ (.slice B1 0 e1)).setCell ⟨w.heap.size + 1, 2, none⟩ (.slice B2 0 e2)).setCell ⟨w.heap.size + 1, 3, none⟩ (.slice B3 recvs.length e3)).setCell ⟨w.heap.size + 1, 4, none⟩ (.bool cl)).setCell ⟨w.heap.size + 2, 0, none⟩ (.int .i64 (-1))).heap[w.heap.size + 2]? = some (.cells #[.int .i64 (-1), .int .i64 0, .int .i64 0] 29 (0, 0)) := box_set (j := 0) (u := .int .i64 (-1)) hRW0_4
            clear hRW0_4
            have hRW0_6 : (((((((w6.setCell ⟨w.heap.size + 1, 0, none⟩ (.int .i64 cap)).setCell ⟨w.heap.size + 1, 1, none⟩ (.slice B1 0 e1)).setCell ⟨w.heap.size + 1, 2, none⟩ (.slice B2 0 e2)).setCell ⟨w.heap.size + 1, 3, none⟩ (.slice B3 recvs.length e3)).setCell ⟨w.heap.size + 1, 4, none⟩ (.bool cl)).setCell ⟨w.heap.size + 2, 0, none⟩ (.int .i64 (-1))).setCell ⟨w.heap.size + 2, 1, none⟩ (.int .i64 0)).heap[w.heap.size + 2]? = some (.cells #[.int .i64 (-1), .int .i64 0, .int .i64 0] 29 (0, 0)) := box_set (j := 1) (u := .int .i64 0) hRW0_5
            clear hRW0_5
            have hRW0_7 : ((((((((w6.setCell ⟨w.heap.size + 1, 0, none⟩ (.int .i64 cap)).setCell ⟨w.heap.size + 1, 1, none⟩ (.slice B1 0 e1)).setCell ⟨w.heap.size + 1, 2, none⟩ (.slice B2 0 e2)).setCell ⟨w.heap.size + 1, 3, none⟩ (.slice B3 recvs.length e3)).setCell ⟨w.heap.size + 1, 4, none⟩ (.bool cl)).setCell ⟨w.heap.size + 2, 0, none⟩ (.int .i64 (-1))).setCell ⟨w.heap.size + 2, 1, none⟩ (.int .i64 0)).setCell ⟨w.heap.size + 2, 2, none⟩ (.int .i64 0)).heap[w.heap.size + 2]? = some (.cells #[.int .i64 (-1), .int .i64 0, .int .i64 0] 29 (0, 0)) := box_set (j := 2) (u := .int .i64 0) hRW0_6
            clear hRW0_6
            have hRW0 := hRW0_7
            clear hRW0_7
            have hBF0 : Below w.heap.size w ((((((((w6.setCell ⟨w.heap.size + 1, 0, none⟩ (.int .i64 cap)).setCell ⟨w.heap.size + 1, 1, none⟩ (.slice B1 0 e1)).setCell ⟨w.heap.size + 1, 2, none⟩ (.slice B2 0 e2)).setCell ⟨w.heap.size + 1, 3, none⟩ (.slice B3 recvs.length e3)).setCell ⟨w.heap.size + 1, 4, none⟩ (.bool cl)).setCell ⟨w.heap.size + 2, 0, none⟩ (.int .i64 (-1))).setCell ⟨w.heap.size + 2, 1, none⟩ (.int .i64 0)).setCell ⟨w.heap.size + 2, 2, none⟩ (.int .i64 0)) := (below_set (below_set (below_set (below_set (below_set (below_set (below_set (below_set HB6.out (by simp only; omega) (.int .i64 cap)) (by simp only; omega) (.slice B1 0 e1)) (by simp only; omega) (.slice B2 0 e2)) (by simp only; omega) (.slice B3 recvs.length e3)) (by simp only; omega) (.bool cl)) (by simp only; omega) (.int .i64 (-1))) (by simp only; omega) (.int .i64 0)) (by simp only; omega) (.int .i64 0))
            have hO1_0 := OwnR.setCell (o := 0) (g := w.heap.size + 1) HQ1.out (HN6.out _ (by omega)).1 (.int .i64 cap)
            have hO1_1 := OwnR.setCell (o := 1) (g := w.heap.size + 1) hO1_0 (HN6.out _ (by omega)).1 (.slice B1 0 e1)
            clear hO1_0
            have hO1_2 := OwnR.setCell (o := 2) (g := w.heap.size + 1) hO1_1 (HN6.out _ (by omega)).1 (.slice B2 0 e2)
            clear hO1_1
            have hO1_3 := OwnR.setCell (o := 3) (g := w.heap.size + 1) hO1_2 (HN6.out _ (by omega)).1 (.slice B3 recvs.length e3)
            clear hO1_2
            have hO1_4 := OwnR.setCell (o := 4) (g := w.heap.size + 1) hO1_3 (HN6.out _ (by omega)).1 (.bool cl)
            clear hO1_3
            have hO1_5 := OwnR.setCell (o := 0) (g := w.heap.size + 2) hO1_4 (HN6.out _ (by omega)).1 (.int .i64 (-1))
            clear hO1_4
            have hO1_6 := OwnR.setCell (o := 1) (g := w.heap.size + 2) hO1_5 (HN6.out _ (by omega)).1 (.int .i64 0)
            clear hO1_5
            have hO1_7 := OwnR.setCell (o := 2) (g := w.heap.size + 2) hO1_6 (HN6.out _ (by omega)).1 (.int .i64 0)
            clear hO1_6
            have hO1 := hO1_7
            clear hO1_7
            have hO2_0 := OwnR.setCell (o := 0) (g := w.heap.size + 1) HQ2.out (HN6.out _ (by omega)).2.1 (.int .i64 cap)
            have hO2_1 := OwnR.setCell (o := 1) (g := w.heap.size + 1) hO2_0 (HN6.out _ (by omega)).2.1 (.slice B1 0 e1)
            clear hO2_0
            have hO2_2 := OwnR.setCell (o := 2) (g := w.heap.size + 1) hO2_1 (HN6.out _ (by omega)).2.1 (.slice B2 0 e2)
            clear hO2_1
            have hO2_3 := OwnR.setCell (o := 3) (g := w.heap.size + 1) hO2_2 (HN6.out _ (by omega)).2.1 (.slice B3 recvs.length e3)
            clear hO2_2
            have hO2_4 := OwnR.setCell (o := 4) (g := w.heap.size + 1) hO2_3 (HN6.out _ (by omega)).2.1 (.bool cl)
            clear hO2_3
            have hO2_5 := OwnR.setCell (o := 0) (g := w.heap.size + 2) hO2_4 (HN6.out _ (by omega)).2.1 (.int .i64 (-1))
            clear hO2_4
            have hO2_6 := OwnR.setCell (o := 1) (g := w.heap.size + 2) hO2_5 (HN6.out _ (by omega)).2.1 (.int .i64 0)
            clear hO2_5
            have hO2_7 := OwnR.setCell (o := 2) (g := w.heap.size + 2) hO2_6 (HN6.out _ (by omega)).2.1 (.int .i64 0)
            clear hO2_6
            have hO2 := hO2_7
            clear hO2_7
            have hO3_0 := OwnR.setCell (o := 0) (g := w.heap.size + 1) HQ3.out (HN6.out _ (by omega)).2.2 (.int .i64 cap)
            have hO3_1 := OwnR.setCell (o := 1) (g := w.heap.size + 1) hO3_0 (HN6.out _ (by omega)).2.2 (.slice B1 0 e1)
            clear hO3_0
            have hO3_2 := OwnR.setCell (o := 2) (g := w.heap.size + 1) hO3_1 (HN6.out _ (by omega)).2.2 (.slice B2 0 e2)
            clear hO3_1
            have hO3_3 := OwnR.setCell (o := 3) (g := w.heap.size + 1) hO3_2 (HN6.out _ (by omega)).2.2 (.slice B3 recvs.length e3)
            clear hO3_2
            have hO3_4 := OwnR.setCell (o := 4) (g := w.heap.size + 1) hO3_3 (HN6.out _ (by omega)).2.2 (.bool cl)
            clear hO3_3
            have hO3_5 := OwnR.setCell (o := 0) (g := w.heap.size + 2) hO3_4 (HN6.out _ (by omega)).2.2 (.int .i64 (-1))
            clear hO3_4
            have hO3_6 := OwnR.setCell (o := 1) (g := w.heap.size + 2) hO3_5 (HN6.out _ (by omega)).2.2 (.int .i64 0)
            clear hO3_5
            have hO3_7 := OwnR.setCell (o := 2) (g := w.heap.size + 2) hO3_6 (HN6.out _ (by omega)).2.2 (.int .i64 0)
            clear hO3_6
            have hO3 := hO3_7
            clear hO3_7
            have hzF0 : ((((((((w6.setCell ⟨w.heap.size + 1, 0, none⟩ (.int .i64 cap)).setCell ⟨w.heap.size + 1, 1, none⟩ (.slice B1 0 e1)).setCell ⟨w.heap.size + 1, 2, none⟩ (.slice B2 0 e2)).setCell ⟨w.heap.size + 1, 3, none⟩ (.slice B3 recvs.length e3)).setCell ⟨w.heap.size + 1, 4, none⟩ (.bool cl)).setCell ⟨w.heap.size + 2, 0, none⟩ (.int .i64 (-1))).setCell ⟨w.heap.size + 2, 1, none⟩ (.int .i64 0)).setCell ⟨w.heap.size + 2, 2, none⟩ (.int .i64 0)).heap.size = w6.heap.size := by simp [World.setCell]
            generalize ((((((((w6.setCell ⟨w.heap.size + 1, 0, none⟩ (.int .i64 cap)).setCell ⟨w.heap.size + 1, 1, none⟩ (.slice B1 0 e1)).setCell ⟨w.heap.size + 1, 2, none⟩ (.slice B2 0 e2)).setCell ⟨w.heap.size + 1, 3, none⟩ (.slice B3 recvs.length e3)).setCell ⟨w.heap.size + 1, 4, none⟩ (.bool cl)).setCell ⟨w.heap.size + 2, 0, none⟩ (.int .i64 (-1))).setCell ⟨w.heap.size + 2, 1, none⟩ (.int .i64 0)).setCell ⟨w.heap.size + 2, 2, none⟩ (.int .i64 0)) = WE at *
            have hRC : WE.drew.heap[w.heap.size + 1]? = some (.cells #[.int .i64 cap, .slice B1 0 e1, .slice B2 0 e2, .slice B3 recvs.length e3, .bool cl] 26 (0, 0)) := hRC0
            have hRW : WE.drew.heap[w.heap.size + 2]? = some (.cells #[.int .i64 (-1), .int .i64 0, .int .i64 0] 29 (0, 0)) := hRW0
            have hBF : Below w.heap.size w WE.drew := below_drawn hBF0 1
            have hzF : WE.drew.heap.size = w6.heap.size := hzF0
            have hP1 := hO1.stay (w' := WE.drew) (fun _ _ _ => rfl) (Nat.le_refl _)
            have hP2 := hO2.stay (w' := WE.drew) (fun _ _ _ => rfl) (Nat.le_refl _)
            have hP3 := hO3.stay (w' := WE.drew) (fun _ _ _ => rfl) (Nat.le_refl _)
            clear hRC0 hRW0 hBF0 hzF0 hO1 hO2 hO3
            generalize WE.drew = WF at *
            have y0 := box_cell (j := 0) hRC rfl
            have y1 := box_cell (j := 1) hRC rfl
            have y2 := box_cell (j := 2) hRC rfl
            have y3 := box_cell (j := 3) hRC rfl
            have y4 := box_cell (j := 4) hRC rfl
            have z0 := box_cell (j := 0) hRW rfl
            have z1 := box_cell (j := 1) hRW rfl
            have z2 := box_cell (j := 2) hRW rfl
            refine bodyPost_ret (v := .tuple #[.agg #[.int .i64 cap, .slice B1 0 e1, .slice B2 0 e2, .slice B3 recvs.length e3, .bool cl], .int .i64 0, .bool false, .agg #[.int .i64 (-1), .int .i64 0, .int .i64 0], .int .i64 0]) (by simp [results, Try.results30, go_sem, y0, y1, y2, y3, y4, z0, z1, z2]) rfl ?_
            rw [HRR.out]
            refine ⟨_, rfl, ownChan (x := (⟨cap, [], [], recvs, cl⟩ : DChan)) hw0 (TailR.of (A := B1) hP1) (TailR.of hP2) (TailR.of hP3) ?_ ?_ ?_ HE6.out.1 HE6.out.2.1 HE6.out.2.2, hBF⟩
            · exact fun g hg => by have := HG6.out g (.inl hg); omega
            · exact fun g hg => by have := HG6.out g (.inr (.inl hg)); omega
            · exact fun g hg => by have := HG6.out g (.inr (.inr hg)); omega
        · skip
          have hs1 := HQ1.out.seen (hi := w6.heap.size) fun g hg => ((show ∀ g, F1 g ∨ F2 g ∨ F3 g → w.heap.size ≤ g ∧ g < w6.heap.size from fun g hg => by have := HF.out g hg; omega) g (.inl hg)).2
          obtain ⟨hx1, g1, o1, us1, rfl, hg1, ⟨rfl, hwv⟩, hcell1⟩ := hs1.at_ (i := 0) (by first | omega | simp)
          have cv0 := hcell1 0 _ rfl
          simp only [show Lay.int.size = 1 from rfl, ← Nat.add_assoc, Nat.add_zero, Nat.mul_one, Nat.zero_mul, List.getElem_cons_zero] at cv0
          have k1 : ∀ W, (Instr.slice 23 (.slice (some ⟨g1, o1, none⟩) (ds.length + 1) e1) (some (.int .i64 1)) none none).run Try.prog W = .ok (.slice (restA (some ⟨g1, o1, none⟩) 1 e1) ds.length (e1 - 1)) W := fun W => by
            have := run_rest (P := Try.prog) Try.underlying23 int_size W ((some ⟨g1, o1, none⟩)) (ds.length + 1) e1 (by omega)
            rw [Nat.add_sub_cancel] at this
            exact this
          have HV1 := Lib.hid (TailR.cut (n := ds.length) (TailR.of HQ1.out))
          have q0 := box_cell (j := 0) HO6.out rfl
          have q1 := box_cell (j := 1) HO6.out rfl
          have q2 := box_cell (j := 2) HO6.out rfl
          have q3 := box_cell (j := 3) HO6.out rfl
          have q4 := box_cell (j := 4) HO6.out rfl
          have f0 := box_free HO6.out 0
          have f1 := box_free HO6.out 1
          have f2 := box_free HO6.out 2
          have f3 := box_free HO6.out 3
          have f4 := box_free HO6.out 4
          clear hcell1 hs1 hwv hx1
          go_upto_region 15 with (fail)
          have HRc7 := Lib.hid (show (w6.setCell ⟨w3.heap.size, 1, none⟩ (.slice (restA (some ⟨g1, o1, none⟩) 1 e1) ds.length (e1 - 1))).heap[w.heap.size + 1]? = some (.cells #[.int .i64 0, .slice none 0 0, .slice none 0 0, .slice none 0 0, .bool false] 26 (0, 0)) from ((Below.heap_setCell w6 ⟨w3.heap.size, 1, none⟩ (.slice (restA (some ⟨g1, o1, none⟩) 1 e1) ds.length (e1 - 1)) (w.heap.size + 1) (by simp only; omega)).trans HRc6.out))
          have HRw7 := Lib.hid (show (w6.setCell ⟨w3.heap.size, 1, none⟩ (.slice (restA (some ⟨g1, o1, none⟩) 1 e1) ds.length (e1 - 1))).heap[w.heap.size + 2]? = some (.cells #[.int .i64 0, .int .i64 0, .int .i64 0] 29 (0, 0)) from ((Below.heap_setCell w6 ⟨w3.heap.size, 1, none⟩ (.slice (restA (some ⟨g1, o1, none⟩) 1 e1) ds.length (e1 - 1)) (w.heap.size + 2) (by simp only; omega)).trans HRw6.out))
          have HO7 := Lib.hid (show (w6.setCell ⟨w3.heap.size, 1, none⟩ (.slice (restA (some ⟨g1, o1, none⟩) 1 e1) ds.length (e1 - 1))).heap[w3.heap.size]? = some (.cells #[.int .i64 cap, .slice (restA (some ⟨g1, o1, none⟩) 1 e1) ds.length (e1 - 1), .slice B2 0 e2, .slice B3 recvs.length e3, .bool cl] 26 (0, 0)) from (box_set (j := 1) (u := .slice (restA (some ⟨g1, o1, none⟩) 1 e1) ds.length (e1 - 1)) HO6.out))
          have HW7 := Lib.hid (show (w6.setCell ⟨w3.heap.size, 1, none⟩ (.slice (restA (some ⟨g1, o1, none⟩) 1 e1) ds.length (e1 - 1))).heap[w5.heap.size]? = some (.cells #[.int .i64 (-1), .int .i64 0, .int .i64 0] 29 (0, 0)) from ((Below.heap_setCell w6 ⟨w3.heap.size, 1, none⟩ (.slice (restA (some ⟨g1, o1, none⟩) 1 e1) ds.length (e1 - 1)) (w5.heap.size) (by simp only; omega)).trans HW6.out))
          have HB7 := Lib.hid (show Below w.heap.size w (w6.setCell ⟨w3.heap.size, 1, none⟩ (.slice (restA (some ⟨g1, o1, none⟩) 1 e1) ds.length (e1 - 1))) from (below_set HB6.out (by simp only; omega) (.slice (restA (some ⟨g1, o1, none⟩) 1 e1) ds.length (e1 - 1))))
          have HY1 := Lib.hid (TailR.setCell (o := 1) (g := w3.heap.size) HV1.out (HLOW.out _ (by omega)).1 (.slice (restA (some ⟨g1, o1, none⟩) 1 e1) ds.length (e1 - 1)))
          have HY2 := Lib.hid (OwnR.setCell (o := 1) (g := w3.heap.size) HQ2.out (HLOW.out _ (by omega)).2.1 (.slice (restA (some ⟨g1, o1, none⟩) 1 e1) ds.length (e1 - 1)))
          have HY3 := Lib.hid (OwnR.setCell (o := 1) (g := w3.heap.size) HQ3.out (HLOW.out _ (by omega)).2.2 (.slice (restA (some ⟨g1, o1, none⟩) 1 e1) ds.length (e1 - 1)))
          have hzz := Lib.hid (show (w6.setCell ⟨w3.heap.size, 1, none⟩ (.slice (restA (some ⟨g1, o1, none⟩) 1 e1) ds.length (e1 - 1))).heap.size = w6.heap.size by simp [World.setCell])
          clear f0 f1 f2 f3 f4 q0 q1 q2 q3 q4 k1 cv0
          generalize (w6.setCell ⟨w3.heap.size, 1, none⟩ (.slice (restA (some ⟨g1, o1, none⟩) 1 e1) ds.length (e1 - 1))) = w7 at *
          have zz_w7 := Nat.le_of_eq hzz.out
          have yy_w7 := Nat.le_of_eq hzz.out.symm
          clear hzz
          have m0 := box_cell (j := 0) HO7.out rfl
          have m1 := box_cell (j := 1) HO7.out rfl
          have m2 := box_cell (j := 2) HO7.out rfl
          have m3 := box_cell (j := 3) HO7.out rfl
          have m4 := box_cell (j := 4) HO7.out rfl
          have n0 := box_cell (j := 0) HW7.out rfl
          have n1 := box_cell (j := 1) HW7.out rfl
          have n2 := box_cell (j := 2) HW7.out rfl
          have gg0 := box_free HRc7.out 0
          have gg1 := box_free HRc7.out 1
          have gg2 := box_free HRc7.out 2
          have gg3 := box_free HRc7.out 3
          have gg4 := box_free HRc7.out 4
          have h0 := box_free HRw7.out 0
          have h1 := box_free HRw7.out 1
          have h2 := box_free HRw7.out 2
          have a0 := box_cell (j := 0) HRc7.out rfl
          have a1 := box_cell (j := 1) HRc7.out rfl
          have a2 := box_cell (j := 2) HRc7.out rfl
          have a3 := box_cell (j := 3) HRc7.out rfl
          have a4 := box_cell (j := 4) HRc7.out rfl
          have bb0 := box_cell (j := 0) HRw7.out rfl
          have bb1 := box_cell (j := 1) HRw7.out rfl
          have bb2 := box_cell (j := 2) HRw7.out rfl
          go_wp2_with fail
          go_region
          all_goals
            go_wp2_with fail
            have HN6 := Lib.hid (show ∀ g, g < w2.heap.size → ¬ F1 g ∧ ¬ F2 g ∧ ¬ F3 g from fun g hg => HLOW.out g (.inl hg))
            have HE6 := HD
            have HG6 := Lib.hid (show ∀ g, F1 g ∨ F2 g ∨ F3 g → w.heap.size ≤ g ∧ g < w7.heap.size from fun g hg => by have := HF.out g hg; omega)
            have hRC0_0 : (w7.setCell ⟨w.heap.size + 1, 0, none⟩ (.int .i64 cap)).heap[w.heap.size + 1]? = some (.cells #[.int .i64 cap, .slice none 0 0, .slice none 0 0, .slice none 0 0, .bool false] 26 (0, 0)) := box_set (j := 0) (u := .int .i64 cap) HRc7.out
            have hRC0_1 : ((w7.setCell ⟨w.heap.size + 1, 0, none⟩ (.int .i64 cap)).setCell ⟨w.heap.size + 1, 1, none⟩ (.slice (restA (some ⟨g1, o1, none⟩) 1 e1) ds.length (e1 - 1))).heap[w.heap.size + 1]? = some (.cells #[.int .i64 cap, .slice (restA (some ⟨g1, o1, none⟩) 1 e1) ds.length (e1 - 1), .slice none 0 0, .slice none 0 0, .bool false] 26 (0, 0)) := box_set (j := 1) (u := .slice (restA (some ⟨g1, o1, none⟩) 1 e1) ds.length (e1 - 1)) hRC0_0
            clear hRC0_0
            have hRC0_2 : (((w7.setCell ⟨w.heap.size + 1, 0, none⟩ (.int .i64 cap)).setCell ⟨w.heap.size + 1, 1, none⟩ (.slice (restA (some ⟨g1, o1, none⟩) 1 e1) ds.length (e1 - 1))).setCell ⟨w.heap.size + 1, 2, none⟩ (.slice B2 0 e2)).heap[w.heap.size + 1]? = some (.cells #[.int .i64 cap, .slice (restA (some ⟨g1, o1, none⟩) 1 e1) ds.length (e1 - 1), .slice B2 0 e2, .slice none 0 0, .bool false] 26 (0, 0)) := box_set (j := 2) (u := .slice B2 0 e2) hRC0_1
            clear hRC0_1
            have hRC0_3 : ((((w7.setCell ⟨w.heap.size + 1, 0, none⟩ (.int .i64 cap)).setCell ⟨w.heap.size + 1, 1, none⟩ (.slice (restA (some ⟨g1, o1, none⟩) 1 e1) ds.length (e1 - 1))).setCell ⟨w.heap.size + 1, 2, none⟩ (.slice B2 0 e2)).setCell ⟨w.heap.size + 1, 3, none⟩ (.slice B3 recvs.length e3)).heap[w.heap.size + 1]? = some (.cells #[.int .i64 cap, .slice (restA (some ⟨g1, o1, none⟩) 1 e1) ds.length (e1 - 1), .slice B2 0 e2, .slice B3 recvs.length e3, .bool false] 26 (0, 0)) := box_set (j := 3) (u := .slice B3 recvs.length e3) hRC0_2
            clear hRC0_2
            have hRC0_4 : (((((w7.setCell ⟨w.heap.size + 1, 0, none⟩ (.int .i64 cap)).setCell ⟨w.heap.size + 1, 1, none⟩ (.slice (restA (some ⟨g1, o1, none⟩) 1 e1) ds.length (e1 - 1))).setCell ⟨w.heap.size + 1, 2, none⟩ (.slice B2 0 e2)).setCell ⟨w.heap.size + 1, 3, none⟩ (.slice B3 recvs.length e3)).setCell ⟨w.heap.size + 1, 4, none⟩ (.bool cl)).heap[w.heap.size + 1]? = some (.cells #[.int .i64 cap, .slice (restA (some ⟨g1, o1, none⟩) 1 e1) ds.length (e1 - 1), .slice B2 0 e2, .slice B3 recvs.length e3, .bool cl] 26 (0, 0)) := box_set (j := 4) (u := .bool cl) hRC0_3
            clear hRC0_3
            have hRC0_5 : ((((((w7.setCell ⟨w.heap.size + 1, 0, none⟩ (.int .i64 cap)).setCell ⟨w.heap.size + 1, 1, none⟩ (.slice (restA (some ⟨g1, o1, none⟩) 1 e1) ds.length (e1 - 1))).setCell ⟨w.heap.size + 1, 2, none⟩ (.slice B2 0 e2)).setCell ⟨w.heap.size + 1, 3, none⟩ (.slice B3 recvs.length e3)).setCell ⟨w.heap.size + 1, 4, none⟩ (.bool cl)).setCell ⟨w.heap.size + 2, 0, none⟩ (.int .i64 (-1))).heap[w.heap.size + 1]? = some (.cells #[.int .i64 cap, .slice (restA (some ⟨g1, o1, none⟩) 1 e1) ds.length (e1 - 1), .slice B2 0 e2, .slice B3 recvs.length e3, .bool cl] 26 (0, 0)) := (Below.heap_setCell (((((w7.setCell ⟨w.heap.size + 1, 0, none⟩ (.int .i64 cap)).setCell ⟨w.heap.size + 1, 1, none⟩ (.slice (restA (some ⟨g1, o1, none⟩) 1 e1) ds.length (e1 - 1))).setCell ⟨w.heap.size + 1, 2, none⟩ (.slice B2 0 e2)).setCell ⟨w.heap.size + 1, 3, none⟩ (.slice B3 recvs.length e3)).setCell ⟨w.heap.size + 1, 4, none⟩ (.bool cl)) ⟨w.heap.size + 2, 0, none⟩ (.int .i64 (-1)) (w.heap.size + 1) (by simp only; omega)).trans hRC0_4
            clear hRC0_4
            have hRC0_6 : (((((((w7.setCell ⟨w.heap.size + 1, 0, none⟩ (.int .i64 cap)).setCell ⟨w.heap.size + 1, 1, none⟩ (.slice (restA (some ⟨g1, o1, none⟩) 1 e1) ds.length (e1 - 1))).setCell ⟨w.heap.size + 1, 2, none⟩ (.slice B2 0 e2)).setCell ⟨w.heap.size + 1, 3, none⟩ (.slice B3 recvs.length e3)).setCell ⟨w.heap.size + 1, 4, none⟩ (.bool cl)).setCell ⟨w.heap.size + 2, 0, none⟩ (.int .i64 (-1))).setCell ⟨w.heap.size + 2, 1, none⟩ (.int .i64 0)).heap[w.heap.size + 1]? = some (.cells #[.int .i64 cap, .slice (restA (some ⟨g1, o1, none⟩) 1 e1) ds.length (e1 - 1), .slice B2 0 e2, .slice B3 recvs.length e3, .bool cl] 26 (0, 0)) := (Below.heap_setCell ((((((w7.setCell ⟨w.heap.size + 1, 0, none⟩ (.int .i64 cap)).setCell ⟨w.heap.size + 1, 1, none⟩ (.slice (restA (some ⟨g1, o1, none⟩) 1 e1) ds.length (e1 - 1))).setCell ⟨w.heap.size + 1, 2, none⟩ (.slice B2 0 e2)).setCell ⟨w.heap.size + 1, 3, none⟩ (.slice B3 recvs.length e3)).setCell ⟨w.heap.size + 1, 4, none⟩ (.bool cl)).setCell ⟨w.heap.size + 2, 0, none⟩ (.int .i64 (-1))) ⟨w.heap.size + 2, 1, none⟩ (.int .i64 0) (w.heap.size + 1) (by simp only; omega)).trans hRC0_5
            clear hRC0_5
            have hRC0_7 : ((((((((w7.setCell ⟨w.heap.size + 1, 0, none⟩ (.int .i64 cap)).setCell ⟨w.heap.size + 1, 1, none⟩ (.slice (restA (some ⟨g1, o1, none⟩) 1 e1) ds.length (e1 - 1))).setCell ⟨w.heap.size + 1, 2, none⟩ (.slice B2 0 e2)).setCell ⟨w.heap.size + 1, 3, none⟩ (.slice B3 recvs.length e3)).setCell ⟨w.heap.size + 1, 4, none⟩ (.bool cl)).setCell ⟨w.heap.size + 2, 0, none⟩ (.int .i64 (-1))).setCell ⟨w.heap.size + 2, 1, none⟩ (.int .i64 0)).setCell ⟨w.heap.size + 2, 2, none⟩ (.int .i64 0)).heap[w.heap.size + 1]? = some (.cells #[.int .i64 cap, .slice (restA (some ⟨g1, o1, none⟩) 1 e1) ds.length (e1 - 1), .slice B2 0 e2, .slice B3 recvs.length e3, .bool cl] 26 (0, 0)) := (Below.heap_setCell (((((((w7.setCell ⟨w.heap.size + 1, 0, none⟩ (.int .i64 cap)).setCell ⟨w.heap.size + 1, 1, none⟩ (.slice (restA (some ⟨g1, o1, none⟩) 1 e1) ds.length (e1 - 1))).setCell ⟨w.heap.size + 1, 2, none⟩ (.slice B2 0 e2)).setCell ⟨w.heap.size + 1, 3, none⟩ (.slice B3 recvs.length e3)).setCell ⟨w.heap.size + 1, 4, none⟩ (.bool cl)).setCell ⟨w.heap.size + 2, 0, none⟩ (.int .i64 (-1))).setCell ⟨w.heap.size + 2, 1, none⟩ (.int .i64 0)) ⟨w.heap.size + 2, 2, none⟩ (.int .i64 0) (w.heap.size + 1) (by simp only; omega)).trans hRC0_6
            clear hRC0_6
            have hRC0 := hRC0_7
            clear hRC0_7
            have hRW0_0 : (w7.setCell ⟨w.heap.size + 1, 0, none⟩ (.int .i64 cap)).heap[w.heap.size + 2]? = some (.cells #[.int .i64 0, .int .i64 0, .int .i64 0] 29 (0, 0)) := (Below.heap_setCell w7 ⟨w.heap.size + 1, 0, none⟩ (.int .i64 cap) (w.heap.size + 2) (by simp only; omega)).trans HRw7.out
            have hRW0_1 : ((w7.setCell ⟨w.heap.size + 1, 0, none⟩ (.int .i64 cap)).setCell ⟨w.heap.size + 1, 1, none⟩ (.slice (restA (some ⟨g1, o1, none⟩) 1 e1) ds.length (e1 - 1))).heap[w.heap.size + 2]? = some (.cells #[.int .i64 0, .int .i64 0, .int .i64 0] 29 (0, 0)) := (Below.heap_setCell (w7.setCell ⟨w.heap.size + 1, 0, none⟩ (.int .i64 cap)) ⟨w.heap.size + 1, 1, none⟩ (.slice (restA (some ⟨g1, o1, none⟩) 1 e1) ds.length (e1 - 1)) (w.heap.size + 2) (by simp only; omega)).trans hRW0_0
            clear hRW0_0
            have hRW0_2 : (((w7.setCell ⟨w.heap.size + 1, 0, none⟩ (.int .i64 cap)).setCell ⟨w.heap.size + 1, 1, none⟩ (.slice (restA (some ⟨g1, o1, none⟩) 1 e1) ds.length (e1 - 1))).setCell ⟨w.heap.size + 1, 2, none⟩ (.slice B2 0 e2)).heap[w.heap.size + 2]? = some (.cells #[.int .i64 0, .int .i64 0, .int .i64 0] 29 (0, 0)) := (Below.heap_setCell ((w7.setCell ⟨w.heap.size + 1, 0, none⟩ (.int .i64 cap)).setCell ⟨w.heap.size + 1, 1, none⟩ (.slice (restA (some ⟨g1, o1, none⟩) 1 e1) ds.length (e1 - 1))) ⟨w.heap.size + 1, 2, none⟩ (.slice B2 0 e2) (w.heap.size + 2) (by simp only; omega)).trans hRW0_1
            clear hRW0_1
            have hRW0_3 : ((((w7.setCell ⟨w.heap.size + 1, 0, none⟩ (.int .i64 cap)).setCell ⟨w.heap.size + 1, 1, none⟩ (.slice (restA (some ⟨g1, o1, none⟩) 1 e1) ds.length (e1 - 1))).setCell ⟨w.heap.size + 1, 2, none⟩ (.slice B2 0 e2)).setCell ⟨w.heap.size + 1, 3, none⟩ (.slice B3 recvs.length e3)).heap[w.heap.size + 2]? = some (.cells #[.int .i64 0, .int .i64 0, .int .i64 0] 29 (0, 0)) := (Below.heap_setCell (((w7.setCell ⟨w.heap.size + 1, 0, none⟩ (.int .i64 cap)).setCell ⟨w.heap.size + 1, 1, none⟩ (.slice (restA (some ⟨g1, o1, none⟩) 1 e1) ds.length (e1 - 1))).setCell ⟨w.heap.size + 1, 2, none⟩ (.slice B2 0 e2)) ⟨w.heap.size + 1, 3, none⟩ (.slice B3 recvs.length e3) (w.heap.size + 2) (by simp only; omega)).trans hRW0_2
            clear hRW0_2
            have hRW0_4 : (((((w7.setCell ⟨w.heap.size + 1, 0, none⟩ (.int .i64 cap)).setCell ⟨w.heap.size + 1, 1, none⟩ (.slice (restA (some ⟨g1, o1, none⟩) 1 e1) ds.length (e1 - 1))).setCell ⟨w.heap.size + 1, 2, none⟩ (.slice B2 0 e2)).setCell ⟨w.heap.size + 1, 3, none⟩ (.slice B3 recvs.length e3)).setCell ⟨w.heap.size + 1, 4, none⟩ (.bool cl)).heap[w.heap.size + 2]? = some (.cells #[.int .i64 0, .int .i64 0, .int .i64 0] 29 (0, 0)) := (Below.heap_setCell ((((w7.setCell ⟨w.heap.size + 1, 0, none⟩ (.int .i64 cap)).setCell ⟨w.heap.size + 1, 1, none⟩ (.slice (restA (some ⟨g1, o1, none⟩) 1 e1) ds.length (e1 - 1))).setCell ⟨w.heap.size + 1, 2, none⟩ (.slice B2 0 e2)).setCell ⟨w.heap.size + 1, 3, none⟩ (.slice B3 recvs.length e3)) ⟨w.heap.size + 1, 4, none⟩ (.bool cl) (w.heap.size + 2) (by simp only; omega)).trans hRW0_3
            clear hRW0_3
            have hRW0_5 : ((((((w7.setCell ⟨w.heap.size + 1, 0, none⟩ (.int .i64 cap)).setCell ⟨w.heap.size + 1, 1, none⟩ (.slice (restA (some ⟨g1, o1, none⟩) 1 e1) ds.length (e1 - 1))).setCell ⟨w.heap.size + 1, 2, none⟩ (.slice B2 0 e2)).setCell ⟨w.heap.size + 1, 3, none⟩ (.slice B3 recvs.length e3)).setCell ⟨w.heap.size + 1, 4, none⟩ (.bool cl)).setCell ⟨w.heap.size + 2, 0, none⟩ (.int .i64 (-1))).heap[w.heap.size + 2]? = some (.cells #[.int .i64 (-1), .int .i64 0, .int .i64 0] 29 (0, 0)) := box_set (j := 0) (u := .int .i64 (-1)) hRW0_4
            clear hRW0_4
            have hRW0_6 : (((((((w7.setCell ⟨w.heap.size + 1, 0, none⟩ (.int .i64 cap)).setCell ⟨w.heap.size + 1, 1, none⟩ (.slice (restA (some ⟨g1, o1, none⟩) 1 e1) ds.length (e1 - 1))).setCell ⟨w.heap.size + 1, 2, none⟩ (.slice B2 0 e2)).setCell ⟨w.heap.size + 1, 3, none⟩ (.slice B3 recvs.length e3)).setCell ⟨w.heap.size + 1, 4, none⟩ (.bool cl)).setCell ⟨w.heap.size + 2, 0, none⟩ (.int .i64 (-1))).setCell ⟨w.heap.size + 2, 1, none⟩ (.int .i64 0)).heap[w.heap.size + 2]? = some (.cells #[.int .i64 (-1), .int .i64 0, .int .i64 0] 29 (0, 0)) := box_set (j := 1) (u := .int .i64 0) hRW0_5
            clear hRW0_5
            have hRW0_7 : ((((((((w7.setCell ⟨w.heap.size + 1, 0, none⟩ (.int .i64 cap)).setCell ⟨w.heap.size + 1, 1, none⟩ (.slice (restA (some ⟨g1, o1, none⟩) 1 e1) ds.length (e1 - 1))).setCell ⟨w.heap.size + 1, 2, none⟩ (.slice B2 0 e2)).setCell ⟨w.heap.size + 1, 3, none⟩ (.slice B3 recvs.length e3)).setCell ⟨w.heap.size + 1, 4, none⟩ (.bool cl)).setCell ⟨w.heap.size + 2, 0, none⟩ (.int .i64 (-1))).setCell ⟨w.heap.size + 2, 1, none⟩ (.int .i64 0)).setCell ⟨w.heap.size + 2, 2, none⟩ (.int .i64 0)).heap[w.heap.size + 2]? = some (.cells #[.int .i64 (-1), .int .i64 0, .int .i64 0] 29 (0, 0)) := box_set (j := 2) (u := .int .i64 0) hRW0_6
            clear hRW0_6
            have hRW0 := hRW0_7
            clear hRW0_7
            have hBF0 : Below w.heap.size w ((((((((w7.setCell ⟨w.heap.size + 1, 0, none⟩ (.int .i64 cap)).setCell ⟨w.heap.size + 1, 1, none⟩ (.slice (restA (some ⟨g1, o1, none⟩) 1 e1) ds.length (e1 - 1))).setCell ⟨w.heap.size + 1, 2, none⟩ (.slice B2 0 e2)).setCell ⟨w.heap.size + 1, 3, none⟩ (.slice B3 recvs.length e3)).setCell ⟨w.heap.size + 1, 4, none⟩ (.bool cl)).setCell ⟨w.heap.size + 2, 0, none⟩ (.int .i64 (-1))).setCell ⟨w.heap.size + 2, 1, none⟩ (.int .i64 0)).setCell ⟨w.heap.size + 2, 2, none⟩ (.int .i64 0)) := (below_set (below_set (below_set (below_set (below_set (below_set (below_set (below_set HB7.out (by simp only; omega) (.int .i64 cap)) (by simp only; omega) (.slice (restA (some ⟨g1, o1, none⟩) 1 e1) ds.length (e1 - 1))) (by simp only; omega) (.slice B2 0 e2)) (by simp only; omega) (.slice B3 recvs.length e3)) (by simp only; omega) (.bool cl)) (by simp only; omega) (.int .i64 (-1))) (by simp only; omega) (.int .i64 0)) (by simp only; omega) (.int .i64 0))
            have hO1_0 := TailR.setCell (o := 0) (g := w.heap.size + 1) HY1.out (HN6.out _ (by omega)).1 (.int .i64 cap)
            have hO1_1 := TailR.setCell (o := 1) (g := w.heap.size + 1) hO1_0 (HN6.out _ (by omega)).1 (.slice (restA (some ⟨g1, o1, none⟩) 1 e1) ds.length (e1 - 1))
            clear hO1_0
            have hO1_2 := TailR.setCell (o := 2) (g := w.heap.size + 1) hO1_1 (HN6.out _ (by omega)).1 (.slice B2 0 e2)
            clear hO1_1
            have hO1_3 := TailR.setCell (o := 3) (g := w.heap.size + 1) hO1_2 (HN6.out _ (by omega)).1 (.slice B3 recvs.length e3)
            clear hO1_2
            have hO1_4 := TailR.setCell (o := 4) (g := w.heap.size + 1) hO1_3 (HN6.out _ (by omega)).1 (.bool cl)
            clear hO1_3
            have hO1_5 := TailR.setCell (o := 0) (g := w.heap.size + 2) hO1_4 (HN6.out _ (by omega)).1 (.int .i64 (-1))
            clear hO1_4
            have hO1_6 := TailR.setCell (o := 1) (g := w.heap.size + 2) hO1_5 (HN6.out _ (by omega)).1 (.int .i64 0)
            clear hO1_5
            have hO1_7 := TailR.setCell (o := 2) (g := w.heap.size + 2) hO1_6 (HN6.out _ (by omega)).1 (.int .i64 0)
            clear hO1_6
            have hO1 := hO1_7
            clear hO1_7
            have hO2_0 := OwnR.setCell (o := 0) (g := w.heap.size + 1) HY2.out (HN6.out _ (by omega)).2.1 (.int .i64 cap)
            have hO2_1 := OwnR.setCell (o := 1) (g := w.heap.size + 1) hO2_0 (HN6.out _ (by omega)).2.1 (.slice (restA (some ⟨g1, o1, none⟩) 1 e1) ds.length (e1 - 1))
            clear hO2_0
            have hO2_2 := OwnR.setCell (o := 2) (g := w.heap.size + 1) hO2_1 (HN6.out _ (by omega)).2.1 (.slice B2 0 e2)
            clear hO2_1
            have hO2_3 := OwnR.setCell (o := 3) (g := w.heap.size + 1) hO2_2 (HN6.out _ (by omega)).2.1 (.slice B3 recvs.length e3)
            clear hO2_2
            have hO2_4 := OwnR.setCell (o := 4) (g := w.heap.size + 1) hO2_3 (HN6.out _ (by omega)).2.1 (.bool cl)
            clear hO2_3
            have hO2_5 := OwnR.setCell (o := 0) (g := w.heap.size + 2) hO2_4 (HN6.out _ (by omega)).2.1 (.int .i64 (-1))
            clear hO2_4
            have hO2_6 := OwnR.setCell (o := 1) (g := w.heap.size + 2) hO2_5 (HN6.out _ (by omega)).2.1 (.int .i64 0)
            clear hO2_5
            have hO2_7 := OwnR.setCell (o := 2) (g := w.heap.size + 2) hO2_6 (HN6.out _ (by omega)).2.1 (.int .i64 0)
            clear hO2_6
            have hO2 := hO2_7
            clear hO2_7
            have hO3_0 := OwnR.setCell (o := 0) (g := w.heap.size + 1) HY3.out (HN6.out _ (by omega)).2.2 (.int .i64 cap)
            have hO3_1 := OwnR.setCell (o := 1) (g := w.heap.size + 1) hO3_0 (HN6.out _ (by omega)).2.2 (.slice (restA (some ⟨g1, o1, none⟩) 1 e1) ds.length (e1 - 1))
            clear hO3_0
            have hO3_2 := OwnR.setCell (o := 2) (g := w.heap.size + 1) hO3_1 (HN6.out _ (by omega)).2.2 (.slice B2 0 e2)
            clear hO3_1
            have hO3_3 := OwnR.setCell (o := 3) (g := w.heap.size + 1) hO3_2 (HN6.out _ (by omega)).2.2 (.slice B3 recvs.length e3)
            clear hO3_2
            have hO3_4 := OwnR.setCell (o := 4) (g := w.heap.size + 1) hO3_3 (HN6.out _ (by omega)).2.2 (.bool cl)
            clear hO3_3
            have hO3_5 := OwnR.setCell (o := 0) (g := w.heap.size + 2) hO3_4 (HN6.out _ (by omega)).2.2 (.int .i64 (-1))
            clear hO3_4
            have hO3_6 := OwnR.setCell (o := 1) (g := w.heap.size + 2) hO3_5 (HN6.out _ (by omega)).2.2 (.int .i64 0)
            clear hO3_5
            have hO3_7 := OwnR.setCell (o := 2) (g := w.heap.size + 2) hO3_6 (HN6.out _ (by omega)).2.2 (.int .i64 0)
            clear hO3_6
            have hO3 := hO3_7
            clear hO3_7
            have hzF0 : ((((((((w7.setCell ⟨w.heap.size + 1, 0, none⟩ (.int .i64 cap)).setCell ⟨w.heap.size + 1, 1, none⟩ (.slice (restA (some ⟨g1, o1, none⟩) 1 e1) ds.length (e1 - 1))).setCell ⟨w.heap.size + 1, 2, none⟩ (.slice B2 0 e2)).setCell ⟨w.heap.size + 1, 3, none⟩ (.slice B3 recvs.length e3)).setCell ⟨w.heap.size + 1, 4, none⟩ (.bool cl)).setCell ⟨w.heap.size + 2, 0, none⟩ (.int .i64 (-1))).setCell ⟨w.heap.size + 2, 1, none⟩ (.int .i64 0)).setCell ⟨w.heap.size + 2, 2, none⟩ (.int .i64 0)).heap.size = w7.heap.size := by simp [World.setCell]
            generalize ((((((((w7.setCell ⟨w.heap.size + 1, 0, none⟩ (.int .i64 cap)).setCell ⟨w.heap.size + 1, 1, none⟩ (.slice (restA (some ⟨g1, o1, none⟩) 1 e1) ds.length (e1 - 1))).setCell ⟨w.heap.size + 1, 2, none⟩ (.slice B2 0 e2)).setCell ⟨w.heap.size + 1, 3, none⟩ (.slice B3 recvs.length e3)).setCell ⟨w.heap.size + 1, 4, none⟩ (.bool cl)).setCell ⟨w.heap.size + 2, 0, none⟩ (.int .i64 (-1))).setCell ⟨w.heap.size + 2, 1, none⟩ (.int .i64 0)).setCell ⟨w.heap.size + 2, 2, none⟩ (.int .i64 0)) = WE at *
            have hRC : WE.drew.heap[w.heap.size + 1]? = some (.cells #[.int .i64 cap, .slice (restA (some ⟨g1, o1, none⟩) 1 e1) ds.length (e1 - 1), .slice B2 0 e2, .slice B3 recvs.length e3, .bool cl] 26 (0, 0)) := hRC0
            have hRW : WE.drew.heap[w.heap.size + 2]? = some (.cells #[.int .i64 (-1), .int .i64 0, .int .i64 0] 29 (0, 0)) := hRW0
            have hBF : Below w.heap.size w WE.drew := below_drawn hBF0 1
            have hzF : WE.drew.heap.size = w7.heap.size := hzF0
            have hP1 := hO1.stay (w' := WE.drew) (fun _ _ _ => rfl) (Nat.le_refl _)
            have hP2 := hO2.stay (w' := WE.drew) (fun _ _ _ => rfl) (Nat.le_refl _)
            have hP3 := hO3.stay (w' := WE.drew) (fun _ _ _ => rfl) (Nat.le_refl _)
            clear hRC0 hRW0 hBF0 hzF0 hO1 hO2 hO3
            generalize WE.drew = WF at *
            have y0 := box_cell (j := 0) hRC rfl
            have y1 := box_cell (j := 1) hRC rfl
            have y2 := box_cell (j := 2) hRC rfl
            have y3 := box_cell (j := 3) hRC rfl
            have y4 := box_cell (j := 4) hRC rfl
            have z0 := box_cell (j := 0) hRW rfl
            have z1 := box_cell (j := 1) hRW rfl
            have z2 := box_cell (j := 2) hRW rfl
            refine bodyPost_ret (v := .tuple #[.agg #[.int .i64 cap, .slice (restA (some ⟨g1, o1, none⟩) 1 e1) ds.length (e1 - 1), .slice B2 0 e2, .slice B3 recvs.length e3, .bool cl], .int .i64 d, .bool true, .agg #[.int .i64 (-1), .int .i64 0, .int .i64 0], .int .i64 0]) (by simp [results, Try.results30, go_sem, y0, y1, y2, y3, y4, z0, z1, z2]) rfl ?_
            rw [HRR.out]
            refine ⟨_, rfl, ownChan (x := (⟨cap, ds, [], recvs, cl⟩ : DChan)) hw0 hP1 (TailR.of hP2) (TailR.of hP3) ?_ ?_ ?_ HE6.out.1 HE6.out.2.1 HE6.out.2.2, hBF⟩
            · exact fun g hg => by have := HG6.out g (.inl hg); omega
            · exact fun g hg => by have := HG6.out g (.inr (.inl hg)); omega
            · exact fun g hg => by have := HG6.out g (.inr (.inr hg)); omega
      · have hs2 := HS2c.out _ HB6.out
        obtain ⟨hx0, g0, o0, us0, rfl, hg0, ⟨rfl, hwr⟩, hcell⟩ := hs2.at_ (i := 0) (by simp)
        have cc0 := hcell 0 _ rfl
        have cc1 := hcell 1 _ rfl
        have cc2 := hcell 2 _ rfl
        simp only [show layWaiter.size = 3 from rfl, ← Nat.add_assoc, Nat.add_zero, Nat.mul_one, Nat.zero_mul, List.getElem_cons_zero] at cc0 cc1 cc2
        clear hcell hs2 hx0 hwr
        have q0 := box_cell (j := 0) HX6.out rfl
        have q1 := box_cell (j := 1) HX6.out rfl
        have q2 := box_cell (j := 2) HX6.out rfl
        have q3 := box_cell (j := 3) HX6.out rfl
        have q4 := box_cell (j := 4) HX6.out rfl
        have t0 := box_free HW6.out 0
        have t1 := box_free HW6.out 1
        have t2 := box_free HW6.out 2
        have u0 := box_cell (j := 0) HW6.out rfl
        have u1 := box_cell (j := 1) HW6.out rfl
        have u2 := box_cell (j := 2) HW6.out rfl
        go_upto_region 9 with (fail)
        have HX7 := Lib.hid (show (((w6.setCell ⟨w5.heap.size, 0, none⟩ (.int .i64 sd.fG)).setCell ⟨w5.heap.size, 1, none⟩ (.int .i64 sd.fCase)).setCell ⟨w5.heap.size, 2, none⟩ (.int .i64 sd.fVal)).heap[w.heap.size]? = some (.cells #[.int .i64 cap, .slice A1 n1 c1, .slice (some ⟨g0, o0, none⟩) (ss.length + 1) c2, .slice A3 n3 c3, .bool cl] 26 (0, 0)) from ((Below.heap_setCell ((w6.setCell ⟨w5.heap.size, 0, none⟩ (.int .i64 sd.fG)).setCell ⟨w5.heap.size, 1, none⟩ (.int .i64 sd.fCase)) ⟨w5.heap.size, 2, none⟩ (.int .i64 sd.fVal) (w.heap.size) (by simp only; omega)).trans ((Below.heap_setCell (w6.setCell ⟨w5.heap.size, 0, none⟩ (.int .i64 sd.fG)) ⟨w5.heap.size, 1, none⟩ (.int .i64 sd.fCase) (w.heap.size) (by simp only; omega)).trans ((Below.heap_setCell w6 ⟨w5.heap.size, 0, none⟩ (.int .i64 sd.fG) (w.heap.size) (by simp only; omega)).trans HX6.out))))
        have HRc7 := Lib.hid (show (((w6.setCell ⟨w5.heap.size, 0, none⟩ (.int .i64 sd.fG)).setCell ⟨w5.heap.size, 1, none⟩ (.int .i64 sd.fCase)).setCell ⟨w5.heap.size, 2, none⟩ (.int .i64 sd.fVal)).heap[w.heap.size + 1]? = some (.cells #[.int .i64 0, .slice none 0 0, .slice none 0 0, .slice none 0 0, .bool false] 26 (0, 0)) from ((Below.heap_setCell ((w6.setCell ⟨w5.heap.size, 0, none⟩ (.int .i64 sd.fG)).setCell ⟨w5.heap.size, 1, none⟩ (.int .i64 sd.fCase)) ⟨w5.heap.size, 2, none⟩ (.int .i64 sd.fVal) (w.heap.size + 1) (by simp only; omega)).trans ((Below.heap_setCell (w6.setCell ⟨w5.heap.size, 0, none⟩ (.int .i64 sd.fG)) ⟨w5.heap.size, 1, none⟩ (.int .i64 sd.fCase) (w.heap.size + 1) (by simp only; omega)).trans ((Below.heap_setCell w6 ⟨w5.heap.size, 0, none⟩ (.int .i64 sd.fG) (w.heap.size + 1) (by simp only; omega)).trans HRc6.out))))
        have HRw7 := Lib.hid (show (((w6.setCell ⟨w5.heap.size, 0, none⟩ (.int .i64 sd.fG)).setCell ⟨w5.heap.size, 1, none⟩ (.int .i64 sd.fCase)).setCell ⟨w5.heap.size, 2, none⟩ (.int .i64 sd.fVal)).heap[w.heap.size + 2]? = some (.cells #[.int .i64 0, .int .i64 0, .int .i64 0] 29 (0, 0)) from ((Below.heap_setCell ((w6.setCell ⟨w5.heap.size, 0, none⟩ (.int .i64 sd.fG)).setCell ⟨w5.heap.size, 1, none⟩ (.int .i64 sd.fCase)) ⟨w5.heap.size, 2, none⟩ (.int .i64 sd.fVal) (w.heap.size + 2) (by simp only; omega)).trans ((Below.heap_setCell (w6.setCell ⟨w5.heap.size, 0, none⟩ (.int .i64 sd.fG)) ⟨w5.heap.size, 1, none⟩ (.int .i64 sd.fCase) (w.heap.size + 2) (by simp only; omega)).trans ((Below.heap_setCell w6 ⟨w5.heap.size, 0, none⟩ (.int .i64 sd.fG) (w.heap.size + 2) (by simp only; omega)).trans HRw6.out))))
        have HO7 := Lib.hid (show (((w6.setCell ⟨w5.heap.size, 0, none⟩ (.int .i64 sd.fG)).setCell ⟨w5.heap.size, 1, none⟩ (.int .i64 sd.fCase)).setCell ⟨w5.heap.size, 2, none⟩ (.int .i64 sd.fVal)).heap[w3.heap.size]? = some (.cells #[.int .i64 cap, .slice B1 buf.length e1, .slice B2 (ss.length + 1) e2, .slice B3 recvs.length e3, .bool cl] 26 (0, 0)) from ((Below.heap_setCell ((w6.setCell ⟨w5.heap.size, 0, none⟩ (.int .i64 sd.fG)).setCell ⟨w5.heap.size, 1, none⟩ (.int .i64 sd.fCase)) ⟨w5.heap.size, 2, none⟩ (.int .i64 sd.fVal) (w3.heap.size) (by simp only; omega)).trans ((Below.heap_setCell (w6.setCell ⟨w5.heap.size, 0, none⟩ (.int .i64 sd.fG)) ⟨w5.heap.size, 1, none⟩ (.int .i64 sd.fCase) (w3.heap.size) (by simp only; omega)).trans ((Below.heap_setCell w6 ⟨w5.heap.size, 0, none⟩ (.int .i64 sd.fG) (w3.heap.size) (by simp only; omega)).trans HO6.out))))
        have HW7 := Lib.hid (show (((w6.setCell ⟨w5.heap.size, 0, none⟩ (.int .i64 sd.fG)).setCell ⟨w5.heap.size, 1, none⟩ (.int .i64 sd.fCase)).setCell ⟨w5.heap.size, 2, none⟩ (.int .i64 sd.fVal)).heap[w5.heap.size]? = some (.cells #[.int .i64 sd.fG, .int .i64 sd.fCase, .int .i64 sd.fVal] 29 (0, 0)) from (box_set (j := 2) (u := .int .i64 sd.fVal) (box_set (j := 1) (u := .int .i64 sd.fCase) (box_set (j := 0) (u := .int .i64 sd.fG) HW6.out))))
        have HB7 := Lib.hid (show Below w.heap.size w (((w6.setCell ⟨w5.heap.size, 0, none⟩ (.int .i64 sd.fG)).setCell ⟨w5.heap.size, 1, none⟩ (.int .i64 sd.fCase)).setCell ⟨w5.heap.size, 2, none⟩ (.int .i64 sd.fVal)) from (below_set (below_set (below_set HB6.out (by simp only; omega) (.int .i64 sd.fG)) (by simp only; omega) (.int .i64 sd.fCase)) (by simp only; omega) (.int .i64 sd.fVal)))
        have HT1 := Lib.hid (OwnR.setCell (o := 2) (g := w5.heap.size) (OwnR.setCell (o := 1) (g := w5.heap.size) (OwnR.setCell (o := 0) (g := w5.heap.size) HQ1.out (HLOW.out _ (by omega)).1 (.int .i64 sd.fG)) (HLOW.out _ (by omega)).1 (.int .i64 sd.fCase)) (HLOW.out _ (by omega)).1 (.int .i64 sd.fVal))
        have HT2 := Lib.hid (OwnR.setCell (o := 2) (g := w5.heap.size) (OwnR.setCell (o := 1) (g := w5.heap.size) (OwnR.setCell (o := 0) (g := w5.heap.size) HQ2.out (HLOW.out _ (by omega)).2.1 (.int .i64 sd.fG)) (HLOW.out _ (by omega)).2.1 (.int .i64 sd.fCase)) (HLOW.out _ (by omega)).2.1 (.int .i64 sd.fVal))
        have HT3 := Lib.hid (OwnR.setCell (o := 2) (g := w5.heap.size) (OwnR.setCell (o := 1) (g := w5.heap.size) (OwnR.setCell (o := 0) (g := w5.heap.size) HQ3.out (HLOW.out _ (by omega)).2.2 (.int .i64 sd.fG)) (HLOW.out _ (by omega)).2.2 (.int .i64 sd.fCase)) (HLOW.out _ (by omega)).2.2 (.int .i64 sd.fVal))
        have hzz := Lib.hid (show (((w6.setCell ⟨w5.heap.size, 0, none⟩ (.int .i64 sd.fG)).setCell ⟨w5.heap.size, 1, none⟩ (.int .i64 sd.fCase)).setCell ⟨w5.heap.size, 2, none⟩ (.int .i64 sd.fVal)).heap.size = w6.heap.size by simp [World.setCell])
        clear q0 q1 q2 q3 q4 t0 t1 t2 u0 u1 u2 cc0 cc1 cc2 HX6 HRc6 HRw6 HO6 HW6 HB6 HQ1 HQ2 HQ3
        generalize (((w6.setCell ⟨w5.heap.size, 0, none⟩ (.int .i64 sd.fG)).setCell ⟨w5.heap.size, 1, none⟩ (.int .i64 sd.fCase)).setCell ⟨w5.heap.size, 2, none⟩ (.int .i64 sd.fVal)) = w7 at *
        have zz_w7 := Nat.le_of_eq hzz.out
        have yy_w7 := Nat.le_of_eq hzz.out.symm
        clear hzz
        have q0 := box_cell (j := 0) HO7.out rfl
        have q1 := box_cell (j := 1) HO7.out rfl
        have q2 := box_cell (j := 2) HO7.out rfl
        have q3 := box_cell (j := 3) HO7.out rfl
        have q4 := box_cell (j := 4) HO7.out rfl
        have f0 := box_free HO7.out 0
        have f1 := box_free HO7.out 1
        have f2 := box_free HO7.out 2
        have f3 := box_free HO7.out 3
        have f4 := box_free HO7.out 4
        have k2 : ∀ W, (Instr.slice 24 (.slice B2 (ss.length + 1) e2) (some (.int .i64 1)) none none).run Try.prog W = .ok (.slice (restA B2 3 e2) ss.length (e2 - 1)) W := fun W => by
          have := run_rest (P := Try.prog) Try.underlying24 wt_size W B2 (ss.length + 1) e2 (by omega)
          rw [Nat.add_sub_cancel] at this
          exact this
        have HT2b := Lib.hid (TailR.cut (n := ss.length) (TailR.of HT2.out))
        go_upto_region 10 with (fail)
        have HX8 := Lib.hid (show (w7.setCell ⟨w3.heap.size, 2, none⟩ (.slice (restA B2 3 e2) ss.length (e2 - 1))).heap[w.heap.size]? = some (.cells #[.int .i64 cap, .slice A1 n1 c1, .slice (some ⟨g0, o0, none⟩) (ss.length + 1) c2, .slice A3 n3 c3, .bool cl] 26 (0, 0)) from ((Below.heap_setCell w7 ⟨w3.heap.size, 2, none⟩ (.slice (restA B2 3 e2) ss.length (e2 - 1)) (w.heap.size) (by simp only; omega)).trans HX7.out))
        have HRc8 := Lib.hid (show (w7.setCell ⟨w3.heap.size, 2, none⟩ (.slice (restA B2 3 e2) ss.length (e2 - 1))).heap[w.heap.size + 1]? = some (.cells #[.int .i64 0, .slice none 0 0, .slice none 0 0, .slice none 0 0, .bool false] 26 (0, 0)) from ((Below.heap_setCell w7 ⟨w3.heap.size, 2, none⟩ (.slice (restA B2 3 e2) ss.length (e2 - 1)) (w.heap.size + 1) (by simp only; omega)).trans HRc7.out))
        have HRw8 := Lib.hid (show (w7.setCell ⟨w3.heap.size, 2, none⟩ (.slice (restA B2 3 e2) ss.length (e2 - 1))).heap[w.heap.size + 2]? = some (.cells #[.int .i64 0, .int .i64 0, .int .i64 0] 29 (0, 0)) from ((Below.heap_setCell w7 ⟨w3.heap.size, 2, none⟩ (.slice (restA B2 3 e2) ss.length (e2 - 1)) (w.heap.size + 2) (by simp only; omega)).trans HRw7.out))
        have HO8 := Lib.hid (show (w7.setCell ⟨w3.heap.size, 2, none⟩ (.slice (restA B2 3 e2) ss.length (e2 - 1))).heap[w3.heap.size]? = some (.cells #[.int .i64 cap, .slice B1 buf.length e1, .slice (restA B2 3 e2) ss.length (e2 - 1), .slice B3 recvs.length e3, .bool cl] 26 (0, 0)) from (box_set (j := 2) (u := .slice (restA B2 3 e2) ss.length (e2 - 1)) HO7.out))
        have HW8 := Lib.hid (show (w7.setCell ⟨w3.heap.size, 2, none⟩ (.slice (restA B2 3 e2) ss.length (e2 - 1))).heap[w5.heap.size]? = some (.cells #[.int .i64 sd.fG, .int .i64 sd.fCase, .int .i64 sd.fVal] 29 (0, 0)) from ((Below.heap_setCell w7 ⟨w3.heap.size, 2, none⟩ (.slice (restA B2 3 e2) ss.length (e2 - 1)) (w5.heap.size) (by simp only; omega)).trans HW7.out))
        have HB8 := Lib.hid (show Below w.heap.size w (w7.setCell ⟨w3.heap.size, 2, none⟩ (.slice (restA B2 3 e2) ss.length (e2 - 1))) from (below_set HB7.out (by simp only; omega) (.slice (restA B2 3 e2) ss.length (e2 - 1))))
        have HU1 := Lib.hid (OwnR.setCell (o := 2) (g := w3.heap.size) HT1.out (HLOW.out _ (by omega)).1 (.slice (restA B2 3 e2) ss.length (e2 - 1)))
        have HU2 := Lib.hid (TailR.setCell (o := 2) (g := w3.heap.size) HT2b.out (HLOW.out _ (by omega)).2.1 (.slice (restA B2 3 e2) ss.length (e2 - 1)))
        have HU3 := Lib.hid (OwnR.setCell (o := 2) (g := w3.heap.size) HT3.out (HLOW.out _ (by omega)).2.2 (.slice (restA B2 3 e2) ss.length (e2 - 1)))
        have hzz := Lib.hid (show (w7.setCell ⟨w3.heap.size, 2, none⟩ (.slice (restA B2 3 e2) ss.length (e2 - 1))).heap.size = w7.heap.size by simp [World.setCell])
        clear q0 q1 q2 q3 q4 f0 f1 f2 f3 f4 k2 HX7 HRc7 HRw7 HO7 HW7 HB7 HT1 HT2 HT2b HT3
        generalize (w7.setCell ⟨w3.heap.size, 2, none⟩ (.slice (restA B2 3 e2) ss.length (e2 - 1))) = w8 at *
        have zz_w8 := Nat.le_of_eq hzz.out
        have yy_w8 := Nat.le_of_eq hzz.out.symm
        clear hzz
        have q0 := box_cell (j := 0) HO8.out rfl
        have q1 := box_cell (j := 1) HO8.out rfl
        have q2 := box_cell (j := 2) HO8.out rfl
        have q3 := box_cell (j := 3) HO8.out rfl
        have q4 := box_cell (j := 4) HO8.out rfl
        have u0 := box_cell (j := 0) HW8.out rfl
        have u1 := box_cell (j := 1) HW8.out rfl
        have u2 := box_cell (j := 2) HW8.out rfl
        obtain ⟨i0, hi0, hiz0, hiz1, hiz2⟩ := info_parts infoIntC
        have hal5 : Below w8.heap.size w8 (w8.alloc (.cells #[.int .i64 sd.fVal] 3)) := (Below.refl _ _).alloc (Nat.le_refl _) _
        have hown := (ownR_flat_own (lo := 0) (hi := w8.heap.size) HU1.out fun g hg => ⟨Nat.zero_le _, by have := HF.out g (.inl hg); omega⟩).alloc (.cells #[.int .i64 sd.fVal] 3)
        have HBL := Lib.hid HU1.out.blk
        have hxa := box_keep HO8.out hal5 (by omega)
        have p1 := box_cell (j := 1) hxa rfl
        have hnb : blkA B1 ≠ some w3.heap.size := fun h => (HLOW.out _ (.inr (Nat.le_refl _))).1 (HBL.out _ h)
        have HNB := Lib.hid hnb
        have HXA := Lib.hid hxa
        clear hnb hxa
        go_upto_region 11 with (at_builtin; refine wpList_append_kin rfl (.tmp 36) (.tmp 39) _ rfl 0 _ 3 i0 _ 1 8 Try.underlying23 hi0 hiz0 hiz1 hiz2 rfl (by omega) B1 buf.length e1 _ rfl hown _ ⟨w8.heap.size, 0, none⟩ 1 1 [.int .i64 sd.fVal] rfl (Seen.one w8 (.int .i64 sd.fVal) 3) (by simp [Value.oneCell']) (by simp only [maxLen]; omega) (by omega) (Nat.zero_le _) ?_; intro B4 e4 w9 own9 hb9 hk9 hA9; have hxk := (hk9 w3.heap.size (by simp; omega) HNB.out).trans HXA.out; have pk := box_cell (j := 1) hxk rfl; have fk := box_free hxk 1)
        have hfl : (buf.map fun z => [Value.int .i64 z]).flatten ++ [.int .i64 sd.fVal] = ((buf ++ [sd.fVal]).map fun z => [Value.int .i64 z]).flatten := by simp
        rw [hfl] at own9
        have hwf : ∀ z ∈ buf ++ [sd.fVal], (Lit.int .i64 z).wf = true := by
          intro z hz
          rcases List.mem_append.1 hz with hz | hz
          · exact HWF.out.1 z hz
          · simp at hz
            subst hz
            exact HWF.out.2.1 sd (by simp)
        have h9 : OwnR Lay.int 3 w9 (fun g => 0 ≤ g ∧ g < w9.heap.size) B4 (buf.length + 1) e4 (buf ++ [sd.fVal]) := ownR_flat own9 (by simp) hwf
        have HT1 := Lib.hid (show OwnR Lay.int 3 w9 (fun g => blkA B4 = some g) B4 (buf.length + 1) e4 (buf ++ [sd.fVal]) from by
          obtain ⟨h1, vs, G, ho, hAA, hel, hG, h4, h5⟩ := h9
          exact ⟨h1, vs, fun _ _ => False, ho, fun g hg => hg, fun i x hx => ⟨(hel i x hx).1, (hel i x hx).2⟩, fun _ _ _ h => h.elim, fun _ _ _ h => h.elim, fun _ _ _ _ _ h => h.elim⟩)
        have hz9 := hb9.size
        simp only [World.size_alloc] at hz9 hk9 hA9
        have hK : ∀ g, g < w8.heap.size → ¬ F1 g → w9.heap[g]? = w8.heap[g]? := fun g hg hn => (hk9 g (by omega) (fun e => hn (HBL.out g e))).trans (hal5.block g hg)
        have hnw : ∀ g, blkA B4 = some g → F1 g ∨ w8.heap.size ≤ g := fun g hg => by
          rcases hA9 with h | h
          · exact .inl (HBL.out g (by rw [← h]; exact hg))
          · rw [hg] at h; injection h with h; exact .inr (by omega)
        have HX9 := Lib.hid ((hK (w.heap.size) (by omega) ((HLOW.out _ (by omega)).1)).trans HX8.out)
        have HRc9 := Lib.hid ((hK (w.heap.size + 1) (by omega) ((HLOW.out _ (by omega)).1)).trans HRc8.out)
        have HRw9 := Lib.hid ((hK (w.heap.size + 2) (by omega) ((HLOW.out _ (by omega)).1)).trans HRw8.out)
        have HO9 := Lib.hid ((hK (w3.heap.size) (by omega) ((HLOW.out _ (by omega)).1)).trans HO8.out)
        have HW9 := Lib.hid ((hK (w5.heap.size) (by omega) ((HLOW.out _ (by omega)).1)).trans HW8.out)
        have HB9 := Lib.hid (show Below w.heap.size w w9 from HB8.out.trans ⟨hb9.os, hb9.tape, hb9.output, by omega, fun k hk => hK k (by omega) ((HLOW.out _ (by omega)).1)⟩)
        have HT2 := Lib.hid (HU2.out.stay (w' := w9) (fun g hg hlt => hK g hlt (fun h => HD.out.1 g h hg)) (by omega))
        have HT3 := Lib.hid (HU3.out.stay (w' := w9) (fun g hg hlt => hK g hlt (fun h => HD.out.2.1 g h hg)) (by omega))
        have HNW := Lib.hid hnw
        clear hk9 hb9 hA9 hK hnw h9 hwf hfl own9 hal5 hown hxk pk fk p1 q0 q1 q2 q3 q4 u0 u1 u2
        have HN8 := Lib.hid (show ∀ g, g < w2.heap.size ∨ (w3.heap.size ≤ g ∧ g < w8.heap.size) → ¬ blkA B4 = some g ∧ ¬ F2 g ∧ ¬ F3 g from fun g hg => ⟨fun h => by rcases HNW.out _ h with h | h; exact (HLOW.out _ (by omega)).1 h; omega, (HLOW.out _ (by omega)).2⟩)
        have HX10 := Lib.hid (show (w9.setCell ⟨w3.heap.size, 1, none⟩ (.slice B4 (buf.length + 1) e4)).heap[w.heap.size]? = some (.cells #[.int .i64 cap, .slice A1 n1 c1, .slice (some ⟨g0, o0, none⟩) (ss.length + 1) c2, .slice A3 n3 c3, .bool cl] 26 (0, 0)) from ((Below.heap_setCell w9 ⟨w3.heap.size, 1, none⟩ (.slice B4 (buf.length + 1) e4) (w.heap.size) (by simp only; omega)).trans HX9.out))
        have HRc10 := Lib.hid (show (w9.setCell ⟨w3.heap.size, 1, none⟩ (.slice B4 (buf.length + 1) e4)).heap[w.heap.size + 1]? = some (.cells #[.int .i64 0, .slice none 0 0, .slice none 0 0, .slice none 0 0, .bool false] 26 (0, 0)) from ((Below.heap_setCell w9 ⟨w3.heap.size, 1, none⟩ (.slice B4 (buf.length + 1) e4) (w.heap.size + 1) (by simp only; omega)).trans HRc9.out))
        have HRw10 := Lib.hid (show (w9.setCell ⟨w3.heap.size, 1, none⟩ (.slice B4 (buf.length + 1) e4)).heap[w.heap.size + 2]? = some (.cells #[.int .i64 0, .int .i64 0, .int .i64 0] 29 (0, 0)) from ((Below.heap_setCell w9 ⟨w3.heap.size, 1, none⟩ (.slice B4 (buf.length + 1) e4) (w.heap.size + 2) (by simp only; omega)).trans HRw9.out))
        have HO10 := Lib.hid (show (w9.setCell ⟨w3.heap.size, 1, none⟩ (.slice B4 (buf.length + 1) e4)).heap[w3.heap.size]? = some (.cells #[.int .i64 cap, .slice B4 (buf.length + 1) e4, .slice (restA B2 3 e2) ss.length (e2 - 1), .slice B3 recvs.length e3, .bool cl] 26 (0, 0)) from (box_set (j := 1) (u := .slice B4 (buf.length + 1) e4) HO9.out))
        have HW10 := Lib.hid (show (w9.setCell ⟨w3.heap.size, 1, none⟩ (.slice B4 (buf.length + 1) e4)).heap[w5.heap.size]? = some (.cells #[.int .i64 sd.fG, .int .i64 sd.fCase, .int .i64 sd.fVal] 29 (0, 0)) from ((Below.heap_setCell w9 ⟨w3.heap.size, 1, none⟩ (.slice B4 (buf.length + 1) e4) (w5.heap.size) (by simp only; omega)).trans HW9.out))
        have HB10 := Lib.hid (show Below w.heap.size w (w9.setCell ⟨w3.heap.size, 1, none⟩ (.slice B4 (buf.length + 1) e4)) from (below_set HB9.out (by simp only; omega) (.slice B4 (buf.length + 1) e4)))
        have HS1 := Lib.hid (OwnR.setCell (o := 1) (g := w3.heap.size) HT1.out (HN8.out _ (by omega)).1 (.slice B4 (buf.length + 1) e4))
        have HS2 := Lib.hid (TailR.setCell (o := 1) (g := w3.heap.size) HT2.out (HN8.out _ (by omega)).2.1 (.slice B4 (buf.length + 1) e4))
        have HS3 := Lib.hid (OwnR.setCell (o := 1) (g := w3.heap.size) HT3.out (HN8.out _ (by omega)).2.2 (.slice B4 (buf.length + 1) e4))
        have hzz := Lib.hid (show (w9.setCell ⟨w3.heap.size, 1, none⟩ (.slice B4 (buf.length + 1) e4)).heap.size = w9.heap.size by simp [World.setCell])
        clear HX9 HRc9 HRw9 HO9 HW9 HB9 HT1 HT2 HT3
        generalize (w9.setCell ⟨w3.heap.size, 1, none⟩ (.slice B4 (buf.length + 1) e4)) = w10 at *
        have zz_w10 := Nat.le_of_eq hzz.out
        have yy_w10 := Nat.le_of_eq hzz.out.symm
        clear hzz
        have HE8 := Lib.hid (show (∀ g, blkA B4 = some g → ¬ F2 g) ∧ (∀ g, blkA B4 = some g → ¬ F3 g) ∧ (∀ g, F2 g → ¬ F3 g) from ⟨fun g h h2 => by rcases HNW.out _ h with h | h; exact HD.out.1 g h h2; have := HF.out g (.inr (.inl h2)); omega, fun g h h2 => by rcases HNW.out _ h with h | h; exact HD.out.2.1 g h h2; have := HF.out g (.inr (.inr h2)); omega, HD.out.2.2⟩)
        have HG8 := Lib.hid (show ∀ g, blkA B4 = some g ∨ F2 g ∨ F3 g → w.heap.size ≤ g ∧ g < w10.heap.size from fun g hg => by
          rcases hg with h | h | h
          · have h2 := HS1.out.lt_blk h; rcases HNW.out _ h with h3 | h3
            · have := HF.out g (.inl h3); omega
            · omega
          · have := HF.out g (.inr (.inl h)); omega
          · have := HF.out g (.inr (.inr h)); omega)
        obtain ⟨d, ds, hdd⟩ : ∃ d ds, buf ++ [sd.fVal] = d :: ds := by cases buf <;> simp
        have hlen : buf.length = ds.length := by have := congrArg List.length hdd; simpa using this
        have HRX := Lib.hid (show recvR ⟨cap, buf, sd :: ss, recvs, cl⟩ = (⟨cap, ds, ss, recvs, cl⟩, d, true, sd, 0) from by rw [HRR.out]; simp only [recvX, hdd])
        have HS1' := HS1
        rw [hdd, hlen] at HS1'
        rw [hlen] at HO10
        clear HRR hdd HS1
        have HRR := HRX
        clear HLOW
        have hs1 := HS1'.out.seen (hi := w10.heap.size) fun g hg => ((show ∀ g, blkA B4 = some g ∨ F2 g ∨ F3 g → w.heap.size ≤ g ∧ g < w10.heap.size from fun g hg => by have := HG8.out g hg; omega) g (.inl hg)).2
        obtain ⟨hx1, g1, o1, us1, rfl, hg1, ⟨rfl, hwv⟩, hcell1⟩ := hs1.at_ (i := 0) (by first | omega | simp)
        have cv0 := hcell1 0 _ rfl
        simp only [show Lay.int.size = 1 from rfl, ← Nat.add_assoc, Nat.add_zero, Nat.mul_one, Nat.zero_mul, List.getElem_cons_zero] at cv0
        have k1 : ∀ W, (Instr.slice 23 (.slice (some ⟨g1, o1, none⟩) (ds.length + 1) e4) (some (.int .i64 1)) none none).run Try.prog W = .ok (.slice (restA (some ⟨g1, o1, none⟩) 1 e4) ds.length (e4 - 1)) W := fun W => by
          have := run_rest (P := Try.prog) Try.underlying23 int_size W ((some ⟨g1, o1, none⟩)) (ds.length + 1) e4 (by omega)
          rw [Nat.add_sub_cancel] at this
          exact this
        have HV1 := Lib.hid (TailR.cut (n := ds.length) (TailR.of HS1'.out))
        have q0 := box_cell (j := 0) HO10.out rfl
        have q1 := box_cell (j := 1) HO10.out rfl
        have q2 := box_cell (j := 2) HO10.out rfl
        have q3 := box_cell (j := 3) HO10.out rfl
        have q4 := box_cell (j := 4) HO10.out rfl
        have f0 := box_free HO10.out 0
        have f1 := box_free HO10.out 1
        have f2 := box_free HO10.out 2
        have f3 := box_free HO10.out 3
        have f4 := box_free HO10.out 4
        clear hcell1 hs1 hwv hx1
        go_upto_region 15 with (fail)
        have HRc11 := Lib.hid (show (w10.setCell ⟨w3.heap.size, 1, none⟩ (.slice (restA (some ⟨g1, o1, none⟩) 1 e4) ds.length (e4 - 1))).heap[w.heap.size + 1]? = some (.cells #[.int .i64 0, .slice none 0 0, .slice none 0 0, .slice none 0 0, .bool false] 26 (0, 0)) from ((Below.heap_setCell w10 ⟨w3.heap.size, 1, none⟩ (.slice (restA (some ⟨g1, o1, none⟩) 1 e4) ds.length (e4 - 1)) (w.heap.size + 1) (by simp only; omega)).trans HRc10.out))
        have HRw11 := Lib.hid (show (w10.setCell ⟨w3.heap.size, 1, none⟩ (.slice (restA (some ⟨g1, o1, none⟩) 1 e4) ds.length (e4 - 1))).heap[w.heap.size + 2]? = some (.cells #[.int .i64 0, .int .i64 0, .int .i64 0] 29 (0, 0)) from ((Below.heap_setCell w10 ⟨w3.heap.size, 1, none⟩ (.slice (restA (some ⟨g1, o1, none⟩) 1 e4) ds.length (e4 - 1)) (w.heap.size + 2) (by simp only; omega)).trans HRw10.out))
        have HO11 := Lib.hid (show (w10.setCell ⟨w3.heap.size, 1, none⟩ (.slice (restA (some ⟨g1, o1, none⟩) 1 e4) ds.length (e4 - 1))).heap[w3.heap.size]? = some (.cells #[.int .i64 cap, .slice (restA (some ⟨g1, o1, none⟩) 1 e4) ds.length (e4 - 1), .slice (restA B2 3 e2) ss.length (e2 - 1), .slice B3 recvs.length e3, .bool cl] 26 (0, 0)) from (box_set (j := 1) (u := .slice (restA (some ⟨g1, o1, none⟩) 1 e4) ds.length (e4 - 1)) HO10.out))
        have HW11 := Lib.hid (show (w10.setCell ⟨w3.heap.size, 1, none⟩ (.slice (restA (some ⟨g1, o1, none⟩) 1 e4) ds.length (e4 - 1))).heap[w5.heap.size]? = some (.cells #[.int .i64 sd.fG, .int .i64 sd.fCase, .int .i64 sd.fVal] 29 (0, 0)) from ((Below.heap_setCell w10 ⟨w3.heap.size, 1, none⟩ (.slice (restA (some ⟨g1, o1, none⟩) 1 e4) ds.length (e4 - 1)) (w5.heap.size) (by simp only; omega)).trans HW10.out))
        have HB11 := Lib.hid (show Below w.heap.size w (w10.setCell ⟨w3.heap.size, 1, none⟩ (.slice (restA (some ⟨g1, o1, none⟩) 1 e4) ds.length (e4 - 1))) from (below_set HB10.out (by simp only; omega) (.slice (restA (some ⟨g1, o1, none⟩) 1 e4) ds.length (e4 - 1))))
        have HY1 := Lib.hid (TailR.setCell (o := 1) (g := w3.heap.size) HV1.out (HN8.out _ (by omega)).1 (.slice (restA (some ⟨g1, o1, none⟩) 1 e4) ds.length (e4 - 1)))
        have HY2 := Lib.hid (TailR.setCell (o := 1) (g := w3.heap.size) HS2.out (HN8.out _ (by omega)).2.1 (.slice (restA (some ⟨g1, o1, none⟩) 1 e4) ds.length (e4 - 1)))
        have HY3 := Lib.hid (OwnR.setCell (o := 1) (g := w3.heap.size) HS3.out (HN8.out _ (by omega)).2.2 (.slice (restA (some ⟨g1, o1, none⟩) 1 e4) ds.length (e4 - 1)))
        have hzz := Lib.hid (show (w10.setCell ⟨w3.heap.size, 1, none⟩ (.slice (restA (some ⟨g1, o1, none⟩) 1 e4) ds.length (e4 - 1))).heap.size = w10.heap.size by simp [World.setCell])
        clear f0 f1 f2 f3 f4 q0 q1 q2 q3 q4 k1 cv0
        generalize (w10.setCell ⟨w3.heap.size, 1, none⟩ (.slice (restA (some ⟨g1, o1, none⟩) 1 e4) ds.length (e4 - 1))) = w11 at *
        have zz_w11 := Nat.le_of_eq hzz.out
        have yy_w11 := Nat.le_of_eq hzz.out.symm
        clear hzz
        have m0 := box_cell (j := 0) HO11.out rfl
        have m1 := box_cell (j := 1) HO11.out rfl
        have m2 := box_cell (j := 2) HO11.out rfl
        have m3 := box_cell (j := 3) HO11.out rfl
        have m4 := box_cell (j := 4) HO11.out rfl
        have n0 := box_cell (j := 0) HW11.out rfl
        have n1 := box_cell (j := 1) HW11.out rfl
        have n2 := box_cell (j := 2) HW11.out rfl
        have gg0 := box_free HRc11.out 0
        have gg1 := box_free HRc11.out 1
        have gg2 := box_free HRc11.out 2
        have gg3 := box_free HRc11.out 3
        have gg4 := box_free HRc11.out 4
        have h0 := box_free HRw11.out 0
        have h1 := box_free HRw11.out 1
        have h2 := box_free HRw11.out 2
        have a0 := box_cell (j := 0) HRc11.out rfl
        have a1 := box_cell (j := 1) HRc11.out rfl
        have a2 := box_cell (j := 2) HRc11.out rfl
        have a3 := box_cell (j := 3) HRc11.out rfl
        have a4 := box_cell (j := 4) HRc11.out rfl
        have bb0 := box_cell (j := 0) HRw11.out rfl
        have bb1 := box_cell (j := 1) HRw11.out rfl
        have bb2 := box_cell (j := 2) HRw11.out rfl
        go_wp2_with fail
        go_region
        all_goals
          go_wp2_with fail
          have HN6 := Lib.hid (show ∀ g, g < w2.heap.size → ¬ blkA (some ⟨g1, o1, none⟩) = some g ∧ ¬ F2 g ∧ ¬ F3 g from fun g hg => HN8.out g (.inl hg))
          have HE6 := HE8
          have HG6 := Lib.hid (show ∀ g, blkA (some ⟨g1, o1, none⟩) = some g ∨ F2 g ∨ F3 g → w.heap.size ≤ g ∧ g < w11.heap.size from fun g hg => by have := HG8.out g hg; omega)
          have hRC0_0 : (w11.setCell ⟨w.heap.size + 1, 0, none⟩ (.int .i64 cap)).heap[w.heap.size + 1]? = some (.cells #[.int .i64 cap, .slice none 0 0, .slice none 0 0, .slice none 0 0, .bool false] 26 (0, 0)) := box_set (j := 0) (u := .int .i64 cap) HRc11.out
          have hRC0_1 : ((w11.setCell ⟨w.heap.size + 1, 0, none⟩ (.int .i64 cap)).setCell ⟨w.heap.size + 1, 1, none⟩ (.slice (restA (some ⟨g1, o1, none⟩) 1 e4) ds.length (e4 - 1))).heap[w.heap.size + 1]? = some (.cells #[.int .i64 cap, .slice (restA (some ⟨g1, o1, none⟩) 1 e4) ds.length (e4 - 1), .slice none 0 0, .slice none 0 0, .bool false] 26 (0, 0)) := box_set (j := 1) (u := .slice (restA (some ⟨g1, o1, none⟩) 1 e4) ds.length (e4 - 1)) hRC0_0
          clear hRC0_0
          have hRC0_2 : (((w11.setCell ⟨w.heap.size + 1, 0, none⟩ (.int .i64 cap)).setCell ⟨w.heap.size + 1, 1, none⟩ (.slice (restA (some ⟨g1, o1, none⟩) 1 e4) ds.length (e4 - 1))).setCell ⟨w.heap.size + 1, 2, none⟩ (.slice (restA B2 3 e2) ss.length (e2 - 1))).heap[w.heap.size + 1]? = some (.cells #[.int .i64 cap, .slice (restA (some ⟨g1, o1, none⟩) 1 e4) ds.length (e4 - 1), .slice (restA B2 3 e2) ss.length (e2 - 1), .slice none 0 0, .bool false] 26 (0, 0)) := box_set (j := 2) (u := .slice (restA B2 3 e2) ss.length (e2 - 1)) hRC0_1
          clear hRC0_1
          have hRC0_3 : ((((w11.setCell ⟨w.heap.size + 1, 0, none⟩ (.int .i64 cap)).setCell ⟨w.heap.size + 1, 1, none⟩ (.slice (restA (some ⟨g1, o1, none⟩) 1 e4) ds.length (e4 - 1))).setCell ⟨w.heap.size + 1, 2, none⟩ (.slice (restA B2 3 e2) ss.length (e2 - 1))).setCell ⟨w.heap.size + 1, 3, none⟩ (.slice B3 recvs.length e3)).heap[w.heap.size + 1]? = some (.cells #[.int .i64 cap, .slice (restA (some ⟨g1, o1, none⟩) 1 e4) ds.length (e4 - 1), .slice (restA B2 3 e2) ss.length (e2 - 1), .slice B3 recvs.length e3, .bool false] 26 (0, 0)) := box_set (j := 3) (u := .slice B3 recvs.length e3) hRC0_2
          clear hRC0_2
          have hRC0_4 : (((((w11.setCell ⟨w.heap.size + 1, 0, none⟩ (.int .i64 cap)).setCell ⟨w.heap.size + 1, 1, none⟩ (.slice (restA (some ⟨g1, o1, none⟩) 1 e4) ds.length (e4 - 1))).setCell ⟨w.heap.size + 1, 2, none⟩ (.slice (restA B2 3 e2) ss.length (e2 - 1))).setCell ⟨w.heap.size + 1, 3, none⟩ (.slice B3 recvs.length e3)).setCell ⟨w.heap.size + 1, 4, none⟩ (.bool cl)).heap[w.heap.size + 1]? = some (.cells #[.int .i64 cap, .slice (restA (some ⟨g1, o1, none⟩) 1 e4) ds.length (e4 - 1), .slice (restA B2 3 e2) ss.length (e2 - 1), .slice B3 recvs.length e3, .bool cl] 26 (0, 0)) := box_set (j := 4) (u := .bool cl) hRC0_3
          clear hRC0_3
          have hRC0_5 : ((((((w11.setCell ⟨w.heap.size + 1, 0, none⟩ (.int .i64 cap)).setCell ⟨w.heap.size + 1, 1, none⟩ (.slice (restA (some ⟨g1, o1, none⟩) 1 e4) ds.length (e4 - 1))).setCell ⟨w.heap.size + 1, 2, none⟩ (.slice (restA B2 3 e2) ss.length (e2 - 1))).setCell ⟨w.heap.size + 1, 3, none⟩ (.slice B3 recvs.length e3)).setCell ⟨w.heap.size + 1, 4, none⟩ (.bool cl)).setCell ⟨w.heap.size + 2, 0, none⟩ (.int .i64 sd.fG)).heap[w.heap.size + 1]? = some (.cells #[.int .i64 cap, .slice (restA (some ⟨g1, o1, none⟩) 1 e4) ds.length (e4 - 1), .slice (restA B2 3 e2) ss.length (e2 - 1), .slice B3 recvs.length e3, .bool cl] 26 (0, 0)) := (Below.heap_setCell (((((w11.setCell ⟨w.heap.size + 1, 0, none⟩ (.int .i64 cap)).setCell ⟨w.heap.size + 1, 1, none⟩ (.slice (restA (some ⟨g1, o1, none⟩) 1 e4) ds.length (e4 - 1))).setCell ⟨w.heap.size + 1, 2, none⟩ (.slice (restA B2 3 e2) ss.length (e2 - 1))).setCell ⟨w.heap.size + 1, 3, none⟩ (.slice B3 recvs.length e3)).setCell ⟨w.heap.size + 1, 4, none⟩ (.bool cl)) ⟨w.heap.size + 2, 0, none⟩ (.int .i64 sd.fG) (w.heap.size + 1) (by simp only; omega)).trans hRC0_4
          clear hRC0_4
          have hRC0_6 : (((((((w11.setCell ⟨w.heap.size + 1, 0, none⟩ (.int .i64 cap)).setCell ⟨w.heap.size + 1, 1, none⟩ (.slice (restA (some ⟨g1, o1, none⟩) 1 e4) ds.length (e4 - 1))).setCell ⟨w.heap.size + 1, 2, none⟩ (.slice (restA B2 3 e2) ss.length (e2 - 1))).setCell ⟨w.heap.size + 1, 3, none⟩ (.slice B3 recvs.length e3)).setCell ⟨w.heap.size + 1, 4, none⟩ (.bool cl)).setCell ⟨w.heap.size + 2, 0, none⟩ (.int .i64 sd.fG)).setCell ⟨w.heap.size + 2, 1, none⟩ (.int .i64 sd.fCase)).heap[w.heap.size + 1]? = some (.cells #[.int .i64 cap, .slice (restA (some ⟨g1, o1, none⟩) 1 e4) ds.length (e4 - 1), .slice (restA B2 3 e2) ss.length (e2 - 1), .slice B3 recvs.length e3, .bool cl] 26 (0, 0)) := (Below.heap_setCell ((((((w11.setCell ⟨w.heap.size + 1, 0, none⟩ (.int .i64 cap)).setCell ⟨w.heap.size + 1, 1, none⟩ (.slice (restA (some ⟨g1, o1, none⟩) 1 e4) ds.length (e4 - 1))).setCell ⟨w.heap.size + 1, 2, none⟩ (.slice (restA B2 3 e2) ss.length (e2 - 1))).setCell ⟨w.heap.size + 1, 3, none⟩ (.slice B3 recvs.length e3)).setCell ⟨w.heap.size + 1, 4, none⟩ (.bool cl)).setCell ⟨w.heap.size + 2, 0, none⟩ (.int .i64 sd.fG)) ⟨w.heap.size + 2, 1, none⟩ (.int .i64 sd.fCase) (w.heap.size + 1) (by simp only; omega)).trans hRC0_5
          clear hRC0_5
          have hRC0_7 : ((((((((w11.setCell ⟨w.heap.size + 1, 0, none⟩ (.int .i64 cap)).setCell ⟨w.heap.size + 1, 1, none⟩ (.slice (restA (some ⟨g1, o1, none⟩) 1 e4) ds.length (e4 - 1))).setCell ⟨w.heap.size + 1, 2, none⟩ (.slice (restA B2 3 e2) ss.length (e2 - 1))).setCell ⟨w.heap.size + 1, 3, none⟩ (.slice B3 recvs.length e3)).setCell ⟨w.heap.size + 1, 4, none⟩ (.bool cl)).setCell ⟨w.heap.size + 2, 0, none⟩ (.int .i64 sd.fG)).setCell ⟨w.heap.size + 2, 1, none⟩ (.int .i64 sd.fCase)).setCell ⟨w.heap.size + 2, 2, none⟩ (.int .i64 sd.fVal)).heap[w.heap.size + 1]? = some (.cells #[.int .i64 cap, .slice (restA (some ⟨g1, o1, none⟩) 1 e4) ds.length (e4 - 1), .slice (restA B2 3 e2) ss.length (e2 - 1), .slice B3 recvs.length e3, .bool cl] 26 (0, 0)) := (Below.heap_setCell (((((((w11.setCell ⟨w.heap.size + 1, 0, none⟩ (.int .i64 cap)).setCell ⟨w.heap.size + 1, 1, none⟩ (.slice (restA (some ⟨g1, o1, none⟩) 1 e4) ds.length (e4 - 1))).setCell ⟨w.heap.size + 1, 2, none⟩ (.slice (restA B2 3 e2) ss.length (e2 - 1))).setCell ⟨w.heap.size + 1, 3, none⟩ (.slice B3 recvs.length e3)).setCell ⟨w.heap.size + 1, 4, none⟩ (.bool cl)).setCell ⟨w.heap.size + 2, 0, none⟩ (.int .i64 sd.fG)).setCell ⟨w.heap.size + 2, 1, none⟩ (.int .i64 sd.fCase)) ⟨w.heap.size + 2, 2, none⟩ (.int .i64 sd.fVal) (w.heap.size + 1) (by simp only; omega)).trans hRC0_6
          clear hRC0_6
          have hRC0 := hRC0_7
          clear hRC0_7
          have hRW0_0 : (w11.setCell ⟨w.heap.size + 1, 0, none⟩ (.int .i64 cap)).heap[w.heap.size + 2]? = some (.cells #[.int .i64 0, .int .i64 0, .int .i64 0] 29 (0, 0)) := (Below.heap_setCell w11 ⟨w.heap.size + 1, 0, none⟩ (.int .i64 cap) (w.heap.size + 2) (by simp only; omega)).trans HRw11.out
          have hRW0_1 : ((w11.setCell ⟨w.heap.size + 1, 0, none⟩ (.int .i64 cap)).setCell ⟨w.heap.size + 1, 1, none⟩ (.slice (restA (some ⟨g1, o1, none⟩) 1 e4) ds.length (e4 - 1))).heap[w.heap.size + 2]? = some (.cells #[.int .i64 0, .int .i64 0, .int .i64 0] 29 (0, 0)) := (Below.heap_setCell (w11.setCell ⟨w.heap.size + 1, 0, none⟩ (.int .i64 cap)) ⟨w.heap.size + 1, 1, none⟩ (.slice (restA (some ⟨g1, o1, none⟩) 1 e4) ds.length (e4 - 1)) (w.heap.size + 2) (by simp only; omega)).trans hRW0_0
          clear hRW0_0
          have hRW0_2 : (((w11.setCell ⟨w.heap.size + 1, 0, none⟩ (.int .i64 cap)).setCell ⟨w.heap.size + 1, 1, none⟩ (.slice (restA (some ⟨g1, o1, none⟩) 1 e4) ds.length (e4 - 1))).setCell ⟨w.heap.size + 1, 2, none⟩ (.slice (restA B2 3 e2) ss.length (e2 - 1))).heap[w.heap.size + 2]? = some (.cells #[.int .i64 0, .int .i64 0, .int .i64 0] 29 (0, 0)) := (Below.heap_setCell ((w11.setCell ⟨w.heap.size + 1, 0, none⟩ (.int .i64 cap)).setCell ⟨w.heap.size + 1, 1, none⟩ (.slice (restA (some ⟨g1, o1, none⟩) 1 e4) ds.length (e4 - 1))) ⟨w.heap.size + 1, 2, none⟩ (.slice (restA B2 3 e2) ss.length (e2 - 1)) (w.heap.size + 2) (by simp only; omega)).trans hRW0_1
          clear hRW0_1
          have hRW0_3 : ((((w11.setCell ⟨w.heap.size + 1, 0, none⟩ (.int .i64 cap)).setCell ⟨w.heap.size + 1, 1, none⟩ (.slice (restA (some ⟨g1, o1, none⟩) 1 e4) ds.length (e4 - 1))).setCell ⟨w.heap.size + 1, 2, none⟩ (.slice (restA B2 3 e2) ss.length (e2 - 1))).setCell ⟨w.heap.size + 1, 3, none⟩ (.slice B3 recvs.length e3)).heap[w.heap.size + 2]? = some (.cells #[.int .i64 0, .int .i64 0, .int .i64 0] 29 (0, 0)) := (Below.heap_setCell (((w11.setCell ⟨w.heap.size + 1, 0, none⟩ (.int .i64 cap)).setCell ⟨w.heap.size + 1, 1, none⟩ (.slice (restA (some ⟨g1, o1, none⟩) 1 e4) ds.length (e4 - 1))).setCell ⟨w.heap.size + 1, 2, none⟩ (.slice (restA B2 3 e2) ss.length (e2 - 1))) ⟨w.heap.size + 1, 3, none⟩ (.slice B3 recvs.length e3) (w.heap.size + 2) (by simp only; omega)).trans hRW0_2
          clear hRW0_2
          have hRW0_4 : (((((w11.setCell ⟨w.heap.size + 1, 0, none⟩ (.int .i64 cap)).setCell ⟨w.heap.size + 1, 1, none⟩ (.slice (restA (some ⟨g1, o1, none⟩) 1 e4) ds.length (e4 - 1))).setCell ⟨w.heap.size + 1, 2, none⟩ (.slice (restA B2 3 e2) ss.length (e2 - 1))).setCell ⟨w.heap.size + 1, 3, none⟩ (.slice B3 recvs.length e3)).setCell ⟨w.heap.size + 1, 4, none⟩ (.bool cl)).heap[w.heap.size + 2]? = some (.cells #[.int .i64 0, .int .i64 0, .int .i64 0] 29 (0, 0)) := (Below.heap_setCell ((((w11.setCell ⟨w.heap.size + 1, 0, none⟩ (.int .i64 cap)).setCell ⟨w.heap.size + 1, 1, none⟩ (.slice (restA (some ⟨g1, o1, none⟩) 1 e4) ds.length (e4 - 1))).setCell ⟨w.heap.size + 1, 2, none⟩ (.slice (restA B2 3 e2) ss.length (e2 - 1))).setCell ⟨w.heap.size + 1, 3, none⟩ (.slice B3 recvs.length e3)) ⟨w.heap.size + 1, 4, none⟩ (.bool cl) (w.heap.size + 2) (by simp only; omega)).trans hRW0_3
          clear hRW0_3
          have hRW0_5 : ((((((w11.setCell ⟨w.heap.size + 1, 0, none⟩ (.int .i64 cap)).setCell ⟨w.heap.size + 1, 1, none⟩ (.slice (restA (some ⟨g1, o1, none⟩) 1 e4) ds.length (e4 - 1))).setCell ⟨w.heap.size + 1, 2, none⟩ (.slice (restA B2 3 e2) ss.length (e2 - 1))).setCell ⟨w.heap.size + 1, 3, none⟩ (.slice B3 recvs.length e3)).setCell ⟨w.heap.size + 1, 4, none⟩ (.bool cl)).setCell ⟨w.heap.size + 2, 0, none⟩ (.int .i64 sd.fG)).heap[w.heap.size + 2]? = some (.cells #[.int .i64 sd.fG, .int .i64 0, .int .i64 0] 29 (0, 0)) := box_set (j := 0) (u := .int .i64 sd.fG) hRW0_4
          clear hRW0_4
          have hRW0_6 : (((((((w11.setCell ⟨w.heap.size + 1, 0, none⟩ (.int .i64 cap)).setCell ⟨w.heap.size + 1, 1, none⟩ (.slice (restA (some ⟨g1, o1, none⟩) 1 e4) ds.length (e4 - 1))).setCell ⟨w.heap.size + 1, 2, none⟩ (.slice (restA B2 3 e2) ss.length (e2 - 1))).setCell ⟨w.heap.size + 1, 3, none⟩ (.slice B3 recvs.length e3)).setCell ⟨w.heap.size + 1, 4, none⟩ (.bool cl)).setCell ⟨w.heap.size + 2, 0, none⟩ (.int .i64 sd.fG)).setCell ⟨w.heap.size + 2, 1, none⟩ (.int .i64 sd.fCase)).heap[w.heap.size + 2]? = some (.cells #[.int .i64 sd.fG, .int .i64 sd.fCase, .int .i64 0] 29 (0, 0)) := box_set (j := 1) (u := .int .i64 sd.fCase) hRW0_5
          clear hRW0_5
          have hRW0_7 : ((((((((w11.setCell ⟨w.heap.size + 1, 0, none⟩ (.int .i64 cap)).setCell ⟨w.heap.size + 1, 1, none⟩ (.slice (restA (some ⟨g1, o1, none⟩) 1 e4) ds.length (e4 - 1))).setCell ⟨w.heap.size + 1, 2, none⟩ (.slice (restA B2 3 e2) ss.length (e2 - 1))).setCell ⟨w.heap.size + 1, 3, none⟩ (.slice B3 recvs.length e3)).setCell ⟨w.heap.size + 1, 4, none⟩ (.bool cl)).setCell ⟨w.heap.size + 2, 0, none⟩ (.int .i64 sd.fG)).setCell ⟨w.heap.size + 2, 1, none⟩ (.int .i64 sd.fCase)).setCell ⟨w.heap.size + 2, 2, none⟩ (.int .i64 sd.fVal)).heap[w.heap.size + 2]? = some (.cells #[.int .i64 sd.fG, .int .i64 sd.fCase, .int .i64 sd.fVal] 29 (0, 0)) := box_set (j := 2) (u := .int .i64 sd.fVal) hRW0_6
          clear hRW0_6
          have hRW0 := hRW0_7
          clear hRW0_7
          have hBF0 : Below w.heap.size w ((((((((w11.setCell ⟨w.heap.size + 1, 0, none⟩ (.int .i64 cap)).setCell ⟨w.heap.size + 1, 1, none⟩ (.slice (restA (some ⟨g1, o1, none⟩) 1 e4) ds.length (e4 - 1))).setCell ⟨w.heap.size + 1, 2, none⟩ (.slice (restA B2 3 e2) ss.length (e2 - 1))).setCell ⟨w.heap.size + 1, 3, none⟩ (.slice B3 recvs.length e3)).setCell ⟨w.heap.size + 1, 4, none⟩ (.bool cl)).setCell ⟨w.heap.size + 2, 0, none⟩ (.int .i64 sd.fG)).setCell ⟨w.heap.size + 2, 1, none⟩ (.int .i64 sd.fCase)).setCell ⟨w.heap.size + 2, 2, none⟩ (.int .i64 sd.fVal)) := (below_set (below_set (below_set (below_set (below_set (below_set (below_set (below_set HB11.out (by simp only; omega) (.int .i64 cap)) (by simp only; omega) (.slice (restA (some ⟨g1, o1, none⟩) 1 e4) ds.length (e4 - 1))) (by simp only; omega) (.slice (restA B2 3 e2) ss.length (e2 - 1))) (by simp only; omega) (.slice B3 recvs.length e3)) (by simp only; omega) (.bool cl)) (by simp only; omega) (.int .i64 sd.fG)) (by simp only; omega) (.int .i64 sd.fCase)) (by simp only; omega) (.int .i64 sd.fVal))
          have hO1_0 := TailR.setCell (o := 0) (g := w.heap.size + 1) HY1.out (HN6.out _ (by omega)).1 (.int .i64 cap)
          have hO1_1 := TailR.setCell (o := 1) (g := w.heap.size + 1) hO1_0 (HN6.out _ (by omega)).1 (.slice (restA (some ⟨g1, o1, none⟩) 1 e4) ds.length (e4 - 1))
          clear hO1_0
          have hO1_2 := TailR.setCell (o := 2) (g := w.heap.size + 1) hO1_1 (HN6.out _ (by omega)).1 (.slice (restA B2 3 e2) ss.length (e2 - 1))
          clear hO1_1
          have hO1_3 := TailR.setCell (o := 3) (g := w.heap.size + 1) hO1_2 (HN6.out _ (by omega)).1 (.slice B3 recvs.length e3)
          clear hO1_2
          have hO1_4 := TailR.setCell (o := 4) (g := w.heap.size + 1) hO1_3 (HN6.out _ (by omega)).1 (.bool cl)
          clear hO1_3
          have hO1_5 := TailR.setCell (o := 0) (g := w.heap.size + 2) hO1_4 (HN6.out _ (by omega)).1 (.int .i64 sd.fG)
          clear hO1_4
          have hO1_6 := TailR.setCell (o := 1) (g := w.heap.size + 2) hO1_5 (HN6.out _ (by omega)).1 (.int .i64 sd.fCase)
          clear hO1_5
          have hO1_7 := TailR.setCell (o := 2) (g := w.heap.size + 2) hO1_6 (HN6.out _ (by omega)).1 (.int .i64 sd.fVal)
          clear hO1_6
          have hO1 := hO1_7
          clear hO1_7
          have hO2_0 := TailR.setCell (o := 0) (g := w.heap.size + 1) HY2.out (HN6.out _ (by omega)).2.1 (.int .i64 cap)
          have hO2_1 := TailR.setCell (o := 1) (g := w.heap.size + 1) hO2_0 (HN6.out _ (by omega)).2.1 (.slice (restA (some ⟨g1, o1, none⟩) 1 e4) ds.length (e4 - 1))
          clear hO2_0
          have hO2_2 := TailR.setCell (o := 2) (g := w.heap.size + 1) hO2_1 (HN6.out _ (by omega)).2.1 (.slice (restA B2 3 e2) ss.length (e2 - 1))
          clear hO2_1
          have hO2_3 := TailR.setCell (o := 3) (g := w.heap.size + 1) hO2_2 (HN6.out _ (by omega)).2.1 (.slice B3 recvs.length e3)
          clear hO2_2
          have hO2_4 := TailR.setCell (o := 4) (g := w.heap.size + 1) hO2_3 (HN6.out _ (by omega)).2.1 (.bool cl)
          clear hO2_3
          have hO2_5 := TailR.setCell (o := 0) (g := w.heap.size + 2) hO2_4 (HN6.out _ (by omega)).2.1 (.int .i64 sd.fG)
          clear hO2_4
          have hO2_6 := TailR.setCell (o := 1) (g := w.heap.size + 2) hO2_5 (HN6.out _ (by omega)).2.1 (.int .i64 sd.fCase)
          clear hO2_5
          have hO2_7 := TailR.setCell (o := 2) (g := w.heap.size + 2) hO2_6 (HN6.out _ (by omega)).2.1 (.int .i64 sd.fVal)
          clear hO2_6
          have hO2 := hO2_7
          clear hO2_7
          have hO3_0 := OwnR.setCell (o := 0) (g := w.heap.size + 1) HY3.out (HN6.out _ (by omega)).2.2 (.int .i64 cap)
          have hO3_1 := OwnR.setCell (o := 1) (g := w.heap.size + 1) hO3_0 (HN6.out _ (by omega)).2.2 (.slice (restA (some ⟨g1, o1, none⟩) 1 e4) ds.length (e4 - 1))
          clear hO3_0
          have hO3_2 := OwnR.setCell (o := 2) (g := w.heap.size + 1) hO3_1 (HN6.out _ (by omega)).2.2 (.slice (restA B2 3 e2) ss.length (e2 - 1))
          clear hO3_1
          have hO3_3 := OwnR.setCell (o := 3) (g := w.heap.size + 1) hO3_2 (HN6.out _ (by omega)).2.2 (.slice B3 recvs.length e3)
          clear hO3_2
          have hO3_4 := OwnR.setCell (o := 4) (g := w.heap.size + 1) hO3_3 (HN6.out _ (by omega)).2.2 (.bool cl)
          clear hO3_3
          have hO3_5 := OwnR.setCell (o := 0) (g := w.heap.size + 2) hO3_4 (HN6.out _ (by omega)).2.2 (.int .i64 sd.fG)
          clear hO3_4
          have hO3_6 := OwnR.setCell (o := 1) (g := w.heap.size + 2) hO3_5 (HN6.out _ (by omega)).2.2 (.int .i64 sd.fCase)
          clear hO3_5
          have hO3_7 := OwnR.setCell (o := 2) (g := w.heap.size + 2) hO3_6 (HN6.out _ (by omega)).2.2 (.int .i64 sd.fVal)
          clear hO3_6
          have hO3 := hO3_7
          clear hO3_7
          have hzF0 : ((((((((w11.setCell ⟨w.heap.size + 1, 0, none⟩ (.int .i64 cap)).setCell ⟨w.heap.size + 1, 1, none⟩ (.slice (restA (some ⟨g1, o1, none⟩) 1 e4) ds.length (e4 - 1))).setCell ⟨w.heap.size + 1, 2, none⟩ (.slice (restA B2 3 e2) ss.length (e2 - 1))).setCell ⟨w.heap.size + 1, 3, none⟩ (.slice B3 recvs.length e3)).setCell ⟨w.heap.size + 1, 4, none⟩ (.bool cl)).setCell ⟨w.heap.size + 2, 0, none⟩ (.int .i64 sd.fG)).setCell ⟨w.heap.size + 2, 1, none⟩ (.int .i64 sd.fCase)).setCell ⟨w.heap.size + 2, 2, none⟩ (.int .i64 sd.fVal)).heap.size = w11.heap.size := by simp [World.setCell]
          generalize ((((((((w11.setCell ⟨w.heap.size + 1, 0, none⟩ (.int .i64 cap)).setCell ⟨w.heap.size + 1, 1, none⟩ (.slice (restA (some ⟨g1, o1, none⟩) 1 e4) ds.length (e4 - 1))).setCell ⟨w.heap.size + 1, 2, none⟩ (.slice (restA B2 3 e2) ss.length (e2 - 1))).setCell ⟨w.heap.size + 1, 3, none⟩ (.slice B3 recvs.length e3)).setCell ⟨w.heap.size + 1, 4, none⟩ (.bool cl)).setCell ⟨w.heap.size + 2, 0, none⟩ (.int .i64 sd.fG)).setCell ⟨w.heap.size + 2, 1, none⟩ (.int .i64 sd.fCase)).setCell ⟨w.heap.size + 2, 2, none⟩ (.int .i64 sd.fVal)) = WE at *
          have hRC : WE.drew.heap[w.heap.size + 1]? = some (.cells #[.int .i64 cap, .slice (restA (some ⟨g1, o1, none⟩) 1 e4) ds.length (e4 - 1), .slice (restA B2 3 e2) ss.length (e2 - 1), .slice B3 recvs.length e3, .bool cl] 26 (0, 0)) := hRC0
          have hRW : WE.drew.heap[w.heap.size + 2]? = some (.cells #[.int .i64 sd.fG, .int .i64 sd.fCase, .int .i64 sd.fVal] 29 (0, 0)) := hRW0
          have hBF : Below w.heap.size w WE.drew := below_drawn hBF0 1
          have hzF : WE.drew.heap.size = w11.heap.size := hzF0
          have hP1 := hO1.stay (w' := WE.drew) (fun _ _ _ => rfl) (Nat.le_refl _)
          have hP2 := hO2.stay (w' := WE.drew) (fun _ _ _ => rfl) (Nat.le_refl _)
          have hP3 := hO3.stay (w' := WE.drew) (fun _ _ _ => rfl) (Nat.le_refl _)
          clear hRC0 hRW0 hBF0 hzF0 hO1 hO2 hO3
          generalize WE.drew = WF at *
          have y0 := box_cell (j := 0) hRC rfl
          have y1 := box_cell (j := 1) hRC rfl
          have y2 := box_cell (j := 2) hRC rfl
          have y3 := box_cell (j := 3) hRC rfl
          have y4 := box_cell (j := 4) hRC rfl
          have z0 := box_cell (j := 0) hRW rfl
          have z1 := box_cell (j := 1) hRW rfl
          have z2 := box_cell (j := 2) hRW rfl
          refine bodyPost_ret (v := .tuple #[.agg #[.int .i64 cap, .slice (restA (some ⟨g1, o1, none⟩) 1 e4) ds.length (e4 - 1), .slice (restA B2 3 e2) ss.length (e2 - 1), .slice B3 recvs.length e3, .bool cl], .int .i64 d, .bool true, .agg #[.int .i64 sd.fG, .int .i64 sd.fCase, .int .i64 sd.fVal], .int .i64 0]) (by simp [results, Try.results30, go_sem, y0, y1, y2, y3, y4, z0, z1, z2]) rfl ?_
          rw [HRR.out]
          refine ⟨_, rfl, ownChan (x := (⟨cap, ds, ss, recvs, cl⟩ : DChan)) hw0 hP1 hP2 (TailR.of hP3) ?_ ?_ ?_ HE6.out.1 HE6.out.2.1 HE6.out.2.2, hBF⟩
          · exact fun g hg => by have := HG6.out g (.inl hg); omega
          · exact fun g hg => by have := HG6.out g (.inr (.inl hg)); omega
          · exact fun g hg => by have := HG6.out g (.inr (.inr hg)); omega
end Go.Proofs.Ytgdmcdblhpdlmaa
