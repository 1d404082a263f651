
/- The model's SendTo. -/

import Derived.Test.YtgdmcdblhpdlmaaChanOkS

import Derived.Test.YtgdmcdblhpdlmaaChanCopyS

import Derived.Test.YtgdmcdblhpdlmaaChanCut

import Derived.Test.YtgdmcdblhpdlmaaChanX

namespace Go.Proofs.Ytgdmcdblhpdlmaa
set_option linter.unusedSimpArgs false
set_option linter.unusedVariables false
open Go.RowKit

set_option maxRecDepth 100000 in
theorem l06None_any (w : World) : Calls Try.prog 49 #[] w fun e w' => e = .returned (.agg #[.int .i64 (-1), .int .i64 0, .int .i64 0]) ∧ Below w.heap.size w w' := by
  go_enter Try.func49, Try.ntmps49
  go_wp2_with fail
  have X := box_new w #[.int .i64 (-1), .int .i64 0, .int .i64 0] 29
  have HB : Below w.heap.size w (w.alloc (.cells #[.int .i64 (-1), .int .i64 0, .int .i64 0] 29)) := (Below.refl _ _).alloc (Nat.le_refl _) _
  have d0 := box_cell (j := 0) X rfl
  have d1 := box_cell (j := 1) X rfl
  have d2 := box_cell (j := 2) X rfl
  generalize w.alloc (.cells #[.int .i64 (-1), .int .i64 0, .int .i64 0] 29) = W at *
  refine bodyPost_ret (v := .agg #[.int .i64 (-1), .int .i64 0, .int .i64 0]) (by simp [results, Try.results49, go_sem, d0, d1, d2]) rfl ?_
  exact ⟨rfl, HB⟩

set_option maxRecDepth 100000 in
set_option maxHeartbeats 4000000 in
theorem specSendTo_any {w : World} {hi : Nat} {x : DChan} {vs : List Value} {v : Int} (h : layChan.see w hi x vs) (hhi : hi ≤ w.heap.size) (hn : szChan x ≤ 1048576) (hv : (Lit.int .i64 v).wf = true) :
    Calls Try.prog 14 #[.agg vs.toArray, .int .i64 v] w (MadeC w (sendR x v)) := by
  have hw0 := wf_cap h
  obtain ⟨A1, n1, c1, A2, n2, c2, A3, n3, c3, rfl, -, ⟨-, -, s1⟩, ⟨-, -, s2⟩, ⟨-, -, s3⟩⟩ := seeChan h
  have hn0 := hn
  unfold szChan at hn0
  have HSE := Lib.hid (fun (W : World) (hW : Below w.heap.size w W) => layChan.keep h (w' := W) fun k hk => hW.block k (by omega))
  have HOK := Lib.hid (fun (W : World) (hW : Below w.heap.size w W) => specChanOk_any (HSE.out W hW) (by have := hW.size; omega))
  have HV := Lib.hid (fun (W : World) => specVal_any v W)
  have HCS := Lib.hid (fun (W : World) (hW : Below w.heap.size w W) => specCanSend_any (HSE.out W hW) (by have := hW.size; omega))
  have HCP := Lib.hid (fun (W : World) (hW : Below w.heap.size w W) => l06Copy_any (HSE.out W hW) (by have := hW.size; omega) hn)
  have HS3 := Lib.hid (fun (W : World) (hW : Below w.heap.size w W) => s3.below hW hhi)
  have HRR := Lib.hid (show sendR x v = if (if !(chanOkB x && okV v) then (1 : Int) else if x.fClosed then 2 else if !takesB x.fBuf.length x.fRecvs.length x.fCap x.fClosed then 3 else 0) = 0 then ((sendX x v).1, (sendX x v).2, 0) else (zeroC, zeroW, (if !(chanOkB x && okV v) then (1 : Int) else if x.fClosed then 2 else if !takesB x.fBuf.length x.fRecvs.length x.fCap x.fClosed then 3 else 0)) from rfl)
  have hcs : canSendB x = (chanOkB x && takesB x.fBuf.length x.fRecvs.length x.fCap x.fClosed) := rfl
  rw [hcs] at HCS
  have l3 := s3.1
  clear s1 s2 s3 h HSE hcs
  obtain ⟨cap, buf, sends, recvs, cl⟩ := x
  simp only at hw0 hn0 HCS HRR l3
  subst l3
  generalize chanOkB ⟨cap, buf, sends, recvs, cl⟩ = ok at *
  generalize okV v = ov at *
  generalize takesB buf.length recvs.length cap cl = tk at *
  show Calls Try.prog 14 #[.agg #[.int .i64 cap, .slice A1 n1 c1, .slice A2 n2 c2, .slice A3 recvs.length c3, .bool cl], .int .i64 v] w _
  have HX0 := Lib.hid (show (((w.alloc (.cells #[.int .i64 cap, .slice A1 n1 c1, .slice A2 n2 c2, .slice A3 recvs.length c3, .bool cl] 26)).alloc (.cells #[.int .i64 0, .slice none 0 0, .slice none 0 0, .slice none 0 0, .bool false] 26)).alloc (.cells #[.int .i64 0, .int .i64 0, .int .i64 0] 29)).heap[w.heap.size]? = some (.cells #[.int .i64 cap, .slice A1 n1 c1, .slice A2 n2 c2, .slice A3 recvs.length c3, .bool cl] 26 (0, 0)) from by have := box_new w #[.int .i64 cap, .slice A1 n1 c1, .slice A2 n2 c2, .slice A3 recvs.length c3, .bool cl] 26; exact box_keep (box_keep this ((Below.refl _ _).alloc (Nat.le_refl _) _) (by simp)) ((Below.refl _ _).alloc (Nat.le_refl _) _) (by simp; omega))
  have HRc0 := Lib.hid (show (((w.alloc (.cells #[.int .i64 cap, .slice A1 n1 c1, .slice A2 n2 c2, .slice A3 recvs.length c3, .bool cl] 26)).alloc (.cells #[.int .i64 0, .slice none 0 0, .slice none 0 0, .slice none 0 0, .bool false] 26)).alloc (.cells #[.int .i64 0, .int .i64 0, .int .i64 0] 29)).heap[w.heap.size + 1]? = some (.cells #[.int .i64 0, .slice none 0 0, .slice none 0 0, .slice none 0 0, .bool false] 26 (0, 0)) from by have := box_new (w.alloc (.cells #[.int .i64 cap, .slice A1 n1 c1, .slice A2 n2 c2, .slice A3 recvs.length c3, .bool cl] 26)) #[.int .i64 0, .slice none 0 0, .slice none 0 0, .slice none 0 0, .bool false] 26; rw [World.size_alloc] at this; exact box_keep this ((Below.refl _ _).alloc (Nat.le_refl _) _) (by simp))
  have HRw0 := Lib.hid (show (((w.alloc (.cells #[.int .i64 cap, .slice A1 n1 c1, .slice A2 n2 c2, .slice A3 recvs.length c3, .bool cl] 26)).alloc (.cells #[.int .i64 0, .slice none 0 0, .slice none 0 0, .slice none 0 0, .bool false] 26)).alloc (.cells #[.int .i64 0, .int .i64 0, .int .i64 0] 29)).heap[w.heap.size + 2]? = some (.cells #[.int .i64 0, .int .i64 0, .int .i64 0] 29 (0, 0)) from by have := box_new ((w.alloc (.cells #[.int .i64 cap, .slice A1 n1 c1, .slice A2 n2 c2, .slice A3 recvs.length c3, .bool cl] 26)).alloc (.cells #[.int .i64 0, .slice none 0 0, .slice none 0 0, .slice none 0 0, .bool false] 26)) #[.int .i64 0, .int .i64 0, .int .i64 0] 29; rw [World.size_alloc, World.size_alloc] at this; exact this)
  have HB0 := Lib.hid (show Below w.heap.size w (((w.alloc (.cells #[.int .i64 cap, .slice A1 n1 c1, .slice A2 n2 c2, .slice A3 recvs.length c3, .bool cl] 26)).alloc (.cells #[.int .i64 0, .slice none 0 0, .slice none 0 0, .slice none 0 0, .bool false] 26)).alloc (.cells #[.int .i64 0, .int .i64 0, .int .i64 0] 29)) by go_grown)
  have zz0 : w.heap.size + 3 ≤ (((w.alloc (.cells #[.int .i64 cap, .slice A1 n1 c1, .slice A2 n2 c2, .slice A3 recvs.length c3, .bool cl] 26)).alloc (.cells #[.int .i64 0, .slice none 0 0, .slice none 0 0, .slice none 0 0, .bool false] 26)).alloc (.cells #[.int .i64 0, .int .i64 0, .int .i64 0] 29)).heap.size := by simp
  go_enter Try.func14, Try.ntmps14
  go_upto_region 1 with (fail)
  generalize (((w.alloc (.cells #[.int .i64 cap, .slice A1 n1 c1, .slice A2 n2 c2, .slice A3 recvs.length c3, .bool cl] 26)).alloc (.cells #[.int .i64 0, .slice none 0 0, .slice none 0 0, .slice none 0 0, .bool false] 26)).alloc (.cells #[.int .i64 0, .int .i64 0, .int .i64 0] 29)) = w0 at *
  have q0 := box_cell (j := 0) HX0.out rfl
  have q1 := box_cell (j := 1) HX0.out rfl
  have q2 := box_cell (j := 2) HX0.out rfl
  have q3 := box_cell (j := 3) HX0.out rfl
  have q4 := box_cell (j := 4) HX0.out rfl
  go_wp2_with fail
  refine (HOK.out _ HB0.out).mono ?_
  rintro e w1 ⟨rfl, hb1⟩
  have hz1 := hb1.size
  have HX1 := Lib.hid (box_keep HX0.out hb1 (by omega))
  have HRc1 := Lib.hid (box_keep HRc0.out hb1 (by omega))
  have HRw1 := Lib.hid (box_keep HRw0.out hb1 (by omega))
  have HB1 := Lib.hid (HB0.out.trans (hb1.mono (by omega)))
  clear q0 q1 q2 q3 q4 hb1
  cases ok
  · have HR := HRR
    have g0 := box_free HRc1.out 0
    have g1 := box_free HRc1.out 1
    have g2 := box_free HRc1.out 2
    have g3 := box_free HRc1.out 3
    have g4 := box_free HRc1.out 4
    have a0 := box_cell (j := 0) HRc1.out rfl
    have a1 := box_cell (j := 1) HRc1.out rfl
    have a2 := box_cell (j := 2) HRc1.out rfl
    have a3 := box_cell (j := 3) HRc1.out rfl
    have a4 := box_cell (j := 4) HRc1.out rfl
    have h0 := box_free HRw1.out 0
    have h1 := box_free HRw1.out 1
    have h2 := box_free HRw1.out 2
    have b0 := box_cell (j := 0) HRw1.out rfl
    have b1 := box_cell (j := 1) HRw1.out rfl
    have b2 := box_cell (j := 2) HRw1.out rfl
    go_wp2_with fail
    have hRC_0 : (w1.setCell ⟨w.heap.size + 1, 0, none⟩ (.int .i64 0)).heap[w.heap.size + 1]? = some (.cells #[.int .i64 0, .slice none 0 0, .slice none 0 0, .slice none 0 0, .bool false] 26 (0, 0)) := box_set (j := 0) (u := .int .i64 0) HRc1.out
    have hRC_1 : ((w1.setCell ⟨w.heap.size + 1, 0, none⟩ (.int .i64 0)).setCell ⟨w.heap.size + 1, 1, none⟩ (.slice none 0 0)).heap[w.heap.size + 1]? = some (.cells #[.int .i64 0, .slice none 0 0, .slice none 0 0, .slice none 0 0, .bool false] 26 (0, 0)) := box_set (j := 1) (u := .slice none 0 0) hRC_0
    clear hRC_0
    have hRC_2 : (((w1.setCell ⟨w.heap.size + 1, 0, none⟩ (.int .i64 0)).setCell ⟨w.heap.size + 1, 1, none⟩ (.slice none 0 0)).setCell ⟨w.heap.size + 1, 2, none⟩ (.slice none 0 0)).heap[w.heap.size + 1]? = some (.cells #[.int .i64 0, .slice none 0 0, .slice none 0 0, .slice none 0 0, .bool false] 26 (0, 0)) := box_set (j := 2) (u := .slice none 0 0) hRC_1
    clear hRC_1
    have hRC_3 : ((((w1.setCell ⟨w.heap.size + 1, 0, none⟩ (.int .i64 0)).setCell ⟨w.heap.size + 1, 1, none⟩ (.slice none 0 0)).setCell ⟨w.heap.size + 1, 2, none⟩ (.slice none 0 0)).setCell ⟨w.heap.size + 1, 3, none⟩ (.slice none 0 0)).heap[w.heap.size + 1]? = some (.cells #[.int .i64 0, .slice none 0 0, .slice none 0 0, .slice none 0 0, .bool false] 26 (0, 0)) := box_set (j := 3) (u := .slice none 0 0) hRC_2
    clear hRC_2
    have hRC_4 : (((((w1.setCell ⟨w.heap.size + 1, 0, none⟩ (.int .i64 0)).setCell ⟨w.heap.size + 1, 1, none⟩ (.slice none 0 0)).setCell ⟨w.heap.size + 1, 2, none⟩ (.slice none 0 0)).setCell ⟨w.heap.size + 1, 3, none⟩ (.slice none 0 0)).setCell ⟨w.heap.size + 1, 4, none⟩ (.bool false)).heap[w.heap.size + 1]? = some (.cells #[.int .i64 0, .slice none 0 0, .slice none 0 0, .slice none 0 0, .bool false] 26 (0, 0)) := box_set (j := 4) (u := .bool false) hRC_3
    clear hRC_3
    have hRC_5 : ((((((w1.setCell ⟨w.heap.size + 1, 0, none⟩ (.int .i64 0)).setCell ⟨w.heap.size + 1, 1, none⟩ (.slice none 0 0)).setCell ⟨w.heap.size + 1, 2, none⟩ (.slice none 0 0)).setCell ⟨w.heap.size + 1, 3, none⟩ (.slice none 0 0)).setCell ⟨w.heap.size + 1, 4, none⟩ (.bool false)).setCell ⟨w.heap.size + 2, 0, none⟩ (.int .i64 0)).heap[w.heap.size + 1]? = some (.cells #[.int .i64 0, .slice none 0 0, .slice none 0 0, .slice none 0 0, .bool false] 26 (0, 0)) := (Below.heap_setCell (((((w1.setCell ⟨w.heap.size + 1, 0, none⟩ (.int .i64 0)).setCell ⟨w.heap.size + 1, 1, none⟩ (.slice none 0 0)).setCell ⟨w.heap.size + 1, 2, none⟩ (.slice none 0 0)).setCell ⟨w.heap.size + 1, 3, none⟩ (.slice none 0 0)).setCell ⟨w.heap.size + 1, 4, none⟩ (.bool false)) ⟨w.heap.size + 2, 0, none⟩ (.int .i64 0) (w.heap.size + 1) (by simp only; omega)).trans hRC_4
    clear hRC_4
    have hRC_6 : (((((((w1.setCell ⟨w.heap.size + 1, 0, none⟩ (.int .i64 0)).setCell ⟨w.heap.size + 1, 1, none⟩ (.slice none 0 0)).setCell ⟨w.heap.size + 1, 2, none⟩ (.slice none 0 0)).setCell ⟨w.heap.size + 1, 3, none⟩ (.slice none 0 0)).setCell ⟨w.heap.size + 1, 4, none⟩ (.bool false)).setCell ⟨w.heap.size + 2, 0, none⟩ (.int .i64 0)).setCell ⟨w.heap.size + 2, 1, none⟩ (.int .i64 0)).heap[w.heap.size + 1]? = some (.cells #[.int .i64 0, .slice none 0 0, .slice none 0 0, .slice none 0 0, .bool false] 26 (0, 0)) := (Below.heap_setCell ((((((w1.setCell ⟨w.heap.size + 1, 0, none⟩ (.int .i64 0)).setCell ⟨w.heap.size + 1, 1, none⟩ (.slice none 0 0)).setCell ⟨w.heap.size + 1, 2, none⟩ (.slice none 0 0)).setCell ⟨w.heap.size + 1, 3, none⟩ (.slice none 0 0)).setCell ⟨w.heap.size + 1, 4, none⟩ (.bool false)).setCell ⟨w.heap.size + 2, 0, none⟩ (.int .i64 0)) ⟨w.heap.size + 2, 1, none⟩ (.int .i64 0) (w.heap.size + 1) (by simp only; omega)).trans hRC_5
    clear hRC_5
    have hRC_7 : ((((((((w1.setCell ⟨w.heap.size + 1, 0, none⟩ (.int .i64 0)).setCell ⟨w.heap.size + 1, 1, none⟩ (.slice none 0 0)).setCell ⟨w.heap.size + 1, 2, none⟩ (.slice none 0 0)).setCell ⟨w.heap.size + 1, 3, none⟩ (.slice none 0 0)).setCell ⟨w.heap.size + 1, 4, none⟩ (.bool false)).setCell ⟨w.heap.size + 2, 0, none⟩ (.int .i64 0)).setCell ⟨w.heap.size + 2, 1, none⟩ (.int .i64 0)).setCell ⟨w.heap.size + 2, 2, none⟩ (.int .i64 0)).heap[w.heap.size + 1]? = some (.cells #[.int .i64 0, .slice none 0 0, .slice none 0 0, .slice none 0 0, .bool false] 26 (0, 0)) := (Below.heap_setCell (((((((w1.setCell ⟨w.heap.size + 1, 0, none⟩ (.int .i64 0)).setCell ⟨w.heap.size + 1, 1, none⟩ (.slice none 0 0)).setCell ⟨w.heap.size + 1, 2, none⟩ (.slice none 0 0)).setCell ⟨w.heap.size + 1, 3, none⟩ (.slice none 0 0)).setCell ⟨w.heap.size + 1, 4, none⟩ (.bool false)).setCell ⟨w.heap.size + 2, 0, none⟩ (.int .i64 0)).setCell ⟨w.heap.size + 2, 1, none⟩ (.int .i64 0)) ⟨w.heap.size + 2, 2, none⟩ (.int .i64 0) (w.heap.size + 1) (by simp only; omega)).trans hRC_6
    clear hRC_6
    have hRC := hRC_7
    clear hRC_7
    have hRW_0 : (w1.setCell ⟨w.heap.size + 1, 0, none⟩ (.int .i64 0)).heap[w.heap.size + 2]? = some (.cells #[.int .i64 0, .int .i64 0, .int .i64 0] 29 (0, 0)) := (Below.heap_setCell w1 ⟨w.heap.size + 1, 0, none⟩ (.int .i64 0) (w.heap.size + 2) (by simp only; omega)).trans HRw1.out
    have hRW_1 : ((w1.setCell ⟨w.heap.size + 1, 0, none⟩ (.int .i64 0)).setCell ⟨w.heap.size + 1, 1, none⟩ (.slice none 0 0)).heap[w.heap.size + 2]? = some (.cells #[.int .i64 0, .int .i64 0, .int .i64 0] 29 (0, 0)) := (Below.heap_setCell (w1.setCell ⟨w.heap.size + 1, 0, none⟩ (.int .i64 0)) ⟨w.heap.size + 1, 1, none⟩ (.slice none 0 0) (w.heap.size + 2) (by simp only; omega)).trans hRW_0
    clear hRW_0
    have hRW_2 : (((w1.setCell ⟨w.heap.size + 1, 0, none⟩ (.int .i64 0)).setCell ⟨w.heap.size + 1, 1, none⟩ (.slice none 0 0)).setCell ⟨w.heap.size + 1, 2, none⟩ (.slice none 0 0)).heap[w.heap.size + 2]? = some (.cells #[.int .i64 0, .int .i64 0, .int .i64 0] 29 (0, 0)) := (Below.heap_setCell ((w1.setCell ⟨w.heap.size + 1, 0, none⟩ (.int .i64 0)).setCell ⟨w.heap.size + 1, 1, none⟩ (.slice none 0 0)) ⟨w.heap.size + 1, 2, none⟩ (.slice none 0 0) (w.heap.size + 2) (by simp only; omega)).trans hRW_1
    clear hRW_1
    have hRW_3 : ((((w1.setCell ⟨w.heap.size + 1, 0, none⟩ (.int .i64 0)).setCell ⟨w.heap.size + 1, 1, none⟩ (.slice none 0 0)).setCell ⟨w.heap.size + 1, 2, none⟩ (.slice none 0 0)).setCell ⟨w.heap.size + 1, 3, none⟩ (.slice none 0 0)).heap[w.heap.size + 2]? = some (.cells #[.int .i64 0, .int .i64 0, .int .i64 0] 29 (0, 0)) := (Below.heap_setCell (((w1.setCell ⟨w.heap.size + 1, 0, none⟩ (.int .i64 0)).setCell ⟨w.heap.size + 1, 1, none⟩ (.slice none 0 0)).setCell ⟨w.heap.size + 1, 2, none⟩ (.slice none 0 0)) ⟨w.heap.size + 1, 3, none⟩ (.slice none 0 0) (w.heap.size + 2) (by simp only; omega)).trans hRW_2
    clear hRW_2
    have hRW_4 : (((((w1.setCell ⟨w.heap.size + 1, 0, none⟩ (.int .i64 0)).setCell ⟨w.heap.size + 1, 1, none⟩ (.slice none 0 0)).setCell ⟨w.heap.size + 1, 2, none⟩ (.slice none 0 0)).setCell ⟨w.heap.size + 1, 3, none⟩ (.slice none 0 0)).setCell ⟨w.heap.size + 1, 4, none⟩ (.bool false)).heap[w.heap.size + 2]? = some (.cells #[.int .i64 0, .int .i64 0, .int .i64 0] 29 (0, 0)) := (Below.heap_setCell ((((w1.setCell ⟨w.heap.size + 1, 0, none⟩ (.int .i64 0)).setCell ⟨w.heap.size + 1, 1, none⟩ (.slice none 0 0)).setCell ⟨w.heap.size + 1, 2, none⟩ (.slice none 0 0)).setCell ⟨w.heap.size + 1, 3, none⟩ (.slice none 0 0)) ⟨w.heap.size + 1, 4, none⟩ (.bool false) (w.heap.size + 2) (by simp only; omega)).trans hRW_3
    clear hRW_3
    have hRW_5 : ((((((w1.setCell ⟨w.heap.size + 1, 0, none⟩ (.int .i64 0)).setCell ⟨w.heap.size + 1, 1, none⟩ (.slice none 0 0)).setCell ⟨w.heap.size + 1, 2, none⟩ (.slice none 0 0)).setCell ⟨w.heap.size + 1, 3, none⟩ (.slice none 0 0)).setCell ⟨w.heap.size + 1, 4, none⟩ (.bool false)).setCell ⟨w.heap.size + 2, 0, none⟩ (.int .i64 0)).heap[w.heap.size + 2]? = some (.cells #[.int .i64 0, .int .i64 0, .int .i64 0] 29 (0, 0)) := box_set (j := 0) (u := .int .i64 0) hRW_4
    clear hRW_4
    have hRW_6 : (((((((w1.setCell ⟨w.heap.size + 1, 0, none⟩ (.int .i64 0)).setCell ⟨w.heap.size + 1, 1, none⟩ (.slice none 0 0)).setCell ⟨w.heap.size + 1, 2, none⟩ (.slice none 0 0)).setCell ⟨w.heap.size + 1, 3, none⟩ (.slice none 0 0)).setCell ⟨w.heap.size + 1, 4, none⟩ (.bool false)).setCell ⟨w.heap.size + 2, 0, none⟩ (.int .i64 0)).setCell ⟨w.heap.size + 2, 1, none⟩ (.int .i64 0)).heap[w.heap.size + 2]? = some (.cells #[.int .i64 0, .int .i64 0, .int .i64 0] 29 (0, 0)) := box_set (j := 1) (u := .int .i64 0) hRW_5
    clear hRW_5
    have hRW_7 : ((((((((w1.setCell ⟨w.heap.size + 1, 0, none⟩ (.int .i64 0)).setCell ⟨w.heap.size + 1, 1, none⟩ (.slice none 0 0)).setCell ⟨w.heap.size + 1, 2, none⟩ (.slice none 0 0)).setCell ⟨w.heap.size + 1, 3, none⟩ (.slice none 0 0)).setCell ⟨w.heap.size + 1, 4, none⟩ (.bool false)).setCell ⟨w.heap.size + 2, 0, none⟩ (.int .i64 0)).setCell ⟨w.heap.size + 2, 1, none⟩ (.int .i64 0)).setCell ⟨w.heap.size + 2, 2, none⟩ (.int .i64 0)).heap[w.heap.size + 2]? = some (.cells #[.int .i64 0, .int .i64 0, .int .i64 0] 29 (0, 0)) := box_set (j := 2) (u := .int .i64 0) hRW_6
    clear hRW_6
    have hRW := hRW_7
    clear hRW_7
    have hBF : Below w.heap.size w ((((((((w1.setCell ⟨w.heap.size + 1, 0, none⟩ (.int .i64 0)).setCell ⟨w.heap.size + 1, 1, none⟩ (.slice none 0 0)).setCell ⟨w.heap.size + 1, 2, none⟩ (.slice none 0 0)).setCell ⟨w.heap.size + 1, 3, none⟩ (.slice none 0 0)).setCell ⟨w.heap.size + 1, 4, none⟩ (.bool false)).setCell ⟨w.heap.size + 2, 0, none⟩ (.int .i64 0)).setCell ⟨w.heap.size + 2, 1, none⟩ (.int .i64 0)).setCell ⟨w.heap.size + 2, 2, none⟩ (.int .i64 0)) := (below_set (below_set (below_set (below_set (below_set (below_set (below_set (below_set HB1.out (by simp only; omega) (.int .i64 0)) (by simp only; omega) (.slice none 0 0)) (by simp only; omega) (.slice none 0 0)) (by simp only; omega) (.slice none 0 0)) (by simp only; omega) (.bool false)) (by simp only; omega) (.int .i64 0)) (by simp only; omega) (.int .i64 0)) (by simp only; omega) (.int .i64 0))
    generalize ((((((((w1.setCell ⟨w.heap.size + 1, 0, none⟩ (.int .i64 0)).setCell ⟨w.heap.size + 1, 1, none⟩ (.slice none 0 0)).setCell ⟨w.heap.size + 1, 2, none⟩ (.slice none 0 0)).setCell ⟨w.heap.size + 1, 3, none⟩ (.slice none 0 0)).setCell ⟨w.heap.size + 1, 4, none⟩ (.bool false)).setCell ⟨w.heap.size + 2, 0, none⟩ (.int .i64 0)).setCell ⟨w.heap.size + 2, 1, none⟩ (.int .i64 0)).setCell ⟨w.heap.size + 2, 2, none⟩ (.int .i64 0)) = WF at *
    have y0 := box_cell (j := 0) hRC rfl
    have y1 := box_cell (j := 1) hRC rfl
    have y2 := box_cell (j := 2) hRC rfl
    have y3 := box_cell (j := 3) hRC rfl
    have y4 := box_cell (j := 4) hRC rfl
    have z0 := box_cell (j := 0) hRW rfl
    have z1 := box_cell (j := 1) hRW rfl
    have z2 := box_cell (j := 2) hRW rfl
    refine bodyPost_ret (v := .tuple #[.agg #[.int .i64 0, .slice none 0 0, .slice none 0 0, .slice none 0 0, .bool false], .agg #[.int .i64 0, .int .i64 0, .int .i64 0], .int .i64 1]) (by simp [results, Try.results14, go_sem, y0, y1, y2, y3, y4, z0, z1, z2]) rfl ?_
    rw [HRR.out]
    exact ⟨_, rfl, own_zeroC _ _, hBF⟩
  · go_wp2_with fail
    refine (HV.out _).mono ?_
    rintro e w2 ⟨rfl, rfl⟩
    cases ov
    · have HR := HRR
      have g0 := box_free HRc1.out 0
      have g1 := box_free HRc1.out 1
      have g2 := box_free HRc1.out 2
      have g3 := box_free HRc1.out 3
      have g4 := box_free HRc1.out 4
      have a0 := box_cell (j := 0) HRc1.out rfl
      have a1 := box_cell (j := 1) HRc1.out rfl
      have a2 := box_cell (j := 2) HRc1.out rfl
      have a3 := box_cell (j := 3) HRc1.out rfl
      have a4 := box_cell (j := 4) HRc1.out rfl
      have h0 := box_free HRw1.out 0
      have h1 := box_free HRw1.out 1
      have h2 := box_free HRw1.out 2
      have b0 := box_cell (j := 0) HRw1.out rfl
      have b1 := box_cell (j := 1) HRw1.out rfl
      have b2 := box_cell (j := 2) HRw1.out rfl
      go_wp2_with fail
      have hRC_0 : (w1.setCell ⟨w.heap.size + 1, 0, none⟩ (.int .i64 0)).heap[w.heap.size + 1]? = some (.cells #[.int .i64 0, .slice none 0 0, .slice none 0 0, .slice none 0 0, .bool false] 26 (0, 0)) := box_set (j := 0) (u := .int .i64 0) HRc1.out
      have hRC_1 : ((w1.setCell ⟨w.heap.size + 1, 0, none⟩ (.int .i64 0)).setCell ⟨w.heap.size + 1, 1, none⟩ (.slice none 0 0)).heap[w.heap.size + 1]? = some (.cells #[.int .i64 0, .slice none 0 0, .slice none 0 0, .slice none 0 0, .bool false] 26 (0, 0)) := box_set (j := 1) (u := .slice none 0 0) hRC_0
      clear hRC_0
      have hRC_2 : (((w1.setCell ⟨w.heap.size + 1, 0, none⟩ (.int .i64 0)).setCell ⟨w.heap.size + 1, 1, none⟩ (.slice none 0 0)).setCell ⟨w.heap.size + 1, 2, none⟩ (.slice none 0 0)).heap[w.heap.size + 1]? = some (.cells #[.int .i64 0, .slice none 0 0, .slice none 0 0, .slice none 0 0, .bool false] 26 (0, 0)) := box_set (j := 2) (u := .slice none 0 0) hRC_1
      clear hRC_1
      have hRC_3 : ((((w1.setCell ⟨w.heap.size + 1, 0, none⟩ (.int .i64 0)).setCell ⟨w.heap.size + 1, 1, none⟩ (.slice none 0 0)).setCell ⟨w.heap.size + 1, 2, none⟩ (.slice none 0 0)).setCell ⟨w.heap.size + 1, 3, none⟩ (.slice none 0 0)).heap[w.heap.size + 1]? = some (.cells #[.int .i64 0, .slice none 0 0, .slice none 0 0, .slice none 0 0, .bool false] 26 (0, 0)) := box_set (j := 3) (u := .slice none 0 0) hRC_2
      clear hRC_2
      have hRC_4 : (((((w1.setCell ⟨w.heap.size + 1, 0, none⟩ (.int .i64 0)).setCell ⟨w.heap.size + 1, 1, none⟩ (.slice none 0 0)).setCell ⟨w.heap.size + 1, 2, none⟩ (.slice none 0 0)).setCell ⟨w.heap.size + 1, 3, none⟩ (.slice none 0 0)).setCell ⟨w.heap.size + 1, 4, none⟩ (.bool false)).heap[w.heap.size + 1]? = some (.cells #[.int .i64 0, .slice none 0 0, .slice none 0 0, .slice none 0 0, .bool false] 26 (0, 0)) := box_set (j := 4) (u := .bool false) hRC_3
      clear hRC_3
      have hRC_5 : ((((((w1.setCell ⟨w.heap.size + 1, 0, none⟩ (.int .i64 0)).setCell ⟨w.heap.size + 1, 1, none⟩ (.slice none 0 0)).setCell ⟨w.heap.size + 1, 2, none⟩ (.slice none 0 0)).setCell ⟨w.heap.size + 1, 3, none⟩ (.slice none 0 0)).setCell ⟨w.heap.size + 1, 4, none⟩ (.bool false)).setCell ⟨w.heap.size + 2, 0, none⟩ (.int .i64 0)).heap[w.heap.size + 1]? = some (.cells #[.int .i64 0, .slice none 0 0, .slice none 0 0, .slice none 0 0, .bool false] 26 (0, 0)) := (Below.heap_setCell (((((w1.setCell ⟨w.heap.size + 1, 0, none⟩ (.int .i64 0)).setCell ⟨w.heap.size + 1, 1, none⟩ (.slice none 0 0)).setCell ⟨w.heap.size + 1, 2, none⟩ (.slice none 0 0)).setCell ⟨w.heap.size + 1, 3, none⟩ (.slice none 0 0)).setCell ⟨w.heap.size + 1, 4, none⟩ (.bool false)) ⟨w.heap.size + 2, 0, none⟩ (.int .i64 0) (w.heap.size + 1) (by simp only; omega)).trans hRC_4
      clear hRC_4
      have hRC_6 : (((((((w1.setCell ⟨w.heap.size + 1, 0, none⟩ (.int .i64 0)).setCell ⟨w.heap.size + 1, 1, none⟩ (.slice none 0 0)).setCell ⟨w.heap.size + 1, 2, none⟩ (.slice none 0 0)).setCell ⟨w.heap.size + 1, 3, none⟩ (.slice none 0 0)).setCell ⟨w.heap.size + 1, 4, none⟩ (.bool false)).setCell ⟨w.heap.size + 2, 0, none⟩ (.int .i64 0)).setCell ⟨w.heap.size + 2, 1, none⟩ (.int .i64 0)).heap[w.heap.size + 1]? = some (.cells #[.int .i64 0, .slice none 0 0, .slice none 0 0, .slice none 0 0, .bool false] 26 (0, 0)) := (Below.heap_setCell ((((((w1.setCell ⟨w.heap.size + 1, 0, none⟩ (.int .i64 0)).setCell ⟨w.heap.size + 1, 1, none⟩ (.slice none 0 0)).setCell ⟨w.heap.size + 1, 2, none⟩ (.slice none 0 0)).setCell ⟨w.heap.size + 1, 3, none⟩ (.slice none 0 0)).setCell ⟨w.heap.size + 1, 4, none⟩ (.bool false)).setCell ⟨w.heap.size + 2, 0, none⟩ (.int .i64 0)) ⟨w.heap.size + 2, 1, none⟩ (.int .i64 0) (w.heap.size + 1) (by simp only; omega)).trans hRC_5
      clear hRC_5
      have hRC_7 : ((((((((w1.setCell ⟨w.heap.size + 1, 0, none⟩ (.int .i64 0)).setCell ⟨w.heap.size + 1, 1, none⟩ (.slice none 0 0)).setCell ⟨w.heap.size + 1, 2, none⟩ (.slice none 0 0)).setCell ⟨w.heap.size + 1, 3, none⟩ (.slice none 0 0)).setCell ⟨w.heap.size + 1, 4, none⟩ (.bool false)).setCell ⟨w.heap.size + 2, 0, none⟩ (.int .i64 0)).setCell ⟨w.heap.size + 2, 1, none⟩ (.int .i64 0)).setCell ⟨w.heap.size + 2, 2, none⟩ (.int .i64 0)).heap[w.heap.size + 1]? = some (.cells #[.int .i64 0, .slice none 0 0, .slice none 0 0, .slice none 0 0, .bool false] 26 (0, 0)) := (Below.heap_setCell (((((((w1.setCell ⟨w.heap.size + 1, 0, none⟩ (.int .i64 0)).setCell ⟨w.heap.size + 1, 1, none⟩ (.slice none 0 0)).setCell ⟨w.heap.size + 1, 2, none⟩ (.slice none 0 0)).setCell ⟨w.heap.size + 1, 3, none⟩ (.slice none 0 0)).setCell ⟨w.heap.size + 1, 4, none⟩ (.bool false)).setCell ⟨w.heap.size + 2, 0, none⟩ (.int .i64 0)).setCell ⟨w.heap.size + 2, 1, none⟩ (.int .i64 0)) ⟨w.heap.size + 2, 2, none⟩ (.int .i64 0) (w.heap.size + 1) (by simp only; omega)).trans hRC_6
      clear hRC_6
      have hRC := hRC_7
      clear hRC_7
      have hRW_0 : (w1.setCell ⟨w.heap.size + 1, 0, none⟩ (.int .i64 0)).heap[w.heap.size + 2]? = some (.cells #[.int .i64 0, .int .i64 0, .int .i64 0] 29 (0, 0)) := (Below.heap_setCell w1 ⟨w.heap.size + 1, 0, none⟩ (.int .i64 0) (w.heap.size + 2) (by simp only; omega)).trans HRw1.out
      have hRW_1 : ((w1.setCell ⟨w.heap.size + 1, 0, none⟩ (.int .i64 0)).setCell ⟨w.heap.size + 1, 1, none⟩ (.slice none 0 0)).heap[w.heap.size + 2]? = some (.cells #[.int .i64 0, .int .i64 0, .int .i64 0] 29 (0, 0)) := (Below.heap_setCell (w1.setCell ⟨w.heap.size + 1, 0, none⟩ (.int .i64 0)) ⟨w.heap.size + 1, 1, none⟩ (.slice none 0 0) (w.heap.size + 2) (by simp only; omega)).trans hRW_0
      clear hRW_0
      have hRW_2 : (((w1.setCell ⟨w.heap.size + 1, 0, none⟩ (.int .i64 0)).setCell ⟨w.heap.size + 1, 1, none⟩ (.slice none 0 0)).setCell ⟨w.heap.size + 1, 2, none⟩ (.slice none 0 0)).heap[w.heap.size + 2]? = some (.cells #[.int .i64 0, .int .i64 0, .int .i64 0] 29 (0, 0)) := (Below.heap_setCell ((w1.setCell ⟨w.heap.size + 1, 0, none⟩ (.int .i64 0)).setCell ⟨w.heap.size + 1, 1, none⟩ (.slice none 0 0)) ⟨w.heap.size + 1, 2, none⟩ (.slice none 0 0) (w.heap.size + 2) (by simp only; omega)).trans hRW_1
      clear hRW_1
      have hRW_3 : ((((w1.setCell ⟨w.heap.size + 1, 0, none⟩ (.int .i64 0)).setCell ⟨w.heap.size + 1, 1, none⟩ (.slice none 0 0)).setCell ⟨w.heap.size + 1, 2, none⟩ (.slice none 0 0)).setCell ⟨w.heap.size + 1, 3, none⟩ (.slice none 0 0)).heap[w.heap.size + 2]? = some (.cells #[.int .i64 0, .int .i64 0, .int .i64 0] 29 (0, 0)) := (Below.heap_setCell (((w1.setCell ⟨w.heap.size + 1, 0, none⟩ (.int .i64 0)).setCell ⟨w.heap.size + 1, 1, none⟩ (.slice none 0 0)).setCell ⟨w.heap.size + 1, 2, none⟩ (.slice none 0 0)) ⟨w.heap.size + 1, 3, none⟩ (.slice none 0 0) (w.heap.size + 2) (by simp only; omega)).trans hRW_2
      clear hRW_2
      have hRW_4 : (((((w1.setCell ⟨w.heap.size + 1, 0, none⟩ (.int .i64 0)).setCell ⟨w.heap.size + 1, 1, none⟩ (.slice none 0 0)).setCell ⟨w.heap.size + 1, 2, none⟩ (.slice none 0 0)).setCell ⟨w.heap.size + 1, 3, none⟩ (.slice none 0 0)).setCell ⟨w.heap.size + 1, 4, none⟩ (.bool false)).heap[w.heap.size + 2]? = some (.cells #[.int .i64 0, .int .i64 0, .int .i64 0] 29 (0, 0)) := (Below.heap_setCell ((((w1.setCell ⟨w.heap.size + 1, 0, none⟩ (.int .i64 0)).setCell ⟨w.heap.size + 1, 1, none⟩ (.slice none 0 0)).setCell ⟨w.heap.size + 1, 2, none⟩ (.slice none 0 0)).setCell ⟨w.heap.size + 1, 3, none⟩ (.slice none 0 0)) ⟨w.heap.size + 1, 4, none⟩ (.bool false) (w.heap.size + 2) (by simp only; omega)).trans hRW_3
      clear hRW_3
      have hRW_5 : ((((((w1.setCell ⟨w.heap.size + 1, 0, none⟩ (.int .i64 0)).setCell ⟨w.heap.size + 1, 1, none⟩ (.slice none 0 0)).setCell ⟨w.heap.size + 1, 2, none⟩ (.slice none 0 0)).setCell ⟨w.heap.size + 1, 3, none⟩ (.slice none 0 0)).setCell ⟨w.heap.size + 1, 4, none⟩ (.bool false)).setCell ⟨w.heap.size + 2, 0, none⟩ (.int .i64 0)).heap[w.heap.size + 2]? = some (.cells #[.int .i64 0, .int .i64 0, .int .i64 0] 29 (0, 0)) := box_set (j := 0) (u := .int .i64 0) hRW_4
      clear hRW_4
      have hRW_6 : (((((((w1.setCell ⟨w.heap.size + 1, 0, none⟩ (.int .i64 0)).setCell ⟨w.heap.size + 1, 1, none⟩ (.slice none 0 0)).setCell ⟨w.heap.size + 1, 2, none⟩ (.slice none 0 0)).setCell ⟨w.heap.size + 1, 3, none⟩ (.slice none 0 0)).setCell ⟨w.heap.size + 1, 4, none⟩ (.bool false)).setCell ⟨w.heap.size + 2, 0, none⟩ (.int .i64 0)).setCell ⟨w.heap.size + 2, 1, none⟩ (.int .i64 0)).heap[w.heap.size + 2]? = some (.cells #[.int .i64 0, .int .i64 0, .int .i64 0] 29 (0, 0)) := box_set (j := 1) (u := .int .i64 0) hRW_5
      clear hRW_5
      have hRW_7 : ((((((((w1.setCell ⟨w.heap.size + 1, 0, none⟩ (.int .i64 0)).setCell ⟨w.heap.size + 1, 1, none⟩ (.slice none 0 0)).setCell ⟨w.heap.size + 1, 2, none⟩ (.slice none 0 0)).setCell ⟨w.heap.size + 1, 3, none⟩ (.slice none 0 0)).setCell ⟨w.heap.size + 1, 4, none⟩ (.bool false)).setCell ⟨w.heap.size + 2, 0, none⟩ (.int .i64 0)).setCell ⟨w.heap.size + 2, 1, none⟩ (.int .i64 0)).setCell ⟨w.heap.size + 2, 2, none⟩ (.int .i64 0)).heap[w.heap.size + 2]? = some (.cells #[.int .i64 0, .int .i64 0, .int .i64 0] 29 (0, 0)) := box_set (j := 2) (u := .int .i64 0) hRW_6
      clear hRW_6
      have hRW := hRW_7
      clear hRW_7
      have hBF : Below w.heap.size w ((((((((w1.setCell ⟨w.heap.size + 1, 0, none⟩ (.int .i64 0)).setCell ⟨w.heap.size + 1, 1, none⟩ (.slice none 0 0)).setCell ⟨w.heap.size + 1, 2, none⟩ (.slice none 0 0)).setCell ⟨w.heap.size + 1, 3, none⟩ (.slice none 0 0)).setCell ⟨w.heap.size + 1, 4, none⟩ (.bool false)).setCell ⟨w.heap.size + 2, 0, none⟩ (.int .i64 0)).setCell ⟨w.heap.size + 2, 1, none⟩ (.int .i64 0)).setCell ⟨w.heap.size + 2, 2, none⟩ (.int .i64 0)) := (below_set (below_set (below_set (below_set (below_set (below_set (below_set (below_set HB1.out (by simp only; omega) (.int .i64 0)) (by simp only; omega) (.slice none 0 0)) (by simp only; omega) (.slice none 0 0)) (by simp only; omega) (.slice none 0 0)) (by simp only; omega) (.bool false)) (by simp only; omega) (.int .i64 0)) (by simp only; omega) (.int .i64 0)) (by simp only; omega) (.int .i64 0))
      generalize ((((((((w1.setCell ⟨w.heap.size + 1, 0, none⟩ (.int .i64 0)).setCell ⟨w.heap.size + 1, 1, none⟩ (.slice none 0 0)).setCell ⟨w.heap.size + 1, 2, none⟩ (.slice none 0 0)).setCell ⟨w.heap.size + 1, 3, none⟩ (.slice none 0 0)).setCell ⟨w.heap.size + 1, 4, none⟩ (.bool false)).setCell ⟨w.heap.size + 2, 0, none⟩ (.int .i64 0)).setCell ⟨w.heap.size + 2, 1, none⟩ (.int .i64 0)).setCell ⟨w.heap.size + 2, 2, none⟩ (.int .i64 0)) = WF at *
      have y0 := box_cell (j := 0) hRC rfl
      have y1 := box_cell (j := 1) hRC rfl
      have y2 := box_cell (j := 2) hRC rfl
      have y3 := box_cell (j := 3) hRC rfl
      have y4 := box_cell (j := 4) hRC rfl
      have z0 := box_cell (j := 0) hRW rfl
      have z1 := box_cell (j := 1) hRW rfl
      have z2 := box_cell (j := 2) hRW rfl
      refine bodyPost_ret (v := .tuple #[.agg #[.int .i64 0, .slice none 0 0, .slice none 0 0, .slice none 0 0, .bool false], .agg #[.int .i64 0, .int .i64 0, .int .i64 0], .int .i64 1]) (by simp [results, Try.results14, go_sem, y0, y1, y2, y3, y4, z0, z1, z2]) rfl ?_
      rw [HRR.out]
      exact ⟨_, rfl, own_zeroC _ _, hBF⟩
    · cases cl
      · skip
        have q0 := box_cell (j := 0) HX1.out rfl
        have q1 := box_cell (j := 1) HX1.out rfl
        have q2 := box_cell (j := 2) HX1.out rfl
        have q3 := box_cell (j := 3) HX1.out rfl
        have q4 := box_cell (j := 4) HX1.out rfl
        go_wp2_with fail
        refine (HCS.out _ HB1.out).mono ?_
        rintro e w2 ⟨rfl, hb2⟩
        have hz2 := hb2.size
        have HX2 := Lib.hid (box_keep HX1.out hb2 (by omega))
        have HRc2 := Lib.hid (box_keep HRc1.out hb2 (by omega))
        have HRw2 := Lib.hid (box_keep HRw1.out hb2 (by omega))
        have HB2 := Lib.hid (HB1.out.trans (hb2.mono (by omega)))
        clear q0 q1 q2 q3 q4 hb2
        cases tk
        · have HR := HRR
          have g0 := box_free HRc2.out 0
          have g1 := box_free HRc2.out 1
          have g2 := box_free HRc2.out 2
          have g3 := box_free HRc2.out 3
          have g4 := box_free HRc2.out 4
          have a0 := box_cell (j := 0) HRc2.out rfl
          have a1 := box_cell (j := 1) HRc2.out rfl
          have a2 := box_cell (j := 2) HRc2.out rfl
          have a3 := box_cell (j := 3) HRc2.out rfl
          have a4 := box_cell (j := 4) HRc2.out rfl
          have h0 := box_free HRw2.out 0
          have h1 := box_free HRw2.out 1
          have h2 := box_free HRw2.out 2
          have b0 := box_cell (j := 0) HRw2.out rfl
          have b1 := box_cell (j := 1) HRw2.out rfl
          have b2 := box_cell (j := 2) HRw2.out rfl
          go_wp2_with fail
          have hRC_0 : (w2.setCell ⟨w.heap.size + 1, 0, none⟩ (.int .i64 0)).heap[w.heap.size + 1]? = some (.cells #[.int .i64 0, .slice none 0 0, .slice none 0 0, .slice none 0 0, .bool false] 26 (0, 0)) := box_set (j := 0) (u := .int .i64 0) HRc2.out
          have hRC_1 : ((w2.setCell ⟨w.heap.size + 1, 0, none⟩ (.int .i64 0)).setCell ⟨w.heap.size + 1, 1, none⟩ (.slice none 0 0)).heap[w.heap.size + 1]? = some (.cells #[.int .i64 0, .slice none 0 0, .slice none 0 0, .slice none 0 0, .bool false] 26 (0, 0)) := box_set (j := 1) (u := .slice none 0 0) hRC_0
          clear hRC_0
          have hRC_2 : (((w2.setCell ⟨w.heap.size + 1, 0, none⟩ (.int .i64 0)).setCell ⟨w.heap.size + 1, 1, none⟩ (.slice none 0 0)).setCell ⟨w.heap.size + 1, 2, none⟩ (.slice none 0 0)).heap[w.heap.size + 1]? = some (.cells #[.int .i64 0, .slice none 0 0, .slice none 0 0, .slice none 0 0, .bool false] 26 (0, 0)) := box_set (j := 2) (u := .slice none 0 0) hRC_1
          clear hRC_1
          have hRC_3 : ((((w2.setCell ⟨w.heap.size + 1, 0, none⟩ (.int .i64 0)).setCell ⟨w.heap.size + 1, 1, none⟩ (.slice none 0 0)).setCell ⟨w.heap.size + 1, 2, none⟩ (.slice none 0 0)).setCell ⟨w.heap.size + 1, 3, none⟩ (.slice none 0 0)).heap[w.heap.size + 1]? = some (.cells #[.int .i64 0, .slice none 0 0, .slice none 0 0, .slice none 0 0, .bool false] 26 (0, 0)) := box_set (j := 3) (u := .slice none 0 0) hRC_2
          clear hRC_2
          have hRC_4 : (((((w2.setCell ⟨w.heap.size + 1, 0, none⟩ (.int .i64 0)).setCell ⟨w.heap.size + 1, 1, none⟩ (.slice none 0 0)).setCell ⟨w.heap.size + 1, 2, none⟩ (.slice none 0 0)).setCell ⟨w.heap.size + 1, 3, none⟩ (.slice none 0 0)).setCell ⟨w.heap.size + 1, 4, none⟩ (.bool false)).heap[w.heap.size + 1]? = some (.cells #[.int .i64 0, .slice none 0 0, .slice none 0 0, .slice none 0 0, .bool false] 26 (0, 0)) := box_set (j := 4) (u := .bool false) hRC_3
          clear hRC_3
          have hRC_5 : ((((((w2.setCell ⟨w.heap.size + 1, 0, none⟩ (.int .i64 0)).setCell ⟨w.heap.size + 1, 1, none⟩ (.slice none 0 0)).setCell ⟨w.heap.size + 1, 2, none⟩ (.slice none 0 0)).setCell ⟨w.heap.size + 1, 3, none⟩ (.slice none 0 0)).setCell ⟨w.heap.size + 1, 4, none⟩ (.bool false)).setCell ⟨w.heap.size + 2, 0, none⟩ (.int .i64 0)).heap[w.heap.size + 1]? = some (.cells #[.int .i64 0, .slice none 0 0, .slice none 0 0, .slice none 0 0, .bool false] 26 (0, 0)) := (Below.heap_setCell (((((w2.setCell ⟨w.heap.size + 1, 0, none⟩ (.int .i64 0)).setCell ⟨w.heap.size + 1, 1, none⟩ (.slice none 0 0)).setCell ⟨w.heap.size + 1, 2, none⟩ (.slice none 0 0)).setCell ⟨w.heap.size + 1, 3, none⟩ (.slice none 0 0)).setCell ⟨w.heap.size + 1, 4, none⟩ (.bool false)) ⟨w.heap.size + 2, 0, none⟩ (.int .i64 0) (w.heap.size + 1) (by simp only; omega)).trans hRC_4
          clear hRC_4
          have hRC_6 : (((((((w2.setCell ⟨w.heap.size + 1, 0, none⟩ (.int .i64 0)).setCell ⟨w.heap.size + 1, 1, none⟩ (.slice none 0 0)).setCell ⟨w.heap.size + 1, 2, none⟩ (.slice none 0 0)).setCell ⟨w.heap.size + 1, 3, none⟩ (.slice none 0 0)).setCell ⟨w.heap.size + 1, 4, none⟩ (.bool false)).setCell ⟨w.heap.size + 2, 0, none⟩ (.int .i64 0)).setCell ⟨w.heap.size + 2, 1, none⟩ (.int .i64 0)).heap[w.heap.size + 1]? = some (.cells #[.int .i64 0, .slice none 0 0, .slice none 0 0, .slice none 0 0, .bool false] 26 (0, 0)) := (Below.heap_setCell ((((((w2.setCell ⟨w.heap.size + 1, 0, none⟩ (.int .i64 0)).setCell ⟨w.heap.size + 1, 1, none⟩ (.slice none 0 0)).setCell ⟨w.heap.size + 1, 2, none⟩ (.slice none 0 0)).setCell ⟨w.heap.size + 1, 3, none⟩ (.slice none 0 0)).setCell ⟨w.heap.size + 1, 4, none⟩ (.bool false)).setCell ⟨w.heap.size + 2, 0, none⟩ (.int .i64 0)) ⟨w.heap.size + 2, 1, none⟩ (.int .i64 0) (w.heap.size + 1) (by simp only; omega)).trans hRC_5
          clear hRC_5
          have hRC_7 : ((((((((w2.setCell ⟨w.heap.size + 1, 0, none⟩ (.int .i64 0)).setCell ⟨w.heap.size + 1, 1, none⟩ (.slice none 0 0)).setCell ⟨w.heap.size + 1, 2, none⟩ (.slice none 0 0)).setCell ⟨w.heap.size + 1, 3, none⟩ (.slice none 0 0)).setCell ⟨w.heap.size + 1, 4, none⟩ (.bool false)).setCell ⟨w.heap.size + 2, 0, none⟩ (.int .i64 0)).setCell ⟨w.heap.size + 2, 1, none⟩ (.int .i64 0)).setCell ⟨w.heap.size + 2, 2, none⟩ (.int .i64 0)).heap[w.heap.size + 1]? = some (.cells #[.int .i64 0, .slice none 0 0, .slice none 0 0, .slice none 0 0, .bool false] 26 (0, 0)) := (Below.heap_setCell (((((((w2.setCell ⟨w.heap.size + 1, 0, none⟩ (.int .i64 0)).setCell ⟨w.heap.size + 1, 1, none⟩ (.slice none 0 0)).setCell ⟨w.heap.size + 1, 2, none⟩ (.slice none 0 0)).setCell ⟨w.heap.size + 1, 3, none⟩ (.slice none 0 0)).setCell ⟨w.heap.size + 1, 4, none⟩ (.bool false)).setCell ⟨w.heap.size + 2, 0, none⟩ (.int .i64 0)).setCell ⟨w.heap.size + 2, 1, none⟩ (.int .i64 0)) ⟨w.heap.size + 2, 2, none⟩ (.int .i64 0) (w.heap.size + 1) (by simp only; omega)).trans hRC_6
          clear hRC_6
          have hRC := hRC_7
          clear hRC_7
          have hRW_0 : (w2.setCell ⟨w.heap.size + 1, 0, none⟩ (.int .i64 0)).heap[w.heap.size + 2]? = some (.cells #[.int .i64 0, .int .i64 0, .int .i64 0] 29 (0, 0)) := (Below.heap_setCell w2 ⟨w.heap.size + 1, 0, none⟩ (.int .i64 0) (w.heap.size + 2) (by simp only; omega)).trans HRw2.out
          have hRW_1 : ((w2.setCell ⟨w.heap.size + 1, 0, none⟩ (.int .i64 0)).setCell ⟨w.heap.size + 1, 1, none⟩ (.slice none 0 0)).heap[w.heap.size + 2]? = some (.cells #[.int .i64 0, .int .i64 0, .int .i64 0] 29 (0, 0)) := (Below.heap_setCell (w2.setCell ⟨w.heap.size + 1, 0, none⟩ (.int .i64 0)) ⟨w.heap.size + 1, 1, none⟩ (.slice none 0 0) (w.heap.size + 2) (by simp only; omega)).trans hRW_0
          clear hRW_0
          have hRW_2 : (((w2.setCell ⟨w.heap.size + 1, 0, none⟩ (.int .i64 0)).setCell ⟨w.heap.size + 1, 1, none⟩ (.slice none 0 0)).setCell ⟨w.heap.size + 1, 2, none⟩ (.slice none 0 0)).heap[w.heap.size + 2]? = some (.cells #[.int .i64 0, .int .i64 0, .int .i64 0] 29 (0, 0)) := (Below.heap_setCell ((w2.setCell ⟨w.heap.size + 1, 0, none⟩ (.int .i64 0)).setCell ⟨w.heap.size + 1, 1, none⟩ (.slice none 0 0)) ⟨w.heap.size + 1, 2, none⟩ (.slice none 0 0) (w.heap.size + 2) (by simp only; omega)).trans hRW_1
          clear hRW_1
          have hRW_3 : ((((w2.setCell ⟨w.heap.size + 1, 0, none⟩ (.int .i64 0)).setCell ⟨w.heap.size + 1, 1, none⟩ (.slice none 0 0)).setCell ⟨w.heap.size + 1, 2, none⟩ (.slice none 0 0)).setCell ⟨w.heap.size + 1, 3, none⟩ (.slice none 0 0)).heap[w.heap.size + 2]? = some (.cells #[.int .i64 0, .int .i64 0, .int .i64 0] 29 (0, 0)) := (Below.heap_setCell (((w2.setCell ⟨w.heap.size + 1, 0, none⟩ (.int .i64 0)).setCell ⟨w.heap.size + 1, 1, none⟩ (.slice none 0 0)).setCell ⟨w.heap.size + 1, 2, none⟩ (.slice none 0 0)) ⟨w.heap.size + 1, 3, none⟩ (.slice none 0 0) (w.heap.size + 2) (by simp only; omega)).trans hRW_2
          clear hRW_2
          have hRW_4 : (((((w2.setCell ⟨w.heap.size + 1, 0, none⟩ (.int .i64 0)).setCell ⟨w.heap.size + 1, 1, none⟩ (.slice none 0 0)).setCell ⟨w.heap.size + 1, 2, none⟩ (.slice none 0 0)).setCell ⟨w.heap.size + 1, 3, none⟩ (.slice none 0 0)).setCell ⟨w.heap.size + 1, 4, none⟩ (.bool false)).heap[w.heap.size + 2]? = some (.cells #[.int .i64 0, .int .i64 0, .int .i64 0] 29 (0, 0)) := (Below.heap_setCell ((((w2.setCell ⟨w.heap.size + 1, 0, none⟩ (.int .i64 0)).setCell ⟨w.heap.size + 1, 1, none⟩ (.slice none 0 0)).setCell ⟨w.heap.size + 1, 2, none⟩ (.slice none 0 0)).setCell ⟨w.heap.size + 1, 3, none⟩ (.slice none 0 0)) ⟨w.heap.size + 1, 4, none⟩ (.bool false) (w.heap.size + 2) (by simp only; omega)).trans hRW_3
          clear hRW_3
          have hRW_5 : ((((((w2.setCell ⟨w.heap.size + 1, 0, none⟩ (.int .i64 0)).setCell ⟨w.heap.size + 1, 1, none⟩ (.slice none 0 0)).setCell ⟨w.heap.size + 1, 2, none⟩ (.slice none 0 0)).setCell ⟨w.heap.size + 1, 3, none⟩ (.slice none 0 0)).setCell ⟨w.heap.size + 1, 4, none⟩ (.bool false)).setCell ⟨w.heap.size + 2, 0, none⟩ (.int .i64 0)).heap[w.heap.size + 2]? = some (.cells #[.int .i64 0, .int .i64 0, .int .i64 0] 29 (0, 0)) := box_set (j := 0) (u := .int .i64 0) hRW_4
          clear hRW_4
          have hRW_6 : (((((((w2.setCell ⟨w.heap.size + 1, 0, none⟩ (.int .i64 0)).setCell ⟨w.heap.size + 1, 1, none⟩ (.slice none 0 0)).setCell ⟨w.heap.size + 1, 2, none⟩ (.slice none 0 0)).setCell ⟨w.heap.size + 1, 3, none⟩ (.slice none 0 0)).setCell ⟨w.heap.size + 1, 4, none⟩ (.bool false)).setCell ⟨w.heap.size + 2, 0, none⟩ (.int .i64 0)).setCell ⟨w.heap.size + 2, 1, none⟩ (.int .i64 0)).heap[w.heap.size + 2]? = some (.cells #[.int .i64 0, .int .i64 0, .int .i64 0] 29 (0, 0)) := box_set (j := 1) (u := .int .i64 0) hRW_5
          clear hRW_5
          have hRW_7 : ((((((((w2.setCell ⟨w.heap.size + 1, 0, none⟩ (.int .i64 0)).setCell ⟨w.heap.size + 1, 1, none⟩ (.slice none 0 0)).setCell ⟨w.heap.size + 1, 2, none⟩ (.slice none 0 0)).setCell ⟨w.heap.size + 1, 3, none⟩ (.slice none 0 0)).setCell ⟨w.heap.size + 1, 4, none⟩ (.bool false)).setCell ⟨w.heap.size + 2, 0, none⟩ (.int .i64 0)).setCell ⟨w.heap.size + 2, 1, none⟩ (.int .i64 0)).setCell ⟨w.heap.size + 2, 2, none⟩ (.int .i64 0)).heap[w.heap.size + 2]? = some (.cells #[.int .i64 0, .int .i64 0, .int .i64 0] 29 (0, 0)) := box_set (j := 2) (u := .int .i64 0) hRW_6
          clear hRW_6
          have hRW := hRW_7
          clear hRW_7
          have hBF : Below w.heap.size w ((((((((w2.setCell ⟨w.heap.size + 1, 0, none⟩ (.int .i64 0)).setCell ⟨w.heap.size + 1, 1, none⟩ (.slice none 0 0)).setCell ⟨w.heap.size + 1, 2, none⟩ (.slice none 0 0)).setCell ⟨w.heap.size + 1, 3, none⟩ (.slice none 0 0)).setCell ⟨w.heap.size + 1, 4, none⟩ (.bool false)).setCell ⟨w.heap.size + 2, 0, none⟩ (.int .i64 0)).setCell ⟨w.heap.size + 2, 1, none⟩ (.int .i64 0)).setCell ⟨w.heap.size + 2, 2, none⟩ (.int .i64 0)) := (below_set (below_set (below_set (below_set (below_set (below_set (below_set (below_set HB2.out (by simp only; omega) (.int .i64 0)) (by simp only; omega) (.slice none 0 0)) (by simp only; omega) (.slice none 0 0)) (by simp only; omega) (.slice none 0 0)) (by simp only; omega) (.bool false)) (by simp only; omega) (.int .i64 0)) (by simp only; omega) (.int .i64 0)) (by simp only; omega) (.int .i64 0))
          generalize ((((((((w2.setCell ⟨w.heap.size + 1, 0, none⟩ (.int .i64 0)).setCell ⟨w.heap.size + 1, 1, none⟩ (.slice none 0 0)).setCell ⟨w.heap.size + 1, 2, none⟩ (.slice none 0 0)).setCell ⟨w.heap.size + 1, 3, none⟩ (.slice none 0 0)).setCell ⟨w.heap.size + 1, 4, none⟩ (.bool false)).setCell ⟨w.heap.size + 2, 0, none⟩ (.int .i64 0)).setCell ⟨w.heap.size + 2, 1, none⟩ (.int .i64 0)).setCell ⟨w.heap.size + 2, 2, none⟩ (.int .i64 0)) = WF at *
          have y0 := box_cell (j := 0) hRC rfl
          have y1 := box_cell (j := 1) hRC rfl
          have y2 := box_cell (j := 2) hRC rfl
          have y3 := box_cell (j := 3) hRC rfl
          have y4 := box_cell (j := 4) hRC rfl
          have z0 := box_cell (j := 0) hRW rfl
          have z1 := box_cell (j := 1) hRW rfl
          have z2 := box_cell (j := 2) hRW rfl
          refine bodyPost_ret (v := .tuple #[.agg #[.int .i64 0, .slice none 0 0, .slice none 0 0, .slice none 0 0, .bool false], .agg #[.int .i64 0, .int .i64 0, .int .i64 0], .int .i64 3]) (by simp [results, Try.results14, go_sem, y0, y1, y2, y3, y4, z0, z1, z2]) rfl ?_
          rw [HRR.out]
          exact ⟨_, rfl, own_zeroC _ _, hBF⟩
        · have HR := Lib.hid (show sendR ⟨cap, buf, sends, recvs, false⟩ v = ((sendX ⟨cap, buf, sends, recvs, false⟩ v).1, (sendX ⟨cap, buf, sends, recvs, false⟩ v).2, 0) from HRR.out)
          have q0 := box_cell (j := 0) HX2.out rfl
          have q1 := box_cell (j := 1) HX2.out rfl
          have q2 := box_cell (j := 2) HX2.out rfl
          have q3 := box_cell (j := 3) HX2.out rfl
          have q4 := box_cell (j := 4) HX2.out rfl
          go_wp2_with fail
          refine (HCP.out _ HB2.out).mono ?_
          rintro e w3 ⟨hb3, B1, e1, B2, e2, B3, e3, F1, F2, F3, rfl, o1, o2, o3, hF, d12, d13, d23⟩
          simp only at o1 o2 o3
          have hz3 := hb3.size
          have hal : Below w2.heap.size w2 (w3.alloc (.cells #[.int .i64 cap, .slice B1 buf.length e1, .slice B2 sends.length e2, .slice B3 recvs.length e3, .bool false] 26)) := (hb3).alloc hz3 _
          have hal3 : Below w3.heap.size w3 (w3.alloc (.cells #[.int .i64 cap, .slice B1 buf.length e1, .slice B2 sends.length e2, .slice B3 recvs.length e3, .bool false] 26)) := (Below.refl _ _).alloc (Nat.le_refl _) _
          have HX4 := Lib.hid (box_keep HX2.out hal (by omega))
          have HRc4 := Lib.hid (box_keep HRc2.out hal (by omega))
          have HRw4 := Lib.hid (box_keep HRw2.out hal (by omega))
          have HO4 := Lib.hid (box_new w3 #[.int .i64 cap, .slice B1 buf.length e1, .slice B2 sends.length e2, .slice B3 recvs.length e3, .bool false] 26)
          have HB4 := Lib.hid (HB2.out.trans (hal.mono (by omega)))
          have HQ1 := Lib.hid (o1.stay (w' := (w3.alloc (.cells #[.int .i64 cap, .slice B1 buf.length e1, .slice B2 sends.length e2, .slice B3 recvs.length e3, .bool false] 26))) (fun g hg hlt => hal3.block g hlt) hal3.size)
          have HQ2 := Lib.hid (o2.stay (w' := (w3.alloc (.cells #[.int .i64 cap, .slice B1 buf.length e1, .slice B2 sends.length e2, .slice B3 recvs.length e3, .bool false] 26))) (fun g hg hlt => hal3.block g hlt) hal3.size)
          have HQ3 := Lib.hid (o3.stay (w' := (w3.alloc (.cells #[.int .i64 cap, .slice B1 buf.length e1, .slice B2 sends.length e2, .slice B3 recvs.length e3, .bool false] 26))) (fun g hg hlt => hal3.block g hlt) hal3.size)
          have hz4a : (w3.alloc (.cells #[.int .i64 cap, .slice B1 buf.length e1, .slice B2 sends.length e2, .slice B3 recvs.length e3, .bool false] 26)).heap.size ≤ w3.heap.size + 1 := by simp
          have hz4b : w3.heap.size + 1 ≤ (w3.alloc (.cells #[.int .i64 cap, .slice B1 buf.length e1, .slice B2 sends.length e2, .slice B3 recvs.length e3, .bool false] 26)).heap.size := by simp
          have HF := Lib.hid hF
          have HLOW := Lib.hid (show ∀ g, g < w2.heap.size ∨ g = w3.heap.size → ¬ F1 g ∧ ¬ F2 g ∧ ¬ F3 g from fun g hg => ⟨fun h => by have := hF g (.inl h); omega, fun h => by have := hF g (.inr (.inl h)); omega, fun h => by have := hF g (.inr (.inr h)); omega⟩)
          have HD := Lib.hid (And.intro d12 (And.intro d13 d23))
          clear hal hal3 hb3 o1 o2 o3 hF d12 d13 d23 q0 q1 q2 q3 q4
          go_upto_region 8 with (fail)
          generalize (w3.alloc (.cells #[.int .i64 cap, .slice B1 buf.length e1, .slice B2 sends.length e2, .slice B3 recvs.length e3, .bool false] 26)) = w4 at *
          rcases recvs with _ | ⟨r, rs⟩
          · have b3 := box_cell (j := 3) HX4.out rfl
            obtain ⟨i0, hi0, hiz0, hiz1, hiz2⟩ := info_parts infoIntC
            have hal5 : Below w4.heap.size w4 (w4.alloc (.cells #[.int .i64 v] 3)) := (Below.refl _ _).alloc (Nat.le_refl _) _
            have hown := (ownR_flat_own (lo := 0) (hi := w4.heap.size) HQ1.out fun g hg => ⟨Nat.zero_le _, by have := HF.out g (.inl hg); omega⟩).alloc (.cells #[.int .i64 v] 3)
            have HBL := Lib.hid HQ1.out.blk
            have hxa := box_keep HO4.out hal5 (by omega)
            have p1 := box_cell (j := 1) hxa rfl
            have p1b := box_cell (j := 1) HO4.out rfl
            have hnb : blkA B1 ≠ some w3.heap.size := fun h => (HLOW.out _ (.inr rfl)).1 (HBL.out _ h)
            have HNB := Lib.hid hnb
            have HXA := Lib.hid hxa
            clear hnb hxa
            go_upto_region 12 with (at_builtin; refine wpList_append_kin rfl (.tmp 46) (.tmp 48) _ rfl 0 _ 3 i0 _ 1 8 Try.underlying23 hi0 hiz0 hiz1 hiz2 rfl (by omega) B1 buf.length e1 _ rfl hown _ ⟨w4.heap.size, 0, none⟩ 1 1 [.int .i64 v] rfl (Seen.one w4 (.int .i64 v) 3) (by simp [Value.oneCell']) (by simp only [maxLen]; omega) (by omega) (Nat.zero_le _) ?_; intro B4 e4 w5 own5 hb5 hk5 hA5; have hxk := (hk5 w3.heap.size (by simp; omega) HNB.out).trans HXA.out; have pk := box_cell (j := 1) hxk rfl; have fk := box_free hxk 1)
            have hfl : (buf.map fun z => [Value.int .i64 z]).flatten ++ [.int .i64 v] = ((buf ++ [v]).map fun z => [Value.int .i64 z]).flatten := by simp
            rw [hfl] at own5
            have hwf : ∀ z ∈ buf ++ [v], (Lit.int .i64 z).wf = true := by
              intro z hz
              rcases List.mem_append.1 hz with hz | hz
              · obtain ⟨i, hi⟩ := List.mem_iff_getElem?.1 hz
                obtain ⟨_, _, _, _, _, hel, _⟩ := HQ1.out
                exact (hel i z hi).2
              · simp at hz
                subst hz
                exact hv
            have h9 : OwnR Lay.int 3 w5 (fun g => 0 ≤ g ∧ g < w5.heap.size) B4 (buf.length + 1) e4 (buf ++ [v]) := ownR_flat own5 (by simp) hwf
            have HU1 := Lib.hid (show OwnR Lay.int 3 w5 (fun g => blkA B4 = some g) B4 (buf.length + 1) e4 (buf ++ [v]) from by
              obtain ⟨h1, vs, G, ho, hAA, hel, hG, h4, h5⟩ := h9
              exact ⟨h1, vs, fun _ _ => False, ho, fun g hg => hg, fun i x hx => ⟨(hel i x hx).1, (hel i x hx).2⟩, fun _ _ _ h => h.elim, fun _ _ _ h => h.elim, fun _ _ _ _ _ h => h.elim⟩)
            have hz5 := hb5.size
            simp only [World.size_alloc] at hz5 hk5 hA5
            have hK : ∀ g, g < w4.heap.size → ¬ F1 g → w5.heap[g]? = w4.heap[g]? := fun g hg hn => (hk5 g (by omega) (fun e => hn (HBL.out g e))).trans (hal5.block g hg)
            have hnw : ∀ g, blkA B4 = some g → F1 g ∨ w4.heap.size ≤ g := fun g hg => by
              rcases hA5 with h | h
              · exact .inl (HBL.out g (by rw [← h]; exact hg))
              · rw [hg] at h; injection h with h; exact .inr (by omega)
            have HX5 := Lib.hid ((hK (w.heap.size) (by omega) ((HLOW.out _ (by omega)).1)).trans HX4.out)
            have HRc5 := Lib.hid ((hK (w.heap.size + 1) (by omega) ((HLOW.out _ (by omega)).1)).trans HRc4.out)
            have HRw5 := Lib.hid ((hK (w.heap.size + 2) (by omega) ((HLOW.out _ (by omega)).1)).trans HRw4.out)
            have HO5 := Lib.hid ((hK (w3.heap.size) (by omega) ((HLOW.out _ (by omega)).1)).trans HO4.out)
            have HB5 := Lib.hid (show Below w.heap.size w w5 from HB4.out.trans ⟨hb5.os, hb5.tape, hb5.output, by omega, fun k hk => hK k (by omega) ((HLOW.out _ (by omega)).1)⟩)
            have HU2 := Lib.hid (HQ2.out.stay (w' := w5) (fun g hg hlt => hK g hlt (fun h => HD.out.1 g h hg)) (by omega))
            have HU3 := Lib.hid (HQ3.out.stay (w' := w5) (fun g hg hlt => hK g hlt (fun h => HD.out.2.1 g h hg)) (by omega))
            have HNW := Lib.hid hnw
            clear hk5 hb5 hA5 hK hnw h9 hwf hfl own5 hal5 hown hxk pk fk p1 p1b b3
            have HX6 := Lib.hid (show (w5.setCell ⟨w3.heap.size, 1, none⟩ (.slice B4 (buf.length + 1) e4)).heap[w.heap.size]? = some (.cells #[.int .i64 cap, .slice A1 n1 c1, .slice A2 n2 c2, .slice A3 0 c3, .bool false] 26 (0, 0)) from ((Below.heap_setCell w5 ⟨w3.heap.size, 1, none⟩ (.slice B4 (buf.length + 1) e4) (w.heap.size) (by simp only; omega)).trans HX5.out))
            have HRc6 := Lib.hid (show (w5.setCell ⟨w3.heap.size, 1, none⟩ (.slice B4 (buf.length + 1) e4)).heap[w.heap.size + 1]? = some (.cells #[.int .i64 0, .slice none 0 0, .slice none 0 0, .slice none 0 0, .bool false] 26 (0, 0)) from ((Below.heap_setCell w5 ⟨w3.heap.size, 1, none⟩ (.slice B4 (buf.length + 1) e4) (w.heap.size + 1) (by simp only; omega)).trans HRc5.out))
            have HRw6 := Lib.hid (show (w5.setCell ⟨w3.heap.size, 1, none⟩ (.slice B4 (buf.length + 1) e4)).heap[w.heap.size + 2]? = some (.cells #[.int .i64 0, .int .i64 0, .int .i64 0] 29 (0, 0)) from ((Below.heap_setCell w5 ⟨w3.heap.size, 1, none⟩ (.slice B4 (buf.length + 1) e4) (w.heap.size + 2) (by simp only; omega)).trans HRw5.out))
            have HO6 := Lib.hid (show (w5.setCell ⟨w3.heap.size, 1, none⟩ (.slice B4 (buf.length + 1) e4)).heap[w3.heap.size]? = some (.cells #[.int .i64 cap, .slice B4 (buf.length + 1) e4, .slice B2 sends.length e2, .slice B3 0 e3, .bool false] 26 (0, 0)) from (box_set (j := 1) (u := .slice B4 (buf.length + 1) e4) HO5.out))
            have HB6 := Lib.hid (show Below w.heap.size w (w5.setCell ⟨w3.heap.size, 1, none⟩ (.slice B4 (buf.length + 1) e4)) from (below_set HB5.out (by simp only; omega) (.slice B4 (buf.length + 1) e4)))
            have HS1 := Lib.hid (OwnR.setCell (o := 1) (g := w3.heap.size) HU1.out (fun h => by rcases HNW.out _ h with h | h; exact (HLOW.out _ (.inr rfl)).1 h; omega) (.slice B4 (buf.length + 1) e4))
            have HS2 := Lib.hid (OwnR.setCell (o := 1) (g := w3.heap.size) HU2.out (HLOW.out _ (.inr rfl)).2.1 (.slice B4 (buf.length + 1) e4))
            have HS3b := Lib.hid (OwnR.setCell (o := 1) (g := w3.heap.size) HU3.out (HLOW.out _ (.inr rfl)).2.2 (.slice B4 (buf.length + 1) e4))
            have hzz := Lib.hid (show (w5.setCell ⟨w3.heap.size, 1, none⟩ (.slice B4 (buf.length + 1) e4)).heap.size = w5.heap.size by simp [World.setCell])
            clear HX5 HRc5 HRw5 HO5 HB5 HU1 HU2 HU3
            generalize (w5.setCell ⟨w3.heap.size, 1, none⟩ (.slice B4 (buf.length + 1) e4)) = w6 at *
            have zz_w6 := Nat.le_of_eq hzz.out
            have yy_w6 := Nat.le_of_eq hzz.out.symm
            clear hzz
            have HN6a := Lib.hid (show ∀ g, g < w2.heap.size → ¬ blkA B4 = some g ∧ ¬ F2 g ∧ ¬ F3 g from fun g hg => ⟨fun h => by rcases HNW.out _ h with h | h; exact (HLOW.out _ (.inl hg)).1 h; omega, (HLOW.out _ (.inl hg)).2⟩)
            have HE6 := Lib.hid (show (∀ g, blkA B4 = some g → ¬ F2 g) ∧ (∀ g, blkA B4 = some g → ¬ F3 g) ∧ (∀ g, F2 g → ¬ F3 g) from ⟨fun g h h2 => by rcases HNW.out _ h with h | h; exact HD.out.1 g h h2; have := HF.out g (.inr (.inl h2)); omega, fun g h h2 => by rcases HNW.out _ h with h | h; exact HD.out.2.1 g h h2; have := HF.out g (.inr (.inr h2)); omega, HD.out.2.2⟩)
            have HG6a := Lib.hid (show ∀ g, blkA B4 = some g ∨ F2 g ∨ F3 g → w.heap.size ≤ g ∧ g < w6.heap.size from fun g hg => by
              rcases hg with h | h | h
              · have h2 := HS1.out.lt_blk h; rcases HNW.out _ h with h3 | h3
                · have := HF.out g (.inl h3); omega
                · omega
              · have := HF.out g (.inr (.inl h)); omega
              · have := HF.out g (.inr (.inr h)); omega)
            have m0 := box_cell (j := 0) HO6.out rfl
            have m1 := box_cell (j := 1) HO6.out rfl
            have m2 := box_cell (j := 2) HO6.out rfl
            have m3 := box_cell (j := 3) HO6.out rfl
            have m4 := box_cell (j := 4) HO6.out rfl
            have g0 := box_free HRc6.out 0
            have g1 := box_free HRc6.out 1
            have g2 := box_free HRc6.out 2
            have g3 := box_free HRc6.out 3
            have g4 := box_free HRc6.out 4
            have h0 := box_free HRw6.out 0
            have h1 := box_free HRw6.out 1
            have h2 := box_free HRw6.out 2
            have a0 := box_cell (j := 0) HRc6.out rfl
            have a1 := box_cell (j := 1) HRc6.out rfl
            have a2 := box_cell (j := 2) HRc6.out rfl
            have a3 := box_cell (j := 3) HRc6.out rfl
            have a4 := box_cell (j := 4) HRc6.out rfl
            have b0 := box_cell (j := 0) HRw6.out rfl
            have b1 := box_cell (j := 1) HRw6.out rfl
            have b2 := box_cell (j := 2) HRw6.out rfl
            go_wp2_with fail
            go_region_with (go_at_call 49; refine (l06None_any _).mono ?_; rintro e w7 ⟨rfl, hb7⟩; have hz7 := hb7.size; have hB67 : Below w6.heap.size w6 w7 := ⟨hb7.os, hb7.tape, hb7.output, hb7.size, hb7.block⟩; have xo := box_keep HO6.out hB67 (by omega); have xc := box_keep HRc6.out hB67 (by omega); have xw := box_keep HRw6.out hB67 (by omega); have m0b := box_cell (j := 0) xo rfl; have g0b := box_free xc 0; have a0b := box_cell (j := 0) xc rfl; have m1b := box_cell (j := 1) xo rfl; have g1b := box_free xc 1; have a1b := box_cell (j := 1) xc rfl; have m2b := box_cell (j := 2) xo rfl; have g2b := box_free xc 2; have a2b := box_cell (j := 2) xc rfl; have m3b := box_cell (j := 3) xo rfl; have g3b := box_free xc 3; have a3b := box_cell (j := 3) xc rfl; have m4b := box_cell (j := 4) xo rfl; have g4b := box_free xc 4; have a4b := box_cell (j := 4) xc rfl; have h0b := box_free xw 0; have b0b := box_cell (j := 0) xw rfl; have h1b := box_free xw 1; have b1b := box_cell (j := 1) xw rfl; have h2b := box_free xw 2; have b2b := box_cell (j := 2) xw rfl)
            all_goals
              have zz7 : w6.heap.size ≤ w7.heap.size := hB67.size
              have HRc7 := Lib.hid xc
              have HRw7 := Lib.hid xw
              have HB7 := Lib.hid (HB6.out.trans (hB67.mono (by omega)))
              have HT1 := Lib.hid (HS1.out.stay (w' := w7) (fun g hg hlt => hB67.block g hlt) hB67.size)
              have HT2 := Lib.hid (HS2.out.stay (w' := w7) (fun g hg hlt => hB67.block g hlt) hB67.size)
              have HT3 := Lib.hid (HS3b.out.stay (w' := w7) (fun g hg hlt => hB67.block g hlt) hB67.size)
              clear hb7 hB67 xo xc xw hz7 m0 m1 m2 m3 m4 g0 g1 g2 g3 g4 h0 h1 h2 a0 a1 a2 a3 a4 b0 b1 b2 m0b m1b m2b m3b m4b g0b g1b g2b g3b g4b h0b h1b h2b a0b a1b a2b a3b a4b b0b b1b b2b
              go_wp2_with fail
              have hRC0_0 : (w7.setCell ⟨w.heap.size + 1, 0, none⟩ (.int .i64 cap)).heap[w.heap.size + 1]? = some (.cells #[.int .i64 cap, .slice none 0 0, .slice none 0 0, .slice none 0 0, .bool false] 26 (0, 0)) := box_set (j := 0) (u := .int .i64 cap) HRc7.out
              have hRC0_1 : ((w7.setCell ⟨w.heap.size + 1, 0, none⟩ (.int .i64 cap)).setCell ⟨w.heap.size + 1, 1, none⟩ (.slice B4 (buf.length + 1) e4)).heap[w.heap.size + 1]? = some (.cells #[.int .i64 cap, .slice B4 (buf.length + 1) e4, .slice none 0 0, .slice none 0 0, .bool false] 26 (0, 0)) := box_set (j := 1) (u := .slice B4 (buf.length + 1) e4) hRC0_0
              clear hRC0_0
              have hRC0_2 : (((w7.setCell ⟨w.heap.size + 1, 0, none⟩ (.int .i64 cap)).setCell ⟨w.heap.size + 1, 1, none⟩ (.slice B4 (buf.length + 1) e4)).setCell ⟨w.heap.size + 1, 2, none⟩ (.slice B2 sends.length e2)).heap[w.heap.size + 1]? = some (.cells #[.int .i64 cap, .slice B4 (buf.length + 1) e4, .slice B2 sends.length e2, .slice none 0 0, .bool false] 26 (0, 0)) := box_set (j := 2) (u := .slice B2 sends.length e2) hRC0_1
              clear hRC0_1
              have hRC0_3 : ((((w7.setCell ⟨w.heap.size + 1, 0, none⟩ (.int .i64 cap)).setCell ⟨w.heap.size + 1, 1, none⟩ (.slice B4 (buf.length + 1) e4)).setCell ⟨w.heap.size + 1, 2, none⟩ (.slice B2 sends.length e2)).setCell ⟨w.heap.size + 1, 3, none⟩ (.slice B3 0 e3)).heap[w.heap.size + 1]? = some (.cells #[.int .i64 cap, .slice B4 (buf.length + 1) e4, .slice B2 sends.length e2, .slice B3 0 e3, .bool false] 26 (0, 0)) := box_set (j := 3) (u := .slice B3 0 e3) hRC0_2
              clear hRC0_2
              have hRC0_4 : (((((w7.setCell ⟨w.heap.size + 1, 0, none⟩ (.int .i64 cap)).setCell ⟨w.heap.size + 1, 1, none⟩ (.slice B4 (buf.length + 1) e4)).setCell ⟨w.heap.size + 1, 2, none⟩ (.slice B2 sends.length e2)).setCell ⟨w.heap.size + 1, 3, none⟩ (.slice B3 0 e3)).setCell ⟨w.heap.size + 1, 4, none⟩ (.bool false)).heap[w.heap.size + 1]? = some (.cells #[.int .i64 cap, .slice B4 (buf.length + 1) e4, .slice B2 sends.length e2, .slice B3 0 e3, .bool false] 26 (0, 0)) := box_set (j := 4) (u := .bool false) hRC0_3
              clear hRC0_3
              have hRC0_5 : ((((((w7.setCell ⟨w.heap.size + 1, 0, none⟩ (.int .i64 cap)).setCell ⟨w.heap.size + 1, 1, none⟩ (.slice B4 (buf.length + 1) e4)).setCell ⟨w.heap.size + 1, 2, none⟩ (.slice B2 sends.length e2)).setCell ⟨w.heap.size + 1, 3, none⟩ (.slice B3 0 e3)).setCell ⟨w.heap.size + 1, 4, none⟩ (.bool false)).setCell ⟨w.heap.size + 2, 0, none⟩ (.int .i64 (-1))).heap[w.heap.size + 1]? = some (.cells #[.int .i64 cap, .slice B4 (buf.length + 1) e4, .slice B2 sends.length e2, .slice B3 0 e3, .bool false] 26 (0, 0)) := (Below.heap_setCell (((((w7.setCell ⟨w.heap.size + 1, 0, none⟩ (.int .i64 cap)).setCell ⟨w.heap.size + 1, 1, none⟩ (.slice B4 (buf.length + 1) e4)).setCell ⟨w.heap.size + 1, 2, none⟩ (.slice B2 sends.length e2)).setCell ⟨w.heap.size + 1, 3, none⟩ (.slice B3 0 e3)).setCell ⟨w.heap.size + 1, 4, none⟩ (.bool false)) ⟨w.heap.size + 2, 0, none⟩ (.int .i64 (-1)) (w.heap.size + 1) (by simp only; omega)).trans hRC0_4
              clear hRC0_4
              have hRC0_6 : (((((((w7.setCell ⟨w.heap.size + 1, 0, none⟩ (.int .i64 cap)).setCell ⟨w.heap.size + 1, 1, none⟩ (.slice B4 (buf.length + 1) e4)).setCell ⟨w.heap.size + 1, 2, none⟩ (.slice B2 sends.length e2)).setCell ⟨w.heap.size + 1, 3, none⟩ (.slice B3 0 e3)).setCell ⟨w.heap.size + 1, 4, none⟩ (.bool false)).setCell ⟨w.heap.size + 2, 0, none⟩ (.int .i64 (-1))).setCell ⟨w.heap.size + 2, 1, none⟩ (.int .i64 0)).heap[w.heap.size + 1]? = some (.cells #[.int .i64 cap, .slice B4 (buf.length + 1) e4, .slice B2 sends.length e2, .slice B3 0 e3, .bool false] 26 (0, 0)) := (Below.heap_setCell ((((((w7.setCell ⟨w.heap.size + 1, 0, none⟩ (.int .i64 cap)).setCell ⟨w.heap.size + 1, 1, none⟩ (.slice B4 (buf.length + 1) e4)).setCell ⟨w.heap.size + 1, 2, none⟩ (.slice B2 sends.length e2)).setCell ⟨w.heap.size + 1, 3, none⟩ (.slice B3 0 e3)).setCell ⟨w.heap.size + 1, 4, none⟩ (.bool false)).setCell ⟨w.heap.size + 2, 0, none⟩ (.int .i64 (-1))) ⟨w.heap.size + 2, 1, none⟩ (.int .i64 0) (w.heap.size + 1) (by simp only; omega)).trans hRC0_5
              clear hRC0_5
              have hRC0_7 : ((((((((w7.setCell ⟨w.heap.size + 1, 0, none⟩ (.int .i64 cap)).setCell ⟨w.heap.size + 1, 1, none⟩ (.slice B4 (buf.length + 1) e4)).setCell ⟨w.heap.size + 1, 2, none⟩ (.slice B2 sends.length e2)).setCell ⟨w.heap.size + 1, 3, none⟩ (.slice B3 0 e3)).setCell ⟨w.heap.size + 1, 4, none⟩ (.bool false)).setCell ⟨w.heap.size + 2, 0, none⟩ (.int .i64 (-1))).setCell ⟨w.heap.size + 2, 1, none⟩ (.int .i64 0)).setCell ⟨w.heap.size + 2, 2, none⟩ (.int .i64 0)).heap[w.heap.size + 1]? = some (.cells #[.int .i64 cap, .slice B4 (buf.length + 1) e4, .slice B2 sends.length e2, .slice B3 0 e3, .bool false] 26 (0, 0)) := (Below.heap_setCell (((((((w7.setCell ⟨w.heap.size + 1, 0, none⟩ (.int .i64 cap)).setCell ⟨w.heap.size + 1, 1, none⟩ (.slice B4 (buf.length + 1) e4)).setCell ⟨w.heap.size + 1, 2, none⟩ (.slice B2 sends.length e2)).setCell ⟨w.heap.size + 1, 3, none⟩ (.slice B3 0 e3)).setCell ⟨w.heap.size + 1, 4, none⟩ (.bool false)).setCell ⟨w.heap.size + 2, 0, none⟩ (.int .i64 (-1))).setCell ⟨w.heap.size + 2, 1, none⟩ (.int .i64 0)) ⟨w.heap.size + 2, 2, none⟩ (.int .i64 0) (w.heap.size + 1) (by simp only; omega)).trans hRC0_6
              clear hRC0_6
              have hRC0 := hRC0_7
              clear hRC0_7
              have hRW0_0 : (w7.setCell ⟨w.heap.size + 1, 0, none⟩ (.int .i64 cap)).heap[w.heap.size + 2]? = some (.cells #[.int .i64 0, .int .i64 0, .int .i64 0] 29 (0, 0)) := (Below.heap_setCell w7 ⟨w.heap.size + 1, 0, none⟩ (.int .i64 cap) (w.heap.size + 2) (by simp only; omega)).trans HRw7.out
              have hRW0_1 : ((w7.setCell ⟨w.heap.size + 1, 0, none⟩ (.int .i64 cap)).setCell ⟨w.heap.size + 1, 1, none⟩ (.slice B4 (buf.length + 1) e4)).heap[w.heap.size + 2]? = some (.cells #[.int .i64 0, .int .i64 0, .int .i64 0] 29 (0, 0)) := (Below.heap_setCell (w7.setCell ⟨w.heap.size + 1, 0, none⟩ (.int .i64 cap)) ⟨w.heap.size + 1, 1, none⟩ (.slice B4 (buf.length + 1) e4) (w.heap.size + 2) (by simp only; omega)).trans hRW0_0
              clear hRW0_0
              have hRW0_2 : (((w7.setCell ⟨w.heap.size + 1, 0, none⟩ (.int .i64 cap)).setCell ⟨w.heap.size + 1, 1, none⟩ (.slice B4 (buf.length + 1) e4)).setCell ⟨w.heap.size + 1, 2, none⟩ (.slice B2 sends.length e2)).heap[w.heap.size + 2]? = some (.cells #[.int .i64 0, .int .i64 0, .int .i64 0] 29 (0, 0)) := (Below.heap_setCell ((w7.setCell ⟨w.heap.size + 1, 0, none⟩ (.int .i64 cap)).setCell ⟨w.heap.size + 1, 1, none⟩ (.slice B4 (buf.length + 1) e4)) ⟨w.heap.size + 1, 2, none⟩ (.slice B2 sends.length e2) (w.heap.size + 2) (by simp only; omega)).trans hRW0_1
              clear hRW0_1
              have hRW0_3 : ((((w7.setCell ⟨w.heap.size + 1, 0, none⟩ (.int .i64 cap)).setCell ⟨w.heap.size + 1, 1, none⟩ (.slice B4 (buf.length + 1) e4)).setCell ⟨w.heap.size + 1, 2, none⟩ (.slice B2 sends.length e2)).setCell ⟨w.heap.size + 1, 3, none⟩ (.slice B3 0 e3)).heap[w.heap.size + 2]? = some (.cells #[.int .i64 0, .int .i64 0, .int .i64 0] 29 (0, 0)) := (Below.heap_setCell (((w7.setCell ⟨w.heap.size + 1, 0, none⟩ (.int .i64 cap)).setCell ⟨w.heap.size + 1, 1, none⟩ (.slice B4 (buf.length + 1) e4)).setCell ⟨w.heap.size + 1, 2, none⟩ (.slice B2 sends.length e2)) ⟨w.heap.size + 1, 3, none⟩ (.slice B3 0 e3) (w.heap.size + 2) (by simp only; omega)).trans hRW0_2
              clear hRW0_2
              have hRW0_4 : (((((w7.setCell ⟨w.heap.size + 1, 0, none⟩ (.int .i64 cap)).setCell ⟨w.heap.size + 1, 1, none⟩ (.slice B4 (buf.length + 1) e4)).setCell ⟨w.heap.size + 1, 2, none⟩ (.slice B2 sends.length e2)).setCell ⟨w.heap.size + 1, 3, none⟩ (.slice B3 0 e3)).setCell ⟨w.heap.size + 1, 4, none⟩ (.bool false)).heap[w.heap.size + 2]? = some (.cells #[.int .i64 0, .int .i64 0, .int .i64 0] 29 (0, 0)) := (Below.heap_setCell ((((w7.setCell ⟨w.heap.size + 1, 0, none⟩ (.int .i64 cap)).setCell ⟨w.heap.size + 1, 1, none⟩ (.slice B4 (buf.length + 1) e4)).setCell ⟨w.heap.size + 1, 2, none⟩ (.slice B2 sends.length e2)).setCell ⟨w.heap.size + 1, 3, none⟩ (.slice B3 0 e3)) ⟨w.heap.size + 1, 4, none⟩ (.bool false) (w.heap.size + 2) (by simp only; omega)).trans hRW0_3
              clear hRW0_3
              have hRW0_5 : ((((((w7.setCell ⟨w.heap.size + 1, 0, none⟩ (.int .i64 cap)).setCell ⟨w.heap.size + 1, 1, none⟩ (.slice B4 (buf.length + 1) e4)).setCell ⟨w.heap.size + 1, 2, none⟩ (.slice B2 sends.length e2)).setCell ⟨w.heap.size + 1, 3, none⟩ (.slice B3 0 e3)).setCell ⟨w.heap.size + 1, 4, none⟩ (.bool false)).setCell ⟨w.heap.size + 2, 0, none⟩ (.int .i64 (-1))).heap[w.heap.size + 2]? = some (.cells #[.int .i64 (-1), .int .i64 0, .int .i64 0] 29 (0, 0)) := box_set (j := 0) (u := .int .i64 (-1)) hRW0_4
              clear hRW0_4
              have hRW0_6 : (((((((w7.setCell ⟨w.heap.size + 1, 0, none⟩ (.int .i64 cap)).setCell ⟨w.heap.size + 1, 1, none⟩ (.slice B4 (buf.length + 1) e4)).setCell ⟨w.heap.size + 1, 2, none⟩ (.slice B2 sends.length e2)).setCell ⟨w.heap.size + 1, 3, none⟩ (.slice B3 0 e3)).setCell ⟨w.heap.size + 1, 4, none⟩ (.bool false)).setCell ⟨w.heap.size + 2, 0, none⟩ (.int .i64 (-1))).setCell ⟨w.heap.size + 2, 1, none⟩ (.int .i64 0)).heap[w.heap.size + 2]? = some (.cells #[.int .i64 (-1), .int .i64 0, .int .i64 0] 29 (0, 0)) := box_set (j := 1) (u := .int .i64 0) hRW0_5
              clear hRW0_5
              have hRW0_7 : ((((((((w7.setCell ⟨w.heap.size + 1, 0, none⟩ (.int .i64 cap)).setCell ⟨w.heap.size + 1, 1, none⟩ (.slice B4 (buf.length + 1) e4)).setCell ⟨w.heap.size + 1, 2, none⟩ (.slice B2 sends.length e2)).setCell ⟨w.heap.size + 1, 3, none⟩ (.slice B3 0 e3)).setCell ⟨w.heap.size + 1, 4, none⟩ (.bool false)).setCell ⟨w.heap.size + 2, 0, none⟩ (.int .i64 (-1))).setCell ⟨w.heap.size + 2, 1, none⟩ (.int .i64 0)).setCell ⟨w.heap.size + 2, 2, none⟩ (.int .i64 0)).heap[w.heap.size + 2]? = some (.cells #[.int .i64 (-1), .int .i64 0, .int .i64 0] 29 (0, 0)) := box_set (j := 2) (u := .int .i64 0) hRW0_6
              clear hRW0_6
              have hRW0 := hRW0_7
              clear hRW0_7
              have hBF0 : Below w.heap.size w ((((((((w7.setCell ⟨w.heap.size + 1, 0, none⟩ (.int .i64 cap)).setCell ⟨w.heap.size + 1, 1, none⟩ (.slice B4 (buf.length + 1) e4)).setCell ⟨w.heap.size + 1, 2, none⟩ (.slice B2 sends.length e2)).setCell ⟨w.heap.size + 1, 3, none⟩ (.slice B3 0 e3)).setCell ⟨w.heap.size + 1, 4, none⟩ (.bool false)).setCell ⟨w.heap.size + 2, 0, none⟩ (.int .i64 (-1))).setCell ⟨w.heap.size + 2, 1, none⟩ (.int .i64 0)).setCell ⟨w.heap.size + 2, 2, none⟩ (.int .i64 0)) := (below_set (below_set (below_set (below_set (below_set (below_set (below_set (below_set HB7.out (by simp only; omega) (.int .i64 cap)) (by simp only; omega) (.slice B4 (buf.length + 1) e4)) (by simp only; omega) (.slice B2 sends.length e2)) (by simp only; omega) (.slice B3 0 e3)) (by simp only; omega) (.bool false)) (by simp only; omega) (.int .i64 (-1))) (by simp only; omega) (.int .i64 0)) (by simp only; omega) (.int .i64 0))
              have hO1_0 := OwnR.setCell (o := 0) (g := w.heap.size + 1) HT1.out (HN6a.out _ (by omega)).1 (.int .i64 cap)
              have hO1_1 := OwnR.setCell (o := 1) (g := w.heap.size + 1) hO1_0 (HN6a.out _ (by omega)).1 (.slice B4 (buf.length + 1) e4)
              clear hO1_0
              have hO1_2 := OwnR.setCell (o := 2) (g := w.heap.size + 1) hO1_1 (HN6a.out _ (by omega)).1 (.slice B2 sends.length e2)
              clear hO1_1
              have hO1_3 := OwnR.setCell (o := 3) (g := w.heap.size + 1) hO1_2 (HN6a.out _ (by omega)).1 (.slice B3 0 e3)
              clear hO1_2
              have hO1_4 := OwnR.setCell (o := 4) (g := w.heap.size + 1) hO1_3 (HN6a.out _ (by omega)).1 (.bool false)
              clear hO1_3
              have hO1_5 := OwnR.setCell (o := 0) (g := w.heap.size + 2) hO1_4 (HN6a.out _ (by omega)).1 (.int .i64 (-1))
              clear hO1_4
              have hO1_6 := OwnR.setCell (o := 1) (g := w.heap.size + 2) hO1_5 (HN6a.out _ (by omega)).1 (.int .i64 0)
              clear hO1_5
              have hO1_7 := OwnR.setCell (o := 2) (g := w.heap.size + 2) hO1_6 (HN6a.out _ (by omega)).1 (.int .i64 0)
              clear hO1_6
              have hO1 := hO1_7
              clear hO1_7
              have hO2_0 := OwnR.setCell (o := 0) (g := w.heap.size + 1) HT2.out (HN6a.out _ (by omega)).2.1 (.int .i64 cap)
              have hO2_1 := OwnR.setCell (o := 1) (g := w.heap.size + 1) hO2_0 (HN6a.out _ (by omega)).2.1 (.slice B4 (buf.length + 1) e4)
              clear hO2_0
              have hO2_2 := OwnR.setCell (o := 2) (g := w.heap.size + 1) hO2_1 (HN6a.out _ (by omega)).2.1 (.slice B2 sends.length e2)
              clear hO2_1
              have hO2_3 := OwnR.setCell (o := 3) (g := w.heap.size + 1) hO2_2 (HN6a.out _ (by omega)).2.1 (.slice B3 0 e3)
              clear hO2_2
              have hO2_4 := OwnR.setCell (o := 4) (g := w.heap.size + 1) hO2_3 (HN6a.out _ (by omega)).2.1 (.bool false)
              clear hO2_3
              have hO2_5 := OwnR.setCell (o := 0) (g := w.heap.size + 2) hO2_4 (HN6a.out _ (by omega)).2.1 (.int .i64 (-1))
              clear hO2_4
              have hO2_6 := OwnR.setCell (o := 1) (g := w.heap.size + 2) hO2_5 (HN6a.out _ (by omega)).2.1 (.int .i64 0)
              clear hO2_5
              have hO2_7 := OwnR.setCell (o := 2) (g := w.heap.size + 2) hO2_6 (HN6a.out _ (by omega)).2.1 (.int .i64 0)
              clear hO2_6
              have hO2 := hO2_7
              clear hO2_7
              have hO3_0 := OwnR.setCell (o := 0) (g := w.heap.size + 1) HT3.out (HN6a.out _ (by omega)).2.2 (.int .i64 cap)
              have hO3_1 := OwnR.setCell (o := 1) (g := w.heap.size + 1) hO3_0 (HN6a.out _ (by omega)).2.2 (.slice B4 (buf.length + 1) e4)
              clear hO3_0
              have hO3_2 := OwnR.setCell (o := 2) (g := w.heap.size + 1) hO3_1 (HN6a.out _ (by omega)).2.2 (.slice B2 sends.length e2)
              clear hO3_1
              have hO3_3 := OwnR.setCell (o := 3) (g := w.heap.size + 1) hO3_2 (HN6a.out _ (by omega)).2.2 (.slice B3 0 e3)
              clear hO3_2
              have hO3_4 := OwnR.setCell (o := 4) (g := w.heap.size + 1) hO3_3 (HN6a.out _ (by omega)).2.2 (.bool false)
              clear hO3_3
              have hO3_5 := OwnR.setCell (o := 0) (g := w.heap.size + 2) hO3_4 (HN6a.out _ (by omega)).2.2 (.int .i64 (-1))
              clear hO3_4
              have hO3_6 := OwnR.setCell (o := 1) (g := w.heap.size + 2) hO3_5 (HN6a.out _ (by omega)).2.2 (.int .i64 0)
              clear hO3_5
              have hO3_7 := OwnR.setCell (o := 2) (g := w.heap.size + 2) hO3_6 (HN6a.out _ (by omega)).2.2 (.int .i64 0)
              clear hO3_6
              have hO3 := hO3_7
              clear hO3_7
              have hzF0 : ((((((((w7.setCell ⟨w.heap.size + 1, 0, none⟩ (.int .i64 cap)).setCell ⟨w.heap.size + 1, 1, none⟩ (.slice B4 (buf.length + 1) e4)).setCell ⟨w.heap.size + 1, 2, none⟩ (.slice B2 sends.length e2)).setCell ⟨w.heap.size + 1, 3, none⟩ (.slice B3 0 e3)).setCell ⟨w.heap.size + 1, 4, none⟩ (.bool false)).setCell ⟨w.heap.size + 2, 0, none⟩ (.int .i64 (-1))).setCell ⟨w.heap.size + 2, 1, none⟩ (.int .i64 0)).setCell ⟨w.heap.size + 2, 2, none⟩ (.int .i64 0)).heap.size = w7.heap.size := by simp [World.setCell]
              generalize ((((((((w7.setCell ⟨w.heap.size + 1, 0, none⟩ (.int .i64 cap)).setCell ⟨w.heap.size + 1, 1, none⟩ (.slice B4 (buf.length + 1) e4)).setCell ⟨w.heap.size + 1, 2, none⟩ (.slice B2 sends.length e2)).setCell ⟨w.heap.size + 1, 3, none⟩ (.slice B3 0 e3)).setCell ⟨w.heap.size + 1, 4, none⟩ (.bool false)).setCell ⟨w.heap.size + 2, 0, none⟩ (.int .i64 (-1))).setCell ⟨w.heap.size + 2, 1, none⟩ (.int .i64 0)).setCell ⟨w.heap.size + 2, 2, none⟩ (.int .i64 0)) = WE at *
              have hRC : WE.heap[w.heap.size + 1]? = some (.cells #[.int .i64 cap, .slice B4 (buf.length + 1) e4, .slice B2 sends.length e2, .slice B3 0 e3, .bool false] 26 (0, 0)) := hRC0
              have hRW : WE.heap[w.heap.size + 2]? = some (.cells #[.int .i64 (-1), .int .i64 0, .int .i64 0] 29 (0, 0)) := hRW0
              have hBF := hBF0
              have hzF : WE.heap.size = w7.heap.size := hzF0
              have hP1 := hO1.stay (w' := WE) (fun _ _ _ => rfl) (Nat.le_refl _)
              have hP2 := hO2.stay (w' := WE) (fun _ _ _ => rfl) (Nat.le_refl _)
              have hP3 := hO3.stay (w' := WE) (fun _ _ _ => rfl) (Nat.le_refl _)
              clear hRC0 hRW0 hBF0 hzF0 hO1 hO2 hO3
              have y0 := box_cell (j := 0) hRC rfl
              have y1 := box_cell (j := 1) hRC rfl
              have y2 := box_cell (j := 2) hRC rfl
              have y3 := box_cell (j := 3) hRC rfl
              have y4 := box_cell (j := 4) hRC rfl
              have z0 := box_cell (j := 0) hRW rfl
              have z1 := box_cell (j := 1) hRW rfl
              have z2 := box_cell (j := 2) hRW rfl
              refine bodyPost_ret (v := .tuple #[.agg #[.int .i64 cap, .slice B4 (buf.length + 1) e4, .slice B2 sends.length e2, .slice B3 0 e3, .bool false], .agg #[.int .i64 (-1), .int .i64 0, .int .i64 0], .int .i64 0]) (by simp [results, Try.results14, go_sem, y0, y1, y2, y3, y4, z0, z1, z2]) rfl ?_
              rw [HR.out]
              refine ⟨_, rfl, ownChan (x := (⟨cap, buf ++ [v], sends, [], false⟩ : DChan)) hw0 (TailR.of (A := B4) (n := buf.length + 1) hP1) (TailR.of hP2) (TailR.of hP3) ?_ ?_ ?_ HE6.out.1 HE6.out.2.1 HE6.out.2.2, hBF⟩
              · exact fun g hg => by have := HG6a.out g (.inl hg); omega
              · exact fun g hg => by have := HG6a.out g (.inr (.inl hg)); omega
              · exact fun g hg => by have := HG6a.out g (.inr (.inr hg)); omega
          · have hs3 := HS3.out _ HB4.out
            obtain ⟨hx0, g0, o0, us0, rfl, hg0, ⟨rfl, hwr⟩, hcell⟩ := hs3.at_ (i := 0) (by simp)
            simp only [List.getElem_cons_zero] at hcell hwr
            have b3 := box_cell (j := 3) HX4.out rfl
            have p3 := box_cell (j := 3) HO4.out rfl
            have f3 := box_free HO4.out 3
            have k1 : ∀ W, (Instr.slice 24 (.slice B3 (rs.length + 1) e3) (some (.int .i64 1)) none none).run Try.prog W = .ok (.slice (restA B3 3 e3) rs.length (e3 - 1)) W := fun W => by
              have := run_rest (P := Try.prog) Try.underlying24 wt_size W B3 (rs.length + 1) e3 (by omega)
              rw [Nat.add_sub_cancel] at this
              exact this
            have HU3 := Lib.hid (TailR.cut (n := rs.length) (TailR.of HQ3.out))
            have hHC := Lib.hid hcell
            clear hcell hs3
            go_upto_region 10 with (fail)
            have HX6 := Lib.hid (show (w4.setCell ⟨w3.heap.size, 3, none⟩ (.slice (restA B3 3 e3) rs.length (e3 - 1))).heap[w.heap.size]? = some (.cells #[.int .i64 cap, .slice A1 n1 c1, .slice A2 n2 c2, .slice (some ⟨g0, o0, none⟩) (rs.length + 1) c3, .bool false] 26 (0, 0)) from ((Below.heap_setCell w4 ⟨w3.heap.size, 3, none⟩ (.slice (restA B3 3 e3) rs.length (e3 - 1)) (w.heap.size) (by simp only; omega)).trans HX4.out))
            have HRc6 := Lib.hid (show (w4.setCell ⟨w3.heap.size, 3, none⟩ (.slice (restA B3 3 e3) rs.length (e3 - 1))).heap[w.heap.size + 1]? = some (.cells #[.int .i64 0, .slice none 0 0, .slice none 0 0, .slice none 0 0, .bool false] 26 (0, 0)) from ((Below.heap_setCell w4 ⟨w3.heap.size, 3, none⟩ (.slice (restA B3 3 e3) rs.length (e3 - 1)) (w.heap.size + 1) (by simp only; omega)).trans HRc4.out))
            have HRw6 := Lib.hid (show (w4.setCell ⟨w3.heap.size, 3, none⟩ (.slice (restA B3 3 e3) rs.length (e3 - 1))).heap[w.heap.size + 2]? = some (.cells #[.int .i64 0, .int .i64 0, .int .i64 0] 29 (0, 0)) from ((Below.heap_setCell w4 ⟨w3.heap.size, 3, none⟩ (.slice (restA B3 3 e3) rs.length (e3 - 1)) (w.heap.size + 2) (by simp only; omega)).trans HRw4.out))
            have HO6 := Lib.hid (show (w4.setCell ⟨w3.heap.size, 3, none⟩ (.slice (restA B3 3 e3) rs.length (e3 - 1))).heap[w3.heap.size]? = some (.cells #[.int .i64 cap, .slice B1 buf.length e1, .slice B2 sends.length e2, .slice (restA B3 3 e3) rs.length (e3 - 1), .bool false] 26 (0, 0)) from (box_set (j := 3) (u := .slice (restA B3 3 e3) rs.length (e3 - 1)) HO4.out))
            have HB6 := Lib.hid (show Below w.heap.size w (w4.setCell ⟨w3.heap.size, 3, none⟩ (.slice (restA B3 3 e3) rs.length (e3 - 1))) from (below_set HB4.out (by simp only; omega) (.slice (restA B3 3 e3) rs.length (e3 - 1))))
            have HS1 := Lib.hid (OwnR.setCell (o := 3) (g := w3.heap.size) HQ1.out (HLOW.out _ (.inr rfl)).1 (.slice (restA B3 3 e3) rs.length (e3 - 1)))
            have HS2 := Lib.hid (OwnR.setCell (o := 3) (g := w3.heap.size) HQ2.out (HLOW.out _ (.inr rfl)).2.1 (.slice (restA B3 3 e3) rs.length (e3 - 1)))
            have HS3b := Lib.hid (TailR.setCell (o := 3) (g := w3.heap.size) HU3.out (HLOW.out _ (.inr rfl)).2.2 (.slice (restA B3 3 e3) rs.length (e3 - 1)))
            have hzz := Lib.hid (show (w4.setCell ⟨w3.heap.size, 3, none⟩ (.slice (restA B3 3 e3) rs.length (e3 - 1))).heap.size = w4.heap.size by simp [World.setCell])
            clear HX4 HRc4 HRw4 HO4 b3 p3 f3 k1
            generalize (w4.setCell ⟨w3.heap.size, 3, none⟩ (.slice (restA B3 3 e3) rs.length (e3 - 1))) = w5 at *
            have zz_w5 := Nat.le_of_eq hzz.out
            have yy_w5 := Nat.le_of_eq hzz.out.symm
            clear hzz
            have hcc : ∀ j u, (layWaiter.see = layWaiter.see) → ([Value.int .i64 r.fG, .int .i64 r.fCase, .int .i64 r.fVal])[j]? = some u → w5.cell? ⟨g0, o0 + j, none⟩ = some u := fun j u _ hu => by
              have h1 := hHC.out j u hu
              rw [show o0 + (0 * layWaiter.size + j) = o0 + j by omega] at h1
              exact (World.cell?_of_block ((HB6.out.block g0 (by omega)).trans (HB4.out.block g0 (by omega)).symm)).trans h1
            have cc0 := hcc 0 _ rfl rfl
            have cc1 := hcc 1 _ rfl rfl
            have cc2 := hcc 2 _ rfl rfl
            rw [Nat.add_zero] at cc0
            clear hcc
            have b3 := box_cell (j := 3) HX6.out rfl
            have m0 := box_cell (j := 0) HO6.out rfl
            have m1 := box_cell (j := 1) HO6.out rfl
            have m2 := box_cell (j := 2) HO6.out rfl
            have m3 := box_cell (j := 3) HO6.out rfl
            have m4 := box_cell (j := 4) HO6.out rfl
            have gg0 := box_free HRc6.out 0
            have gg1 := box_free HRc6.out 1
            have gg2 := box_free HRc6.out 2
            have gg3 := box_free HRc6.out 3
            have gg4 := box_free HRc6.out 4
            have h0 := box_free HRw6.out 0
            have h1 := box_free HRw6.out 1
            have h2 := box_free HRw6.out 2
            have a0 := box_cell (j := 0) HRc6.out rfl
            have a1 := box_cell (j := 1) HRc6.out rfl
            have a2 := box_cell (j := 2) HRc6.out rfl
            have a3 := box_cell (j := 3) HRc6.out rfl
            have a4 := box_cell (j := 4) HRc6.out rfl
            have bb0 := box_cell (j := 0) HRw6.out rfl
            have bb1 := box_cell (j := 1) HRw6.out rfl
            have bb2 := box_cell (j := 2) HRw6.out rfl
            go_wp2_with fail
            go_region
            all_goals
              go_wp2_with fail
              have HN6 := Lib.hid (show ∀ g, g < w2.heap.size → ¬ F1 g ∧ ¬ F2 g ∧ ¬ F3 g from fun g hg => HLOW.out g (.inl hg))
              have HE6 := HD
              have HG6 := Lib.hid (show ∀ g, F1 g ∨ F2 g ∨ F3 g → w.heap.size ≤ g ∧ g < w5.heap.size from fun g hg => by have := HF.out g hg; omega)
              have hRC0_0 : (w5.setCell ⟨w.heap.size + 1, 0, none⟩ (.int .i64 cap)).heap[w.heap.size + 1]? = some (.cells #[.int .i64 cap, .slice none 0 0, .slice none 0 0, .slice none 0 0, .bool false] 26 (0, 0)) := box_set (j := 0) (u := .int .i64 cap) HRc6.out
              have hRC0_1 : ((w5.setCell ⟨w.heap.size + 1, 0, none⟩ (.int .i64 cap)).setCell ⟨w.heap.size + 1, 1, none⟩ (.slice B1 buf.length e1)).heap[w.heap.size + 1]? = some (.cells #[.int .i64 cap, .slice B1 buf.length e1, .slice none 0 0, .slice none 0 0, .bool false] 26 (0, 0)) := box_set (j := 1) (u := .slice B1 buf.length e1) hRC0_0
              clear hRC0_0
              have hRC0_2 : (((w5.setCell ⟨w.heap.size + 1, 0, none⟩ (.int .i64 cap)).setCell ⟨w.heap.size + 1, 1, none⟩ (.slice B1 buf.length e1)).setCell ⟨w.heap.size + 1, 2, none⟩ (.slice B2 sends.length e2)).heap[w.heap.size + 1]? = some (.cells #[.int .i64 cap, .slice B1 buf.length e1, .slice B2 sends.length e2, .slice none 0 0, .bool false] 26 (0, 0)) := box_set (j := 2) (u := .slice B2 sends.length e2) hRC0_1
              clear hRC0_1
              have hRC0_3 : ((((w5.setCell ⟨w.heap.size + 1, 0, none⟩ (.int .i64 cap)).setCell ⟨w.heap.size + 1, 1, none⟩ (.slice B1 buf.length e1)).setCell ⟨w.heap.size + 1, 2, none⟩ (.slice B2 sends.length e2)).setCell ⟨w.heap.size + 1, 3, none⟩ (.slice (restA B3 3 e3) rs.length (e3 - 1))).heap[w.heap.size + 1]? = some (.cells #[.int .i64 cap, .slice B1 buf.length e1, .slice B2 sends.length e2, .slice (restA B3 3 e3) rs.length (e3 - 1), .bool false] 26 (0, 0)) := box_set (j := 3) (u := .slice (restA B3 3 e3) rs.length (e3 - 1)) hRC0_2
              clear hRC0_2
              have hRC0_4 : (((((w5.setCell ⟨w.heap.size + 1, 0, none⟩ (.int .i64 cap)).setCell ⟨w.heap.size + 1, 1, none⟩ (.slice B1 buf.length e1)).setCell ⟨w.heap.size + 1, 2, none⟩ (.slice B2 sends.length e2)).setCell ⟨w.heap.size + 1, 3, none⟩ (.slice (restA B3 3 e3) rs.length (e3 - 1))).setCell ⟨w.heap.size + 1, 4, none⟩ (.bool false)).heap[w.heap.size + 1]? = some (.cells #[.int .i64 cap, .slice B1 buf.length e1, .slice B2 sends.length e2, .slice (restA B3 3 e3) rs.length (e3 - 1), .bool false] 26 (0, 0)) := box_set (j := 4) (u := .bool false) hRC0_3
              clear hRC0_3
              have hRC0_5 : ((((((w5.setCell ⟨w.heap.size + 1, 0, none⟩ (.int .i64 cap)).setCell ⟨w.heap.size + 1, 1, none⟩ (.slice B1 buf.length e1)).setCell ⟨w.heap.size + 1, 2, none⟩ (.slice B2 sends.length e2)).setCell ⟨w.heap.size + 1, 3, none⟩ (.slice (restA B3 3 e3) rs.length (e3 - 1))).setCell ⟨w.heap.size + 1, 4, none⟩ (.bool false)).setCell ⟨w.heap.size + 2, 0, none⟩ (.int .i64 r.fG)).heap[w.heap.size + 1]? = some (.cells #[.int .i64 cap, .slice B1 buf.length e1, .slice B2 sends.length e2, .slice (restA B3 3 e3) rs.length (e3 - 1), .bool false] 26 (0, 0)) := (Below.heap_setCell (((((w5.setCell ⟨w.heap.size + 1, 0, none⟩ (.int .i64 cap)).setCell ⟨w.heap.size + 1, 1, none⟩ (.slice B1 buf.length e1)).setCell ⟨w.heap.size + 1, 2, none⟩ (.slice B2 sends.length e2)).setCell ⟨w.heap.size + 1, 3, none⟩ (.slice (restA B3 3 e3) rs.length (e3 - 1))).setCell ⟨w.heap.size + 1, 4, none⟩ (.bool false)) ⟨w.heap.size + 2, 0, none⟩ (.int .i64 r.fG) (w.heap.size + 1) (by simp only; omega)).trans hRC0_4
              clear hRC0_4
              have hRC0_6 : (((((((w5.setCell ⟨w.heap.size + 1, 0, none⟩ (.int .i64 cap)).setCell ⟨w.heap.size + 1, 1, none⟩ (.slice B1 buf.length e1)).setCell ⟨w.heap.size + 1, 2, none⟩ (.slice B2 sends.length e2)).setCell ⟨w.heap.size + 1, 3, none⟩ (.slice (restA B3 3 e3) rs.length (e3 - 1))).setCell ⟨w.heap.size + 1, 4, none⟩ (.bool false)).setCell ⟨w.heap.size + 2, 0, none⟩ (.int .i64 r.fG)).setCell ⟨w.heap.size + 2, 1, none⟩ (.int .i64 r.fCase)).heap[w.heap.size + 1]? = some (.cells #[.int .i64 cap, .slice B1 buf.length e1, .slice B2 sends.length e2, .slice (restA B3 3 e3) rs.length (e3 - 1), .bool false] 26 (0, 0)) := (Below.heap_setCell ((((((w5.setCell ⟨w.heap.size + 1, 0, none⟩ (.int .i64 cap)).setCell ⟨w.heap.size + 1, 1, none⟩ (.slice B1 buf.length e1)).setCell ⟨w.heap.size + 1, 2, none⟩ (.slice B2 sends.length e2)).setCell ⟨w.heap.size + 1, 3, none⟩ (.slice (restA B3 3 e3) rs.length (e3 - 1))).setCell ⟨w.heap.size + 1, 4, none⟩ (.bool false)).setCell ⟨w.heap.size + 2, 0, none⟩ (.int .i64 r.fG)) ⟨w.heap.size + 2, 1, none⟩ (.int .i64 r.fCase) (w.heap.size + 1) (by simp only; omega)).trans hRC0_5
              clear hRC0_5
              have hRC0_7 : ((((((((w5.setCell ⟨w.heap.size + 1, 0, none⟩ (.int .i64 cap)).setCell ⟨w.heap.size + 1, 1, none⟩ (.slice B1 buf.length e1)).setCell ⟨w.heap.size + 1, 2, none⟩ (.slice B2 sends.length e2)).setCell ⟨w.heap.size + 1, 3, none⟩ (.slice (restA B3 3 e3) rs.length (e3 - 1))).setCell ⟨w.heap.size + 1, 4, none⟩ (.bool false)).setCell ⟨w.heap.size + 2, 0, none⟩ (.int .i64 r.fG)).setCell ⟨w.heap.size + 2, 1, none⟩ (.int .i64 r.fCase)).setCell ⟨w.heap.size + 2, 2, none⟩ (.int .i64 r.fVal)).heap[w.heap.size + 1]? = some (.cells #[.int .i64 cap, .slice B1 buf.length e1, .slice B2 sends.length e2, .slice (restA B3 3 e3) rs.length (e3 - 1), .bool false] 26 (0, 0)) := (Below.heap_setCell (((((((w5.setCell ⟨w.heap.size + 1, 0, none⟩ (.int .i64 cap)).setCell ⟨w.heap.size + 1, 1, none⟩ (.slice B1 buf.length e1)).setCell ⟨w.heap.size + 1, 2, none⟩ (.slice B2 sends.length e2)).setCell ⟨w.heap.size + 1, 3, none⟩ (.slice (restA B3 3 e3) rs.length (e3 - 1))).setCell ⟨w.heap.size + 1, 4, none⟩ (.bool false)).setCell ⟨w.heap.size + 2, 0, none⟩ (.int .i64 r.fG)).setCell ⟨w.heap.size + 2, 1, none⟩ (.int .i64 r.fCase)) ⟨w.heap.size + 2, 2, none⟩ (.int .i64 r.fVal) (w.heap.size + 1) (by simp only; omega)).trans hRC0_6
              clear hRC0_6
              have hRC0 := hRC0_7
              clear hRC0_7
              have hRW0_0 : (w5.setCell ⟨w.heap.size + 1, 0, none⟩ (.int .i64 cap)).heap[w.heap.size + 2]? = some (.cells #[.int .i64 0, .int .i64 0, .int .i64 0] 29 (0, 0)) := (Below.heap_setCell w5 ⟨w.heap.size + 1, 0, none⟩ (.int .i64 cap) (w.heap.size + 2) (by simp only; omega)).trans HRw6.out
              have hRW0_1 : ((w5.setCell ⟨w.heap.size + 1, 0, none⟩ (.int .i64 cap)).setCell ⟨w.heap.size + 1, 1, none⟩ (.slice B1 buf.length e1)).heap[w.heap.size + 2]? = some (.cells #[.int .i64 0, .int .i64 0, .int .i64 0] 29 (0, 0)) := (Below.heap_setCell (w5.setCell ⟨w.heap.size + 1, 0, none⟩ (.int .i64 cap)) ⟨w.heap.size + 1, 1, none⟩ (.slice B1 buf.length e1) (w.heap.size + 2) (by simp only; omega)).trans hRW0_0
              clear hRW0_0
              have hRW0_2 : (((w5.setCell ⟨w.heap.size + 1, 0, none⟩ (.int .i64 cap)).setCell ⟨w.heap.size + 1, 1, none⟩ (.slice B1 buf.length e1)).setCell ⟨w.heap.size + 1, 2, none⟩ (.slice B2 sends.length e2)).heap[w.heap.size + 2]? = some (.cells #[.int .i64 0, .int .i64 0, .int .i64 0] 29 (0, 0)) := (Below.heap_setCell ((w5.setCell ⟨w.heap.size + 1, 0, none⟩ (.int .i64 cap)).setCell ⟨w.heap.size + 1, 1, none⟩ (.slice B1 buf.length e1)) ⟨w.heap.size + 1, 2, none⟩ (.slice B2 sends.length e2) (w.heap.size + 2) (by simp only; omega)).trans hRW0_1
              clear hRW0_1
              have hRW0_3 : ((((w5.setCell ⟨w.heap.size + 1, 0, none⟩ (.int .i64 cap)).setCell ⟨w.heap.size + 1, 1, none⟩ (.slice B1 buf.length e1)).setCell ⟨w.heap.size + 1, 2, none⟩ (.slice B2 sends.length e2)).setCell ⟨w.heap.size + 1, 3, none⟩ (.slice (restA B3 3 e3) rs.length (e3 - 1))).heap[w.heap.size + 2]? = some (.cells #[.int .i64 0, .int .i64 0, .int .i64 0] 29 (0, 0)) := (Below.heap_setCell (((w5.setCell ⟨w.heap.size + 1, 0, none⟩ (.int .i64 cap)).setCell ⟨w.heap.size + 1, 1, none⟩ (.slice B1 buf.length e1)).setCell ⟨w.heap.size + 1, 2, none⟩ (.slice B2 sends.length e2)) ⟨w.heap.size + 1, 3, none⟩ (.slice (restA B3 3 e3) rs.length (e3 - 1)) (w.heap.size + 2) (by simp only; omega)).trans hRW0_2
              clear hRW0_2
              have hRW0_4 : (((((w5.setCell ⟨w.heap.size + 1, 0, none⟩ (.int .i64 cap)).setCell ⟨w.heap.size + 1, 1, none⟩ (.slice B1 buf.length e1)).setCell ⟨w.heap.size + 1, 2, none⟩ (.slice B2 sends.length e2)).setCell ⟨w.heap.size + 1, 3, none⟩ (.slice (restA B3 3 e3) rs.length (e3 - 1))).setCell ⟨w.heap.size + 1, 4, none⟩ (.bool false)).heap[w.heap.size + 2]? = some (.cells #[.int .i64 0, .int .i64 0, .int .i64 0] 29 (0, 0)) := (Below.heap_setCell ((((w5.setCell ⟨w.heap.size + 1, 0, none⟩ (.int .i64 cap)).setCell ⟨w.heap.size + 1, 1, none⟩ (.slice B1 buf.length e1)).setCell ⟨w.heap.size + 1, 2, none⟩ (.slice B2 sends.length e2)).setCell ⟨w.heap.size + 1, 3, none⟩ (.slice (restA B3 3 e3) rs.length (e3 - 1))) ⟨w.heap.size + 1, 4, none⟩ (.bool false) (w.heap.size + 2) (by simp only; omega)).trans hRW0_3
              clear hRW0_3
              have hRW0_5 : ((((((w5.setCell ⟨w.heap.size + 1, 0, none⟩ (.int .i64 cap)).setCell ⟨w.heap.size + 1, 1, none⟩ (.slice B1 buf.length e1)).setCell ⟨w.heap.size + 1, 2, none⟩ (.slice B2 sends.length e2)).setCell ⟨w.heap.size + 1, 3, none⟩ (.slice (restA B3 3 e3) rs.length (e3 - 1))).setCell ⟨w.heap.size + 1, 4, none⟩ (.bool false)).setCell ⟨w.heap.size + 2, 0, none⟩ (.int .i64 r.fG)).heap[w.heap.size + 2]? = some (.cells #[.int .i64 r.fG, .int .i64 0, .int .i64 0] 29 (0, 0)) := box_set (j := 0) (u := .int .i64 r.fG) hRW0_4
              clear hRW0_4
              have hRW0_6 : (((((((w5.setCell ⟨w.heap.size + 1, 0, none⟩ (.int .i64 cap)).setCell ⟨w.heap.size + 1, 1, none⟩ (.slice B1 buf.length e1)).setCell ⟨w.heap.size + 1, 2, none⟩ (.slice B2 sends.length e2)).setCell ⟨w.heap.size + 1, 3, none⟩ (.slice (restA B3 3 e3) rs.length (e3 - 1))).setCell ⟨w.heap.size + 1, 4, none⟩ (.bool false)).setCell ⟨w.heap.size + 2, 0, none⟩ (.int .i64 r.fG)).setCell ⟨w.heap.size + 2, 1, none⟩ (.int .i64 r.fCase)).heap[w.heap.size + 2]? = some (.cells #[.int .i64 r.fG, .int .i64 r.fCase, .int .i64 0] 29 (0, 0)) := box_set (j := 1) (u := .int .i64 r.fCase) hRW0_5
              clear hRW0_5
              have hRW0_7 : ((((((((w5.setCell ⟨w.heap.size + 1, 0, none⟩ (.int .i64 cap)).setCell ⟨w.heap.size + 1, 1, none⟩ (.slice B1 buf.length e1)).setCell ⟨w.heap.size + 1, 2, none⟩ (.slice B2 sends.length e2)).setCell ⟨w.heap.size + 1, 3, none⟩ (.slice (restA B3 3 e3) rs.length (e3 - 1))).setCell ⟨w.heap.size + 1, 4, none⟩ (.bool false)).setCell ⟨w.heap.size + 2, 0, none⟩ (.int .i64 r.fG)).setCell ⟨w.heap.size + 2, 1, none⟩ (.int .i64 r.fCase)).setCell ⟨w.heap.size + 2, 2, none⟩ (.int .i64 r.fVal)).heap[w.heap.size + 2]? = some (.cells #[.int .i64 r.fG, .int .i64 r.fCase, .int .i64 r.fVal] 29 (0, 0)) := box_set (j := 2) (u := .int .i64 r.fVal) hRW0_6
              clear hRW0_6
              have hRW0 := hRW0_7
              clear hRW0_7
              have hBF0 : Below w.heap.size w ((((((((w5.setCell ⟨w.heap.size + 1, 0, none⟩ (.int .i64 cap)).setCell ⟨w.heap.size + 1, 1, none⟩ (.slice B1 buf.length e1)).setCell ⟨w.heap.size + 1, 2, none⟩ (.slice B2 sends.length e2)).setCell ⟨w.heap.size + 1, 3, none⟩ (.slice (restA B3 3 e3) rs.length (e3 - 1))).setCell ⟨w.heap.size + 1, 4, none⟩ (.bool false)).setCell ⟨w.heap.size + 2, 0, none⟩ (.int .i64 r.fG)).setCell ⟨w.heap.size + 2, 1, none⟩ (.int .i64 r.fCase)).setCell ⟨w.heap.size + 2, 2, none⟩ (.int .i64 r.fVal)) := (below_set (below_set (below_set (below_set (below_set (below_set (below_set (below_set HB6.out (by simp only; omega) (.int .i64 cap)) (by simp only; omega) (.slice B1 buf.length e1)) (by simp only; omega) (.slice B2 sends.length e2)) (by simp only; omega) (.slice (restA B3 3 e3) rs.length (e3 - 1))) (by simp only; omega) (.bool false)) (by simp only; omega) (.int .i64 r.fG)) (by simp only; omega) (.int .i64 r.fCase)) (by simp only; omega) (.int .i64 r.fVal))
              have hO1_0 := OwnR.setCell (o := 0) (g := w.heap.size + 1) HS1.out (HN6.out _ (by omega)).1 (.int .i64 cap)
              have hO1_1 := OwnR.setCell (o := 1) (g := w.heap.size + 1) hO1_0 (HN6.out _ (by omega)).1 (.slice B1 buf.length e1)
              clear hO1_0
              have hO1_2 := OwnR.setCell (o := 2) (g := w.heap.size + 1) hO1_1 (HN6.out _ (by omega)).1 (.slice B2 sends.length e2)
              clear hO1_1
              have hO1_3 := OwnR.setCell (o := 3) (g := w.heap.size + 1) hO1_2 (HN6.out _ (by omega)).1 (.slice (restA B3 3 e3) rs.length (e3 - 1))
              clear hO1_2
              have hO1_4 := OwnR.setCell (o := 4) (g := w.heap.size + 1) hO1_3 (HN6.out _ (by omega)).1 (.bool false)
              clear hO1_3
              have hO1_5 := OwnR.setCell (o := 0) (g := w.heap.size + 2) hO1_4 (HN6.out _ (by omega)).1 (.int .i64 r.fG)
              clear hO1_4
              have hO1_6 := OwnR.setCell (o := 1) (g := w.heap.size + 2) hO1_5 (HN6.out _ (by omega)).1 (.int .i64 r.fCase)
              clear hO1_5
              have hO1_7 := OwnR.setCell (o := 2) (g := w.heap.size + 2) hO1_6 (HN6.out _ (by omega)).1 (.int .i64 r.fVal)
              clear hO1_6
              have hO1 := hO1_7
              clear hO1_7
              have hO2_0 := OwnR.setCell (o := 0) (g := w.heap.size + 1) HS2.out (HN6.out _ (by omega)).2.1 (.int .i64 cap)
              have hO2_1 := OwnR.setCell (o := 1) (g := w.heap.size + 1) hO2_0 (HN6.out _ (by omega)).2.1 (.slice B1 buf.length e1)
              clear hO2_0
              have hO2_2 := OwnR.setCell (o := 2) (g := w.heap.size + 1) hO2_1 (HN6.out _ (by omega)).2.1 (.slice B2 sends.length e2)
              clear hO2_1
              have hO2_3 := OwnR.setCell (o := 3) (g := w.heap.size + 1) hO2_2 (HN6.out _ (by omega)).2.1 (.slice (restA B3 3 e3) rs.length (e3 - 1))
              clear hO2_2
              have hO2_4 := OwnR.setCell (o := 4) (g := w.heap.size + 1) hO2_3 (HN6.out _ (by omega)).2.1 (.bool false)
              clear hO2_3
              have hO2_5 := OwnR.setCell (o := 0) (g := w.heap.size + 2) hO2_4 (HN6.out _ (by omega)).2.1 (.int .i64 r.fG)
              clear hO2_4
              have hO2_6 := OwnR.setCell (o := 1) (g := w.heap.size + 2) hO2_5 (HN6.out _ (by omega)).2.1 (.int .i64 r.fCase)
              clear hO2_5
              have hO2_7 := OwnR.setCell (o := 2) (g := w.heap.size + 2) hO2_6 (HN6.out _ (by omega)).2.1 (.int .i64 r.fVal)
              clear hO2_6
              have hO2 := hO2_7
              clear hO2_7
              have hO3_0 := TailR.setCell (o := 0) (g := w.heap.size + 1) HS3b.out (HN6.out _ (by omega)).2.2 (.int .i64 cap)
              have hO3_1 := TailR.setCell (o := 1) (g := w.heap.size + 1) hO3_0 (HN6.out _ (by omega)).2.2 (.slice B1 buf.length e1)
              clear hO3_0
              have hO3_2 := TailR.setCell (o := 2) (g := w.heap.size + 1) hO3_1 (HN6.out _ (by omega)).2.2 (.slice B2 sends.length e2)
              clear hO3_1
              have hO3_3 := TailR.setCell (o := 3) (g := w.heap.size + 1) hO3_2 (HN6.out _ (by omega)).2.2 (.slice (restA B3 3 e3) rs.length (e3 - 1))
              clear hO3_2
              have hO3_4 := TailR.setCell (o := 4) (g := w.heap.size + 1) hO3_3 (HN6.out _ (by omega)).2.2 (.bool false)
              clear hO3_3
              have hO3_5 := TailR.setCell (o := 0) (g := w.heap.size + 2) hO3_4 (HN6.out _ (by omega)).2.2 (.int .i64 r.fG)
              clear hO3_4
              have hO3_6 := TailR.setCell (o := 1) (g := w.heap.size + 2) hO3_5 (HN6.out _ (by omega)).2.2 (.int .i64 r.fCase)
              clear hO3_5
              have hO3_7 := TailR.setCell (o := 2) (g := w.heap.size + 2) hO3_6 (HN6.out _ (by omega)).2.2 (.int .i64 r.fVal)
              clear hO3_6
              have hO3 := hO3_7
              clear hO3_7
              have hzF0 : ((((((((w5.setCell ⟨w.heap.size + 1, 0, none⟩ (.int .i64 cap)).setCell ⟨w.heap.size + 1, 1, none⟩ (.slice B1 buf.length e1)).setCell ⟨w.heap.size + 1, 2, none⟩ (.slice B2 sends.length e2)).setCell ⟨w.heap.size + 1, 3, none⟩ (.slice (restA B3 3 e3) rs.length (e3 - 1))).setCell ⟨w.heap.size + 1, 4, none⟩ (.bool false)).setCell ⟨w.heap.size + 2, 0, none⟩ (.int .i64 r.fG)).setCell ⟨w.heap.size + 2, 1, none⟩ (.int .i64 r.fCase)).setCell ⟨w.heap.size + 2, 2, none⟩ (.int .i64 r.fVal)).heap.size = w5.heap.size := by simp [World.setCell]
              generalize ((((((((w5.setCell ⟨w.heap.size + 1, 0, none⟩ (.int .i64 cap)).setCell ⟨w.heap.size + 1, 1, none⟩ (.slice B1 buf.length e1)).setCell ⟨w.heap.size + 1, 2, none⟩ (.slice B2 sends.length e2)).setCell ⟨w.heap.size + 1, 3, none⟩ (.slice (restA B3 3 e3) rs.length (e3 - 1))).setCell ⟨w.heap.size + 1, 4, none⟩ (.bool false)).setCell ⟨w.heap.size + 2, 0, none⟩ (.int .i64 r.fG)).setCell ⟨w.heap.size + 2, 1, none⟩ (.int .i64 r.fCase)).setCell ⟨w.heap.size + 2, 2, none⟩ (.int .i64 r.fVal)) = WE at *
              have hRC : WE.drew.heap[w.heap.size + 1]? = some (.cells #[.int .i64 cap, .slice B1 buf.length e1, .slice B2 sends.length e2, .slice (restA B3 3 e3) rs.length (e3 - 1), .bool false] 26 (0, 0)) := hRC0
              have hRW : WE.drew.heap[w.heap.size + 2]? = some (.cells #[.int .i64 r.fG, .int .i64 r.fCase, .int .i64 r.fVal] 29 (0, 0)) := hRW0
              have hBF : Below w.heap.size w WE.drew := below_drawn hBF0 1
              have hzF : WE.drew.heap.size = w5.heap.size := hzF0
              have hP1 := hO1.stay (w' := WE.drew) (fun _ _ _ => rfl) (Nat.le_refl _)
              have hP2 := hO2.stay (w' := WE.drew) (fun _ _ _ => rfl) (Nat.le_refl _)
              have hP3 := hO3.stay (w' := WE.drew) (fun _ _ _ => rfl) (Nat.le_refl _)
              clear hRC0 hRW0 hBF0 hzF0 hO1 hO2 hO3
              generalize WE.drew = WF at *
              have y0 := box_cell (j := 0) hRC rfl
              have y1 := box_cell (j := 1) hRC rfl
              have y2 := box_cell (j := 2) hRC rfl
              have y3 := box_cell (j := 3) hRC rfl
              have y4 := box_cell (j := 4) hRC rfl
              have z0 := box_cell (j := 0) hRW rfl
              have z1 := box_cell (j := 1) hRW rfl
              have z2 := box_cell (j := 2) hRW rfl
              refine bodyPost_ret (v := .tuple #[.agg #[.int .i64 cap, .slice B1 buf.length e1, .slice B2 sends.length e2, .slice (restA B3 3 e3) rs.length (e3 - 1), .bool false], .agg #[.int .i64 r.fG, .int .i64 r.fCase, .int .i64 r.fVal], .int .i64 0]) (by simp [results, Try.results14, go_sem, y0, y1, y2, y3, y4, z0, z1, z2]) rfl ?_
              rw [HR.out]
              refine ⟨_, rfl, ownChan (x := (⟨cap, buf, sends, rs, false⟩ : DChan)) hw0 (TailR.of hP1) (TailR.of hP2) hP3 ?_ ?_ ?_ HE6.out.1 HE6.out.2.1 HE6.out.2.2, hBF⟩
              · exact fun g hg => by have := HG6.out g (.inl hg); omega
              · exact fun g hg => by have := HG6.out g (.inr (.inl hg)); omega
              · exact fun g hg => by have := HG6.out g (.inr (.inr hg)); omega
      · skip
        have HR := HRR
        have q0 := box_cell (j := 0) HX1.out rfl
        have q1 := box_cell (j := 1) HX1.out rfl
        have q2 := box_cell (j := 2) HX1.out rfl
        have q3 := box_cell (j := 3) HX1.out rfl
        have q4 := box_cell (j := 4) HX1.out rfl
        have g0 := box_free HRc1.out 0
        have g1 := box_free HRc1.out 1
        have g2 := box_free HRc1.out 2
        have g3 := box_free HRc1.out 3
        have g4 := box_free HRc1.out 4
        have a0 := box_cell (j := 0) HRc1.out rfl
        have a1 := box_cell (j := 1) HRc1.out rfl
        have a2 := box_cell (j := 2) HRc1.out rfl
        have a3 := box_cell (j := 3) HRc1.out rfl
        have a4 := box_cell (j := 4) HRc1.out rfl
        have h0 := box_free HRw1.out 0
        have h1 := box_free HRw1.out 1
        have h2 := box_free HRw1.out 2
        have b0 := box_cell (j := 0) HRw1.out rfl
        have b1 := box_cell (j := 1) HRw1.out rfl
        have b2 := box_cell (j := 2) HRw1.out rfl
        go_wp2_with fail
        have hRC_0 : (w1.setCell ⟨w.heap.size + 1, 0, none⟩ (.int .i64 0)).heap[w.heap.size + 1]? = some (.cells #[.int .i64 0, .slice none 0 0, .slice none 0 0, .slice none 0 0, .bool false] 26 (0, 0)) := box_set (j := 0) (u := .int .i64 0) HRc1.out
        have hRC_1 : ((w1.setCell ⟨w.heap.size + 1, 0, none⟩ (.int .i64 0)).setCell ⟨w.heap.size + 1, 1, none⟩ (.slice none 0 0)).heap[w.heap.size + 1]? = some (.cells #[.int .i64 0, .slice none 0 0, .slice none 0 0, .slice none 0 0, .bool false] 26 (0, 0)) := box_set (j := 1) (u := .slice none 0 0) hRC_0
        clear hRC_0
        have hRC_2 : (((w1.setCell ⟨w.heap.size + 1, 0, none⟩ (.int .i64 0)).setCell ⟨w.heap.size + 1, 1, none⟩ (.slice none 0 0)).setCell ⟨w.heap.size + 1, 2, none⟩ (.slice none 0 0)).heap[w.heap.size + 1]? = some (.cells #[.int .i64 0, .slice none 0 0, .slice none 0 0, .slice none 0 0, .bool false] 26 (0, 0)) := box_set (j := 2) (u := .slice none 0 0) hRC_1
        clear hRC_1
        have hRC_3 : ((((w1.setCell ⟨w.heap.size + 1, 0, none⟩ (.int .i64 0)).setCell ⟨w.heap.size + 1, 1, none⟩ (.slice none 0 0)).setCell ⟨w.heap.size + 1, 2, none⟩ (.slice none 0 0)).setCell ⟨w.heap.size + 1, 3, none⟩ (.slice none 0 0)).heap[w.heap.size + 1]? = some (.cells #[.int .i64 0, .slice none 0 0, .slice none 0 0, .slice none 0 0, .bool false] 26 (0, 0)) := box_set (j := 3) (u := .slice none 0 0) hRC_2
        clear hRC_2
        have hRC_4 : (((((w1.setCell ⟨w.heap.size + 1, 0, none⟩ (.int .i64 0)).setCell ⟨w.heap.size + 1, 1, none⟩ (.slice none 0 0)).setCell ⟨w.heap.size + 1, 2, none⟩ (.slice none 0 0)).setCell ⟨w.heap.size + 1, 3, none⟩ (.slice none 0 0)).setCell ⟨w.heap.size + 1, 4, none⟩ (.bool false)).heap[w.heap.size + 1]? = some (.cells #[.int .i64 0, .slice none 0 0, .slice none 0 0, .slice none 0 0, .bool false] 26 (0, 0)) := box_set (j := 4) (u := .bool false) hRC_3
        clear hRC_3
        have hRC_5 : ((((((w1.setCell ⟨w.heap.size + 1, 0, none⟩ (.int .i64 0)).setCell ⟨w.heap.size + 1, 1, none⟩ (.slice none 0 0)).setCell ⟨w.heap.size + 1, 2, none⟩ (.slice none 0 0)).setCell ⟨w.heap.size + 1, 3, none⟩ (.slice none 0 0)).setCell ⟨w.heap.size + 1, 4, none⟩ (.bool false)).setCell ⟨w.heap.size + 2, 0, none⟩ (.int .i64 0)).heap[w.heap.size + 1]? = some (.cells #[.int .i64 0, .slice none 0 0, .slice none 0 0, .slice none 0 0, .bool false] 26 (0, 0)) := (Below.heap_setCell (((((w1.setCell ⟨w.heap.size + 1, 0, none⟩ (.int .i64 0)).setCell ⟨w.heap.size + 1, 1, none⟩ (.slice none 0 0)).setCell ⟨w.heap.size + 1, 2, none⟩ (.slice none 0 0)).setCell ⟨w.heap.size + 1, 3, none⟩ (.slice none 0 0)).setCell ⟨w.heap.size + 1, 4, none⟩ (.bool false)) ⟨w.heap.size + 2, 0, none⟩ (.int .i64 0) (w.heap.size + 1) (by simp only; omega)).trans hRC_4
        clear hRC_4
        have hRC_6 : (((((((w1.setCell ⟨w.heap.size + 1, 0, none⟩ (.int .i64 0)).setCell ⟨w.heap.size + 1, 1, none⟩ (.slice none 0 0)).setCell ⟨w.heap.size + 1, 2, none⟩ (.slice none 0 0)).setCell ⟨w.heap.size + 1, 3, none⟩ (.slice none 0 0)).setCell ⟨w.heap.size + 1, 4, none⟩ (.bool false)).setCell ⟨w.heap.size + 2, 0, none⟩ (.int .i64 0)).setCell ⟨w.heap.size + 2, 1, none⟩ (.int .i64 0)).heap[w.heap.size + 1]? = some (.cells #[.int .i64 0, .slice none 0 0, .slice none 0 0, .slice none 0 0, .bool false] 26 (0, 0)) := (Below.heap_setCell ((((((w1.setCell ⟨w.heap.size + 1, 0, none⟩ (.int .i64 0)).setCell ⟨w.heap.size + 1, 1, none⟩ (.slice none 0 0)).setCell ⟨w.heap.size + 1, 2, none⟩ (.slice none 0 0)).setCell ⟨w.heap.size + 1, 3, none⟩ (.slice none 0 0)).setCell ⟨w.heap.size + 1, 4, none⟩ (.bool false)).setCell ⟨w.heap.size + 2, 0, none⟩ (.int .i64 0)) ⟨w.heap.size + 2, 1, none⟩ (.int .i64 0) (w.heap.size + 1) (by simp only; omega)).trans hRC_5
        clear hRC_5
        have hRC_7 : ((((((((w1.setCell ⟨w.heap.size + 1, 0, none⟩ (.int .i64 0)).setCell ⟨w.heap.size + 1, 1, none⟩ (.slice none 0 0)).setCell ⟨w.heap.size + 1, 2, none⟩ (.slice none 0 0)).setCell ⟨w.heap.size + 1, 3, none⟩ (.slice none 0 0)).setCell ⟨w.heap.size + 1, 4, none⟩ (.bool false)).setCell ⟨w.heap.size + 2, 0, none⟩ (.int .i64 0)).setCell ⟨w.heap.size + 2, 1, none⟩ (.int .i64 0)).setCell ⟨w.heap.size + 2, 2, none⟩ (.int .i64 0)).heap[w.heap.size + 1]? = some (.cells #[.int .i64 0, .slice none 0 0, .slice none 0 0, .slice none 0 0, .bool false] 26 (0, 0)) := (Below.heap_setCell (((((((w1.setCell ⟨w.heap.size + 1, 0, none⟩ (.int .i64 0)).setCell ⟨w.heap.size + 1, 1, none⟩ (.slice none 0 0)).setCell ⟨w.heap.size + 1, 2, none⟩ (.slice none 0 0)).setCell ⟨w.heap.size + 1, 3, none⟩ (.slice none 0 0)).setCell ⟨w.heap.size + 1, 4, none⟩ (.bool false)).setCell ⟨w.heap.size + 2, 0, none⟩ (.int .i64 0)).setCell ⟨w.heap.size + 2, 1, none⟩ (.int .i64 0)) ⟨w.heap.size + 2, 2, none⟩ (.int .i64 0) (w.heap.size + 1) (by simp only; omega)).trans hRC_6
        clear hRC_6
        have hRC := hRC_7
        clear hRC_7
        have hRW_0 : (w1.setCell ⟨w.heap.size + 1, 0, none⟩ (.int .i64 0)).heap[w.heap.size + 2]? = some (.cells #[.int .i64 0, .int .i64 0, .int .i64 0] 29 (0, 0)) := (Below.heap_setCell w1 ⟨w.heap.size + 1, 0, none⟩ (.int .i64 0) (w.heap.size + 2) (by simp only; omega)).trans HRw1.out
        have hRW_1 : ((w1.setCell ⟨w.heap.size + 1, 0, none⟩ (.int .i64 0)).setCell ⟨w.heap.size + 1, 1, none⟩ (.slice none 0 0)).heap[w.heap.size + 2]? = some (.cells #[.int .i64 0, .int .i64 0, .int .i64 0] 29 (0, 0)) := (Below.heap_setCell (w1.setCell ⟨w.heap.size + 1, 0, none⟩ (.int .i64 0)) ⟨w.heap.size + 1, 1, none⟩ (.slice none 0 0) (w.heap.size + 2) (by simp only; omega)).trans hRW_0
        clear hRW_0
        have hRW_2 : (((w1.setCell ⟨w.heap.size + 1, 0, none⟩ (.int .i64 0)).setCell ⟨w.heap.size + 1, 1, none⟩ (.slice none 0 0)).setCell ⟨w.heap.size + 1, 2, none⟩ (.slice none 0 0)).heap[w.heap.size + 2]? = some (.cells #[.int .i64 0, .int .i64 0, .int .i64 0] 29 (0, 0)) := (Below.heap_setCell ((w1.setCell ⟨w.heap.size + 1, 0, none⟩ (.int .i64 0)).setCell ⟨w.heap.size + 1, 1, none⟩ (.slice none 0 0)) ⟨w.heap.size + 1, 2, none⟩ (.slice none 0 0) (w.heap.size + 2) (by simp only; omega)).trans hRW_1
        clear hRW_1
        have hRW_3 : ((((w1.setCell ⟨w.heap.size + 1, 0, none⟩ (.int .i64 0)).setCell ⟨w.heap.size + 1, 1, none⟩ (.slice none 0 0)).setCell ⟨w.heap.size + 1, 2, none⟩ (.slice none 0 0)).setCell ⟨w.heap.size + 1, 3, none⟩ (.slice none 0 0)).heap[w.heap.size + 2]? = some (.cells #[.int .i64 0, .int .i64 0, .int .i64 0] 29 (0, 0)) := (Below.heap_setCell (((w1.setCell ⟨w.heap.size + 1, 0, none⟩ (.int .i64 0)).setCell ⟨w.heap.size + 1, 1, none⟩ (.slice none 0 0)).setCell ⟨w.heap.size + 1, 2, none⟩ (.slice none 0 0)) ⟨w.heap.size + 1, 3, none⟩ (.slice none 0 0) (w.heap.size + 2) (by simp only; omega)).trans hRW_2
        clear hRW_2
        have hRW_4 : (((((w1.setCell ⟨w.heap.size + 1, 0, none⟩ (.int .i64 0)).setCell ⟨w.heap.size + 1, 1, none⟩ (.slice none 0 0)).setCell ⟨w.heap.size + 1, 2, none⟩ (.slice none 0 0)).setCell ⟨w.heap.size + 1, 3, none⟩ (.slice none 0 0)).setCell ⟨w.heap.size + 1, 4, none⟩ (.bool false)).heap[w.heap.size + 2]? = some (.cells #[.int .i64 0, .int .i64 0, .int .i64 0] 29 (0, 0)) := (Below.heap_setCell ((((w1.setCell ⟨w.heap.size + 1, 0, none⟩ (.int .i64 0)).setCell ⟨w.heap.size + 1, 1, none⟩ (.slice none 0 0)).setCell ⟨w.heap.size + 1, 2, none⟩ (.slice none 0 0)).setCell ⟨w.heap.size + 1, 3, none⟩ (.slice none 0 0)) ⟨w.heap.size + 1, 4, none⟩ (.bool false) (w.heap.size + 2) (by simp only; omega)).trans hRW_3
        clear hRW_3
        have hRW_5 : ((((((w1.setCell ⟨w.heap.size + 1, 0, none⟩ (.int .i64 0)).setCell ⟨w.heap.size + 1, 1, none⟩ (.slice none 0 0)).setCell ⟨w.heap.size + 1, 2, none⟩ (.slice none 0 0)).setCell ⟨w.heap.size + 1, 3, none⟩ (.slice none 0 0)).setCell ⟨w.heap.size + 1, 4, none⟩ (.bool false)).setCell ⟨w.heap.size + 2, 0, none⟩ (.int .i64 0)).heap[w.heap.size + 2]? = some (.cells #[.int .i64 0, .int .i64 0, .int .i64 0] 29 (0, 0)) := box_set (j := 0) (u := .int .i64 0) hRW_4
        clear hRW_4
        have hRW_6 : (((((((w1.setCell ⟨w.heap.size + 1, 0, none⟩ (.int .i64 0)).setCell ⟨w.heap.size + 1, 1, none⟩ (.slice none 0 0)).setCell ⟨w.heap.size + 1, 2, none⟩ (.slice none 0 0)).setCell ⟨w.heap.size + 1, 3, none⟩ (.slice none 0 0)).setCell ⟨w.heap.size + 1, 4, none⟩ (.bool false)).setCell ⟨w.heap.size + 2, 0, none⟩ (.int .i64 0)).setCell ⟨w.heap.size + 2, 1, none⟩ (.int .i64 0)).heap[w.heap.size + 2]? = some (.cells #[.int .i64 0, .int .i64 0, .int .i64 0] 29 (0, 0)) := box_set (j := 1) (u := .int .i64 0) hRW_5
        clear hRW_5
        have hRW_7 : ((((((((w1.setCell ⟨w.heap.size + 1, 0, none⟩ (.int .i64 0)).setCell ⟨w.heap.size + 1, 1, none⟩ (.slice none 0 0)).setCell ⟨w.heap.size + 1, 2, none⟩ (.slice none 0 0)).setCell ⟨w.heap.size + 1, 3, none⟩ (.slice none 0 0)).setCell ⟨w.heap.size + 1, 4, none⟩ (.bool false)).setCell ⟨w.heap.size + 2, 0, none⟩ (.int .i64 0)).setCell ⟨w.heap.size + 2, 1, none⟩ (.int .i64 0)).setCell ⟨w.heap.size + 2, 2, none⟩ (.int .i64 0)).heap[w.heap.size + 2]? = some (.cells #[.int .i64 0, .int .i64 0, .int .i64 0] 29 (0, 0)) := box_set (j := 2) (u := .int .i64 0) hRW_6
        clear hRW_6
        have hRW := hRW_7
        clear hRW_7
        have hBF : Below w.heap.size w ((((((((w1.setCell ⟨w.heap.size + 1, 0, none⟩ (.int .i64 0)).setCell ⟨w.heap.size + 1, 1, none⟩ (.slice none 0 0)).setCell ⟨w.heap.size + 1, 2, none⟩ (.slice none 0 0)).setCell ⟨w.heap.size + 1, 3, none⟩ (.slice none 0 0)).setCell ⟨w.heap.size + 1, 4, none⟩ (.bool false)).setCell ⟨w.heap.size + 2, 0, none⟩ (.int .i64 0)).setCell ⟨w.heap.size + 2, 1, none⟩ (.int .i64 0)).setCell ⟨w.heap.size + 2, 2, none⟩ (.int .i64 0)) := (below_set (below_set (below_set (below_set (below_set (below_set (below_set (below_set HB1.out (by simp only; omega) (.int .i64 0)) (by simp only; omega) (.slice none 0 0)) (by simp only; omega) (.slice none 0 0)) (by simp only; omega) (.slice none 0 0)) (by simp only; omega) (.bool false)) (by simp only; omega) (.int .i64 0)) (by simp only; omega) (.int .i64 0)) (by simp only; omega) (.int .i64 0))
        generalize ((((((((w1.setCell ⟨w.heap.size + 1, 0, none⟩ (.int .i64 0)).setCell ⟨w.heap.size + 1, 1, none⟩ (.slice none 0 0)).setCell ⟨w.heap.size + 1, 2, none⟩ (.slice none 0 0)).setCell ⟨w.heap.size + 1, 3, none⟩ (.slice none 0 0)).setCell ⟨w.heap.size + 1, 4, none⟩ (.bool false)).setCell ⟨w.heap.size + 2, 0, none⟩ (.int .i64 0)).setCell ⟨w.heap.size + 2, 1, none⟩ (.int .i64 0)).setCell ⟨w.heap.size + 2, 2, none⟩ (.int .i64 0)) = WF at *
        have y0 := box_cell (j := 0) hRC rfl
        have y1 := box_cell (j := 1) hRC rfl
        have y2 := box_cell (j := 2) hRC rfl
        have y3 := box_cell (j := 3) hRC rfl
        have y4 := box_cell (j := 4) hRC rfl
        have z0 := box_cell (j := 0) hRW rfl
        have z1 := box_cell (j := 1) hRW rfl
        have z2 := box_cell (j := 2) hRW rfl
        refine bodyPost_ret (v := .tuple #[.agg #[.int .i64 0, .slice none 0 0, .slice none 0 0, .slice none 0 0, .bool false], .agg #[.int .i64 0, .int .i64 0, .int .i64 0], .int .i64 2]) (by simp [results, Try.results14, go_sem, y0, y1, y2, y3, y4, z0, z1, z2]) rfl ?_
        rw [HRR.out]
        exact ⟨_, rfl, own_zeroC _ _, hBF⟩
end Go.Proofs.Ytgdmcdblhpdlmaa
