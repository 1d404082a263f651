
/- CloseIt: the model's and the program's. -/

import Derived.Test.YtgdmcdblhpdlmaaChanOkS

import Derived.Test.YtgdmcdblhpdlmaaChanOkI

import Derived.Test.YtgdmcdblhpdlmaaChanCopyS

import Derived.Test.YtgdmcdblhpdlmaaChanX

namespace Go.Proofs.Ytgdmcdblhpdlmaa
set_option linter.unusedSimpArgs false
set_option linter.unusedVariables false
open Go.RowKit

/-- What CloseIt answers. -/
def closeR (c : DChan) : DChan × List DWaiter × List DWaiter × Int := if !chanOkB c then (zeroC, [], [], 1) else if c.fClosed then (zeroC, [], [], 2) else (⟨c.fCap, c.fBuf, [], [], true⟩, c.fRecvs, c.fSends, 0)
def MadeE (w : World) (r : DChan × List DWaiter × List DWaiter × Int) (e : Ending) (w' : World) : Prop :=
  ∃ vs A1 n1 c1 A2 n2 c2 F0 F1 F2, e = .returned (.tuple #[.agg vs.toArray, .slice A1 n1 c1, .slice A2 n2 c2, .int .i64 r.2.2.2]) ∧ layChan.own w' F0 r.1 vs ∧ OwnR layWaiter 29 w' F1 A1 n1 c1 r.2.1 ∧ OwnR layWaiter 29 w' F2 A2 n2 c2 r.2.2.1 ∧
    (∀ g, F0 g ∨ F1 g ∨ F2 g → w.heap.size ≤ g ∧ g < w'.heap.size) ∧ (∀ g, F0 g → ¬ F1 g) ∧ (∀ g, F0 g → ¬ F2 g) ∧ (∀ g, F1 g → ¬ F2 g) ∧ Below w.heap.size w w'

set_option maxRecDepth 100000 in
set_option maxHeartbeats 4000000 in
theorem implCloseIt_any {w : World} {hi : Nat} {x : DChan} {vs : List Value} (h : layChan.see w hi x vs) (hhi : hi ≤ w.heap.size) (hn : szChan x ≤ 1048576) :
    Calls Try.prog 19 #[.agg vs.toArray] w (MadeE w (closeR x)) := by
  have hw0 := wf_cap h
  obtain ⟨A1, n1, c1, A2, n2, c2, A3, n3, c3, rfl, -, ⟨-, -, s1⟩, ⟨-, -, s2⟩, ⟨-, -, s3⟩⟩ := seeChan h
  have HSE := Lib.hid (fun (W : World) (hW : Below w.heap.size w W) => layChan.keep h (w' := W) fun k hk => hW.block k (by omega))
  have HOK := Lib.hid (fun (W : World) (hW : Below w.heap.size w W) => implChanOk_any (HSE.out W hW) (by have := hW.size; omega))
  have HCP := Lib.hid (fun (W : World) (hW : Below w.heap.size w W) => copyChan_any (HSE.out W hW) (by have := hW.size; omega) hn)
  have HRR := Lib.hid (show closeR x = if !chanOkB x then (zeroC, [], [], (1 : Int)) else if x.fClosed then (zeroC, [], [], 2) else (⟨x.fCap, x.fBuf, [], [], true⟩, x.fRecvs, x.fSends, 0) from rfl)
  clear s1 s2 s3 h HSE
  obtain ⟨cap, buf, sends, recvs, cl⟩ := x
  simp only at hw0 HRR
  generalize chanOkB ⟨cap, buf, sends, recvs, cl⟩ = ok at *
  show Calls Try.prog 19 #[.agg #[.int .i64 cap, .slice A1 n1 c1, .slice A2 n2 c2, .slice A3 n3 c3, .bool cl]] w _
  have HX0 := Lib.hid (show ((w.alloc (.cells #[.int .i64 cap, .slice A1 n1 c1, .slice A2 n2 c2, .slice A3 n3 c3, .bool cl] 26)).alloc (.cells #[.int .i64 0, .slice none 0 0, .slice none 0 0, .slice none 0 0, .bool false] 26)).heap[w.heap.size]? = some (.cells #[.int .i64 cap, .slice A1 n1 c1, .slice A2 n2 c2, .slice A3 n3 c3, .bool cl] 26 (0, 0)) from by have := box_new w #[.int .i64 cap, .slice A1 n1 c1, .slice A2 n2 c2, .slice A3 n3 c3, .bool cl] 26; exact box_keep this ((Below.refl _ _).alloc (Nat.le_refl _) _) (by simp))
  have HRc0 := Lib.hid (show ((w.alloc (.cells #[.int .i64 cap, .slice A1 n1 c1, .slice A2 n2 c2, .slice A3 n3 c3, .bool cl] 26)).alloc (.cells #[.int .i64 0, .slice none 0 0, .slice none 0 0, .slice none 0 0, .bool false] 26)).heap[w.heap.size + 1]? = some (.cells #[.int .i64 0, .slice none 0 0, .slice none 0 0, .slice none 0 0, .bool false] 26 (0, 0)) from by have := box_new (w.alloc (.cells #[.int .i64 cap, .slice A1 n1 c1, .slice A2 n2 c2, .slice A3 n3 c3, .bool cl] 26)) #[.int .i64 0, .slice none 0 0, .slice none 0 0, .slice none 0 0, .bool false] 26; rw [World.size_alloc] at this; exact this)
  have HB0 := Lib.hid (show Below w.heap.size w ((w.alloc (.cells #[.int .i64 cap, .slice A1 n1 c1, .slice A2 n2 c2, .slice A3 n3 c3, .bool cl] 26)).alloc (.cells #[.int .i64 0, .slice none 0 0, .slice none 0 0, .slice none 0 0, .bool false] 26)) by go_grown)
  have zz0 : w.heap.size + 2 ≤ ((w.alloc (.cells #[.int .i64 cap, .slice A1 n1 c1, .slice A2 n2 c2, .slice A3 n3 c3, .bool cl] 26)).alloc (.cells #[.int .i64 0, .slice none 0 0, .slice none 0 0, .slice none 0 0, .bool false] 26)).heap.size := by simp
  go_enter Try.func19, Try.ntmps19
  go_upto_region 1 with (fail)
  generalize ((w.alloc (.cells #[.int .i64 cap, .slice A1 n1 c1, .slice A2 n2 c2, .slice A3 n3 c3, .bool cl] 26)).alloc (.cells #[.int .i64 0, .slice none 0 0, .slice none 0 0, .slice none 0 0, .bool false] 26)) = w0 at *
  have q0 := box_cell (j := 0) HX0.out rfl
  have q1 := box_cell (j := 1) HX0.out rfl
  have q2 := box_cell (j := 2) HX0.out rfl
  have q3 := box_cell (j := 3) HX0.out rfl
  have q4 := box_cell (j := 4) HX0.out rfl
  go_wp2_with fail
  refine (HOK.out _ HB0.out).mono ?_
  rintro e w1 ⟨rfl, hb1⟩
  have hz1 := hb1.size
  have HX1 := Lib.hid (box_keep HX0.out hb1 (by omega))
  have HRc1 := Lib.hid (box_keep HRc0.out hb1 (by omega))
  have HB1 := Lib.hid (HB0.out.trans (hb1.mono (by omega)))
  clear q0 q1 q2 q3 q4 hb1
  cases ok
  · skip
    have g0 := box_free HRc1.out 0
    have g1 := box_free HRc1.out 1
    have g2 := box_free HRc1.out 2
    have g3 := box_free HRc1.out 3
    have g4 := box_free HRc1.out 4
    have a0 := box_cell (j := 0) HRc1.out rfl
    have a1 := box_cell (j := 1) HRc1.out rfl
    have a2 := box_cell (j := 2) HRc1.out rfl
    have a3 := box_cell (j := 3) HRc1.out rfl
    have a4 := box_cell (j := 4) HRc1.out rfl
    go_wp2_with fail
    have hRC_0 : (w1.setCell ⟨w.heap.size + 1, 0, none⟩ (.int .i64 0)).heap[w.heap.size + 1]? = some (.cells #[.int .i64 0, .slice none 0 0, .slice none 0 0, .slice none 0 0, .bool false] 26 (0, 0)) := box_set (j := 0) (u := .int .i64 0) HRc1.out
    have hRC_1 : ((w1.setCell ⟨w.heap.size + 1, 0, none⟩ (.int .i64 0)).setCell ⟨w.heap.size + 1, 1, none⟩ (.slice none 0 0)).heap[w.heap.size + 1]? = some (.cells #[.int .i64 0, .slice none 0 0, .slice none 0 0, .slice none 0 0, .bool false] 26 (0, 0)) := box_set (j := 1) (u := .slice none 0 0) hRC_0
    clear hRC_0
    have hRC_2 : (((w1.setCell ⟨w.heap.size + 1, 0, none⟩ (.int .i64 0)).setCell ⟨w.heap.size + 1, 1, none⟩ (.slice none 0 0)).setCell ⟨w.heap.size + 1, 2, none⟩ (.slice none 0 0)).heap[w.heap.size + 1]? = some (.cells #[.int .i64 0, .slice none 0 0, .slice none 0 0, .slice none 0 0, .bool false] 26 (0, 0)) := box_set (j := 2) (u := .slice none 0 0) hRC_1
    clear hRC_1
    have hRC_3 : ((((w1.setCell ⟨w.heap.size + 1, 0, none⟩ (.int .i64 0)).setCell ⟨w.heap.size + 1, 1, none⟩ (.slice none 0 0)).setCell ⟨w.heap.size + 1, 2, none⟩ (.slice none 0 0)).setCell ⟨w.heap.size + 1, 3, none⟩ (.slice none 0 0)).heap[w.heap.size + 1]? = some (.cells #[.int .i64 0, .slice none 0 0, .slice none 0 0, .slice none 0 0, .bool false] 26 (0, 0)) := box_set (j := 3) (u := .slice none 0 0) hRC_2
    clear hRC_2
    have hRC_4 : (((((w1.setCell ⟨w.heap.size + 1, 0, none⟩ (.int .i64 0)).setCell ⟨w.heap.size + 1, 1, none⟩ (.slice none 0 0)).setCell ⟨w.heap.size + 1, 2, none⟩ (.slice none 0 0)).setCell ⟨w.heap.size + 1, 3, none⟩ (.slice none 0 0)).setCell ⟨w.heap.size + 1, 4, none⟩ (.bool false)).heap[w.heap.size + 1]? = some (.cells #[.int .i64 0, .slice none 0 0, .slice none 0 0, .slice none 0 0, .bool false] 26 (0, 0)) := box_set (j := 4) (u := .bool false) hRC_3
    clear hRC_3
    have hRC := hRC_4
    clear hRC_4
    have hBF : Below w.heap.size w (((((w1.setCell ⟨w.heap.size + 1, 0, none⟩ (.int .i64 0)).setCell ⟨w.heap.size + 1, 1, none⟩ (.slice none 0 0)).setCell ⟨w.heap.size + 1, 2, none⟩ (.slice none 0 0)).setCell ⟨w.heap.size + 1, 3, none⟩ (.slice none 0 0)).setCell ⟨w.heap.size + 1, 4, none⟩ (.bool false)) := (below_set (below_set (below_set (below_set (below_set HB1.out (by simp only; omega) (.int .i64 0)) (by simp only; omega) (.slice none 0 0)) (by simp only; omega) (.slice none 0 0)) (by simp only; omega) (.slice none 0 0)) (by simp only; omega) (.bool false))
    generalize (((((w1.setCell ⟨w.heap.size + 1, 0, none⟩ (.int .i64 0)).setCell ⟨w.heap.size + 1, 1, none⟩ (.slice none 0 0)).setCell ⟨w.heap.size + 1, 2, none⟩ (.slice none 0 0)).setCell ⟨w.heap.size + 1, 3, none⟩ (.slice none 0 0)).setCell ⟨w.heap.size + 1, 4, none⟩ (.bool false)) = WF at *
    have y0 := box_cell (j := 0) hRC rfl
    have y1 := box_cell (j := 1) hRC rfl
    have y2 := box_cell (j := 2) hRC rfl
    have y3 := box_cell (j := 3) hRC rfl
    have y4 := box_cell (j := 4) hRC rfl
    refine bodyPost_ret (v := .tuple #[.agg #[.int .i64 0, .slice none 0 0, .slice none 0 0, .slice none 0 0, .bool false], .slice none 0 0, .slice none 0 0, .int .i64 1]) (by simp [results, Try.results19, go_sem, y0, y1, y2, y3, y4]) rfl ?_
    rw [HRR.out]
    exact ⟨_, _, _, _, _, _, _, fun _ => False, fun _ => False, fun _ => False, rfl, own_zeroC _ _, ownR_nil _ _ _, ownR_nil _ _ _, fun _ h => by rcases h with h | h | h <;> exact h.elim, fun _ h => h.elim, fun _ h => h.elim, fun _ h => h.elim, hBF⟩
  · cases cl
    · skip
      have q0 := box_cell (j := 0) HX1.out rfl
      have q1 := box_cell (j := 1) HX1.out rfl
      have q2 := box_cell (j := 2) HX1.out rfl
      have q3 := box_cell (j := 3) HX1.out rfl
      have q4 := box_cell (j := 4) HX1.out rfl
      have f0 := box_free HX1.out 0
      have f1 := box_free HX1.out 1
      have f2 := box_free HX1.out 2
      have f3 := box_free HX1.out 3
      have f4 := box_free HX1.out 4
      go_wp2_with fail
      refine (HCP.out _ HB1.out).mono ?_
      rintro e w2 ⟨hb2, B1, e1, B2, e2, B3, e3, F1, F2, F3, rfl, o1, o2, o3, hF, d12, d13, d23⟩
      simp only at o1 o2 o3
      have hz2 := hb2.size
      have HX2 := Lib.hid (box_keep HX1.out hb2 (by omega))
      have HRc2 := Lib.hid (box_keep HRc1.out hb2 (by omega))
      have HB2 := Lib.hid (HB1.out.trans (hb2.mono (by omega)))
      have HF := Lib.hid hF
      have HLOW := Lib.hid (show ∀ g, g < w1.heap.size ∨ w2.heap.size ≤ g → ¬ F1 g ∧ ¬ F2 g ∧ ¬ F3 g from fun g hg => ⟨fun h => by have := hF g (.inl h); omega, fun h => by have := hF g (.inr (.inl h)); omega, fun h => by have := hF g (.inr (.inr h)); omega⟩)
      have HO1 := Lib.hid o1
      have HO2 := Lib.hid o2
      have HO3 := Lib.hid o3
      have HE6 := Lib.hid (And.intro d12 (And.intro d13 d23))
      clear hb2 o1 o2 o3 hF d12 d13 d23 q0 q1 q2 q3 q4 f0 f1 f2 f3 f4
      have q0 := box_cell (j := 0) HX2.out rfl
      have q1 := box_cell (j := 1) HX2.out rfl
      have q2 := box_cell (j := 2) HX2.out rfl
      have q3 := box_cell (j := 3) HX2.out rfl
      have q4 := box_cell (j := 4) HX2.out rfl
      have f0 := box_free HX2.out 0
      have f1 := box_free HX2.out 1
      have f2 := box_free HX2.out 2
      have f3 := box_free HX2.out 3
      have f4 := box_free HX2.out 4
      go_upto_region 6 with (fail)
      have HO3b := Lib.hid (show (((((w2.setCell ⟨w.heap.size, 0, none⟩ (.int .i64 cap)).setCell ⟨w.heap.size, 1, none⟩ (.slice B1 buf.length e1)).setCell ⟨w.heap.size, 2, none⟩ (.slice B2 sends.length e2)).setCell ⟨w.heap.size, 3, none⟩ (.slice B3 recvs.length e3)).setCell ⟨w.heap.size, 4, none⟩ (.bool false)).heap[w.heap.size]? = some (.cells #[.int .i64 cap, .slice B1 buf.length e1, .slice B2 sends.length e2, .slice B3 recvs.length e3, .bool false] 26 (0, 0)) from (box_set (j := 4) (u := .bool false) (box_set (j := 3) (u := .slice B3 recvs.length e3) (box_set (j := 2) (u := .slice B2 sends.length e2) (box_set (j := 1) (u := .slice B1 buf.length e1) (box_set (j := 0) (u := .int .i64 cap) HX2.out))))))
      have HRc3 := Lib.hid (show (((((w2.setCell ⟨w.heap.size, 0, none⟩ (.int .i64 cap)).setCell ⟨w.heap.size, 1, none⟩ (.slice B1 buf.length e1)).setCell ⟨w.heap.size, 2, none⟩ (.slice B2 sends.length e2)).setCell ⟨w.heap.size, 3, none⟩ (.slice B3 recvs.length e3)).setCell ⟨w.heap.size, 4, none⟩ (.bool false)).heap[w.heap.size + 1]? = some (.cells #[.int .i64 0, .slice none 0 0, .slice none 0 0, .slice none 0 0, .bool false] 26 (0, 0)) from ((Below.heap_setCell ((((w2.setCell ⟨w.heap.size, 0, none⟩ (.int .i64 cap)).setCell ⟨w.heap.size, 1, none⟩ (.slice B1 buf.length e1)).setCell ⟨w.heap.size, 2, none⟩ (.slice B2 sends.length e2)).setCell ⟨w.heap.size, 3, none⟩ (.slice B3 recvs.length e3)) ⟨w.heap.size, 4, none⟩ (.bool false) (w.heap.size + 1) (by simp only; omega)).trans ((Below.heap_setCell (((w2.setCell ⟨w.heap.size, 0, none⟩ (.int .i64 cap)).setCell ⟨w.heap.size, 1, none⟩ (.slice B1 buf.length e1)).setCell ⟨w.heap.size, 2, none⟩ (.slice B2 sends.length e2)) ⟨w.heap.size, 3, none⟩ (.slice B3 recvs.length e3) (w.heap.size + 1) (by simp only; omega)).trans ((Below.heap_setCell ((w2.setCell ⟨w.heap.size, 0, none⟩ (.int .i64 cap)).setCell ⟨w.heap.size, 1, none⟩ (.slice B1 buf.length e1)) ⟨w.heap.size, 2, none⟩ (.slice B2 sends.length e2) (w.heap.size + 1) (by simp only; omega)).trans ((Below.heap_setCell (w2.setCell ⟨w.heap.size, 0, none⟩ (.int .i64 cap)) ⟨w.heap.size, 1, none⟩ (.slice B1 buf.length e1) (w.heap.size + 1) (by simp only; omega)).trans ((Below.heap_setCell w2 ⟨w.heap.size, 0, none⟩ (.int .i64 cap) (w.heap.size + 1) (by simp only; omega)).trans HRc2.out))))))
      have HB3 := Lib.hid (show Below w.heap.size w (((((w2.setCell ⟨w.heap.size, 0, none⟩ (.int .i64 cap)).setCell ⟨w.heap.size, 1, none⟩ (.slice B1 buf.length e1)).setCell ⟨w.heap.size, 2, none⟩ (.slice B2 sends.length e2)).setCell ⟨w.heap.size, 3, none⟩ (.slice B3 recvs.length e3)).setCell ⟨w.heap.size, 4, none⟩ (.bool false)) from (below_set (below_set (below_set (below_set (below_set HB2.out (by simp only; omega) (.int .i64 cap)) (by simp only; omega) (.slice B1 buf.length e1)) (by simp only; omega) (.slice B2 sends.length e2)) (by simp only; omega) (.slice B3 recvs.length e3)) (by simp only; omega) (.bool false)))
      have HP1 := Lib.hid (OwnR.setCell (o := 4) (g := w.heap.size) (OwnR.setCell (o := 3) (g := w.heap.size) (OwnR.setCell (o := 2) (g := w.heap.size) (OwnR.setCell (o := 1) (g := w.heap.size) (OwnR.setCell (o := 0) (g := w.heap.size) HO1.out (HLOW.out _ (by omega)).1 (.int .i64 cap)) (HLOW.out _ (by omega)).1 (.slice B1 buf.length e1)) (HLOW.out _ (by omega)).1 (.slice B2 sends.length e2)) (HLOW.out _ (by omega)).1 (.slice B3 recvs.length e3)) (HLOW.out _ (by omega)).1 (.bool false))
      have HP2 := Lib.hid (OwnR.setCell (o := 4) (g := w.heap.size) (OwnR.setCell (o := 3) (g := w.heap.size) (OwnR.setCell (o := 2) (g := w.heap.size) (OwnR.setCell (o := 1) (g := w.heap.size) (OwnR.setCell (o := 0) (g := w.heap.size) HO2.out (HLOW.out _ (by omega)).2.1 (.int .i64 cap)) (HLOW.out _ (by omega)).2.1 (.slice B1 buf.length e1)) (HLOW.out _ (by omega)).2.1 (.slice B2 sends.length e2)) (HLOW.out _ (by omega)).2.1 (.slice B3 recvs.length e3)) (HLOW.out _ (by omega)).2.1 (.bool false))
      have HP3 := Lib.hid (OwnR.setCell (o := 4) (g := w.heap.size) (OwnR.setCell (o := 3) (g := w.heap.size) (OwnR.setCell (o := 2) (g := w.heap.size) (OwnR.setCell (o := 1) (g := w.heap.size) (OwnR.setCell (o := 0) (g := w.heap.size) HO3.out (HLOW.out _ (by omega)).2.2 (.int .i64 cap)) (HLOW.out _ (by omega)).2.2 (.slice B1 buf.length e1)) (HLOW.out _ (by omega)).2.2 (.slice B2 sends.length e2)) (HLOW.out _ (by omega)).2.2 (.slice B3 recvs.length e3)) (HLOW.out _ (by omega)).2.2 (.bool false))
      have hzz := Lib.hid (show (((((w2.setCell ⟨w.heap.size, 0, none⟩ (.int .i64 cap)).setCell ⟨w.heap.size, 1, none⟩ (.slice B1 buf.length e1)).setCell ⟨w.heap.size, 2, none⟩ (.slice B2 sends.length e2)).setCell ⟨w.heap.size, 3, none⟩ (.slice B3 recvs.length e3)).setCell ⟨w.heap.size, 4, none⟩ (.bool false)).heap.size = w2.heap.size by simp [World.setCell])
      clear q0 q1 q2 q3 q4 f0 f1 f2 f3 f4 HX2 HRc2 HB2 HO1 HO2 HO3
      generalize (((((w2.setCell ⟨w.heap.size, 0, none⟩ (.int .i64 cap)).setCell ⟨w.heap.size, 1, none⟩ (.slice B1 buf.length e1)).setCell ⟨w.heap.size, 2, none⟩ (.slice B2 sends.length e2)).setCell ⟨w.heap.size, 3, none⟩ (.slice B3 recvs.length e3)).setCell ⟨w.heap.size, 4, none⟩ (.bool false)) = w3 at *
      have zz_w3 := Nat.le_of_eq hzz.out
      have yy_w3 := Nat.le_of_eq hzz.out.symm
      clear hzz
      have q0 := box_cell (j := 0) HO3b.out rfl
      have q1 := box_cell (j := 1) HO3b.out rfl
      have q2 := box_cell (j := 2) HO3b.out rfl
      have q3 := box_cell (j := 3) HO3b.out rfl
      have q4 := box_cell (j := 4) HO3b.out rfl
      have f0 := box_free HO3b.out 0
      have f1 := box_free HO3b.out 1
      have f2 := box_free HO3b.out 2
      have f3 := box_free HO3b.out 3
      have f4 := box_free HO3b.out 4
      go_wp2_with fail
      go_region
      all_goals
        have HO3bd := Lib.hid (show w3.drew.heap[w.heap.size]? = some (.cells #[.int .i64 cap, .slice B1 buf.length e1, .slice B2 sends.length e2, .slice B3 recvs.length e3, .bool false] 26 (0, 0)) from HO3b.out)
        have HRc3d := Lib.hid (show w3.drew.heap[w.heap.size + 1]? = some (.cells #[.int .i64 0, .slice none 0 0, .slice none 0 0, .slice none 0 0, .bool false] 26 (0, 0)) from HRc3.out)
        have HB3d := Lib.hid (below_drawn HB3.out 1)
        have HP1d := Lib.hid (HP1.out.stay (w' := w3.drew) (fun _ _ _ => rfl) (Nat.le_refl _))
        have HP2d := Lib.hid (HP2.out.stay (w' := w3.drew) (fun _ _ _ => rfl) (Nat.le_refl _))
        have HP3d := Lib.hid (HP3.out.stay (w' := w3.drew) (fun _ _ _ => rfl) (Nat.le_refl _))
        have zzd := Nat.le_of_eq (show w3.drew.heap.size = w3.heap.size from rfl)
        have zze := Nat.le_of_eq (show w3.heap.size = w3.drew.heap.size from rfl)
        clear q0 q1 q2 q3 q4 f0 f1 f2 f3 f4
        have HB3e := Lib.hid (show Below w.heap.size w w3.drew from HB3d.out)
        clear HB3d
        generalize w3.drew = wd at *
        have q0 := box_cell (j := 0) HO3bd.out rfl
        have q1 := box_cell (j := 1) HO3bd.out rfl
        have q2 := box_cell (j := 2) HO3bd.out rfl
        have q3 := box_cell (j := 3) HO3bd.out rfl
        have q4 := box_cell (j := 4) HO3bd.out rfl
        have f0 := box_free HO3bd.out 0
        have f1 := box_free HO3bd.out 1
        have f2 := box_free HO3bd.out 2
        have f3 := box_free HO3bd.out 3
        have f4 := box_free HO3bd.out 4
        go_upto_region 8 with (fail)
        have HX5 := Lib.hid (show (((wd.setCell ⟨w.heap.size, 3, none⟩ (.slice none 0 0)).setCell ⟨w.heap.size, 2, none⟩ (.slice none 0 0)).setCell ⟨w.heap.size, 4, none⟩ (.bool true)).heap[w.heap.size]? = some (.cells #[.int .i64 cap, .slice B1 buf.length e1, .slice none 0 0, .slice none 0 0, .bool true] 26 (0, 0)) from (box_set (j := 4) (u := .bool true) (box_set (j := 2) (u := .slice none 0 0) (box_set (j := 3) (u := .slice none 0 0) HO3bd.out))))
        have HRc6 := Lib.hid (show (((wd.setCell ⟨w.heap.size, 3, none⟩ (.slice none 0 0)).setCell ⟨w.heap.size, 2, none⟩ (.slice none 0 0)).setCell ⟨w.heap.size, 4, none⟩ (.bool true)).heap[w.heap.size + 1]? = some (.cells #[.int .i64 0, .slice none 0 0, .slice none 0 0, .slice none 0 0, .bool false] 26 (0, 0)) from ((Below.heap_setCell ((wd.setCell ⟨w.heap.size, 3, none⟩ (.slice none 0 0)).setCell ⟨w.heap.size, 2, none⟩ (.slice none 0 0)) ⟨w.heap.size, 4, none⟩ (.bool true) (w.heap.size + 1) (by simp only; omega)).trans ((Below.heap_setCell (wd.setCell ⟨w.heap.size, 3, none⟩ (.slice none 0 0)) ⟨w.heap.size, 2, none⟩ (.slice none 0 0) (w.heap.size + 1) (by simp only; omega)).trans ((Below.heap_setCell wd ⟨w.heap.size, 3, none⟩ (.slice none 0 0) (w.heap.size + 1) (by simp only; omega)).trans HRc3d.out))))
        have HB6 := Lib.hid (show Below w.heap.size w (((wd.setCell ⟨w.heap.size, 3, none⟩ (.slice none 0 0)).setCell ⟨w.heap.size, 2, none⟩ (.slice none 0 0)).setCell ⟨w.heap.size, 4, none⟩ (.bool true)) from (below_set (below_set (below_set HB3e.out (by simp only; omega) (.slice none 0 0)) (by simp only; omega) (.slice none 0 0)) (by simp only; omega) (.bool true)))
        have HS1 := Lib.hid (OwnR.setCell (o := 4) (g := w.heap.size) (OwnR.setCell (o := 2) (g := w.heap.size) (OwnR.setCell (o := 3) (g := w.heap.size) HP1d.out (HLOW.out _ (by omega)).1 (.slice none 0 0)) (HLOW.out _ (by omega)).1 (.slice none 0 0)) (HLOW.out _ (by omega)).1 (.bool true))
        have HS2 := Lib.hid (OwnR.setCell (o := 4) (g := w.heap.size) (OwnR.setCell (o := 2) (g := w.heap.size) (OwnR.setCell (o := 3) (g := w.heap.size) HP2d.out (HLOW.out _ (by omega)).2.1 (.slice none 0 0)) (HLOW.out _ (by omega)).2.1 (.slice none 0 0)) (HLOW.out _ (by omega)).2.1 (.bool true))
        have HS3 := Lib.hid (OwnR.setCell (o := 4) (g := w.heap.size) (OwnR.setCell (o := 2) (g := w.heap.size) (OwnR.setCell (o := 3) (g := w.heap.size) HP3d.out (HLOW.out _ (by omega)).2.2 (.slice none 0 0)) (HLOW.out _ (by omega)).2.2 (.slice none 0 0)) (HLOW.out _ (by omega)).2.2 (.bool true))
        have hzz := Lib.hid (show (((wd.setCell ⟨w.heap.size, 3, none⟩ (.slice none 0 0)).setCell ⟨w.heap.size, 2, none⟩ (.slice none 0 0)).setCell ⟨w.heap.size, 4, none⟩ (.bool true)).heap.size = wd.heap.size by simp [World.setCell])
        clear q0 q1 q2 q3 q4 f0 f1 f2 f3 f4
        generalize (((wd.setCell ⟨w.heap.size, 3, none⟩ (.slice none 0 0)).setCell ⟨w.heap.size, 2, none⟩ (.slice none 0 0)).setCell ⟨w.heap.size, 4, none⟩ (.bool true)) = w5 at *
        have zz_w5 := Nat.le_of_eq hzz.out
        have yy_w5 := Nat.le_of_eq hzz.out.symm
        clear hzz
        have q0 := box_cell (j := 0) HX5.out rfl
        have q1 := box_cell (j := 1) HX5.out rfl
        have q2 := box_cell (j := 2) HX5.out rfl
        have q3 := box_cell (j := 3) HX5.out rfl
        have q4 := box_cell (j := 4) HX5.out rfl
        have a0 := box_cell (j := 0) HRc6.out rfl
        have a1 := box_cell (j := 1) HRc6.out rfl
        have a2 := box_cell (j := 2) HRc6.out rfl
        have a3 := box_cell (j := 3) HRc6.out rfl
        have a4 := box_cell (j := 4) HRc6.out rfl
        have g0 := box_free HRc6.out 0
        have g1 := box_free HRc6.out 1
        have g2 := box_free HRc6.out 2
        have g3 := box_free HRc6.out 3
        have g4 := box_free HRc6.out 4
        go_wp2_with fail
        have HN6 := Lib.hid (show ∀ g, g < w1.heap.size → ¬ F1 g ∧ ¬ F2 g ∧ ¬ F3 g from fun g hg => HLOW.out g (.inl hg))
        have HG6 := Lib.hid (show ∀ g, F1 g ∨ F2 g ∨ F3 g → w.heap.size ≤ g ∧ g < w5.heap.size from fun g hg => by have := HF.out g hg; omega)
        have hRC0_0 : (w5.setCell ⟨w.heap.size + 1, 0, none⟩ (.int .i64 cap)).heap[w.heap.size + 1]? = some (.cells #[.int .i64 cap, .slice none 0 0, .slice none 0 0, .slice none 0 0, .bool false] 26 (0, 0)) := box_set (j := 0) (u := .int .i64 cap) HRc6.out
        have hRC0_1 : ((w5.setCell ⟨w.heap.size + 1, 0, none⟩ (.int .i64 cap)).setCell ⟨w.heap.size + 1, 1, none⟩ (.slice B1 buf.length e1)).heap[w.heap.size + 1]? = some (.cells #[.int .i64 cap, .slice B1 buf.length e1, .slice none 0 0, .slice none 0 0, .bool false] 26 (0, 0)) := box_set (j := 1) (u := .slice B1 buf.length e1) hRC0_0
        clear hRC0_0
        have hRC0_2 : (((w5.setCell ⟨w.heap.size + 1, 0, none⟩ (.int .i64 cap)).setCell ⟨w.heap.size + 1, 1, none⟩ (.slice B1 buf.length e1)).setCell ⟨w.heap.size + 1, 2, none⟩ (.slice none 0 0)).heap[w.heap.size + 1]? = some (.cells #[.int .i64 cap, .slice B1 buf.length e1, .slice none 0 0, .slice none 0 0, .bool false] 26 (0, 0)) := box_set (j := 2) (u := .slice none 0 0) hRC0_1
        clear hRC0_1
        have hRC0_3 : ((((w5.setCell ⟨w.heap.size + 1, 0, none⟩ (.int .i64 cap)).setCell ⟨w.heap.size + 1, 1, none⟩ (.slice B1 buf.length e1)).setCell ⟨w.heap.size + 1, 2, none⟩ (.slice none 0 0)).setCell ⟨w.heap.size + 1, 3, none⟩ (.slice none 0 0)).heap[w.heap.size + 1]? = some (.cells #[.int .i64 cap, .slice B1 buf.length e1, .slice none 0 0, .slice none 0 0, .bool false] 26 (0, 0)) := box_set (j := 3) (u := .slice none 0 0) hRC0_2
        clear hRC0_2
        have hRC0_4 : (((((w5.setCell ⟨w.heap.size + 1, 0, none⟩ (.int .i64 cap)).setCell ⟨w.heap.size + 1, 1, none⟩ (.slice B1 buf.length e1)).setCell ⟨w.heap.size + 1, 2, none⟩ (.slice none 0 0)).setCell ⟨w.heap.size + 1, 3, none⟩ (.slice none 0 0)).setCell ⟨w.heap.size + 1, 4, none⟩ (.bool true)).heap[w.heap.size + 1]? = some (.cells #[.int .i64 cap, .slice B1 buf.length e1, .slice none 0 0, .slice none 0 0, .bool true] 26 (0, 0)) := box_set (j := 4) (u := .bool true) hRC0_3
        clear hRC0_3
        have hRC0 := hRC0_4
        clear hRC0_4
        have hBF0 : Below w.heap.size w (((((w5.setCell ⟨w.heap.size + 1, 0, none⟩ (.int .i64 cap)).setCell ⟨w.heap.size + 1, 1, none⟩ (.slice B1 buf.length e1)).setCell ⟨w.heap.size + 1, 2, none⟩ (.slice none 0 0)).setCell ⟨w.heap.size + 1, 3, none⟩ (.slice none 0 0)).setCell ⟨w.heap.size + 1, 4, none⟩ (.bool true)) := (below_set (below_set (below_set (below_set (below_set HB6.out (by simp only; omega) (.int .i64 cap)) (by simp only; omega) (.slice B1 buf.length e1)) (by simp only; omega) (.slice none 0 0)) (by simp only; omega) (.slice none 0 0)) (by simp only; omega) (.bool true))
        have hO1_0 := OwnR.setCell (o := 0) (g := w.heap.size + 1) HS1.out (HN6.out _ (by omega)).1 (.int .i64 cap)
        have hO1_1 := OwnR.setCell (o := 1) (g := w.heap.size + 1) hO1_0 (HN6.out _ (by omega)).1 (.slice B1 buf.length e1)
        clear hO1_0
        have hO1_2 := OwnR.setCell (o := 2) (g := w.heap.size + 1) hO1_1 (HN6.out _ (by omega)).1 (.slice none 0 0)
        clear hO1_1
        have hO1_3 := OwnR.setCell (o := 3) (g := w.heap.size + 1) hO1_2 (HN6.out _ (by omega)).1 (.slice none 0 0)
        clear hO1_2
        have hO1_4 := OwnR.setCell (o := 4) (g := w.heap.size + 1) hO1_3 (HN6.out _ (by omega)).1 (.bool true)
        clear hO1_3
        have hO1 := hO1_4
        clear hO1_4
        have hO2_0 := OwnR.setCell (o := 0) (g := w.heap.size + 1) HS2.out (HN6.out _ (by omega)).2.1 (.int .i64 cap)
        have hO2_1 := OwnR.setCell (o := 1) (g := w.heap.size + 1) hO2_0 (HN6.out _ (by omega)).2.1 (.slice B1 buf.length e1)
        clear hO2_0
        have hO2_2 := OwnR.setCell (o := 2) (g := w.heap.size + 1) hO2_1 (HN6.out _ (by omega)).2.1 (.slice none 0 0)
        clear hO2_1
        have hO2_3 := OwnR.setCell (o := 3) (g := w.heap.size + 1) hO2_2 (HN6.out _ (by omega)).2.1 (.slice none 0 0)
        clear hO2_2
        have hO2_4 := OwnR.setCell (o := 4) (g := w.heap.size + 1) hO2_3 (HN6.out _ (by omega)).2.1 (.bool true)
        clear hO2_3
        have hO2 := hO2_4
        clear hO2_4
        have hO3_0 := OwnR.setCell (o := 0) (g := w.heap.size + 1) HS3.out (HN6.out _ (by omega)).2.2 (.int .i64 cap)
        have hO3_1 := OwnR.setCell (o := 1) (g := w.heap.size + 1) hO3_0 (HN6.out _ (by omega)).2.2 (.slice B1 buf.length e1)
        clear hO3_0
        have hO3_2 := OwnR.setCell (o := 2) (g := w.heap.size + 1) hO3_1 (HN6.out _ (by omega)).2.2 (.slice none 0 0)
        clear hO3_1
        have hO3_3 := OwnR.setCell (o := 3) (g := w.heap.size + 1) hO3_2 (HN6.out _ (by omega)).2.2 (.slice none 0 0)
        clear hO3_2
        have hO3_4 := OwnR.setCell (o := 4) (g := w.heap.size + 1) hO3_3 (HN6.out _ (by omega)).2.2 (.bool true)
        clear hO3_3
        have hO3 := hO3_4
        clear hO3_4
        have hzF0 : (((((w5.setCell ⟨w.heap.size + 1, 0, none⟩ (.int .i64 cap)).setCell ⟨w.heap.size + 1, 1, none⟩ (.slice B1 buf.length e1)).setCell ⟨w.heap.size + 1, 2, none⟩ (.slice none 0 0)).setCell ⟨w.heap.size + 1, 3, none⟩ (.slice none 0 0)).setCell ⟨w.heap.size + 1, 4, none⟩ (.bool true)).heap.size = w5.heap.size := by simp [World.setCell]
        generalize (((((w5.setCell ⟨w.heap.size + 1, 0, none⟩ (.int .i64 cap)).setCell ⟨w.heap.size + 1, 1, none⟩ (.slice B1 buf.length e1)).setCell ⟨w.heap.size + 1, 2, none⟩ (.slice none 0 0)).setCell ⟨w.heap.size + 1, 3, none⟩ (.slice none 0 0)).setCell ⟨w.heap.size + 1, 4, none⟩ (.bool true)) = WE at *
        have hRC : WE.heap[w.heap.size + 1]? = some (.cells #[.int .i64 cap, .slice B1 buf.length e1, .slice none 0 0, .slice none 0 0, .bool true] 26 (0, 0)) := hRC0
        have hBF := hBF0
        have hzF : WE.heap.size = w5.heap.size := hzF0
        have hP1 := hO1.stay (w' := WE) (fun _ _ _ => rfl) (Nat.le_refl _)
        have hP2 := hO2.stay (w' := WE) (fun _ _ _ => rfl) (Nat.le_refl _)
        have hP3 := hO3.stay (w' := WE) (fun _ _ _ => rfl) (Nat.le_refl _)
        clear hRC0  hBF0 hzF0 hO1 hO2 hO3
        have y0 := box_cell (j := 0) hRC rfl
        have y1 := box_cell (j := 1) hRC rfl
        have y2 := box_cell (j := 2) hRC rfl
        have y3 := box_cell (j := 3) hRC rfl
        have y4 := box_cell (j := 4) hRC rfl
        refine bodyPost_ret (v := .tuple #[.agg #[.int .i64 cap, .slice B1 buf.length e1, .slice none 0 0, .slice none 0 0, .bool true], .slice B3 recvs.length e3, .slice B2 sends.length e2, .int .i64 0]) (by simp [results, Try.results19, go_sem, y0, y1, y2, y3, y4]) rfl ?_
        rw [HRR.out]
        exact ⟨_, _, _, _, _, _, _, F1, F3, F2, rfl, ownChan (x := (⟨cap, buf, [], [], true⟩ : DChan)) hw0 (TailR.of hP1) (TailR.of (ownR_nil _ _ _)) (TailR.of (ownR_nil _ _ _)) (fun _ h => h) (fun _ h => h.elim) (fun _ h => h.elim) (fun _ _ h => h) (fun _ _ h => h) (fun _ h => h.elim), hP3, hP2, fun g hg => by have := HG6.out g (by rcases hg with h | h | h; exact .inl h; exact .inr (.inr h); exact .inr (.inl h)); omega, fun g h h2 => HE6.out.2.1 g h h2, fun g h h2 => HE6.out.1 g h h2, fun g h h2 => HE6.out.2.2 g h2 h, hBF⟩
    · skip
      have q0 := box_cell (j := 0) HX1.out rfl
      have q1 := box_cell (j := 1) HX1.out rfl
      have q2 := box_cell (j := 2) HX1.out rfl
      have q3 := box_cell (j := 3) HX1.out rfl
      have q4 := box_cell (j := 4) HX1.out rfl
      have g0 := box_free HRc1.out 0
      have g1 := box_free HRc1.out 1
      have g2 := box_free HRc1.out 2
      have g3 := box_free HRc1.out 3
      have g4 := box_free HRc1.out 4
      have a0 := box_cell (j := 0) HRc1.out rfl
      have a1 := box_cell (j := 1) HRc1.out rfl
      have a2 := box_cell (j := 2) HRc1.out rfl
      have a3 := box_cell (j := 3) HRc1.out rfl
      have a4 := box_cell (j := 4) HRc1.out rfl
      go_wp2_with fail
      have hRC_0 : (w1.setCell ⟨w.heap.size + 1, 0, none⟩ (.int .i64 0)).heap[w.heap.size + 1]? = some (.cells #[.int .i64 0, .slice none 0 0, .slice none 0 0, .slice none 0 0, .bool false] 26 (0, 0)) := box_set (j := 0) (u := .int .i64 0) HRc1.out
      have hRC_1 : ((w1.setCell ⟨w.heap.size + 1, 0, none⟩ (.int .i64 0)).setCell ⟨w.heap.size + 1, 1, none⟩ (.slice none 0 0)).heap[w.heap.size + 1]? = some (.cells #[.int .i64 0, .slice none 0 0, .slice none 0 0, .slice none 0 0, .bool false] 26 (0, 0)) := box_set (j := 1) (u := .slice none 0 0) hRC_0
      clear hRC_0
      have hRC_2 : (((w1.setCell ⟨w.heap.size + 1, 0, none⟩ (.int .i64 0)).setCell ⟨w.heap.size + 1, 1, none⟩ (.slice none 0 0)).setCell ⟨w.heap.size + 1, 2, none⟩ (.slice none 0 0)).heap[w.heap.size + 1]? = some (.cells #[.int .i64 0, .slice none 0 0, .slice none 0 0, .slice none 0 0, .bool false] 26 (0, 0)) := box_set (j := 2) (u := .slice none 0 0) hRC_1
      clear hRC_1
      have hRC_3 : ((((w1.setCell ⟨w.heap.size + 1, 0, none⟩ (.int .i64 0)).setCell ⟨w.heap.size + 1, 1, none⟩ (.slice none 0 0)).setCell ⟨w.heap.size + 1, 2, none⟩ (.slice none 0 0)).setCell ⟨w.heap.size + 1, 3, none⟩ (.slice none 0 0)).heap[w.heap.size + 1]? = some (.cells #[.int .i64 0, .slice none 0 0, .slice none 0 0, .slice none 0 0, .bool false] 26 (0, 0)) := box_set (j := 3) (u := .slice none 0 0) hRC_2
      clear hRC_2
      have hRC_4 : (((((w1.setCell ⟨w.heap.size + 1, 0, none⟩ (.int .i64 0)).setCell ⟨w.heap.size + 1, 1, none⟩ (.slice none 0 0)).setCell ⟨w.heap.size + 1, 2, none⟩ (.slice none 0 0)).setCell ⟨w.heap.size + 1, 3, none⟩ (.slice none 0 0)).setCell ⟨w.heap.size + 1, 4, none⟩ (.bool false)).heap[w.heap.size + 1]? = some (.cells #[.int .i64 0, .slice none 0 0, .slice none 0 0, .slice none 0 0, .bool false] 26 (0, 0)) := box_set (j := 4) (u := .bool false) hRC_3
      clear hRC_3
      have hRC := hRC_4
      clear hRC_4
      have hBF : Below w.heap.size w (((((w1.setCell ⟨w.heap.size + 1, 0, none⟩ (.int .i64 0)).setCell ⟨w.heap.size + 1, 1, none⟩ (.slice none 0 0)).setCell ⟨w.heap.size + 1, 2, none⟩ (.slice none 0 0)).setCell ⟨w.heap.size + 1, 3, none⟩ (.slice none 0 0)).setCell ⟨w.heap.size + 1, 4, none⟩ (.bool false)) := (below_set (below_set (below_set (below_set (below_set HB1.out (by simp only; omega) (.int .i64 0)) (by simp only; omega) (.slice none 0 0)) (by simp only; omega) (.slice none 0 0)) (by simp only; omega) (.slice none 0 0)) (by simp only; omega) (.bool false))
      generalize (((((w1.setCell ⟨w.heap.size + 1, 0, none⟩ (.int .i64 0)).setCell ⟨w.heap.size + 1, 1, none⟩ (.slice none 0 0)).setCell ⟨w.heap.size + 1, 2, none⟩ (.slice none 0 0)).setCell ⟨w.heap.size + 1, 3, none⟩ (.slice none 0 0)).setCell ⟨w.heap.size + 1, 4, none⟩ (.bool false)) = WF at *
      have y0 := box_cell (j := 0) hRC rfl
      have y1 := box_cell (j := 1) hRC rfl
      have y2 := box_cell (j := 2) hRC rfl
      have y3 := box_cell (j := 3) hRC rfl
      have y4 := box_cell (j := 4) hRC rfl
      refine bodyPost_ret (v := .tuple #[.agg #[.int .i64 0, .slice none 0 0, .slice none 0 0, .slice none 0 0, .bool false], .slice none 0 0, .slice none 0 0, .int .i64 2]) (by simp [results, Try.results19, go_sem, y0, y1, y2, y3, y4]) rfl ?_
      rw [HRR.out]
      exact ⟨_, _, _, _, _, _, _, fun _ => False, fun _ => False, fun _ => False, rfl, own_zeroC _ _, ownR_nil _ _ _, ownR_nil _ _ _, fun _ h => by rcases h with h | h | h <;> exact h.elim, fun _ h => h.elim, fun _ h => h.elim, fun _ h => h.elim, hBF⟩

set_option maxRecDepth 100000 in
set_option maxHeartbeats 4000000 in
theorem specCloseIt_any {w : World} {hi : Nat} {x : DChan} {vs : List Value} (h : layChan.see w hi x vs) (hhi : hi ≤ w.heap.size) (hn : szChan x ≤ 1048576) :
    Calls Try.prog 31 #[.agg vs.toArray] w (MadeE w (closeR x)) := by
  have hw0 := wf_cap h
  obtain ⟨A1, n1, c1, A2, n2, c2, A3, n3, c3, rfl, -, ⟨-, -, s1⟩, ⟨-, -, s2⟩, ⟨-, -, s3⟩⟩ := seeChan h
  have HSE := Lib.hid (fun (W : World) (hW : Below w.heap.size w W) => layChan.keep h (w' := W) fun k hk => hW.block k (by omega))
  have HOK := Lib.hid (fun (W : World) (hW : Below w.heap.size w W) => specChanOk_any (HSE.out W hW) (by have := hW.size; omega))
  have HCP := Lib.hid (fun (W : World) (hW : Below w.heap.size w W) => l06Copy_any (HSE.out W hW) (by have := hW.size; omega) hn)
  have HRR := Lib.hid (show closeR x = if !chanOkB x then (zeroC, [], [], (1 : Int)) else if x.fClosed then (zeroC, [], [], 2) else (⟨x.fCap, x.fBuf, [], [], true⟩, x.fRecvs, x.fSends, 0) from rfl)
  clear s1 s2 s3 h HSE
  obtain ⟨cap, buf, sends, recvs, cl⟩ := x
  simp only at hw0 HRR
  generalize chanOkB ⟨cap, buf, sends, recvs, cl⟩ = ok at *
  show Calls Try.prog 31 #[.agg #[.int .i64 cap, .slice A1 n1 c1, .slice A2 n2 c2, .slice A3 n3 c3, .bool cl]] w _
  have HX0 := Lib.hid (show ((w.alloc (.cells #[.int .i64 cap, .slice A1 n1 c1, .slice A2 n2 c2, .slice A3 n3 c3, .bool cl] 26)).alloc (.cells #[.int .i64 0, .slice none 0 0, .slice none 0 0, .slice none 0 0, .bool false] 26)).heap[w.heap.size]? = some (.cells #[.int .i64 cap, .slice A1 n1 c1, .slice A2 n2 c2, .slice A3 n3 c3, .bool cl] 26 (0, 0)) from by have := box_new w #[.int .i64 cap, .slice A1 n1 c1, .slice A2 n2 c2, .slice A3 n3 c3, .bool cl] 26; exact box_keep this ((Below.refl _ _).alloc (Nat.le_refl _) _) (by simp))
  have HRc0 := Lib.hid (show ((w.alloc (.cells #[.int .i64 cap, .slice A1 n1 c1, .slice A2 n2 c2, .slice A3 n3 c3, .bool cl] 26)).alloc (.cells #[.int .i64 0, .slice none 0 0, .slice none 0 0, .slice none 0 0, .bool false] 26)).heap[w.heap.size + 1]? = some (.cells #[.int .i64 0, .slice none 0 0, .slice none 0 0, .slice none 0 0, .bool false] 26 (0, 0)) from by have := box_new (w.alloc (.cells #[.int .i64 cap, .slice A1 n1 c1, .slice A2 n2 c2, .slice A3 n3 c3, .bool cl] 26)) #[.int .i64 0, .slice none 0 0, .slice none 0 0, .slice none 0 0, .bool false] 26; rw [World.size_alloc] at this; exact this)
  have HB0 := Lib.hid (show Below w.heap.size w ((w.alloc (.cells #[.int .i64 cap, .slice A1 n1 c1, .slice A2 n2 c2, .slice A3 n3 c3, .bool cl] 26)).alloc (.cells #[.int .i64 0, .slice none 0 0, .slice none 0 0, .slice none 0 0, .bool false] 26)) by go_grown)
  have zz0 : w.heap.size + 2 ≤ ((w.alloc (.cells #[.int .i64 cap, .slice A1 n1 c1, .slice A2 n2 c2, .slice A3 n3 c3, .bool cl] 26)).alloc (.cells #[.int .i64 0, .slice none 0 0, .slice none 0 0, .slice none 0 0, .bool false] 26)).heap.size := by simp
  go_enter Try.func31, Try.ntmps31
  go_upto_region 1 with (fail)
  generalize ((w.alloc (.cells #[.int .i64 cap, .slice A1 n1 c1, .slice A2 n2 c2, .slice A3 n3 c3, .bool cl] 26)).alloc (.cells #[.int .i64 0, .slice none 0 0, .slice none 0 0, .slice none 0 0, .bool false] 26)) = w0 at *
  have q0 := box_cell (j := 0) HX0.out rfl
  have q1 := box_cell (j := 1) HX0.out rfl
  have q2 := box_cell (j := 2) HX0.out rfl
  have q3 := box_cell (j := 3) HX0.out rfl
  have q4 := box_cell (j := 4) HX0.out rfl
  go_wp2_with fail
  refine (HOK.out _ HB0.out).mono ?_
  rintro e w1 ⟨rfl, hb1⟩
  have hz1 := hb1.size
  have HX1 := Lib.hid (box_keep HX0.out hb1 (by omega))
  have HRc1 := Lib.hid (box_keep HRc0.out hb1 (by omega))
  have HB1 := Lib.hid (HB0.out.trans (hb1.mono (by omega)))
  clear q0 q1 q2 q3 q4 hb1
  cases ok
  · skip
    have g0 := box_free HRc1.out 0
    have g1 := box_free HRc1.out 1
    have g2 := box_free HRc1.out 2
    have g3 := box_free HRc1.out 3
    have g4 := box_free HRc1.out 4
    have a0 := box_cell (j := 0) HRc1.out rfl
    have a1 := box_cell (j := 1) HRc1.out rfl
    have a2 := box_cell (j := 2) HRc1.out rfl
    have a3 := box_cell (j := 3) HRc1.out rfl
    have a4 := box_cell (j := 4) HRc1.out rfl
    go_wp2_with fail
    have hRC_0 : (w1.setCell ⟨w.heap.size + 1, 0, none⟩ (.int .i64 0)).heap[w.heap.size + 1]? = some (.cells #[.int .i64 0, .slice none 0 0, .slice none 0 0, .slice none 0 0, .bool false] 26 (0, 0)) := box_set (j := 0) (u := .int .i64 0) HRc1.out
    have hRC_1 : ((w1.setCell ⟨w.heap.size + 1, 0, none⟩ (.int .i64 0)).setCell ⟨w.heap.size + 1, 1, none⟩ (.slice none 0 0)).heap[w.heap.size + 1]? = some (.cells #[.int .i64 0, .slice none 0 0, .slice none 0 0, .slice none 0 0, .bool false] 26 (0, 0)) := box_set (j := 1) (u := .slice none 0 0) hRC_0
    clear hRC_0
    have hRC_2 : (((w1.setCell ⟨w.heap.size + 1, 0, none⟩ (.int .i64 0)).setCell ⟨w.heap.size + 1, 1, none⟩ (.slice none 0 0)).setCell ⟨w.heap.size + 1, 2, none⟩ (.slice none 0 0)).heap[w.heap.size + 1]? = some (.cells #[.int .i64 0, .slice none 0 0, .slice none 0 0, .slice none 0 0, .bool false] 26 (0, 0)) := box_set (j := 2) (u := .slice none 0 0) hRC_1
    clear hRC_1
    have hRC_3 : ((((w1.setCell ⟨w.heap.size + 1, 0, none⟩ (.int .i64 0)).setCell ⟨w.heap.size + 1, 1, none⟩ (.slice none 0 0)).setCell ⟨w.heap.size + 1, 2, none⟩ (.slice none 0 0)).setCell ⟨w.heap.size + 1, 3, none⟩ (.slice none 0 0)).heap[w.heap.size + 1]? = some (.cells #[.int .i64 0, .slice none 0 0, .slice none 0 0, .slice none 0 0, .bool false] 26 (0, 0)) := box_set (j := 3) (u := .slice none 0 0) hRC_2
    clear hRC_2
    have hRC_4 : (((((w1.setCell ⟨w.heap.size + 1, 0, none⟩ (.int .i64 0)).setCell ⟨w.heap.size + 1, 1, none⟩ (.slice none 0 0)).setCell ⟨w.heap.size + 1, 2, none⟩ (.slice none 0 0)).setCell ⟨w.heap.size + 1, 3, none⟩ (.slice none 0 0)).setCell ⟨w.heap.size + 1, 4, none⟩ (.bool false)).heap[w.heap.size + 1]? = some (.cells #[.int .i64 0, .slice none 0 0, .slice none 0 0, .slice none 0 0, .bool false] 26 (0, 0)) := box_set (j := 4) (u := .bool false) hRC_3
    clear hRC_3
    have hRC := hRC_4
    clear hRC_4
    have hBF : Below w.heap.size w (((((w1.setCell ⟨w.heap.size + 1, 0, none⟩ (.int .i64 0)).setCell ⟨w.heap.size + 1, 1, none⟩ (.slice none 0 0)).setCell ⟨w.heap.size + 1, 2, none⟩ (.slice none 0 0)).setCell ⟨w.heap.size + 1, 3, none⟩ (.slice none 0 0)).setCell ⟨w.heap.size + 1, 4, none⟩ (.bool false)) := (below_set (below_set (below_set (below_set (below_set HB1.out (by simp only; omega) (.int .i64 0)) (by simp only; omega) (.slice none 0 0)) (by simp only; omega) (.slice none 0 0)) (by simp only; omega) (.slice none 0 0)) (by simp only; omega) (.bool false))
    generalize (((((w1.setCell ⟨w.heap.size + 1, 0, none⟩ (.int .i64 0)).setCell ⟨w.heap.size + 1, 1, none⟩ (.slice none 0 0)).setCell ⟨w.heap.size + 1, 2, none⟩ (.slice none 0 0)).setCell ⟨w.heap.size + 1, 3, none⟩ (.slice none 0 0)).setCell ⟨w.heap.size + 1, 4, none⟩ (.bool false)) = WF at *
    have y0 := box_cell (j := 0) hRC rfl
    have y1 := box_cell (j := 1) hRC rfl
    have y2 := box_cell (j := 2) hRC rfl
    have y3 := box_cell (j := 3) hRC rfl
    have y4 := box_cell (j := 4) hRC rfl
    refine bodyPost_ret (v := .tuple #[.agg #[.int .i64 0, .slice none 0 0, .slice none 0 0, .slice none 0 0, .bool false], .slice none 0 0, .slice none 0 0, .int .i64 1]) (by simp [results, Try.results31, go_sem, y0, y1, y2, y3, y4]) rfl ?_
    rw [HRR.out]
    exact ⟨_, _, _, _, _, _, _, fun _ => False, fun _ => False, fun _ => False, rfl, own_zeroC _ _, ownR_nil _ _ _, ownR_nil _ _ _, fun _ h => by rcases h with h | h | h <;> exact h.elim, fun _ h => h.elim, fun _ h => h.elim, fun _ h => h.elim, hBF⟩
  · cases cl
    · skip
      have q0 := box_cell (j := 0) HX1.out rfl
      have q1 := box_cell (j := 1) HX1.out rfl
      have q2 := box_cell (j := 2) HX1.out rfl
      have q3 := box_cell (j := 3) HX1.out rfl
      have q4 := box_cell (j := 4) HX1.out rfl
      have f0 := box_free HX1.out 0
      have f1 := box_free HX1.out 1
      have f2 := box_free HX1.out 2
      have f3 := box_free HX1.out 3
      have f4 := box_free HX1.out 4
      go_wp2_with fail
      refine (HCP.out _ HB1.out).mono ?_
      rintro e w2 ⟨hb2, B1, e1, B2, e2, B3, e3, F1, F2, F3, rfl, o1, o2, o3, hF, d12, d13, d23⟩
      simp only at o1 o2 o3
      have hz2 := hb2.size
      have HX2 := Lib.hid (box_keep HX1.out hb2 (by omega))
      have HRc2 := Lib.hid (box_keep HRc1.out hb2 (by omega))
      have HB2 := Lib.hid (HB1.out.trans (hb2.mono (by omega)))
      have HF := Lib.hid hF
      have HLOW := Lib.hid (show ∀ g, g < w1.heap.size ∨ w2.heap.size ≤ g → ¬ F1 g ∧ ¬ F2 g ∧ ¬ F3 g from fun g hg => ⟨fun h => by have := hF g (.inl h); omega, fun h => by have := hF g (.inr (.inl h)); omega, fun h => by have := hF g (.inr (.inr h)); omega⟩)
      have HO1 := Lib.hid o1
      have HO2 := Lib.hid o2
      have HO3 := Lib.hid o3
      have HE6 := Lib.hid (And.intro d12 (And.intro d13 d23))
      clear hb2 o1 o2 o3 hF d12 d13 d23 q0 q1 q2 q3 q4 f0 f1 f2 f3 f4
      have hal : Below w2.heap.size w2 (w2.alloc (.cells #[.int .i64 cap, .slice B1 buf.length e1, .slice B2 sends.length e2, .slice B3 recvs.length e3, .bool false] 26)) := (Below.refl _ _).alloc (Nat.le_refl _) _
      have HRc3 := Lib.hid (box_keep HRc2.out hal (by omega))
      have HO3b := Lib.hid (box_new w2 #[.int .i64 cap, .slice B1 buf.length e1, .slice B2 sends.length e2, .slice B3 recvs.length e3, .bool false] 26)
      have HB3 := Lib.hid (HB2.out.trans (hal.mono (by omega)))
      have HP1 := Lib.hid (HO1.out.stay (w' := (w2.alloc (.cells #[.int .i64 cap, .slice B1 buf.length e1, .slice B2 sends.length e2, .slice B3 recvs.length e3, .bool false] 26))) (fun g hg hlt => hal.block g hlt) hal.size)
      have HP2 := Lib.hid (HO2.out.stay (w' := (w2.alloc (.cells #[.int .i64 cap, .slice B1 buf.length e1, .slice B2 sends.length e2, .slice B3 recvs.length e3, .bool false] 26))) (fun g hg hlt => hal.block g hlt) hal.size)
      have HP3 := Lib.hid (HO3.out.stay (w' := (w2.alloc (.cells #[.int .i64 cap, .slice B1 buf.length e1, .slice B2 sends.length e2, .slice B3 recvs.length e3, .bool false] 26))) (fun g hg hlt => hal.block g hlt) hal.size)
      have hz3a : (w2.alloc (.cells #[.int .i64 cap, .slice B1 buf.length e1, .slice B2 sends.length e2, .slice B3 recvs.length e3, .bool false] 26)).heap.size ≤ w2.heap.size + 1 := by simp
      have hz3b : w2.heap.size + 1 ≤ (w2.alloc (.cells #[.int .i64 cap, .slice B1 buf.length e1, .slice B2 sends.length e2, .slice B3 recvs.length e3, .bool false] 26)).heap.size := by simp
      clear hal HRc2 HB2 HO1 HO2 HO3
      go_upto_region 6 with (fail)
      generalize (w2.alloc (.cells #[.int .i64 cap, .slice B1 buf.length e1, .slice B2 sends.length e2, .slice B3 recvs.length e3, .bool false] 26)) = w3 at *
      have q0 := box_cell (j := 0) HO3b.out rfl
      have q1 := box_cell (j := 1) HO3b.out rfl
      have q2 := box_cell (j := 2) HO3b.out rfl
      have q3 := box_cell (j := 3) HO3b.out rfl
      have q4 := box_cell (j := 4) HO3b.out rfl
      have f0 := box_free HO3b.out 0
      have f1 := box_free HO3b.out 1
      have f2 := box_free HO3b.out 2
      have f3 := box_free HO3b.out 3
      have f4 := box_free HO3b.out 4
      go_upto_region 11 with (fail)
      have HX5 := Lib.hid (show (((w3.setCell ⟨w2.heap.size, 3, none⟩ (.slice none 0 0)).setCell ⟨w2.heap.size, 2, none⟩ (.slice none 0 0)).setCell ⟨w2.heap.size, 4, none⟩ (.bool true)).heap[w2.heap.size]? = some (.cells #[.int .i64 cap, .slice B1 buf.length e1, .slice none 0 0, .slice none 0 0, .bool true] 26 (0, 0)) from (box_set (j := 4) (u := .bool true) (box_set (j := 2) (u := .slice none 0 0) (box_set (j := 3) (u := .slice none 0 0) HO3b.out))))
      have HRc6 := Lib.hid (show (((w3.setCell ⟨w2.heap.size, 3, none⟩ (.slice none 0 0)).setCell ⟨w2.heap.size, 2, none⟩ (.slice none 0 0)).setCell ⟨w2.heap.size, 4, none⟩ (.bool true)).heap[w.heap.size + 1]? = some (.cells #[.int .i64 0, .slice none 0 0, .slice none 0 0, .slice none 0 0, .bool false] 26 (0, 0)) from ((Below.heap_setCell ((w3.setCell ⟨w2.heap.size, 3, none⟩ (.slice none 0 0)).setCell ⟨w2.heap.size, 2, none⟩ (.slice none 0 0)) ⟨w2.heap.size, 4, none⟩ (.bool true) (w.heap.size + 1) (by simp only; omega)).trans ((Below.heap_setCell (w3.setCell ⟨w2.heap.size, 3, none⟩ (.slice none 0 0)) ⟨w2.heap.size, 2, none⟩ (.slice none 0 0) (w.heap.size + 1) (by simp only; omega)).trans ((Below.heap_setCell w3 ⟨w2.heap.size, 3, none⟩ (.slice none 0 0) (w.heap.size + 1) (by simp only; omega)).trans HRc3.out))))
      have HB6 := Lib.hid (show Below w.heap.size w (((w3.setCell ⟨w2.heap.size, 3, none⟩ (.slice none 0 0)).setCell ⟨w2.heap.size, 2, none⟩ (.slice none 0 0)).setCell ⟨w2.heap.size, 4, none⟩ (.bool true)) from (below_set (below_set (below_set HB3.out (by simp only; omega) (.slice none 0 0)) (by simp only; omega) (.slice none 0 0)) (by simp only; omega) (.bool true)))
      have HS1 := Lib.hid (OwnR.setCell (o := 4) (g := w2.heap.size) (OwnR.setCell (o := 2) (g := w2.heap.size) (OwnR.setCell (o := 3) (g := w2.heap.size) HP1.out (HLOW.out _ (by omega)).1 (.slice none 0 0)) (HLOW.out _ (by omega)).1 (.slice none 0 0)) (HLOW.out _ (by omega)).1 (.bool true))
      have HS2 := Lib.hid (OwnR.setCell (o := 4) (g := w2.heap.size) (OwnR.setCell (o := 2) (g := w2.heap.size) (OwnR.setCell (o := 3) (g := w2.heap.size) HP2.out (HLOW.out _ (by omega)).2.1 (.slice none 0 0)) (HLOW.out _ (by omega)).2.1 (.slice none 0 0)) (HLOW.out _ (by omega)).2.1 (.bool true))
      have HS3 := Lib.hid (OwnR.setCell (o := 4) (g := w2.heap.size) (OwnR.setCell (o := 2) (g := w2.heap.size) (OwnR.setCell (o := 3) (g := w2.heap.size) HP3.out (HLOW.out _ (by omega)).2.2 (.slice none 0 0)) (HLOW.out _ (by omega)).2.2 (.slice none 0 0)) (HLOW.out _ (by omega)).2.2 (.bool true))
      have hzz := Lib.hid (show (((w3.setCell ⟨w2.heap.size, 3, none⟩ (.slice none 0 0)).setCell ⟨w2.heap.size, 2, none⟩ (.slice none 0 0)).setCell ⟨w2.heap.size, 4, none⟩ (.bool true)).heap.size = w3.heap.size by simp [World.setCell])
      clear q0 q1 q2 q3 q4 f0 f1 f2 f3 f4
      generalize (((w3.setCell ⟨w2.heap.size, 3, none⟩ (.slice none 0 0)).setCell ⟨w2.heap.size, 2, none⟩ (.slice none 0 0)).setCell ⟨w2.heap.size, 4, none⟩ (.bool true)) = w5 at *
      have zz_w5 := Nat.le_of_eq hzz.out
      have yy_w5 := Nat.le_of_eq hzz.out.symm
      clear hzz
      have q0 := box_cell (j := 0) HX5.out rfl
      have q1 := box_cell (j := 1) HX5.out rfl
      have q2 := box_cell (j := 2) HX5.out rfl
      have q3 := box_cell (j := 3) HX5.out rfl
      have q4 := box_cell (j := 4) HX5.out rfl
      have a0 := box_cell (j := 0) HRc6.out rfl
      have a1 := box_cell (j := 1) HRc6.out rfl
      have a2 := box_cell (j := 2) HRc6.out rfl
      have a3 := box_cell (j := 3) HRc6.out rfl
      have a4 := box_cell (j := 4) HRc6.out rfl
      have g0 := box_free HRc6.out 0
      have g1 := box_free HRc6.out 1
      have g2 := box_free HRc6.out 2
      have g3 := box_free HRc6.out 3
      have g4 := box_free HRc6.out 4
      go_wp2_with fail
      have HN6 := Lib.hid (show ∀ g, g < w1.heap.size → ¬ F1 g ∧ ¬ F2 g ∧ ¬ F3 g from fun g hg => HLOW.out g (.inl hg))
      have HG6 := Lib.hid (show ∀ g, F1 g ∨ F2 g ∨ F3 g → w.heap.size ≤ g ∧ g < w5.heap.size from fun g hg => by have := HF.out g hg; omega)
      have hRC0_0 : (w5.setCell ⟨w.heap.size + 1, 0, none⟩ (.int .i64 cap)).heap[w.heap.size + 1]? = some (.cells #[.int .i64 cap, .slice none 0 0, .slice none 0 0, .slice none 0 0, .bool false] 26 (0, 0)) := box_set (j := 0) (u := .int .i64 cap) HRc6.out
      have hRC0_1 : ((w5.setCell ⟨w.heap.size + 1, 0, none⟩ (.int .i64 cap)).setCell ⟨w.heap.size + 1, 1, none⟩ (.slice B1 buf.length e1)).heap[w.heap.size + 1]? = some (.cells #[.int .i64 cap, .slice B1 buf.length e1, .slice none 0 0, .slice none 0 0, .bool false] 26 (0, 0)) := box_set (j := 1) (u := .slice B1 buf.length e1) hRC0_0
      clear hRC0_0
      have hRC0_2 : (((w5.setCell ⟨w.heap.size + 1, 0, none⟩ (.int .i64 cap)).setCell ⟨w.heap.size + 1, 1, none⟩ (.slice B1 buf.length e1)).setCell ⟨w.heap.size + 1, 2, none⟩ (.slice none 0 0)).heap[w.heap.size + 1]? = some (.cells #[.int .i64 cap, .slice B1 buf.length e1, .slice none 0 0, .slice none 0 0, .bool false] 26 (0, 0)) := box_set (j := 2) (u := .slice none 0 0) hRC0_1
      clear hRC0_1
      have hRC0_3 : ((((w5.setCell ⟨w.heap.size + 1, 0, none⟩ (.int .i64 cap)).setCell ⟨w.heap.size + 1, 1, none⟩ (.slice B1 buf.length e1)).setCell ⟨w.heap.size + 1, 2, none⟩ (.slice none 0 0)).setCell ⟨w.heap.size + 1, 3, none⟩ (.slice none 0 0)).heap[w.heap.size + 1]? = some (.cells #[.int .i64 cap, .slice B1 buf.length e1, .slice none 0 0, .slice none 0 0, .bool false] 26 (0, 0)) := box_set (j := 3) (u := .slice none 0 0) hRC0_2
      clear hRC0_2
      have hRC0_4 : (((((w5.setCell ⟨w.heap.size + 1, 0, none⟩ (.int .i64 cap)).setCell ⟨w.heap.size + 1, 1, none⟩ (.slice B1 buf.length e1)).setCell ⟨w.heap.size + 1, 2, none⟩ (.slice none 0 0)).setCell ⟨w.heap.size + 1, 3, none⟩ (.slice none 0 0)).setCell ⟨w.heap.size + 1, 4, none⟩ (.bool true)).heap[w.heap.size + 1]? = some (.cells #[.int .i64 cap, .slice B1 buf.length e1, .slice none 0 0, .slice none 0 0, .bool true] 26 (0, 0)) := box_set (j := 4) (u := .bool true) hRC0_3
      clear hRC0_3
      have hRC0 := hRC0_4
      clear hRC0_4
      have hBF0 : Below w.heap.size w (((((w5.setCell ⟨w.heap.size + 1, 0, none⟩ (.int .i64 cap)).setCell ⟨w.heap.size + 1, 1, none⟩ (.slice B1 buf.length e1)).setCell ⟨w.heap.size + 1, 2, none⟩ (.slice none 0 0)).setCell ⟨w.heap.size + 1, 3, none⟩ (.slice none 0 0)).setCell ⟨w.heap.size + 1, 4, none⟩ (.bool true)) := (below_set (below_set (below_set (below_set (below_set HB6.out (by simp only; omega) (.int .i64 cap)) (by simp only; omega) (.slice B1 buf.length e1)) (by simp only; omega) (.slice none 0 0)) (by simp only; omega) (.slice none 0 0)) (by simp only; omega) (.bool true))
      have hO1_0 := OwnR.setCell (o := 0) (g := w.heap.size + 1) HS1.out (HN6.out _ (by omega)).1 (.int .i64 cap)
      have hO1_1 := OwnR.setCell (o := 1) (g := w.heap.size + 1) hO1_0 (HN6.out _ (by omega)).1 (.slice B1 buf.length e1)
      clear hO1_0
      have hO1_2 := OwnR.setCell (o := 2) (g := w.heap.size + 1) hO1_1 (HN6.out _ (by omega)).1 (.slice none 0 0)
      clear hO1_1
      have hO1_3 := OwnR.setCell (o := 3) (g := w.heap.size + 1) hO1_2 (HN6.out _ (by omega)).1 (.slice none 0 0)
      clear hO1_2
      have hO1_4 := OwnR.setCell (o := 4) (g := w.heap.size + 1) hO1_3 (HN6.out _ (by omega)).1 (.bool true)
      clear hO1_3
      have hO1 := hO1_4
      clear hO1_4
      have hO2_0 := OwnR.setCell (o := 0) (g := w.heap.size + 1) HS2.out (HN6.out _ (by omega)).2.1 (.int .i64 cap)
      have hO2_1 := OwnR.setCell (o := 1) (g := w.heap.size + 1) hO2_0 (HN6.out _ (by omega)).2.1 (.slice B1 buf.length e1)
      clear hO2_0
      have hO2_2 := OwnR.setCell (o := 2) (g := w.heap.size + 1) hO2_1 (HN6.out _ (by omega)).2.1 (.slice none 0 0)
      clear hO2_1
      have hO2_3 := OwnR.setCell (o := 3) (g := w.heap.size + 1) hO2_2 (HN6.out _ (by omega)).2.1 (.slice none 0 0)
      clear hO2_2
      have hO2_4 := OwnR.setCell (o := 4) (g := w.heap.size + 1) hO2_3 (HN6.out _ (by omega)).2.1 (.bool true)
      clear hO2_3
      have hO2 := hO2_4
      clear hO2_4
      have hO3_0 := OwnR.setCell (o := 0) (g := w.heap.size + 1) HS3.out (HN6.out _ (by omega)).2.2 (.int .i64 cap)
      have hO3_1 := OwnR.setCell (o := 1) (g := w.heap.size + 1) hO3_0 (HN6.out _ (by omega)).2.2 (.slice B1 buf.length e1)
      clear hO3_0
      have hO3_2 := OwnR.setCell (o := 2) (g := w.heap.size + 1) hO3_1 (HN6.out _ (by omega)).2.2 (.slice none 0 0)
      clear hO3_1
      have hO3_3 := OwnR.setCell (o := 3) (g := w.heap.size + 1) hO3_2 (HN6.out _ (by omega)).2.2 (.slice none 0 0)
      clear hO3_2
      have hO3_4 := OwnR.setCell (o := 4) (g := w.heap.size + 1) hO3_3 (HN6.out _ (by omega)).2.2 (.bool true)
      clear hO3_3
      have hO3 := hO3_4
      clear hO3_4
      have hzF0 : (((((w5.setCell ⟨w.heap.size + 1, 0, none⟩ (.int .i64 cap)).setCell ⟨w.heap.size + 1, 1, none⟩ (.slice B1 buf.length e1)).setCell ⟨w.heap.size + 1, 2, none⟩ (.slice none 0 0)).setCell ⟨w.heap.size + 1, 3, none⟩ (.slice none 0 0)).setCell ⟨w.heap.size + 1, 4, none⟩ (.bool true)).heap.size = w5.heap.size := by simp [World.setCell]
      generalize (((((w5.setCell ⟨w.heap.size + 1, 0, none⟩ (.int .i64 cap)).setCell ⟨w.heap.size + 1, 1, none⟩ (.slice B1 buf.length e1)).setCell ⟨w.heap.size + 1, 2, none⟩ (.slice none 0 0)).setCell ⟨w.heap.size + 1, 3, none⟩ (.slice none 0 0)).setCell ⟨w.heap.size + 1, 4, none⟩ (.bool true)) = WE at *
      have hRC : WE.heap[w.heap.size + 1]? = some (.cells #[.int .i64 cap, .slice B1 buf.length e1, .slice none 0 0, .slice none 0 0, .bool true] 26 (0, 0)) := hRC0
      have hBF := hBF0
      have hzF : WE.heap.size = w5.heap.size := hzF0
      have hP1 := hO1.stay (w' := WE) (fun _ _ _ => rfl) (Nat.le_refl _)
      have hP2 := hO2.stay (w' := WE) (fun _ _ _ => rfl) (Nat.le_refl _)
      have hP3 := hO3.stay (w' := WE) (fun _ _ _ => rfl) (Nat.le_refl _)
      clear hRC0  hBF0 hzF0 hO1 hO2 hO3
      have y0 := box_cell (j := 0) hRC rfl
      have y1 := box_cell (j := 1) hRC rfl
      have y2 := box_cell (j := 2) hRC rfl
      have y3 := box_cell (j := 3) hRC rfl
      have y4 := box_cell (j := 4) hRC rfl
      refine bodyPost_ret (v := .tuple #[.agg #[.int .i64 cap, .slice B1 buf.length e1, .slice none 0 0, .slice none 0 0, .bool true], .slice B3 recvs.length e3, .slice B2 sends.length e2, .int .i64 0]) (by simp [results, Try.results31, go_sem, y0, y1, y2, y3, y4]) rfl ?_
      rw [HRR.out]
      exact ⟨_, _, _, _, _, _, _, F1, F3, F2, rfl, ownChan (x := (⟨cap, buf, [], [], true⟩ : DChan)) hw0 (TailR.of hP1) (TailR.of (ownR_nil _ _ _)) (TailR.of (ownR_nil _ _ _)) (fun _ h => h) (fun _ h => h.elim) (fun _ h => h.elim) (fun _ _ h => h) (fun _ _ h => h) (fun _ h => h.elim), hP3, hP2, fun g hg => by have := HG6.out g (by rcases hg with h | h | h; exact .inl h; exact .inr (.inr h); exact .inr (.inl h)); omega, fun g h h2 => HE6.out.2.1 g h h2, fun g h h2 => HE6.out.1 g h h2, fun g h h2 => HE6.out.2.2 g h2 h, hBF⟩
    · skip
      have q0 := box_cell (j := 0) HX1.out rfl
      have q1 := box_cell (j := 1) HX1.out rfl
      have q2 := box_cell (j := 2) HX1.out rfl
      have q3 := box_cell (j := 3) HX1.out rfl
      have q4 := box_cell (j := 4) HX1.out rfl
      have g0 := box_free HRc1.out 0
      have g1 := box_free HRc1.out 1
      have g2 := box_free HRc1.out 2
      have g3 := box_free HRc1.out 3
      have g4 := box_free HRc1.out 4
      have a0 := box_cell (j := 0) HRc1.out rfl
      have a1 := box_cell (j := 1) HRc1.out rfl
      have a2 := box_cell (j := 2) HRc1.out rfl
      have a3 := box_cell (j := 3) HRc1.out rfl
      have a4 := box_cell (j := 4) HRc1.out rfl
      go_wp2_with fail
      have hRC_0 : (w1.setCell ⟨w.heap.size + 1, 0, none⟩ (.int .i64 0)).heap[w.heap.size + 1]? = some (.cells #[.int .i64 0, .slice none 0 0, .slice none 0 0, .slice none 0 0, .bool false] 26 (0, 0)) := box_set (j := 0) (u := .int .i64 0) HRc1.out
      have hRC_1 : ((w1.setCell ⟨w.heap.size + 1, 0, none⟩ (.int .i64 0)).setCell ⟨w.heap.size + 1, 1, none⟩ (.slice none 0 0)).heap[w.heap.size + 1]? = some (.cells #[.int .i64 0, .slice none 0 0, .slice none 0 0, .slice none 0 0, .bool false] 26 (0, 0)) := box_set (j := 1) (u := .slice none 0 0) hRC_0
      clear hRC_0
      have hRC_2 : (((w1.setCell ⟨w.heap.size + 1, 0, none⟩ (.int .i64 0)).setCell ⟨w.heap.size + 1, 1, none⟩ (.slice none 0 0)).setCell ⟨w.heap.size + 1, 2, none⟩ (.slice none 0 0)).heap[w.heap.size + 1]? = some (.cells #[.int .i64 0, .slice none 0 0, .slice none 0 0, .slice none 0 0, .bool false] 26 (0, 0)) := box_set (j := 2) (u := .slice none 0 0) hRC_1
      clear hRC_1
      have hRC_3 : ((((w1.setCell ⟨w.heap.size + 1, 0, none⟩ (.int .i64 0)).setCell ⟨w.heap.size + 1, 1, none⟩ (.slice none 0 0)).setCell ⟨w.heap.size + 1, 2, none⟩ (.slice none 0 0)).setCell ⟨w.heap.size + 1, 3, none⟩ (.slice none 0 0)).heap[w.heap.size + 1]? = some (.cells #[.int .i64 0, .slice none 0 0, .slice none 0 0, .slice none 0 0, .bool false] 26 (0, 0)) := box_set (j := 3) (u := .slice none 0 0) hRC_2
      clear hRC_2
      have hRC_4 : (((((w1.setCell ⟨w.heap.size + 1, 0, none⟩ (.int .i64 0)).setCell ⟨w.heap.size + 1, 1, none⟩ (.slice none 0 0)).setCell ⟨w.heap.size + 1, 2, none⟩ (.slice none 0 0)).setCell ⟨w.heap.size + 1, 3, none⟩ (.slice none 0 0)).setCell ⟨w.heap.size + 1, 4, none⟩ (.bool false)).heap[w.heap.size + 1]? = some (.cells #[.int .i64 0, .slice none 0 0, .slice none 0 0, .slice none 0 0, .bool false] 26 (0, 0)) := box_set (j := 4) (u := .bool false) hRC_3
      clear hRC_3
      have hRC := hRC_4
      clear hRC_4
      have hBF : Below w.heap.size w (((((w1.setCell ⟨w.heap.size + 1, 0, none⟩ (.int .i64 0)).setCell ⟨w.heap.size + 1, 1, none⟩ (.slice none 0 0)).setCell ⟨w.heap.size + 1, 2, none⟩ (.slice none 0 0)).setCell ⟨w.heap.size + 1, 3, none⟩ (.slice none 0 0)).setCell ⟨w.heap.size + 1, 4, none⟩ (.bool false)) := (below_set (below_set (below_set (below_set (below_set HB1.out (by simp only; omega) (.int .i64 0)) (by simp only; omega) (.slice none 0 0)) (by simp only; omega) (.slice none 0 0)) (by simp only; omega) (.slice none 0 0)) (by simp only; omega) (.bool false))
      generalize (((((w1.setCell ⟨w.heap.size + 1, 0, none⟩ (.int .i64 0)).setCell ⟨w.heap.size + 1, 1, none⟩ (.slice none 0 0)).setCell ⟨w.heap.size + 1, 2, none⟩ (.slice none 0 0)).setCell ⟨w.heap.size + 1, 3, none⟩ (.slice none 0 0)).setCell ⟨w.heap.size + 1, 4, none⟩ (.bool false)) = WF at *
      have y0 := box_cell (j := 0) hRC rfl
      have y1 := box_cell (j := 1) hRC rfl
      have y2 := box_cell (j := 2) hRC rfl
      have y3 := box_cell (j := 3) hRC rfl
      have y4 := box_cell (j := 4) hRC rfl
      refine bodyPost_ret (v := .tuple #[.agg #[.int .i64 0, .slice none 0 0, .slice none 0 0, .slice none 0 0, .bool false], .slice none 0 0, .slice none 0 0, .int .i64 2]) (by simp [results, Try.results31, go_sem, y0, y1, y2, y3, y4]) rfl ?_
      rw [HRR.out]
      exact ⟨_, _, _, _, _, _, _, fun _ => False, fun _ => False, fun _ => False, rfl, own_zeroC _ _, ownR_nil _ _ _, ownR_nil _ _ _, fun _ h => by rcases h with h | h | h <;> exact h.elim, fun _ h => h.elim, fun _ h => h.elim, fun _ h => h.elim, hBF⟩
end Go.Proofs.Ytgdmcdblhpdlmaa
