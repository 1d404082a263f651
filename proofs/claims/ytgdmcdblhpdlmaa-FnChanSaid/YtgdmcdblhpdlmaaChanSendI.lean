
/- The program's SendTo. -/

import Derived.Test.YtgdmcdblhpdlmaaChanCanI

import Derived.Test.YtgdmcdblhpdlmaaChanCut

import Derived.Test.YtgdmcdblhpdlmaaChanX

namespace Go.Proofs.Ytgdmcdblhpdlmaa
set_option linter.unusedSimpArgs false
set_option linter.unusedVariables false
open Go.RowKit

set_option maxRecDepth 100000 in
set_option maxHeartbeats 4000000 in
theorem implSendTo_any {w : World} {hi : Nat} {x : DChan} {vs : List Value} {v : Int} (h : layChan.see w hi x vs) (hhi : hi ≤ w.heap.size) (hn : szChan x ≤ 1048576) (hv : (Lit.int .i64 v).wf = true) :
    Calls Try.prog 13 #[.agg vs.toArray, .int .i64 v] w (MadeC w (sendR x v)) := by
  have hw0 := wf_cap h
  obtain ⟨A1, n1, c1, A2, n2, c2, A3, n3, c3, rfl, -, ⟨-, -, s1⟩, ⟨-, -, s2⟩, ⟨-, -, s3⟩⟩ := seeChan h
  have hn0 := hn
  unfold szChan at hn0
  have HSE := Lib.hid (fun (W : World) (hW : Below w.heap.size w W) => layChan.keep h (w' := W) fun k hk => hW.block k (by omega))
  have HCD := Lib.hid (fun (W : World) (hW : Below w.heap.size w W) => sendCode_any (v := v) (HSE.out W hW) (by have := hW.size; omega))
  have HCP := Lib.hid (fun (W : World) (hW : Below w.heap.size w W) => copyChan_any (HSE.out W hW) (by have := hW.size; omega) hn)
  have HR := Lib.hid (show sendR x v = if sendC x v = 0 then ((sendX x v).1, (sendX x v).2, 0) else (zeroC, zeroW, sendC x v) from rfl)
  clear s1 s2 s3 h HSE
  obtain ⟨cap, buf, sends, recvs, cl⟩ := x
  simp only at hw0 hn0
  generalize sendC ⟨cap, buf, sends, recvs, cl⟩ v = kd at *
  show Calls Try.prog 13 #[.agg #[.int .i64 cap, .slice A1 n1 c1, .slice A2 n2 c2, .slice A3 n3 c3, .bool cl], .int .i64 v] w _
  have HX0 := Lib.hid (show (((w.alloc (.cells #[.int .i64 cap, .slice A1 n1 c1, .slice A2 n2 c2, .slice A3 n3 c3, .bool cl] 26)).alloc (.cells #[.int .i64 0, .slice none 0 0, .slice none 0 0, .slice none 0 0, .bool false] 26)).alloc (.cells #[.int .i64 0, .int .i64 0, .int .i64 0] 29)).heap[w.heap.size]? = some (.cells #[.int .i64 cap, .slice A1 n1 c1, .slice A2 n2 c2, .slice A3 n3 c3, .bool cl] 26 (0, 0)) from by have := box_new w #[.int .i64 cap, .slice A1 n1 c1, .slice A2 n2 c2, .slice A3 n3 c3, .bool cl] 26; exact box_keep (box_keep this ((Below.refl _ _).alloc (Nat.le_refl _) _) (by simp)) ((Below.refl _ _).alloc (Nat.le_refl _) _) (by simp; omega))
  have HRc0 := Lib.hid (show (((w.alloc (.cells #[.int .i64 cap, .slice A1 n1 c1, .slice A2 n2 c2, .slice A3 n3 c3, .bool cl] 26)).alloc (.cells #[.int .i64 0, .slice none 0 0, .slice none 0 0, .slice none 0 0, .bool false] 26)).alloc (.cells #[.int .i64 0, .int .i64 0, .int .i64 0] 29)).heap[w.heap.size + 1]? = some (.cells #[.int .i64 0, .slice none 0 0, .slice none 0 0, .slice none 0 0, .bool false] 26 (0, 0)) from by have := box_new (w.alloc (.cells #[.int .i64 cap, .slice A1 n1 c1, .slice A2 n2 c2, .slice A3 n3 c3, .bool cl] 26)) #[.int .i64 0, .slice none 0 0, .slice none 0 0, .slice none 0 0, .bool false] 26; rw [World.size_alloc] at this; exact box_keep this ((Below.refl _ _).alloc (Nat.le_refl _) _) (by simp))
  have HRw0 := Lib.hid (show (((w.alloc (.cells #[.int .i64 cap, .slice A1 n1 c1, .slice A2 n2 c2, .slice A3 n3 c3, .bool cl] 26)).alloc (.cells #[.int .i64 0, .slice none 0 0, .slice none 0 0, .slice none 0 0, .bool false] 26)).alloc (.cells #[.int .i64 0, .int .i64 0, .int .i64 0] 29)).heap[w.heap.size + 2]? = some (.cells #[.int .i64 0, .int .i64 0, .int .i64 0] 29 (0, 0)) from by have := box_new ((w.alloc (.cells #[.int .i64 cap, .slice A1 n1 c1, .slice A2 n2 c2, .slice A3 n3 c3, .bool cl] 26)).alloc (.cells #[.int .i64 0, .slice none 0 0, .slice none 0 0, .slice none 0 0, .bool false] 26)) #[.int .i64 0, .int .i64 0, .int .i64 0] 29; rw [World.size_alloc, World.size_alloc] at this; exact this)
  have HB0 := Lib.hid (show Below w.heap.size w (((w.alloc (.cells #[.int .i64 cap, .slice A1 n1 c1, .slice A2 n2 c2, .slice A3 n3 c3, .bool cl] 26)).alloc (.cells #[.int .i64 0, .slice none 0 0, .slice none 0 0, .slice none 0 0, .bool false] 26)).alloc (.cells #[.int .i64 0, .int .i64 0, .int .i64 0] 29)) by go_grown)
  have zz0 : w.heap.size + 3 ≤ (((w.alloc (.cells #[.int .i64 cap, .slice A1 n1 c1, .slice A2 n2 c2, .slice A3 n3 c3, .bool cl] 26)).alloc (.cells #[.int .i64 0, .slice none 0 0, .slice none 0 0, .slice none 0 0, .bool false] 26)).alloc (.cells #[.int .i64 0, .int .i64 0, .int .i64 0] 29)).heap.size := by simp
  go_enter Try.func13, Try.ntmps13
  go_upto_region 1 with (fail)
  generalize (((w.alloc (.cells #[.int .i64 cap, .slice A1 n1 c1, .slice A2 n2 c2, .slice A3 n3 c3, .bool cl] 26)).alloc (.cells #[.int .i64 0, .slice none 0 0, .slice none 0 0, .slice none 0 0, .bool false] 26)).alloc (.cells #[.int .i64 0, .int .i64 0, .int .i64 0] 29)) = w0 at *
  have q0 := box_cell (j := 0) HX0.out rfl
  have q1 := box_cell (j := 1) HX0.out rfl
  have q2 := box_cell (j := 2) HX0.out rfl
  have q3 := box_cell (j := 3) HX0.out rfl
  have q4 := box_cell (j := 4) HX0.out rfl
  go_wp2_with fail
  refine (HCD.out _ HB0.out).mono ?_
  rintro e w1 ⟨rfl, hb1⟩
  have zz1 : w.heap.size + 3 ≤ w1.heap.size := Nat.le_trans zz0 hb1.size
  have HX1 := Lib.hid (box_keep HX0.out hb1 (by omega))
  have HRc1 := Lib.hid (box_keep HRc0.out hb1 (by omega))
  have HRw1 := Lib.hid (box_keep HRw0.out hb1 (by omega))
  have HB1 := Lib.hid (HB0.out.trans (hb1.mono (by omega)))
  clear hb1 q0 q1 q2 q3 q4
  by_cases hk : kd = 0
  · subst hk
    rw [if_pos rfl] at HR
    have q0 := box_cell (j := 0) HX1.out rfl
    have q1 := box_cell (j := 1) HX1.out rfl
    have q2 := box_cell (j := 2) HX1.out rfl
    have q3 := box_cell (j := 3) HX1.out rfl
    have q4 := box_cell (j := 4) HX1.out rfl
    have f0 := box_free HX1.out 0
    have f1 := box_free HX1.out 1
    have f2 := box_free HX1.out 2
    have f3 := box_free HX1.out 3
    have f4 := box_free HX1.out 4
    go_wp2_with fail
    refine (HCP.out _ HB1.out).mono ?_
    rintro e w2 ⟨hb2, B1, e1, B2, e2, B3, e3, F1, F2, F3, rfl, o1, o2, o3, hF, d12, d13, d23⟩
    simp only at o1 o2 o3
    have zz2 : w1.heap.size ≤ w2.heap.size := hb2.size
    have HX2 := Lib.hid (box_keep HX1.out hb2 (by omega))
    have HRc2 := Lib.hid (box_keep HRc1.out hb2 (by omega))
    have HRw2 := Lib.hid (box_keep HRw1.out hb2 (by omega))
    have HB2 := Lib.hid (HB1.out.trans (hb2.mono (by omega)))
    have HF := Lib.hid hF
    have hlow : ∀ g, g < w1.heap.size → ¬ F1 g ∧ ¬ F2 g ∧ ¬ F3 g := fun g hg => ⟨fun h => by have := hF g (.inl h); omega, fun h => by have := hF g (.inr (.inl h)); omega, fun h => by have := hF g (.inr (.inr h)); omega⟩
    have HLOW := Lib.hid hlow
    have HO1 := Lib.hid o1
    have HO2 := Lib.hid o2
    have HO3 := Lib.hid o3
    have HD := Lib.hid (And.intro d12 (And.intro d13 d23))
    clear hb2 o1 o2 o3 hF hlow d12 d13 d23 q0 q1 q2 q3 q4 f0 f1 f2 f3 f4
    have q0 := box_cell (j := 0) HX2.out rfl
    have q1 := box_cell (j := 1) HX2.out rfl
    have q2 := box_cell (j := 2) HX2.out rfl
    have q3 := box_cell (j := 3) HX2.out rfl
    have q4 := box_cell (j := 4) HX2.out rfl
    have f0 := box_free HX2.out 0
    have f1 := box_free HX2.out 1
    have f2 := box_free HX2.out 2
    have f3 := box_free HX2.out 3
    have f4 := box_free HX2.out 4
    go_upto_region 5 with (fail)
    have HX3 := Lib.hid (show (((((w2.setCell ⟨w.heap.size, 0, none⟩ (.int .i64 cap)).setCell ⟨w.heap.size, 1, none⟩ (.slice B1 buf.length e1)).setCell ⟨w.heap.size, 2, none⟩ (.slice B2 sends.length e2)).setCell ⟨w.heap.size, 3, none⟩ (.slice B3 recvs.length e3)).setCell ⟨w.heap.size, 4, none⟩ (.bool cl)).heap[w.heap.size]? = some (.cells #[.int .i64 cap, .slice B1 buf.length e1, .slice B2 sends.length e2, .slice B3 recvs.length e3, .bool cl] 26 (0, 0)) from (box_set (j := 4) (u := .bool cl) (box_set (j := 3) (u := .slice B3 recvs.length e3) (box_set (j := 2) (u := .slice B2 sends.length e2) (box_set (j := 1) (u := .slice B1 buf.length e1) (box_set (j := 0) (u := .int .i64 cap) HX2.out))))))
    have HRc3 := Lib.hid (show (((((w2.setCell ⟨w.heap.size, 0, none⟩ (.int .i64 cap)).setCell ⟨w.heap.size, 1, none⟩ (.slice B1 buf.length e1)).setCell ⟨w.heap.size, 2, none⟩ (.slice B2 sends.length e2)).setCell ⟨w.heap.size, 3, none⟩ (.slice B3 recvs.length e3)).setCell ⟨w.heap.size, 4, none⟩ (.bool cl)).heap[w.heap.size + 1]? = some (.cells #[.int .i64 0, .slice none 0 0, .slice none 0 0, .slice none 0 0, .bool false] 26 (0, 0)) from ((Below.heap_setCell ((((w2.setCell ⟨w.heap.size, 0, none⟩ (.int .i64 cap)).setCell ⟨w.heap.size, 1, none⟩ (.slice B1 buf.length e1)).setCell ⟨w.heap.size, 2, none⟩ (.slice B2 sends.length e2)).setCell ⟨w.heap.size, 3, none⟩ (.slice B3 recvs.length e3)) ⟨w.heap.size, 4, none⟩ (.bool cl) (w.heap.size + 1) (by simp only; omega)).trans ((Below.heap_setCell (((w2.setCell ⟨w.heap.size, 0, none⟩ (.int .i64 cap)).setCell ⟨w.heap.size, 1, none⟩ (.slice B1 buf.length e1)).setCell ⟨w.heap.size, 2, none⟩ (.slice B2 sends.length e2)) ⟨w.heap.size, 3, none⟩ (.slice B3 recvs.length e3) (w.heap.size + 1) (by simp only; omega)).trans ((Below.heap_setCell ((w2.setCell ⟨w.heap.size, 0, none⟩ (.int .i64 cap)).setCell ⟨w.heap.size, 1, none⟩ (.slice B1 buf.length e1)) ⟨w.heap.size, 2, none⟩ (.slice B2 sends.length e2) (w.heap.size + 1) (by simp only; omega)).trans ((Below.heap_setCell (w2.setCell ⟨w.heap.size, 0, none⟩ (.int .i64 cap)) ⟨w.heap.size, 1, none⟩ (.slice B1 buf.length e1) (w.heap.size + 1) (by simp only; omega)).trans ((Below.heap_setCell w2 ⟨w.heap.size, 0, none⟩ (.int .i64 cap) (w.heap.size + 1) (by simp only; omega)).trans HRc2.out))))))
    have HRw3 := Lib.hid (show (((((w2.setCell ⟨w.heap.size, 0, none⟩ (.int .i64 cap)).setCell ⟨w.heap.size, 1, none⟩ (.slice B1 buf.length e1)).setCell ⟨w.heap.size, 2, none⟩ (.slice B2 sends.length e2)).setCell ⟨w.heap.size, 3, none⟩ (.slice B3 recvs.length e3)).setCell ⟨w.heap.size, 4, none⟩ (.bool cl)).heap[w.heap.size + 2]? = some (.cells #[.int .i64 0, .int .i64 0, .int .i64 0] 29 (0, 0)) from ((Below.heap_setCell ((((w2.setCell ⟨w.heap.size, 0, none⟩ (.int .i64 cap)).setCell ⟨w.heap.size, 1, none⟩ (.slice B1 buf.length e1)).setCell ⟨w.heap.size, 2, none⟩ (.slice B2 sends.length e2)).setCell ⟨w.heap.size, 3, none⟩ (.slice B3 recvs.length e3)) ⟨w.heap.size, 4, none⟩ (.bool cl) (w.heap.size + 2) (by simp only; omega)).trans ((Below.heap_setCell (((w2.setCell ⟨w.heap.size, 0, none⟩ (.int .i64 cap)).setCell ⟨w.heap.size, 1, none⟩ (.slice B1 buf.length e1)).setCell ⟨w.heap.size, 2, none⟩ (.slice B2 sends.length e2)) ⟨w.heap.size, 3, none⟩ (.slice B3 recvs.length e3) (w.heap.size + 2) (by simp only; omega)).trans ((Below.heap_setCell ((w2.setCell ⟨w.heap.size, 0, none⟩ (.int .i64 cap)).setCell ⟨w.heap.size, 1, none⟩ (.slice B1 buf.length e1)) ⟨w.heap.size, 2, none⟩ (.slice B2 sends.length e2) (w.heap.size + 2) (by simp only; omega)).trans ((Below.heap_setCell (w2.setCell ⟨w.heap.size, 0, none⟩ (.int .i64 cap)) ⟨w.heap.size, 1, none⟩ (.slice B1 buf.length e1) (w.heap.size + 2) (by simp only; omega)).trans ((Below.heap_setCell w2 ⟨w.heap.size, 0, none⟩ (.int .i64 cap) (w.heap.size + 2) (by simp only; omega)).trans HRw2.out))))))
    have HB3 := Lib.hid (show Below w.heap.size w (((((w2.setCell ⟨w.heap.size, 0, none⟩ (.int .i64 cap)).setCell ⟨w.heap.size, 1, none⟩ (.slice B1 buf.length e1)).setCell ⟨w.heap.size, 2, none⟩ (.slice B2 sends.length e2)).setCell ⟨w.heap.size, 3, none⟩ (.slice B3 recvs.length e3)).setCell ⟨w.heap.size, 4, none⟩ (.bool cl)) from (below_set (below_set (below_set (below_set (below_set HB2.out (by simp only; omega) (.int .i64 cap)) (by simp only; omega) (.slice B1 buf.length e1)) (by simp only; omega) (.slice B2 sends.length e2)) (by simp only; omega) (.slice B3 recvs.length e3)) (by simp only; omega) (.bool cl)))
    have HP1 := Lib.hid (OwnR.setCell (o := 4) (g := w.heap.size) (OwnR.setCell (o := 3) (g := w.heap.size) (OwnR.setCell (o := 2) (g := w.heap.size) (OwnR.setCell (o := 1) (g := w.heap.size) (OwnR.setCell (o := 0) (g := w.heap.size) HO1.out (HLOW.out _ (by omega)).1 (.int .i64 cap)) (HLOW.out _ (by omega)).1 (.slice B1 buf.length e1)) (HLOW.out _ (by omega)).1 (.slice B2 sends.length e2)) (HLOW.out _ (by omega)).1 (.slice B3 recvs.length e3)) (HLOW.out _ (by omega)).1 (.bool cl))
    have HP2 := Lib.hid (OwnR.setCell (o := 4) (g := w.heap.size) (OwnR.setCell (o := 3) (g := w.heap.size) (OwnR.setCell (o := 2) (g := w.heap.size) (OwnR.setCell (o := 1) (g := w.heap.size) (OwnR.setCell (o := 0) (g := w.heap.size) HO2.out (HLOW.out _ (by omega)).2.1 (.int .i64 cap)) (HLOW.out _ (by omega)).2.1 (.slice B1 buf.length e1)) (HLOW.out _ (by omega)).2.1 (.slice B2 sends.length e2)) (HLOW.out _ (by omega)).2.1 (.slice B3 recvs.length e3)) (HLOW.out _ (by omega)).2.1 (.bool cl))
    have HP3 := Lib.hid (OwnR.setCell (o := 4) (g := w.heap.size) (OwnR.setCell (o := 3) (g := w.heap.size) (OwnR.setCell (o := 2) (g := w.heap.size) (OwnR.setCell (o := 1) (g := w.heap.size) (OwnR.setCell (o := 0) (g := w.heap.size) HO3.out (HLOW.out _ (by omega)).2.2 (.int .i64 cap)) (HLOW.out _ (by omega)).2.2 (.slice B1 buf.length e1)) (HLOW.out _ (by omega)).2.2 (.slice B2 sends.length e2)) (HLOW.out _ (by omega)).2.2 (.slice B3 recvs.length e3)) (HLOW.out _ (by omega)).2.2 (.bool cl))
    have hzz := Lib.hid (show (((((w2.setCell ⟨w.heap.size, 0, none⟩ (.int .i64 cap)).setCell ⟨w.heap.size, 1, none⟩ (.slice B1 buf.length e1)).setCell ⟨w.heap.size, 2, none⟩ (.slice B2 sends.length e2)).setCell ⟨w.heap.size, 3, none⟩ (.slice B3 recvs.length e3)).setCell ⟨w.heap.size, 4, none⟩ (.bool cl)).heap.size = w2.heap.size by simp [World.setCell])
    clear q0 q1 q2 q3 q4 f0 f1 f2 f3 f4 HX2 HRc2 HRw2 HB2 HO1 HO2 HO3
    generalize (((((w2.setCell ⟨w.heap.size, 0, none⟩ (.int .i64 cap)).setCell ⟨w.heap.size, 1, none⟩ (.slice B1 buf.length e1)).setCell ⟨w.heap.size, 2, none⟩ (.slice B2 sends.length e2)).setCell ⟨w.heap.size, 3, none⟩ (.slice B3 recvs.length e3)).setCell ⟨w.heap.size, 4, none⟩ (.bool cl)) = w3 at *
    have zz_w3 := Nat.le_of_eq hzz.out
    have yy_w3 := Nat.le_of_eq hzz.out.symm
    clear hzz
    have zz3 : w1.heap.size ≤ w3.heap.size := by omega
    have hal : Below w3.heap.size w3 (w3.alloc (.cells #[.int .i64 (-1), .int .i64 0, .int .i64 0] 29)) := (Below.refl _ _).alloc (Nat.le_refl _) _
    have HX4 := Lib.hid (box_keep HX3.out hal (by omega))
    have HRc4 := Lib.hid (box_keep HRc3.out hal (by omega))
    have HRw4 := Lib.hid (box_keep HRw3.out hal (by omega))
    have HWx4 := Lib.hid (box_new w3 #[.int .i64 (-1), .int .i64 0, .int .i64 0] 29)
    have HB4 := Lib.hid (HB3.out.trans (hal.mono (by omega)))
    have HQ1 := Lib.hid (HP1.out.stay (w' := (w3.alloc (.cells #[.int .i64 (-1), .int .i64 0, .int .i64 0] 29))) (fun g hg hlt => hal.block g hlt) hal.size)
    have HQ2 := Lib.hid (HP2.out.stay (w' := (w3.alloc (.cells #[.int .i64 (-1), .int .i64 0, .int .i64 0] 29))) (fun g hg hlt => hal.block g hlt) hal.size)
    have HQ3 := Lib.hid (HP3.out.stay (w' := (w3.alloc (.cells #[.int .i64 (-1), .int .i64 0, .int .i64 0] 29))) (fun g hg hlt => hal.block g hlt) hal.size)
    have hz4 : (w3.alloc (.cells #[.int .i64 (-1), .int .i64 0, .int .i64 0] 29)).heap.size = w3.heap.size + 1 := by simp
    have hz4b := Nat.le_of_eq hz4.symm
    replace hz4 := Nat.le_of_eq hz4
    clear hal HX3 HRc3 HRw3 HB3 HP1 HP2 HP3
    go_upto_region 6 with (fail)
    generalize (w3.alloc (.cells #[.int .i64 (-1), .int .i64 0, .int .i64 0] 29)) = w4 at *
    have q0 := box_cell (j := 0) HX4.out rfl
    have q1 := box_cell (j := 1) HX4.out rfl
    have q2 := box_cell (j := 2) HX4.out rfl
    have q3 := box_cell (j := 3) HX4.out rfl
    have q4 := box_cell (j := 4) HX4.out rfl
    have f0 := box_free HX4.out 0
    have f1 := box_free HX4.out 1
    have f2 := box_free HX4.out 2
    have f3 := box_free HX4.out 3
    have f4 := box_free HX4.out 4
    have u0 := box_cell (j := 0) HWx4.out rfl
    have u1 := box_cell (j := 1) HWx4.out rfl
    have u2 := box_cell (j := 2) HWx4.out rfl
    have t0 := box_free HWx4.out 0
    have t1 := box_free HWx4.out 1
    have t2 := box_free HWx4.out 2
    rcases recvs with _ | ⟨r, rs⟩
    · have hj := joinedV_any (v := v) HQ1.out (by omega) hv
      go_wp2_with fail
      refine hj.mono ?_
      rintro e w5 ⟨B4, e4, rfl, o4, hA4, hk5, hb5⟩
      have hz5 := hb5.size
      have HBL := Lib.hid HQ1.out.blk
      have hK : ∀ g, g < w4.heap.size → ¬ F1 g → w5.heap[g]? = w4.heap[g]? := fun g hg hn => hk5 g hg (fun e => hn (HBL.out g e))
      have hnw : ∀ g, blkA B4 = some g → F1 g ∨ w4.heap.size ≤ g := fun g hg => by
        rcases hA4 with h | ⟨g', h, h2⟩
        · exact .inl (HBL.out g (by rw [← h]; exact hg))
        · rw [hg] at h; injection h with h; exact .inr (by omega)
      have hlo : ∀ g, g < w1.heap.size → ¬ F1 g := fun g hg => (HLOW.out g hg).1
      have HX5 := Lib.hid ((hK (w.heap.size) (by omega) (hlo _ (by omega))).trans HX4.out)
      have HRc5 := Lib.hid ((hK (w.heap.size + 1) (by omega) (hlo _ (by omega))).trans HRc4.out)
      have HRw5 := Lib.hid ((hK (w.heap.size + 2) (by omega) (hlo _ (by omega))).trans HRw4.out)
      have HW5 := Lib.hid ((hK w3.heap.size (by omega) (fun h => by have := HF.out _ (.inl h); omega)).trans HWx4.out)
      have HB5 := Lib.hid (show Below w.heap.size w w5 from HB4.out.trans ⟨hb5.os, hb5.tape, hb5.output, hb5.size, fun k hk => hK k (by omega) (hlo _ (by omega))⟩)
      have HU2 := Lib.hid (HQ2.out.stay (w' := w5) (fun g hg hlt => hK g hlt (fun h => HD.out.1 g h hg)) hz5)
      have HU3 := Lib.hid (HQ3.out.stay (w' := w5) (fun g hg hlt => hK g hlt (fun h => HD.out.2.1 g h hg)) hz5)
      have HU1 := Lib.hid o4
      have HNW := Lib.hid hnw
      clear hk5 hb5 hA4 hK hnw o4 hlo q0 q1 q2 q3 q4 f0 f1 f2 f3 f4 u0 u1 u2 t0 t1 t2
      have f0 := box_free HX5.out 0
      have f1 := box_free HX5.out 1
      have f2 := box_free HX5.out 2
      have f3 := box_free HX5.out 3
      have f4 := box_free HX5.out 4
      have q0 := box_cell (j := 0) HX5.out rfl
      have q1 := box_cell (j := 1) HX5.out rfl
      have q2 := box_cell (j := 2) HX5.out rfl
      have q3 := box_cell (j := 3) HX5.out rfl
      have q4 := box_cell (j := 4) HX5.out rfl
      go_upto_region 9 with (fail)
      have HX6 := Lib.hid (show (w5.setCell ⟨w.heap.size, 1, none⟩ (.slice B4 (buf.length + 1) e4)).heap[w.heap.size]? = some (.cells #[.int .i64 cap, .slice B4 (buf.length + 1) e4, .slice B2 sends.length e2, .slice B3 0 e3, .bool cl] 26 (0, 0)) from (box_set (j := 1) (u := .slice B4 (buf.length + 1) e4) HX5.out))
      have HRc6 := Lib.hid (show (w5.setCell ⟨w.heap.size, 1, none⟩ (.slice B4 (buf.length + 1) e4)).heap[w.heap.size + 1]? = some (.cells #[.int .i64 0, .slice none 0 0, .slice none 0 0, .slice none 0 0, .bool false] 26 (0, 0)) from ((Below.heap_setCell w5 ⟨w.heap.size, 1, none⟩ (.slice B4 (buf.length + 1) e4) (w.heap.size + 1) (by simp only; omega)).trans HRc5.out))
      have HRw6 := Lib.hid (show (w5.setCell ⟨w.heap.size, 1, none⟩ (.slice B4 (buf.length + 1) e4)).heap[w.heap.size + 2]? = some (.cells #[.int .i64 0, .int .i64 0, .int .i64 0] 29 (0, 0)) from ((Below.heap_setCell w5 ⟨w.heap.size, 1, none⟩ (.slice B4 (buf.length + 1) e4) (w.heap.size + 2) (by simp only; omega)).trans HRw5.out))
      have HW6 := Lib.hid (show (w5.setCell ⟨w.heap.size, 1, none⟩ (.slice B4 (buf.length + 1) e4)).heap[w3.heap.size]? = some (.cells #[.int .i64 (-1), .int .i64 0, .int .i64 0] 29 (0, 0)) from ((Below.heap_setCell w5 ⟨w.heap.size, 1, none⟩ (.slice B4 (buf.length + 1) e4) (w3.heap.size) (by simp only; omega)).trans HW5.out))
      have HB6 := Lib.hid (show Below w.heap.size w (w5.setCell ⟨w.heap.size, 1, none⟩ (.slice B4 (buf.length + 1) e4)) from (below_set HB5.out (by simp only; omega) (.slice B4 (buf.length + 1) e4)))
      have HS1 := Lib.hid (OwnR.setCell (o := 1) (g := w.heap.size) HU1.out (fun h => by rcases HNW.out _ h with h | h; exact (HLOW.out _ (by omega)).1 h; omega) (.slice B4 (buf.length + 1) e4))
      have HS2 := Lib.hid (OwnR.setCell (o := 1) (g := w.heap.size) HU2.out (HLOW.out _ (by omega)).2.1 (.slice B4 (buf.length + 1) e4))
      have HS3 := Lib.hid (OwnR.setCell (o := 1) (g := w.heap.size) HU3.out (HLOW.out _ (by omega)).2.2 (.slice B4 (buf.length + 1) e4))
      have hzz := Lib.hid (show (w5.setCell ⟨w.heap.size, 1, none⟩ (.slice B4 (buf.length + 1) e4)).heap.size = w5.heap.size by simp [World.setCell])
      clear HX5 HRc5 HRw5 HW5 HB5 HU1 HU2 HU3 f0 f1 f2 f3 f4 q0 q1 q2 q3 q4
      generalize (w5.setCell ⟨w.heap.size, 1, none⟩ (.slice B4 (buf.length + 1) e4)) = w6 at *
      have zz_w6 := Nat.le_of_eq hzz.out
      have yy_w6 := Nat.le_of_eq hzz.out.symm
      clear hzz
      have HN6 := Lib.hid (show ∀ g, g < w1.heap.size → ¬ blkA B4 = some g ∧ ¬ F2 g ∧ ¬ F3 g from fun g hg => ⟨fun h => by rcases HNW.out _ h with h | h; exact (HLOW.out _ (by omega)).1 h; omega, (HLOW.out _ hg).2⟩)
      have HE6 := Lib.hid (show (∀ g, blkA B4 = some g → ¬ F2 g) ∧ (∀ g, blkA B4 = some g → ¬ F3 g) ∧ (∀ g, F2 g → ¬ F3 g) from ⟨fun g h h2 => by rcases HNW.out _ h with h | h; exact HD.out.1 g h h2; have := HF.out g (.inr (.inl h2)); omega, fun g h h2 => by rcases HNW.out _ h with h | h; exact HD.out.2.1 g h h2; have := HF.out g (.inr (.inr h2)); omega, HD.out.2.2⟩)
      have HG6 := Lib.hid (show ∀ g, blkA B4 = some g ∨ F2 g ∨ F3 g → w.heap.size ≤ g ∧ g < w6.heap.size from fun g hg => by
        rcases hg with h | h | h
        · have h2 := HS1.out.lt_blk h; rcases HNW.out _ h with h3 | h3
          · have := HF.out g (.inl h3); omega
          · omega
        · have := HF.out g (.inr (.inl h)); omega
        · have := HF.out g (.inr (.inr h)); omega)
      have m0 := box_cell (j := 0) HX6.out rfl
      have m1 := box_cell (j := 1) HX6.out rfl
      have m2 := box_cell (j := 2) HX6.out rfl
      have m3 := box_cell (j := 3) HX6.out rfl
      have m4 := box_cell (j := 4) HX6.out rfl
      have n0 := box_cell (j := 0) HW6.out rfl
      have n1 := box_cell (j := 1) HW6.out rfl
      have n2 := box_cell (j := 2) HW6.out rfl
      have g0 := box_free HRc6.out 0
      have g1 := box_free HRc6.out 1
      have g2 := box_free HRc6.out 2
      have g3 := box_free HRc6.out 3
      have g4 := box_free HRc6.out 4
      have h0 := box_free HRw6.out 0
      have h1 := box_free HRw6.out 1
      have h2 := box_free HRw6.out 2
      have a0 := box_cell (j := 0) HRc6.out rfl
      have a1 := box_cell (j := 1) HRc6.out rfl
      have a2 := box_cell (j := 2) HRc6.out rfl
      have a3 := box_cell (j := 3) HRc6.out rfl
      have a4 := box_cell (j := 4) HRc6.out rfl
      have b0 := box_cell (j := 0) HRw6.out rfl
      have b1 := box_cell (j := 1) HRw6.out rfl
      have b2 := box_cell (j := 2) HRw6.out rfl
      go_wp2_with fail
      go_region
      all_goals
        go_wp2_with fail
        have hRC0_0 : (w6.setCell ⟨w.heap.size + 1, 0, none⟩ (.int .i64 cap)).heap[w.heap.size + 1]? = some (.cells #[.int .i64 cap, .slice none 0 0, .slice none 0 0, .slice none 0 0, .bool false] 26 (0, 0)) := box_set (j := 0) (u := .int .i64 cap) HRc6.out
        have hRC0_1 : ((w6.setCell ⟨w.heap.size + 1, 0, none⟩ (.int .i64 cap)).setCell ⟨w.heap.size + 1, 1, none⟩ (.slice B4 (buf.length + 1) e4)).heap[w.heap.size + 1]? = some (.cells #[.int .i64 cap, .slice B4 (buf.length + 1) e4, .slice none 0 0, .slice none 0 0, .bool false] 26 (0, 0)) := box_set (j := 1) (u := .slice B4 (buf.length + 1) e4) hRC0_0
        clear hRC0_0
        have hRC0_2 : (((w6.setCell ⟨w.heap.size + 1, 0, none⟩ (.int .i64 cap)).setCell ⟨w.heap.size + 1, 1, none⟩ (.slice B4 (buf.length + 1) e4)).setCell ⟨w.heap.size + 1, 2, none⟩ (.slice B2 sends.length e2)).heap[w.heap.size + 1]? = some (.cells #[.int .i64 cap, .slice B4 (buf.length + 1) e4, .slice B2 sends.length e2, .slice none 0 0, .bool false] 26 (0, 0)) := box_set (j := 2) (u := .slice B2 sends.length e2) hRC0_1
        clear hRC0_1
        have hRC0_3 : ((((w6.setCell ⟨w.heap.size + 1, 0, none⟩ (.int .i64 cap)).setCell ⟨w.heap.size + 1, 1, none⟩ (.slice B4 (buf.length + 1) e4)).setCell ⟨w.heap.size + 1, 2, none⟩ (.slice B2 sends.length e2)).setCell ⟨w.heap.size + 1, 3, none⟩ (.slice B3 0 e3)).heap[w.heap.size + 1]? = some (.cells #[.int .i64 cap, .slice B4 (buf.length + 1) e4, .slice B2 sends.length e2, .slice B3 0 e3, .bool false] 26 (0, 0)) := box_set (j := 3) (u := .slice B3 0 e3) hRC0_2
        clear hRC0_2
        have hRC0_4 : (((((w6.setCell ⟨w.heap.size + 1, 0, none⟩ (.int .i64 cap)).setCell ⟨w.heap.size + 1, 1, none⟩ (.slice B4 (buf.length + 1) e4)).setCell ⟨w.heap.size + 1, 2, none⟩ (.slice B2 sends.length e2)).setCell ⟨w.heap.size + 1, 3, none⟩ (.slice B3 0 e3)).setCell ⟨w.heap.size + 1, 4, none⟩ (.bool cl)).heap[w.heap.size + 1]? = some (.cells #[.int .i64 cap, .slice B4 (buf.length + 1) e4, .slice B2 sends.length e2, .slice B3 0 e3, .bool cl] 26 (0, 0)) := box_set (j := 4) (u := .bool cl) hRC0_3
        clear hRC0_3
        have hRC0_5 : ((((((w6.setCell ⟨w.heap.size + 1, 0, none⟩ (.int .i64 cap)).setCell ⟨w.heap.size + 1, 1, none⟩ (.slice B4 (buf.length + 1) e4)).setCell ⟨w.heap.size + 1, 2, none⟩ (.slice B2 sends.length e2)).setCell ⟨w.heap.size + 1, 3, none⟩ (.slice B3 0 e3)).setCell ⟨w.heap.size + 1, 4, none⟩ (.bool cl)).setCell ⟨w.heap.size + 2, 0, none⟩ (.int .i64 (-1))).heap[w.heap.size + 1]? = some (.cells #[.int .i64 cap, .slice B4 (buf.length + 1) e4, .slice B2 sends.length e2, .slice B3 0 e3, .bool cl] 26 (0, 0)) := (Below.heap_setCell (((((w6.setCell ⟨w.heap.size + 1, 0, none⟩ (.int .i64 cap)).setCell ⟨w.heap.size + 1, 1, none⟩ (.slice B4 (buf.length + 1) e4)).setCell ⟨w.heap.size + 1, 2, none⟩ (.slice B2 sends.length e2)).setCell ⟨w.heap.size + 1, 3, none⟩ (.slice B3 0 e3)).setCell ⟨w.heap.size + 1, 4, none⟩ (.bool cl)) ⟨w.heap.size + 2, 0, none⟩ (.int .i64 (-1)) (w.heap.size + 1) (by simp only; omega)).trans hRC0_4
        clear hRC0_4
        have hRC0_6 : (((((((w6.setCell ⟨w.heap.size + 1, 0, none⟩ (.int .i64 cap)).setCell ⟨w.heap.size + 1, 1, none⟩ (.slice B4 (buf.length + 1) e4)).setCell ⟨w.heap.size + 1, 2, none⟩ (.slice B2 sends.length e2)).setCell ⟨w.heap.size + 1, 3, none⟩ (.slice B3 0 e3)).setCell ⟨w.heap.size + 1, 4, none⟩ (.bool cl)).setCell ⟨w.heap.size + 2, 0, none⟩ (.int .i64 (-1))).setCell ⟨w.heap.size + 2, 1, none⟩ (.int .i64 0)).heap[w.heap.size + 1]? = some (.cells #[.int .i64 cap, .slice B4 (buf.length + 1) e4, .slice B2 sends.length e2, .slice B3 0 e3, .bool cl] 26 (0, 0)) := (Below.heap_setCell ((((((w6.setCell ⟨w.heap.size + 1, 0, none⟩ (.int .i64 cap)).setCell ⟨w.heap.size + 1, 1, none⟩ (.slice B4 (buf.length + 1) e4)).setCell ⟨w.heap.size + 1, 2, none⟩ (.slice B2 sends.length e2)).setCell ⟨w.heap.size + 1, 3, none⟩ (.slice B3 0 e3)).setCell ⟨w.heap.size + 1, 4, none⟩ (.bool cl)).setCell ⟨w.heap.size + 2, 0, none⟩ (.int .i64 (-1))) ⟨w.heap.size + 2, 1, none⟩ (.int .i64 0) (w.heap.size + 1) (by simp only; omega)).trans hRC0_5
        clear hRC0_5
        have hRC0_7 : ((((((((w6.setCell ⟨w.heap.size + 1, 0, none⟩ (.int .i64 cap)).setCell ⟨w.heap.size + 1, 1, none⟩ (.slice B4 (buf.length + 1) e4)).setCell ⟨w.heap.size + 1, 2, none⟩ (.slice B2 sends.length e2)).setCell ⟨w.heap.size + 1, 3, none⟩ (.slice B3 0 e3)).setCell ⟨w.heap.size + 1, 4, none⟩ (.bool cl)).setCell ⟨w.heap.size + 2, 0, none⟩ (.int .i64 (-1))).setCell ⟨w.heap.size + 2, 1, none⟩ (.int .i64 0)).setCell ⟨w.heap.size + 2, 2, none⟩ (.int .i64 0)).heap[w.heap.size + 1]? = some (.cells #[.int .i64 cap, .slice B4 (buf.length + 1) e4, .slice B2 sends.length e2, .slice B3 0 e3, .bool cl] 26 (0, 0)) := (Below.heap_setCell (((((((w6.setCell ⟨w.heap.size + 1, 0, none⟩ (.int .i64 cap)).setCell ⟨w.heap.size + 1, 1, none⟩ (.slice B4 (buf.length + 1) e4)).setCell ⟨w.heap.size + 1, 2, none⟩ (.slice B2 sends.length e2)).setCell ⟨w.heap.size + 1, 3, none⟩ (.slice B3 0 e3)).setCell ⟨w.heap.size + 1, 4, none⟩ (.bool cl)).setCell ⟨w.heap.size + 2, 0, none⟩ (.int .i64 (-1))).setCell ⟨w.heap.size + 2, 1, none⟩ (.int .i64 0)) ⟨w.heap.size + 2, 2, none⟩ (.int .i64 0) (w.heap.size + 1) (by simp only; omega)).trans hRC0_6
        clear hRC0_6
        have hRC0 := hRC0_7
        clear hRC0_7
        have hRW0_0 : (w6.setCell ⟨w.heap.size + 1, 0, none⟩ (.int .i64 cap)).heap[w.heap.size + 2]? = some (.cells #[.int .i64 0, .int .i64 0, .int .i64 0] 29 (0, 0)) := (Below.heap_setCell w6 ⟨w.heap.size + 1, 0, none⟩ (.int .i64 cap) (w.heap.size + 2) (by simp only; omega)).trans HRw6.out
        have hRW0_1 : ((w6.setCell ⟨w.heap.size + 1, 0, none⟩ (.int .i64 cap)).setCell ⟨w.heap.size + 1, 1, none⟩ (.slice B4 (buf.length + 1) e4)).heap[w.heap.size + 2]? = some (.cells #[.int .i64 0, .int .i64 0, .int .i64 0] 29 (0, 0)) := (Below.heap_setCell (w6.setCell ⟨w.heap.size + 1, 0, none⟩ (.int .i64 cap)) ⟨w.heap.size + 1, 1, none⟩ (.slice B4 (buf.length + 1) e4) (w.heap.size + 2) (by simp only; omega)).trans hRW0_0
        clear hRW0_0
        have hRW0_2 : (((w6.setCell ⟨w.heap.size + 1, 0, none⟩ (.int .i64 cap)).setCell ⟨w.heap.size + 1, 1, none⟩ (.slice B4 (buf.length + 1) e4)).setCell ⟨w.heap.size + 1, 2, none⟩ (.slice B2 sends.length e2)).heap[w.heap.size + 2]? = some (.cells #[.int .i64 0, .int .i64 0, .int .i64 0] 29 (0, 0)) := (Below.heap_setCell ((w6.setCell ⟨w.heap.size + 1, 0, none⟩ (.int .i64 cap)).setCell ⟨w.heap.size + 1, 1, none⟩ (.slice B4 (buf.length + 1) e4)) ⟨w.heap.size + 1, 2, none⟩ (.slice B2 sends.length e2) (w.heap.size + 2) (by simp only; omega)).trans hRW0_1
        clear hRW0_1
        have hRW0_3 : ((((w6.setCell ⟨w.heap.size + 1, 0, none⟩ (.int .i64 cap)).setCell ⟨w.heap.size + 1, 1, none⟩ (.slice B4 (buf.length + 1) e4)).setCell ⟨w.heap.size + 1, 2, none⟩ (.slice B2 sends.length e2)).setCell ⟨w.heap.size + 1, 3, none⟩ (.slice B3 0 e3)).heap[w.heap.size + 2]? = some (.cells #[.int .i64 0, .int .i64 0, .int .i64 0] 29 (0, 0)) := (Below.heap_setCell (((w6.setCell ⟨w.heap.size + 1, 0, none⟩ (.int .i64 cap)).setCell ⟨w.heap.size + 1, 1, none⟩ (.slice B4 (buf.length + 1) e4)).setCell ⟨w.heap.size + 1, 2, none⟩ (.slice B2 sends.length e2)) ⟨w.heap.size + 1, 3, none⟩ (.slice B3 0 e3) (w.heap.size + 2) (by simp only; omega)).trans hRW0_2
        clear hRW0_2
        have hRW0_4 : (((((w6.setCell ⟨w.heap.size + 1, 0, none⟩ (.int .i64 cap)).setCell ⟨w.heap.size + 1, 1, none⟩ (.slice B4 (buf.length + 1) e4)).setCell ⟨w.heap.size + 1, 2, none⟩ (.slice B2 sends.length e2)).setCell ⟨w.heap.size + 1, 3, none⟩ (.slice B3 0 e3)).setCell ⟨w.heap.size + 1, 4, none⟩ (.bool cl)).heap[w.heap.size + 2]? = some (.cells #[.int .i64 0, .int .i64 0, .int .i64 0] 29 (0, 0)) := (Below.heap_setCell ((((w6.setCell ⟨w.heap.size + 1, 0, none⟩ (.int .i64 cap)).setCell ⟨w.heap.size + 1, 1, none⟩ (.slice B4 (buf.length + 1) e4)).setCell ⟨w.heap.size + 1, 2, none⟩ (.slice B2 sends.length e2)).setCell ⟨w.heap.size + 1, 3, none⟩ (.slice B3 0 e3)) ⟨w.heap.size + 1, 4, none⟩ (.bool cl) (w.heap.size + 2) (by simp only; omega)).trans hRW0_3
        clear hRW0_3
        have hRW0_5 : ((((((w6.setCell ⟨w.heap.size + 1, 0, none⟩ (.int .i64 cap)).setCell ⟨w.heap.size + 1, 1, none⟩ (.slice B4 (buf.length + 1) e4)).setCell ⟨w.heap.size + 1, 2, none⟩ (.slice B2 sends.length e2)).setCell ⟨w.heap.size + 1, 3, none⟩ (.slice B3 0 e3)).setCell ⟨w.heap.size + 1, 4, none⟩ (.bool cl)).setCell ⟨w.heap.size + 2, 0, none⟩ (.int .i64 (-1))).heap[w.heap.size + 2]? = some (.cells #[.int .i64 (-1), .int .i64 0, .int .i64 0] 29 (0, 0)) := box_set (j := 0) (u := .int .i64 (-1)) hRW0_4
        clear hRW0_4
        have hRW0_6 : (((((((w6.setCell ⟨w.heap.size + 1, 0, none⟩ (.int .i64 cap)).setCell ⟨w.heap.size + 1, 1, none⟩ (.slice B4 (buf.length + 1) e4)).setCell ⟨w.heap.size + 1, 2, none⟩ (.slice B2 sends.length e2)).setCell ⟨w.heap.size + 1, 3, none⟩ (.slice B3 0 e3)).setCell ⟨w.heap.size + 1, 4, none⟩ (.bool cl)).setCell ⟨w.heap.size + 2, 0, none⟩ (.int .i64 (-1))).setCell ⟨w.heap.size + 2, 1, none⟩ (.int .i64 0)).heap[w.heap.size + 2]? = some (.cells #[.int .i64 (-1), .int .i64 0, .int .i64 0] 29 (0, 0)) := box_set (j := 1) (u := .int .i64 0) hRW0_5
        clear hRW0_5
        have hRW0_7 : ((((((((w6.setCell ⟨w.heap.size + 1, 0, none⟩ (.int .i64 cap)).setCell ⟨w.heap.size + 1, 1, none⟩ (.slice B4 (buf.length + 1) e4)).setCell ⟨w.heap.size + 1, 2, none⟩ (.slice B2 sends.length e2)).setCell ⟨w.heap.size + 1, 3, none⟩ (.slice B3 0 e3)).setCell ⟨w.heap.size + 1, 4, none⟩ (.bool cl)).setCell ⟨w.heap.size + 2, 0, none⟩ (.int .i64 (-1))).setCell ⟨w.heap.size + 2, 1, none⟩ (.int .i64 0)).setCell ⟨w.heap.size + 2, 2, none⟩ (.int .i64 0)).heap[w.heap.size + 2]? = some (.cells #[.int .i64 (-1), .int .i64 0, .int .i64 0] 29 (0, 0)) := box_set (j := 2) (u := .int .i64 0) hRW0_6
        clear hRW0_6
        have hRW0 := hRW0_7
        clear hRW0_7
        have hBF0 : Below w.heap.size w ((((((((w6.setCell ⟨w.heap.size + 1, 0, none⟩ (.int .i64 cap)).setCell ⟨w.heap.size + 1, 1, none⟩ (.slice B4 (buf.length + 1) e4)).setCell ⟨w.heap.size + 1, 2, none⟩ (.slice B2 sends.length e2)).setCell ⟨w.heap.size + 1, 3, none⟩ (.slice B3 0 e3)).setCell ⟨w.heap.size + 1, 4, none⟩ (.bool cl)).setCell ⟨w.heap.size + 2, 0, none⟩ (.int .i64 (-1))).setCell ⟨w.heap.size + 2, 1, none⟩ (.int .i64 0)).setCell ⟨w.heap.size + 2, 2, none⟩ (.int .i64 0)) := (below_set (below_set (below_set (below_set (below_set (below_set (below_set (below_set HB6.out (by simp only; omega) (.int .i64 cap)) (by simp only; omega) (.slice B4 (buf.length + 1) e4)) (by simp only; omega) (.slice B2 sends.length e2)) (by simp only; omega) (.slice B3 0 e3)) (by simp only; omega) (.bool cl)) (by simp only; omega) (.int .i64 (-1))) (by simp only; omega) (.int .i64 0)) (by simp only; omega) (.int .i64 0))
        have hO1_0 := OwnR.setCell (o := 0) (g := w.heap.size + 1) HS1.out (HN6.out _ (by omega)).1 (.int .i64 cap)
        have hO1_1 := OwnR.setCell (o := 1) (g := w.heap.size + 1) hO1_0 (HN6.out _ (by omega)).1 (.slice B4 (buf.length + 1) e4)
        clear hO1_0
        have hO1_2 := OwnR.setCell (o := 2) (g := w.heap.size + 1) hO1_1 (HN6.out _ (by omega)).1 (.slice B2 sends.length e2)
        clear hO1_1
        have hO1_3 := OwnR.setCell (o := 3) (g := w.heap.size + 1) hO1_2 (HN6.out _ (by omega)).1 (.slice B3 0 e3)
        clear hO1_2
        have hO1_4 := OwnR.setCell (o := 4) (g := w.heap.size + 1) hO1_3 (HN6.out _ (by omega)).1 (.bool cl)
        clear hO1_3
        have hO1_5 := OwnR.setCell (o := 0) (g := w.heap.size + 2) hO1_4 (HN6.out _ (by omega)).1 (.int .i64 (-1))
        clear hO1_4
        have hO1_6 := OwnR.setCell (o := 1) (g := w.heap.size + 2) hO1_5 (HN6.out _ (by omega)).1 (.int .i64 0)
        clear hO1_5
        have hO1_7 := OwnR.setCell (o := 2) (g := w.heap.size + 2) hO1_6 (HN6.out _ (by omega)).1 (.int .i64 0)
        clear hO1_6
        have hO1 := hO1_7
        clear hO1_7
        have hO2_0 := OwnR.setCell (o := 0) (g := w.heap.size + 1) HS2.out (HN6.out _ (by omega)).2.1 (.int .i64 cap)
        have hO2_1 := OwnR.setCell (o := 1) (g := w.heap.size + 1) hO2_0 (HN6.out _ (by omega)).2.1 (.slice B4 (buf.length + 1) e4)
        clear hO2_0
        have hO2_2 := OwnR.setCell (o := 2) (g := w.heap.size + 1) hO2_1 (HN6.out _ (by omega)).2.1 (.slice B2 sends.length e2)
        clear hO2_1
        have hO2_3 := OwnR.setCell (o := 3) (g := w.heap.size + 1) hO2_2 (HN6.out _ (by omega)).2.1 (.slice B3 0 e3)
        clear hO2_2
        have hO2_4 := OwnR.setCell (o := 4) (g := w.heap.size + 1) hO2_3 (HN6.out _ (by omega)).2.1 (.bool cl)
        clear hO2_3
        have hO2_5 := OwnR.setCell (o := 0) (g := w.heap.size + 2) hO2_4 (HN6.out _ (by omega)).2.1 (.int .i64 (-1))
        clear hO2_4
        have hO2_6 := OwnR.setCell (o := 1) (g := w.heap.size + 2) hO2_5 (HN6.out _ (by omega)).2.1 (.int .i64 0)
        clear hO2_5
        have hO2_7 := OwnR.setCell (o := 2) (g := w.heap.size + 2) hO2_6 (HN6.out _ (by omega)).2.1 (.int .i64 0)
        clear hO2_6
        have hO2 := hO2_7
        clear hO2_7
        have hO3_0 := OwnR.setCell (o := 0) (g := w.heap.size + 1) HS3.out (HN6.out _ (by omega)).2.2 (.int .i64 cap)
        have hO3_1 := OwnR.setCell (o := 1) (g := w.heap.size + 1) hO3_0 (HN6.out _ (by omega)).2.2 (.slice B4 (buf.length + 1) e4)
        clear hO3_0
        have hO3_2 := OwnR.setCell (o := 2) (g := w.heap.size + 1) hO3_1 (HN6.out _ (by omega)).2.2 (.slice B2 sends.length e2)
        clear hO3_1
        have hO3_3 := OwnR.setCell (o := 3) (g := w.heap.size + 1) hO3_2 (HN6.out _ (by omega)).2.2 (.slice B3 0 e3)
        clear hO3_2
        have hO3_4 := OwnR.setCell (o := 4) (g := w.heap.size + 1) hO3_3 (HN6.out _ (by omega)).2.2 (.bool cl)
        clear hO3_3
        have hO3_5 := OwnR.setCell (o := 0) (g := w.heap.size + 2) hO3_4 (HN6.out _ (by omega)).2.2 (.int .i64 (-1))
        clear hO3_4
        have hO3_6 := OwnR.setCell (o := 1) (g := w.heap.size + 2) hO3_5 (HN6.out _ (by omega)).2.2 (.int .i64 0)
        clear hO3_5
        have hO3_7 := OwnR.setCell (o := 2) (g := w.heap.size + 2) hO3_6 (HN6.out _ (by omega)).2.2 (.int .i64 0)
        clear hO3_6
        have hO3 := hO3_7
        clear hO3_7
        have hzF0 : ((((((((w6.setCell ⟨w.heap.size + 1, 0, none⟩ (.int .i64 cap)).setCell ⟨w.heap.size + 1, 1, none⟩ (.slice B4 (buf.length + 1) e4)).setCell ⟨w.heap.size + 1, 2, none⟩ (.slice B2 sends.length e2)).setCell ⟨w.heap.size + 1, 3, none⟩ (.slice B3 0 e3)).setCell ⟨w.heap.size + 1, 4, none⟩ (.bool cl)).setCell ⟨w.heap.size + 2, 0, none⟩ (.int .i64 (-1))).setCell ⟨w.heap.size + 2, 1, none⟩ (.int .i64 0)).setCell ⟨w.heap.size + 2, 2, none⟩ (.int .i64 0)).heap.size = w6.heap.size := by simp [World.setCell]
        generalize ((((((((w6.setCell ⟨w.heap.size + 1, 0, none⟩ (.int .i64 cap)).setCell ⟨w.heap.size + 1, 1, none⟩ (.slice B4 (buf.length + 1) e4)).setCell ⟨w.heap.size + 1, 2, none⟩ (.slice B2 sends.length e2)).setCell ⟨w.heap.size + 1, 3, none⟩ (.slice B3 0 e3)).setCell ⟨w.heap.size + 1, 4, none⟩ (.bool cl)).setCell ⟨w.heap.size + 2, 0, none⟩ (.int .i64 (-1))).setCell ⟨w.heap.size + 2, 1, none⟩ (.int .i64 0)).setCell ⟨w.heap.size + 2, 2, none⟩ (.int .i64 0)) = WE at *
        have hRC : WE.drew.heap[w.heap.size + 1]? = some (.cells #[.int .i64 cap, .slice B4 (buf.length + 1) e4, .slice B2 sends.length e2, .slice B3 0 e3, .bool cl] 26 (0, 0)) := hRC0
        have hRW : WE.drew.heap[w.heap.size + 2]? = some (.cells #[.int .i64 (-1), .int .i64 0, .int .i64 0] 29 (0, 0)) := hRW0
        have hBF : Below w.heap.size w WE.drew := below_drawn hBF0 1
        have hzF : WE.drew.heap.size = w6.heap.size := hzF0
        have hP1 := hO1.stay (w' := WE.drew) (fun _ _ _ => rfl) (Nat.le_refl _)
        have hP2 := hO2.stay (w' := WE.drew) (fun _ _ _ => rfl) (Nat.le_refl _)
        have hP3 := hO3.stay (w' := WE.drew) (fun _ _ _ => rfl) (Nat.le_refl _)
        clear hRC0 hRW0 hBF0 hzF0
        clear hO1 hO2 hO3
        generalize WE.drew = WF at *
        have y0 := box_cell (j := 0) hRC rfl
        have y1 := box_cell (j := 1) hRC rfl
        have y2 := box_cell (j := 2) hRC rfl
        have y3 := box_cell (j := 3) hRC rfl
        have y4 := box_cell (j := 4) hRC rfl
        have z0 := box_cell (j := 0) hRW rfl
        have z1 := box_cell (j := 1) hRW rfl
        have z2 := box_cell (j := 2) hRW rfl
        refine bodyPost_ret (v := .tuple #[.agg #[.int .i64 cap, .slice B4 (buf.length + 1) e4, .slice B2 sends.length e2, .slice B3 0 e3, .bool cl], .agg #[.int .i64 (-1), .int .i64 0, .int .i64 0], .int .i64 0]) (by simp [results, Try.results13, go_sem, y0, y1, y2, y3, y4, z0, z1, z2]) rfl ?_
        rw [HR.out]
        refine ⟨_, rfl, ownChan (x := (⟨cap, buf ++ [v], sends, [], cl⟩ : DChan)) hw0 (TailR.of (A := B4) (n := buf.length + 1) hP1) (TailR.of hP2) (TailR.of hP3) ?_ ?_ ?_ HE6.out.1 HE6.out.2.1 HE6.out.2.2, hBF⟩
        · exact fun g hg => by have := HG6.out g (.inl hg); omega
        · exact fun g hg => by have := HG6.out g (.inr (.inl hg)); omega
        · exact fun g hg => by have := HG6.out g (.inr (.inr hg)); omega
    · have hs3 := HQ3.out.seen (hi := w4.heap.size) fun g hg => by have := HF.out g (.inr (.inr hg)); omega
      go_wp2_with fail
      refine (leftW_any (n := rs.length) hs3 (Nat.le_refl _) (by simp at hn0; omega)).mono ?_
      rintro e w5 ⟨rfl, hb5⟩
      have hz5 := hb5.size
      have HX5 := Lib.hid (box_keep HX4.out hb5 (by omega))
      have HRc5 := Lib.hid (box_keep HRc4.out hb5 (by omega))
      have HRw5 := Lib.hid (box_keep HRw4.out hb5 (by omega))
      have HW5 := Lib.hid (box_keep HWx4.out hb5 (by omega))
      have HB5 := Lib.hid (HB4.out.trans (hb5.mono (by omega)))
      have HU1 := Lib.hid (HQ1.out.stay (w' := w5) (fun g hg hlt => hb5.block g hlt) hz5)
      have HU2 := Lib.hid (HQ2.out.stay (w' := w5) (fun g hg hlt => hb5.block g hlt) hz5)
      have HU3 := Lib.hid (TailR.cut (n := rs.length) (TailR.of (HQ3.out.stay (w' := w5) (fun g hg hlt => hb5.block g hlt) hz5)))
      clear hb5 hs3 q0 q1 q2 q3 q4 f0 f1 f2 f3 f4 u0 u1 u2 t0 t1 t2
      have f0 := box_free HX5.out 0
      have f1 := box_free HX5.out 1
      have f2 := box_free HX5.out 2
      have f3 := box_free HX5.out 3
      have f4 := box_free HX5.out 4
      have t0 := box_free HW5.out 0
      have t1 := box_free HW5.out 1
      have t2 := box_free HW5.out 2
      have q0 := box_cell (j := 0) HX5.out rfl
      have q1 := box_cell (j := 1) HX5.out rfl
      have q2 := box_cell (j := 2) HX5.out rfl
      have q3 := box_cell (j := 3) HX5.out rfl
      have q4 := box_cell (j := 4) HX5.out rfl
      have u0 := box_cell (j := 0) HW5.out rfl
      have u1 := box_cell (j := 1) HW5.out rfl
      have u2 := box_cell (j := 2) HW5.out rfl
      have HM5 := Lib.hid (show ∀ g, g < w1.heap.size ∨ g = w3.heap.size → ¬ F1 g ∧ ¬ F2 g ∧ ¬ F3 g from fun g hg => by
        rcases hg with hg | hg
        · exact HLOW.out g hg
        · exact ⟨fun h => by have := HF.out g (.inl h); omega, fun h => by have := HF.out g (.inr (.inl h)); omega, fun h => by have := HF.out g (.inr (.inr h)); omega⟩)
      go_upto_region 9 with (fail)
      have HX6 := Lib.hid (show ((((w5.setCell ⟨w3.heap.size, 0, none⟩ (.int .i64 r.fG)).setCell ⟨w3.heap.size, 1, none⟩ (.int .i64 r.fCase)).setCell ⟨w3.heap.size, 2, none⟩ (.int .i64 r.fVal)).setCell ⟨w.heap.size, 3, none⟩ (.slice (restA B3 3 e3) rs.length (e3 - 1))).heap[w.heap.size]? = some (.cells #[.int .i64 cap, .slice B1 buf.length e1, .slice B2 sends.length e2, .slice (restA B3 3 e3) rs.length (e3 - 1), .bool cl] 26 (0, 0)) from (box_set (j := 3) (u := .slice (restA B3 3 e3) rs.length (e3 - 1)) ((Below.heap_setCell ((w5.setCell ⟨w3.heap.size, 0, none⟩ (.int .i64 r.fG)).setCell ⟨w3.heap.size, 1, none⟩ (.int .i64 r.fCase)) ⟨w3.heap.size, 2, none⟩ (.int .i64 r.fVal) (w.heap.size) (by simp only; omega)).trans ((Below.heap_setCell (w5.setCell ⟨w3.heap.size, 0, none⟩ (.int .i64 r.fG)) ⟨w3.heap.size, 1, none⟩ (.int .i64 r.fCase) (w.heap.size) (by simp only; omega)).trans ((Below.heap_setCell w5 ⟨w3.heap.size, 0, none⟩ (.int .i64 r.fG) (w.heap.size) (by simp only; omega)).trans HX5.out)))))
      have HRc6 := Lib.hid (show ((((w5.setCell ⟨w3.heap.size, 0, none⟩ (.int .i64 r.fG)).setCell ⟨w3.heap.size, 1, none⟩ (.int .i64 r.fCase)).setCell ⟨w3.heap.size, 2, none⟩ (.int .i64 r.fVal)).setCell ⟨w.heap.size, 3, none⟩ (.slice (restA B3 3 e3) rs.length (e3 - 1))).heap[w.heap.size + 1]? = some (.cells #[.int .i64 0, .slice none 0 0, .slice none 0 0, .slice none 0 0, .bool false] 26 (0, 0)) from ((Below.heap_setCell (((w5.setCell ⟨w3.heap.size, 0, none⟩ (.int .i64 r.fG)).setCell ⟨w3.heap.size, 1, none⟩ (.int .i64 r.fCase)).setCell ⟨w3.heap.size, 2, none⟩ (.int .i64 r.fVal)) ⟨w.heap.size, 3, none⟩ (.slice (restA B3 3 e3) rs.length (e3 - 1)) (w.heap.size + 1) (by simp only; omega)).trans ((Below.heap_setCell ((w5.setCell ⟨w3.heap.size, 0, none⟩ (.int .i64 r.fG)).setCell ⟨w3.heap.size, 1, none⟩ (.int .i64 r.fCase)) ⟨w3.heap.size, 2, none⟩ (.int .i64 r.fVal) (w.heap.size + 1) (by simp only; omega)).trans ((Below.heap_setCell (w5.setCell ⟨w3.heap.size, 0, none⟩ (.int .i64 r.fG)) ⟨w3.heap.size, 1, none⟩ (.int .i64 r.fCase) (w.heap.size + 1) (by simp only; omega)).trans ((Below.heap_setCell w5 ⟨w3.heap.size, 0, none⟩ (.int .i64 r.fG) (w.heap.size + 1) (by simp only; omega)).trans HRc5.out)))))
      have HRw6 := Lib.hid (show ((((w5.setCell ⟨w3.heap.size, 0, none⟩ (.int .i64 r.fG)).setCell ⟨w3.heap.size, 1, none⟩ (.int .i64 r.fCase)).setCell ⟨w3.heap.size, 2, none⟩ (.int .i64 r.fVal)).setCell ⟨w.heap.size, 3, none⟩ (.slice (restA B3 3 e3) rs.length (e3 - 1))).heap[w.heap.size + 2]? = some (.cells #[.int .i64 0, .int .i64 0, .int .i64 0] 29 (0, 0)) from ((Below.heap_setCell (((w5.setCell ⟨w3.heap.size, 0, none⟩ (.int .i64 r.fG)).setCell ⟨w3.heap.size, 1, none⟩ (.int .i64 r.fCase)).setCell ⟨w3.heap.size, 2, none⟩ (.int .i64 r.fVal)) ⟨w.heap.size, 3, none⟩ (.slice (restA B3 3 e3) rs.length (e3 - 1)) (w.heap.size + 2) (by simp only; omega)).trans ((Below.heap_setCell ((w5.setCell ⟨w3.heap.size, 0, none⟩ (.int .i64 r.fG)).setCell ⟨w3.heap.size, 1, none⟩ (.int .i64 r.fCase)) ⟨w3.heap.size, 2, none⟩ (.int .i64 r.fVal) (w.heap.size + 2) (by simp only; omega)).trans ((Below.heap_setCell (w5.setCell ⟨w3.heap.size, 0, none⟩ (.int .i64 r.fG)) ⟨w3.heap.size, 1, none⟩ (.int .i64 r.fCase) (w.heap.size + 2) (by simp only; omega)).trans ((Below.heap_setCell w5 ⟨w3.heap.size, 0, none⟩ (.int .i64 r.fG) (w.heap.size + 2) (by simp only; omega)).trans HRw5.out)))))
      have HW6 := Lib.hid (show ((((w5.setCell ⟨w3.heap.size, 0, none⟩ (.int .i64 r.fG)).setCell ⟨w3.heap.size, 1, none⟩ (.int .i64 r.fCase)).setCell ⟨w3.heap.size, 2, none⟩ (.int .i64 r.fVal)).setCell ⟨w.heap.size, 3, none⟩ (.slice (restA B3 3 e3) rs.length (e3 - 1))).heap[w3.heap.size]? = some (.cells #[.int .i64 r.fG, .int .i64 r.fCase, .int .i64 r.fVal] 29 (0, 0)) from ((Below.heap_setCell (((w5.setCell ⟨w3.heap.size, 0, none⟩ (.int .i64 r.fG)).setCell ⟨w3.heap.size, 1, none⟩ (.int .i64 r.fCase)).setCell ⟨w3.heap.size, 2, none⟩ (.int .i64 r.fVal)) ⟨w.heap.size, 3, none⟩ (.slice (restA B3 3 e3) rs.length (e3 - 1)) (w3.heap.size) (by simp only; omega)).trans (box_set (j := 2) (u := .int .i64 r.fVal) (box_set (j := 1) (u := .int .i64 r.fCase) (box_set (j := 0) (u := .int .i64 r.fG) HW5.out)))))
      have HB6 := Lib.hid (show Below w.heap.size w ((((w5.setCell ⟨w3.heap.size, 0, none⟩ (.int .i64 r.fG)).setCell ⟨w3.heap.size, 1, none⟩ (.int .i64 r.fCase)).setCell ⟨w3.heap.size, 2, none⟩ (.int .i64 r.fVal)).setCell ⟨w.heap.size, 3, none⟩ (.slice (restA B3 3 e3) rs.length (e3 - 1))) from (below_set (below_set (below_set (below_set HB5.out (by simp only; omega) (.int .i64 r.fG)) (by simp only; omega) (.int .i64 r.fCase)) (by simp only; omega) (.int .i64 r.fVal)) (by simp only; omega) (.slice (restA B3 3 e3) rs.length (e3 - 1))))
      have HS1 := Lib.hid (OwnR.setCell (o := 3) (g := w.heap.size) (OwnR.setCell (o := 2) (g := w3.heap.size) (OwnR.setCell (o := 1) (g := w3.heap.size) (OwnR.setCell (o := 0) (g := w3.heap.size) HU1.out (HM5.out _ (by omega)).1 (.int .i64 r.fG)) (HM5.out _ (by omega)).1 (.int .i64 r.fCase)) (HM5.out _ (by omega)).1 (.int .i64 r.fVal)) (HM5.out _ (by omega)).1 (.slice (restA B3 3 e3) rs.length (e3 - 1)))
      have HS2 := Lib.hid (OwnR.setCell (o := 3) (g := w.heap.size) (OwnR.setCell (o := 2) (g := w3.heap.size) (OwnR.setCell (o := 1) (g := w3.heap.size) (OwnR.setCell (o := 0) (g := w3.heap.size) HU2.out (HM5.out _ (by omega)).2.1 (.int .i64 r.fG)) (HM5.out _ (by omega)).2.1 (.int .i64 r.fCase)) (HM5.out _ (by omega)).2.1 (.int .i64 r.fVal)) (HM5.out _ (by omega)).2.1 (.slice (restA B3 3 e3) rs.length (e3 - 1)))
      have HS3 := Lib.hid (TailR.setCell (o := 3) (g := w.heap.size) (TailR.setCell (o := 2) (g := w3.heap.size) (TailR.setCell (o := 1) (g := w3.heap.size) (TailR.setCell (o := 0) (g := w3.heap.size) HU3.out (HM5.out _ (by omega)).2.2 (.int .i64 r.fG)) (HM5.out _ (by omega)).2.2 (.int .i64 r.fCase)) (HM5.out _ (by omega)).2.2 (.int .i64 r.fVal)) (HM5.out _ (by omega)).2.2 (.slice (restA B3 3 e3) rs.length (e3 - 1)))
      have hzz := Lib.hid (show ((((w5.setCell ⟨w3.heap.size, 0, none⟩ (.int .i64 r.fG)).setCell ⟨w3.heap.size, 1, none⟩ (.int .i64 r.fCase)).setCell ⟨w3.heap.size, 2, none⟩ (.int .i64 r.fVal)).setCell ⟨w.heap.size, 3, none⟩ (.slice (restA B3 3 e3) rs.length (e3 - 1))).heap.size = w5.heap.size by simp [World.setCell])
      clear HX5 HRc5 HRw5 HW5 HB5 HU1 HU2 HU3 f0 f1 f2 f3 f4 q0 q1 q2 q3 q4 t0 t1 t2 u0 u1 u2
      generalize ((((w5.setCell ⟨w3.heap.size, 0, none⟩ (.int .i64 r.fG)).setCell ⟨w3.heap.size, 1, none⟩ (.int .i64 r.fCase)).setCell ⟨w3.heap.size, 2, none⟩ (.int .i64 r.fVal)).setCell ⟨w.heap.size, 3, none⟩ (.slice (restA B3 3 e3) rs.length (e3 - 1))) = w6 at *
      have zz_w6 := Nat.le_of_eq hzz.out
      have yy_w6 := Nat.le_of_eq hzz.out.symm
      clear hzz
      have HN6 := HLOW
      have HE6 := HD
      have HG6 := Lib.hid (show ∀ g, F1 g ∨ F2 g ∨ F3 g → w.heap.size ≤ g ∧ g < w6.heap.size from fun g hg => by have := HF.out g hg; omega)
      have m0 := box_cell (j := 0) HX6.out rfl
      have m1 := box_cell (j := 1) HX6.out rfl
      have m2 := box_cell (j := 2) HX6.out rfl
      have m3 := box_cell (j := 3) HX6.out rfl
      have m4 := box_cell (j := 4) HX6.out rfl
      have n0 := box_cell (j := 0) HW6.out rfl
      have n1 := box_cell (j := 1) HW6.out rfl
      have n2 := box_cell (j := 2) HW6.out rfl
      have g0 := box_free HRc6.out 0
      have g1 := box_free HRc6.out 1
      have g2 := box_free HRc6.out 2
      have g3 := box_free HRc6.out 3
      have g4 := box_free HRc6.out 4
      have h0 := box_free HRw6.out 0
      have h1 := box_free HRw6.out 1
      have h2 := box_free HRw6.out 2
      have a0 := box_cell (j := 0) HRc6.out rfl
      have a1 := box_cell (j := 1) HRc6.out rfl
      have a2 := box_cell (j := 2) HRc6.out rfl
      have a3 := box_cell (j := 3) HRc6.out rfl
      have a4 := box_cell (j := 4) HRc6.out rfl
      have b0 := box_cell (j := 0) HRw6.out rfl
      have b1 := box_cell (j := 1) HRw6.out rfl
      have b2 := box_cell (j := 2) HRw6.out rfl
      go_wp2_with fail
      go_region
      all_goals
        go_wp2_with fail
        have hRC0_0 : (w6.setCell ⟨w.heap.size + 1, 0, none⟩ (.int .i64 cap)).heap[w.heap.size + 1]? = some (.cells #[.int .i64 cap, .slice none 0 0, .slice none 0 0, .slice none 0 0, .bool false] 26 (0, 0)) := box_set (j := 0) (u := .int .i64 cap) HRc6.out
        have hRC0_1 : ((w6.setCell ⟨w.heap.size + 1, 0, none⟩ (.int .i64 cap)).setCell ⟨w.heap.size + 1, 1, none⟩ (.slice B1 buf.length e1)).heap[w.heap.size + 1]? = some (.cells #[.int .i64 cap, .slice B1 buf.length e1, .slice none 0 0, .slice none 0 0, .bool false] 26 (0, 0)) := box_set (j := 1) (u := .slice B1 buf.length e1) hRC0_0
        clear hRC0_0
        have hRC0_2 : (((w6.setCell ⟨w.heap.size + 1, 0, none⟩ (.int .i64 cap)).setCell ⟨w.heap.size + 1, 1, none⟩ (.slice B1 buf.length e1)).setCell ⟨w.heap.size + 1, 2, none⟩ (.slice B2 sends.length e2)).heap[w.heap.size + 1]? = some (.cells #[.int .i64 cap, .slice B1 buf.length e1, .slice B2 sends.length e2, .slice none 0 0, .bool false] 26 (0, 0)) := box_set (j := 2) (u := .slice B2 sends.length e2) hRC0_1
        clear hRC0_1
        have hRC0_3 : ((((w6.setCell ⟨w.heap.size + 1, 0, none⟩ (.int .i64 cap)).setCell ⟨w.heap.size + 1, 1, none⟩ (.slice B1 buf.length e1)).setCell ⟨w.heap.size + 1, 2, none⟩ (.slice B2 sends.length e2)).setCell ⟨w.heap.size + 1, 3, none⟩ (.slice (restA B3 3 e3) rs.length (e3 - 1))).heap[w.heap.size + 1]? = some (.cells #[.int .i64 cap, .slice B1 buf.length e1, .slice B2 sends.length e2, .slice (restA B3 3 e3) rs.length (e3 - 1), .bool false] 26 (0, 0)) := box_set (j := 3) (u := .slice (restA B3 3 e3) rs.length (e3 - 1)) hRC0_2
        clear hRC0_2
        have hRC0_4 : (((((w6.setCell ⟨w.heap.size + 1, 0, none⟩ (.int .i64 cap)).setCell ⟨w.heap.size + 1, 1, none⟩ (.slice B1 buf.length e1)).setCell ⟨w.heap.size + 1, 2, none⟩ (.slice B2 sends.length e2)).setCell ⟨w.heap.size + 1, 3, none⟩ (.slice (restA B3 3 e3) rs.length (e3 - 1))).setCell ⟨w.heap.size + 1, 4, none⟩ (.bool cl)).heap[w.heap.size + 1]? = some (.cells #[.int .i64 cap, .slice B1 buf.length e1, .slice B2 sends.length e2, .slice (restA B3 3 e3) rs.length (e3 - 1), .bool cl] 26 (0, 0)) := box_set (j := 4) (u := .bool cl) hRC0_3
        clear hRC0_3
        have hRC0_5 : ((((((w6.setCell ⟨w.heap.size + 1, 0, none⟩ (.int .i64 cap)).setCell ⟨w.heap.size + 1, 1, none⟩ (.slice B1 buf.length e1)).setCell ⟨w.heap.size + 1, 2, none⟩ (.slice B2 sends.length e2)).setCell ⟨w.heap.size + 1, 3, none⟩ (.slice (restA B3 3 e3) rs.length (e3 - 1))).setCell ⟨w.heap.size + 1, 4, none⟩ (.bool cl)).setCell ⟨w.heap.size + 2, 0, none⟩ (.int .i64 r.fG)).heap[w.heap.size + 1]? = some (.cells #[.int .i64 cap, .slice B1 buf.length e1, .slice B2 sends.length e2, .slice (restA B3 3 e3) rs.length (e3 - 1), .bool cl] 26 (0, 0)) := (Below.heap_setCell (((((w6.setCell ⟨w.heap.size + 1, 0, none⟩ (.int .i64 cap)).setCell ⟨w.heap.size + 1, 1, none⟩ (.slice B1 buf.length e1)).setCell ⟨w.heap.size + 1, 2, none⟩ (.slice B2 sends.length e2)).setCell ⟨w.heap.size + 1, 3, none⟩ (.slice (restA B3 3 e3) rs.length (e3 - 1))).setCell ⟨w.heap.size + 1, 4, none⟩ (.bool cl)) ⟨w.heap.size + 2, 0, none⟩ (.int .i64 r.fG) (w.heap.size + 1) (by simp only; omega)).trans hRC0_4
        clear hRC0_4
        have hRC0_6 : (((((((w6.setCell ⟨w.heap.size + 1, 0, none⟩ (.int .i64 cap)).setCell ⟨w.heap.size + 1, 1, none⟩ (.slice B1 buf.length e1)).setCell ⟨w.heap.size + 1, 2, none⟩ (.slice B2 sends.length e2)).setCell ⟨w.heap.size + 1, 3, none⟩ (.slice (restA B3 3 e3) rs.length (e3 - 1))).setCell ⟨w.heap.size + 1, 4, none⟩ (.bool cl)).setCell ⟨w.heap.size + 2, 0, none⟩ (.int .i64 r.fG)).setCell ⟨w.heap.size + 2, 1, none⟩ (.int .i64 r.fCase)).heap[w.heap.size + 1]? = some (.cells #[.int .i64 cap, .slice B1 buf.length e1, .slice B2 sends.length e2, .slice (restA B3 3 e3) rs.length (e3 - 1), .bool cl] 26 (0, 0)) := (Below.heap_setCell ((((((w6.setCell ⟨w.heap.size + 1, 0, none⟩ (.int .i64 cap)).setCell ⟨w.heap.size + 1, 1, none⟩ (.slice B1 buf.length e1)).setCell ⟨w.heap.size + 1, 2, none⟩ (.slice B2 sends.length e2)).setCell ⟨w.heap.size + 1, 3, none⟩ (.slice (restA B3 3 e3) rs.length (e3 - 1))).setCell ⟨w.heap.size + 1, 4, none⟩ (.bool cl)).setCell ⟨w.heap.size + 2, 0, none⟩ (.int .i64 r.fG)) ⟨w.heap.size + 2, 1, none⟩ (.int .i64 r.fCase) (w.heap.size + 1) (by simp only; omega)).trans hRC0_5
        clear hRC0_5
        have hRC0_7 : ((((((((w6.setCell ⟨w.heap.size + 1, 0, none⟩ (.int .i64 cap)).setCell ⟨w.heap.size + 1, 1, none⟩ (.slice B1 buf.length e1)).setCell ⟨w.heap.size + 1, 2, none⟩ (.slice B2 sends.length e2)).setCell ⟨w.heap.size + 1, 3, none⟩ (.slice (restA B3 3 e3) rs.length (e3 - 1))).setCell ⟨w.heap.size + 1, 4, none⟩ (.bool cl)).setCell ⟨w.heap.size + 2, 0, none⟩ (.int .i64 r.fG)).setCell ⟨w.heap.size + 2, 1, none⟩ (.int .i64 r.fCase)).setCell ⟨w.heap.size + 2, 2, none⟩ (.int .i64 r.fVal)).heap[w.heap.size + 1]? = some (.cells #[.int .i64 cap, .slice B1 buf.length e1, .slice B2 sends.length e2, .slice (restA B3 3 e3) rs.length (e3 - 1), .bool cl] 26 (0, 0)) := (Below.heap_setCell (((((((w6.setCell ⟨w.heap.size + 1, 0, none⟩ (.int .i64 cap)).setCell ⟨w.heap.size + 1, 1, none⟩ (.slice B1 buf.length e1)).setCell ⟨w.heap.size + 1, 2, none⟩ (.slice B2 sends.length e2)).setCell ⟨w.heap.size + 1, 3, none⟩ (.slice (restA B3 3 e3) rs.length (e3 - 1))).setCell ⟨w.heap.size + 1, 4, none⟩ (.bool cl)).setCell ⟨w.heap.size + 2, 0, none⟩ (.int .i64 r.fG)).setCell ⟨w.heap.size + 2, 1, none⟩ (.int .i64 r.fCase)) ⟨w.heap.size + 2, 2, none⟩ (.int .i64 r.fVal) (w.heap.size + 1) (by simp only; omega)).trans hRC0_6
        clear hRC0_6
        have hRC0 := hRC0_7
        clear hRC0_7
        have hRW0_0 : (w6.setCell ⟨w.heap.size + 1, 0, none⟩ (.int .i64 cap)).heap[w.heap.size + 2]? = some (.cells #[.int .i64 0, .int .i64 0, .int .i64 0] 29 (0, 0)) := (Below.heap_setCell w6 ⟨w.heap.size + 1, 0, none⟩ (.int .i64 cap) (w.heap.size + 2) (by simp only; omega)).trans HRw6.out
        have hRW0_1 : ((w6.setCell ⟨w.heap.size + 1, 0, none⟩ (.int .i64 cap)).setCell ⟨w.heap.size + 1, 1, none⟩ (.slice B1 buf.length e1)).heap[w.heap.size + 2]? = some (.cells #[.int .i64 0, .int .i64 0, .int .i64 0] 29 (0, 0)) := (Below.heap_setCell (w6.setCell ⟨w.heap.size + 1, 0, none⟩ (.int .i64 cap)) ⟨w.heap.size + 1, 1, none⟩ (.slice B1 buf.length e1) (w.heap.size + 2) (by simp only; omega)).trans hRW0_0
        clear hRW0_0
        have hRW0_2 : (((w6.setCell ⟨w.heap.size + 1, 0, none⟩ (.int .i64 cap)).setCell ⟨w.heap.size + 1, 1, none⟩ (.slice B1 buf.length e1)).setCell ⟨w.heap.size + 1, 2, none⟩ (.slice B2 sends.length e2)).heap[w.heap.size + 2]? = some (.cells #[.int .i64 0, .int .i64 0, .int .i64 0] 29 (0, 0)) := (Below.heap_setCell ((w6.setCell ⟨w.heap.size + 1, 0, none⟩ (.int .i64 cap)).setCell ⟨w.heap.size + 1, 1, none⟩ (.slice B1 buf.length e1)) ⟨w.heap.size + 1, 2, none⟩ (.slice B2 sends.length e2) (w.heap.size + 2) (by simp only; omega)).trans hRW0_1
        clear hRW0_1
        have hRW0_3 : ((((w6.setCell ⟨w.heap.size + 1, 0, none⟩ (.int .i64 cap)).setCell ⟨w.heap.size + 1, 1, none⟩ (.slice B1 buf.length e1)).setCell ⟨w.heap.size + 1, 2, none⟩ (.slice B2 sends.length e2)).setCell ⟨w.heap.size + 1, 3, none⟩ (.slice (restA B3 3 e3) rs.length (e3 - 1))).heap[w.heap.size + 2]? = some (.cells #[.int .i64 0, .int .i64 0, .int .i64 0] 29 (0, 0)) := (Below.heap_setCell (((w6.setCell ⟨w.heap.size + 1, 0, none⟩ (.int .i64 cap)).setCell ⟨w.heap.size + 1, 1, none⟩ (.slice B1 buf.length e1)).setCell ⟨w.heap.size + 1, 2, none⟩ (.slice B2 sends.length e2)) ⟨w.heap.size + 1, 3, none⟩ (.slice (restA B3 3 e3) rs.length (e3 - 1)) (w.heap.size + 2) (by simp only; omega)).trans hRW0_2
        clear hRW0_2
        have hRW0_4 : (((((w6.setCell ⟨w.heap.size + 1, 0, none⟩ (.int .i64 cap)).setCell ⟨w.heap.size + 1, 1, none⟩ (.slice B1 buf.length e1)).setCell ⟨w.heap.size + 1, 2, none⟩ (.slice B2 sends.length e2)).setCell ⟨w.heap.size + 1, 3, none⟩ (.slice (restA B3 3 e3) rs.length (e3 - 1))).setCell ⟨w.heap.size + 1, 4, none⟩ (.bool cl)).heap[w.heap.size + 2]? = some (.cells #[.int .i64 0, .int .i64 0, .int .i64 0] 29 (0, 0)) := (Below.heap_setCell ((((w6.setCell ⟨w.heap.size + 1, 0, none⟩ (.int .i64 cap)).setCell ⟨w.heap.size + 1, 1, none⟩ (.slice B1 buf.length e1)).setCell ⟨w.heap.size + 1, 2, none⟩ (.slice B2 sends.length e2)).setCell ⟨w.heap.size + 1, 3, none⟩ (.slice (restA B3 3 e3) rs.length (e3 - 1))) ⟨w.heap.size + 1, 4, none⟩ (.bool cl) (w.heap.size + 2) (by simp only; omega)).trans hRW0_3
        clear hRW0_3
        have hRW0_5 : ((((((w6.setCell ⟨w.heap.size + 1, 0, none⟩ (.int .i64 cap)).setCell ⟨w.heap.size + 1, 1, none⟩ (.slice B1 buf.length e1)).setCell ⟨w.heap.size + 1, 2, none⟩ (.slice B2 sends.length e2)).setCell ⟨w.heap.size + 1, 3, none⟩ (.slice (restA B3 3 e3) rs.length (e3 - 1))).setCell ⟨w.heap.size + 1, 4, none⟩ (.bool cl)).setCell ⟨w.heap.size + 2, 0, none⟩ (.int .i64 r.fG)).heap[w.heap.size + 2]? = some (.cells #[.int .i64 r.fG, .int .i64 0, .int .i64 0] 29 (0, 0)) := box_set (j := 0) (u := .int .i64 r.fG) hRW0_4
        clear hRW0_4
        have hRW0_6 : (((((((w6.setCell ⟨w.heap.size + 1, 0, none⟩ (.int .i64 cap)).setCell ⟨w.heap.size + 1, 1, none⟩ (.slice B1 buf.length e1)).setCell ⟨w.heap.size + 1, 2, none⟩ (.slice B2 sends.length e2)).setCell ⟨w.heap.size + 1, 3, none⟩ (.slice (restA B3 3 e3) rs.length (e3 - 1))).setCell ⟨w.heap.size + 1, 4, none⟩ (.bool cl)).setCell ⟨w.heap.size + 2, 0, none⟩ (.int .i64 r.fG)).setCell ⟨w.heap.size + 2, 1, none⟩ (.int .i64 r.fCase)).heap[w.heap.size + 2]? = some (.cells #[.int .i64 r.fG, .int .i64 r.fCase, .int .i64 0] 29 (0, 0)) := box_set (j := 1) (u := .int .i64 r.fCase) hRW0_5
        clear hRW0_5
        have hRW0_7 : ((((((((w6.setCell ⟨w.heap.size + 1, 0, none⟩ (.int .i64 cap)).setCell ⟨w.heap.size + 1, 1, none⟩ (.slice B1 buf.length e1)).setCell ⟨w.heap.size + 1, 2, none⟩ (.slice B2 sends.length e2)).setCell ⟨w.heap.size + 1, 3, none⟩ (.slice (restA B3 3 e3) rs.length (e3 - 1))).setCell ⟨w.heap.size + 1, 4, none⟩ (.bool cl)).setCell ⟨w.heap.size + 2, 0, none⟩ (.int .i64 r.fG)).setCell ⟨w.heap.size + 2, 1, none⟩ (.int .i64 r.fCase)).setCell ⟨w.heap.size + 2, 2, none⟩ (.int .i64 r.fVal)).heap[w.heap.size + 2]? = some (.cells #[.int .i64 r.fG, .int .i64 r.fCase, .int .i64 r.fVal] 29 (0, 0)) := box_set (j := 2) (u := .int .i64 r.fVal) hRW0_6
        clear hRW0_6
        have hRW0 := hRW0_7
        clear hRW0_7
        have hBF0 : Below w.heap.size w ((((((((w6.setCell ⟨w.heap.size + 1, 0, none⟩ (.int .i64 cap)).setCell ⟨w.heap.size + 1, 1, none⟩ (.slice B1 buf.length e1)).setCell ⟨w.heap.size + 1, 2, none⟩ (.slice B2 sends.length e2)).setCell ⟨w.heap.size + 1, 3, none⟩ (.slice (restA B3 3 e3) rs.length (e3 - 1))).setCell ⟨w.heap.size + 1, 4, none⟩ (.bool cl)).setCell ⟨w.heap.size + 2, 0, none⟩ (.int .i64 r.fG)).setCell ⟨w.heap.size + 2, 1, none⟩ (.int .i64 r.fCase)).setCell ⟨w.heap.size + 2, 2, none⟩ (.int .i64 r.fVal)) := (below_set (below_set (below_set (below_set (below_set (below_set (below_set (below_set HB6.out (by simp only; omega) (.int .i64 cap)) (by simp only; omega) (.slice B1 buf.length e1)) (by simp only; omega) (.slice B2 sends.length e2)) (by simp only; omega) (.slice (restA B3 3 e3) rs.length (e3 - 1))) (by simp only; omega) (.bool cl)) (by simp only; omega) (.int .i64 r.fG)) (by simp only; omega) (.int .i64 r.fCase)) (by simp only; omega) (.int .i64 r.fVal))
        have hO1_0 := OwnR.setCell (o := 0) (g := w.heap.size + 1) HS1.out (HN6.out _ (by omega)).1 (.int .i64 cap)
        have hO1_1 := OwnR.setCell (o := 1) (g := w.heap.size + 1) hO1_0 (HN6.out _ (by omega)).1 (.slice B1 buf.length e1)
        clear hO1_0
        have hO1_2 := OwnR.setCell (o := 2) (g := w.heap.size + 1) hO1_1 (HN6.out _ (by omega)).1 (.slice B2 sends.length e2)
        clear hO1_1
        have hO1_3 := OwnR.setCell (o := 3) (g := w.heap.size + 1) hO1_2 (HN6.out _ (by omega)).1 (.slice (restA B3 3 e3) rs.length (e3 - 1))
        clear hO1_2
        have hO1_4 := OwnR.setCell (o := 4) (g := w.heap.size + 1) hO1_3 (HN6.out _ (by omega)).1 (.bool cl)
        clear hO1_3
        have hO1_5 := OwnR.setCell (o := 0) (g := w.heap.size + 2) hO1_4 (HN6.out _ (by omega)).1 (.int .i64 r.fG)
        clear hO1_4
        have hO1_6 := OwnR.setCell (o := 1) (g := w.heap.size + 2) hO1_5 (HN6.out _ (by omega)).1 (.int .i64 r.fCase)
        clear hO1_5
        have hO1_7 := OwnR.setCell (o := 2) (g := w.heap.size + 2) hO1_6 (HN6.out _ (by omega)).1 (.int .i64 r.fVal)
        clear hO1_6
        have hO1 := hO1_7
        clear hO1_7
        have hO2_0 := OwnR.setCell (o := 0) (g := w.heap.size + 1) HS2.out (HN6.out _ (by omega)).2.1 (.int .i64 cap)
        have hO2_1 := OwnR.setCell (o := 1) (g := w.heap.size + 1) hO2_0 (HN6.out _ (by omega)).2.1 (.slice B1 buf.length e1)
        clear hO2_0
        have hO2_2 := OwnR.setCell (o := 2) (g := w.heap.size + 1) hO2_1 (HN6.out _ (by omega)).2.1 (.slice B2 sends.length e2)
        clear hO2_1
        have hO2_3 := OwnR.setCell (o := 3) (g := w.heap.size + 1) hO2_2 (HN6.out _ (by omega)).2.1 (.slice (restA B3 3 e3) rs.length (e3 - 1))
        clear hO2_2
        have hO2_4 := OwnR.setCell (o := 4) (g := w.heap.size + 1) hO2_3 (HN6.out _ (by omega)).2.1 (.bool cl)
        clear hO2_3
        have hO2_5 := OwnR.setCell (o := 0) (g := w.heap.size + 2) hO2_4 (HN6.out _ (by omega)).2.1 (.int .i64 r.fG)
        clear hO2_4
        have hO2_6 := OwnR.setCell (o := 1) (g := w.heap.size + 2) hO2_5 (HN6.out _ (by omega)).2.1 (.int .i64 r.fCase)
        clear hO2_5
        have hO2_7 := OwnR.setCell (o := 2) (g := w.heap.size + 2) hO2_6 (HN6.out _ (by omega)).2.1 (.int .i64 r.fVal)
        clear hO2_6
        have hO2 := hO2_7
        clear hO2_7
        have hO3_0 := TailR.setCell (o := 0) (g := w.heap.size + 1) HS3.out (HN6.out _ (by omega)).2.2 (.int .i64 cap)
        have hO3_1 := TailR.setCell (o := 1) (g := w.heap.size + 1) hO3_0 (HN6.out _ (by omega)).2.2 (.slice B1 buf.length e1)
        clear hO3_0
        have hO3_2 := TailR.setCell (o := 2) (g := w.heap.size + 1) hO3_1 (HN6.out _ (by omega)).2.2 (.slice B2 sends.length e2)
        clear hO3_1
        have hO3_3 := TailR.setCell (o := 3) (g := w.heap.size + 1) hO3_2 (HN6.out _ (by omega)).2.2 (.slice (restA B3 3 e3) rs.length (e3 - 1))
        clear hO3_2
        have hO3_4 := TailR.setCell (o := 4) (g := w.heap.size + 1) hO3_3 (HN6.out _ (by omega)).2.2 (.bool cl)
        clear hO3_3
        have hO3_5 := TailR.setCell (o := 0) (g := w.heap.size + 2) hO3_4 (HN6.out _ (by omega)).2.2 (.int .i64 r.fG)
        clear hO3_4
        have hO3_6 := TailR.setCell (o := 1) (g := w.heap.size + 2) hO3_5 (HN6.out _ (by omega)).2.2 (.int .i64 r.fCase)
        clear hO3_5
        have hO3_7 := TailR.setCell (o := 2) (g := w.heap.size + 2) hO3_6 (HN6.out _ (by omega)).2.2 (.int .i64 r.fVal)
        clear hO3_6
        have hO3 := hO3_7
        clear hO3_7
        have hzF0 : ((((((((w6.setCell ⟨w.heap.size + 1, 0, none⟩ (.int .i64 cap)).setCell ⟨w.heap.size + 1, 1, none⟩ (.slice B1 buf.length e1)).setCell ⟨w.heap.size + 1, 2, none⟩ (.slice B2 sends.length e2)).setCell ⟨w.heap.size + 1, 3, none⟩ (.slice (restA B3 3 e3) rs.length (e3 - 1))).setCell ⟨w.heap.size + 1, 4, none⟩ (.bool cl)).setCell ⟨w.heap.size + 2, 0, none⟩ (.int .i64 r.fG)).setCell ⟨w.heap.size + 2, 1, none⟩ (.int .i64 r.fCase)).setCell ⟨w.heap.size + 2, 2, none⟩ (.int .i64 r.fVal)).heap.size = w6.heap.size := by simp [World.setCell]
        generalize ((((((((w6.setCell ⟨w.heap.size + 1, 0, none⟩ (.int .i64 cap)).setCell ⟨w.heap.size + 1, 1, none⟩ (.slice B1 buf.length e1)).setCell ⟨w.heap.size + 1, 2, none⟩ (.slice B2 sends.length e2)).setCell ⟨w.heap.size + 1, 3, none⟩ (.slice (restA B3 3 e3) rs.length (e3 - 1))).setCell ⟨w.heap.size + 1, 4, none⟩ (.bool cl)).setCell ⟨w.heap.size + 2, 0, none⟩ (.int .i64 r.fG)).setCell ⟨w.heap.size + 2, 1, none⟩ (.int .i64 r.fCase)).setCell ⟨w.heap.size + 2, 2, none⟩ (.int .i64 r.fVal)) = WE at *
        have hRC : WE.drew.heap[w.heap.size + 1]? = some (.cells #[.int .i64 cap, .slice B1 buf.length e1, .slice B2 sends.length e2, .slice (restA B3 3 e3) rs.length (e3 - 1), .bool cl] 26 (0, 0)) := hRC0
        have hRW : WE.drew.heap[w.heap.size + 2]? = some (.cells #[.int .i64 r.fG, .int .i64 r.fCase, .int .i64 r.fVal] 29 (0, 0)) := hRW0
        have hBF : Below w.heap.size w WE.drew := below_drawn hBF0 1
        have hzF : WE.drew.heap.size = w6.heap.size := hzF0
        have hP1 := hO1.stay (w' := WE.drew) (fun _ _ _ => rfl) (Nat.le_refl _)
        have hP2 := hO2.stay (w' := WE.drew) (fun _ _ _ => rfl) (Nat.le_refl _)
        have hP3 := hO3.stay (w' := WE.drew) (fun _ _ _ => rfl) (Nat.le_refl _)
        clear hRC0 hRW0 hBF0 hzF0
        clear hO1 hO2 hO3
        generalize WE.drew = WF at *
        have y0 := box_cell (j := 0) hRC rfl
        have y1 := box_cell (j := 1) hRC rfl
        have y2 := box_cell (j := 2) hRC rfl
        have y3 := box_cell (j := 3) hRC rfl
        have y4 := box_cell (j := 4) hRC rfl
        have z0 := box_cell (j := 0) hRW rfl
        have z1 := box_cell (j := 1) hRW rfl
        have z2 := box_cell (j := 2) hRW rfl
        refine bodyPost_ret (v := .tuple #[.agg #[.int .i64 cap, .slice B1 buf.length e1, .slice B2 sends.length e2, .slice (restA B3 3 e3) rs.length (e3 - 1), .bool cl], .agg #[.int .i64 r.fG, .int .i64 r.fCase, .int .i64 r.fVal], .int .i64 0]) (by simp [results, Try.results13, go_sem, y0, y1, y2, y3, y4, z0, z1, z2]) rfl ?_
        rw [HR.out]
        refine ⟨_, rfl, ownChan (x := (⟨cap, buf, sends, rs, cl⟩ : DChan)) hw0 (TailR.of hP1) (TailR.of hP2) hP3 ?_ ?_ ?_ HE6.out.1 HE6.out.2.1 HE6.out.2.2, hBF⟩
        · exact fun g hg => by have := HG6.out g (.inl hg); omega
        · exact fun g hg => by have := HG6.out g (.inr (.inl hg)); omega
        · exact fun g hg => by have := HG6.out g (.inr (.inr hg)); omega
  · rw [if_neg hk] at HR
    have g0 := box_free HRc1.out 0
    have g1 := box_free HRc1.out 1
    have g2 := box_free HRc1.out 2
    have g3 := box_free HRc1.out 3
    have g4 := box_free HRc1.out 4
    have h0 := box_free HRw1.out 0
    have h1 := box_free HRw1.out 1
    have h2 := box_free HRw1.out 2
    have a0 := box_cell (j := 0) HRc1.out rfl
    have a1 := box_cell (j := 1) HRc1.out rfl
    have a2 := box_cell (j := 2) HRc1.out rfl
    have a3 := box_cell (j := 3) HRc1.out rfl
    have a4 := box_cell (j := 4) HRc1.out rfl
    have b0 := box_cell (j := 0) HRw1.out rfl
    have b1 := box_cell (j := 1) HRw1.out rfl
    have b2 := box_cell (j := 2) HRw1.out rfl
    go_wp2_with fail
    have hRC_0 : (w1.setCell ⟨w.heap.size + 1, 0, none⟩ (.int .i64 0)).heap[w.heap.size + 1]? = some (.cells #[.int .i64 0, .slice none 0 0, .slice none 0 0, .slice none 0 0, .bool false] 26 (0, 0)) := box_set (j := 0) (u := .int .i64 0) HRc1.out
    have hRC_1 : ((w1.setCell ⟨w.heap.size + 1, 0, none⟩ (.int .i64 0)).setCell ⟨w.heap.size + 1, 1, none⟩ (.slice none 0 0)).heap[w.heap.size + 1]? = some (.cells #[.int .i64 0, .slice none 0 0, .slice none 0 0, .slice none 0 0, .bool false] 26 (0, 0)) := box_set (j := 1) (u := .slice none 0 0) hRC_0
    clear hRC_0
    have hRC_2 : (((w1.setCell ⟨w.heap.size + 1, 0, none⟩ (.int .i64 0)).setCell ⟨w.heap.size + 1, 1, none⟩ (.slice none 0 0)).setCell ⟨w.heap.size + 1, 2, none⟩ (.slice none 0 0)).heap[w.heap.size + 1]? = some (.cells #[.int .i64 0, .slice none 0 0, .slice none 0 0, .slice none 0 0, .bool false] 26 (0, 0)) := box_set (j := 2) (u := .slice none 0 0) hRC_1
    clear hRC_1
    have hRC_3 : ((((w1.setCell ⟨w.heap.size + 1, 0, none⟩ (.int .i64 0)).setCell ⟨w.heap.size + 1, 1, none⟩ (.slice none 0 0)).setCell ⟨w.heap.size + 1, 2, none⟩ (.slice none 0 0)).setCell ⟨w.heap.size + 1, 3, none⟩ (.slice none 0 0)).heap[w.heap.size + 1]? = some (.cells #[.int .i64 0, .slice none 0 0, .slice none 0 0, .slice none 0 0, .bool false] 26 (0, 0)) := box_set (j := 3) (u := .slice none 0 0) hRC_2
    clear hRC_2
    have hRC_4 : (((((w1.setCell ⟨w.heap.size + 1, 0, none⟩ (.int .i64 0)).setCell ⟨w.heap.size + 1, 1, none⟩ (.slice none 0 0)).setCell ⟨w.heap.size + 1, 2, none⟩ (.slice none 0 0)).setCell ⟨w.heap.size + 1, 3, none⟩ (.slice none 0 0)).setCell ⟨w.heap.size + 1, 4, none⟩ (.bool false)).heap[w.heap.size + 1]? = some (.cells #[.int .i64 0, .slice none 0 0, .slice none 0 0, .slice none 0 0, .bool false] 26 (0, 0)) := box_set (j := 4) (u := .bool false) hRC_3
    clear hRC_3
    have hRC_5 : ((((((w1.setCell ⟨w.heap.size + 1, 0, none⟩ (.int .i64 0)).setCell ⟨w.heap.size + 1, 1, none⟩ (.slice none 0 0)).setCell ⟨w.heap.size + 1, 2, none⟩ (.slice none 0 0)).setCell ⟨w.heap.size + 1, 3, none⟩ (.slice none 0 0)).setCell ⟨w.heap.size + 1, 4, none⟩ (.bool false)).setCell ⟨w.heap.size + 2, 0, none⟩ (.int .i64 0)).heap[w.heap.size + 1]? = some (.cells #[.int .i64 0, .slice none 0 0, .slice none 0 0, .slice none 0 0, .bool false] 26 (0, 0)) := (Below.heap_setCell (((((w1.setCell ⟨w.heap.size + 1, 0, none⟩ (.int .i64 0)).setCell ⟨w.heap.size + 1, 1, none⟩ (.slice none 0 0)).setCell ⟨w.heap.size + 1, 2, none⟩ (.slice none 0 0)).setCell ⟨w.heap.size + 1, 3, none⟩ (.slice none 0 0)).setCell ⟨w.heap.size + 1, 4, none⟩ (.bool false)) ⟨w.heap.size + 2, 0, none⟩ (.int .i64 0) (w.heap.size + 1) (by simp only; omega)).trans hRC_4
    clear hRC_4
    have hRC_6 : (((((((w1.setCell ⟨w.heap.size + 1, 0, none⟩ (.int .i64 0)).setCell ⟨w.heap.size + 1, 1, none⟩ (.slice none 0 0)).setCell ⟨w.heap.size + 1, 2, none⟩ (.slice none 0 0)).setCell ⟨w.heap.size + 1, 3, none⟩ (.slice none 0 0)).setCell ⟨w.heap.size + 1, 4, none⟩ (.bool false)).setCell ⟨w.heap.size + 2, 0, none⟩ (.int .i64 0)).setCell ⟨w.heap.size + 2, 1, none⟩ (.int .i64 0)).heap[w.heap.size + 1]? = some (.cells #[.int .i64 0, .slice none 0 0, .slice none 0 0, .slice none 0 0, .bool false] 26 (0, 0)) := (Below.heap_setCell ((((((w1.setCell ⟨w.heap.size + 1, 0, none⟩ (.int .i64 0)).setCell ⟨w.heap.size + 1, 1, none⟩ (.slice none 0 0)).setCell ⟨w.heap.size + 1, 2, none⟩ (.slice none 0 0)).setCell ⟨w.heap.size + 1, 3, none⟩ (.slice none 0 0)).setCell ⟨w.heap.size + 1, 4, none⟩ (.bool false)).setCell ⟨w.heap.size + 2, 0, none⟩ (.int .i64 0)) ⟨w.heap.size + 2, 1, none⟩ (.int .i64 0) (w.heap.size + 1) (by simp only; omega)).trans hRC_5
    clear hRC_5
    have hRC_7 : ((((((((w1.setCell ⟨w.heap.size + 1, 0, none⟩ (.int .i64 0)).setCell ⟨w.heap.size + 1, 1, none⟩ (.slice none 0 0)).setCell ⟨w.heap.size + 1, 2, none⟩ (.slice none 0 0)).setCell ⟨w.heap.size + 1, 3, none⟩ (.slice none 0 0)).setCell ⟨w.heap.size + 1, 4, none⟩ (.bool false)).setCell ⟨w.heap.size + 2, 0, none⟩ (.int .i64 0)).setCell ⟨w.heap.size + 2, 1, none⟩ (.int .i64 0)).setCell ⟨w.heap.size + 2, 2, none⟩ (.int .i64 0)).heap[w.heap.size + 1]? = some (.cells #[.int .i64 0, .slice none 0 0, .slice none 0 0, .slice none 0 0, .bool false] 26 (0, 0)) := (Below.heap_setCell (((((((w1.setCell ⟨w.heap.size + 1, 0, none⟩ (.int .i64 0)).setCell ⟨w.heap.size + 1, 1, none⟩ (.slice none 0 0)).setCell ⟨w.heap.size + 1, 2, none⟩ (.slice none 0 0)).setCell ⟨w.heap.size + 1, 3, none⟩ (.slice none 0 0)).setCell ⟨w.heap.size + 1, 4, none⟩ (.bool false)).setCell ⟨w.heap.size + 2, 0, none⟩ (.int .i64 0)).setCell ⟨w.heap.size + 2, 1, none⟩ (.int .i64 0)) ⟨w.heap.size + 2, 2, none⟩ (.int .i64 0) (w.heap.size + 1) (by simp only; omega)).trans hRC_6
    clear hRC_6
    have hRC := hRC_7
    clear hRC_7
    have hRW_0 : (w1.setCell ⟨w.heap.size + 1, 0, none⟩ (.int .i64 0)).heap[w.heap.size + 2]? = some (.cells #[.int .i64 0, .int .i64 0, .int .i64 0] 29 (0, 0)) := (Below.heap_setCell w1 ⟨w.heap.size + 1, 0, none⟩ (.int .i64 0) (w.heap.size + 2) (by simp only; omega)).trans HRw1.out
    have hRW_1 : ((w1.setCell ⟨w.heap.size + 1, 0, none⟩ (.int .i64 0)).setCell ⟨w.heap.size + 1, 1, none⟩ (.slice none 0 0)).heap[w.heap.size + 2]? = some (.cells #[.int .i64 0, .int .i64 0, .int .i64 0] 29 (0, 0)) := (Below.heap_setCell (w1.setCell ⟨w.heap.size + 1, 0, none⟩ (.int .i64 0)) ⟨w.heap.size + 1, 1, none⟩ (.slice none 0 0) (w.heap.size + 2) (by simp only; omega)).trans hRW_0
    clear hRW_0
    have hRW_2 : (((w1.setCell ⟨w.heap.size + 1, 0, none⟩ (.int .i64 0)).setCell ⟨w.heap.size + 1, 1, none⟩ (.slice none 0 0)).setCell ⟨w.heap.size + 1, 2, none⟩ (.slice none 0 0)).heap[w.heap.size + 2]? = some (.cells #[.int .i64 0, .int .i64 0, .int .i64 0] 29 (0, 0)) := (Below.heap_setCell ((w1.setCell ⟨w.heap.size + 1, 0, none⟩ (.int .i64 0)).setCell ⟨w.heap.size + 1, 1, none⟩ (.slice none 0 0)) ⟨w.heap.size + 1, 2, none⟩ (.slice none 0 0) (w.heap.size + 2) (by simp only; omega)).trans hRW_1
    clear hRW_1
    have hRW_3 : ((((w1.setCell ⟨w.heap.size + 1, 0, none⟩ (.int .i64 0)).setCell ⟨w.heap.size + 1, 1, none⟩ (.slice none 0 0)).setCell ⟨w.heap.size + 1, 2, none⟩ (.slice none 0 0)).setCell ⟨w.heap.size + 1, 3, none⟩ (.slice none 0 0)).heap[w.heap.size + 2]? = some (.cells #[.int .i64 0, .int .i64 0, .int .i64 0] 29 (0, 0)) := (Below.heap_setCell (((w1.setCell ⟨w.heap.size + 1, 0, none⟩ (.int .i64 0)).setCell ⟨w.heap.size + 1, 1, none⟩ (.slice none 0 0)).setCell ⟨w.heap.size + 1, 2, none⟩ (.slice none 0 0)) ⟨w.heap.size + 1, 3, none⟩ (.slice none 0 0) (w.heap.size + 2) (by simp only; omega)).trans hRW_2
    clear hRW_2
    have hRW_4 : (((((w1.setCell ⟨w.heap.size + 1, 0, none⟩ (.int .i64 0)).setCell ⟨w.heap.size + 1, 1, none⟩ (.slice none 0 0)).setCell ⟨w.heap.size + 1, 2, none⟩ (.slice none 0 0)).setCell ⟨w.heap.size + 1, 3, none⟩ (.slice none 0 0)).setCell ⟨w.heap.size + 1, 4, none⟩ (.bool false)).heap[w.heap.size + 2]? = some (.cells #[.int .i64 0, .int .i64 0, .int .i64 0] 29 (0, 0)) := (Below.heap_setCell ((((w1.setCell ⟨w.heap.size + 1, 0, none⟩ (.int .i64 0)).setCell ⟨w.heap.size + 1, 1, none⟩ (.slice none 0 0)).setCell ⟨w.heap.size + 1, 2, none⟩ (.slice none 0 0)).setCell ⟨w.heap.size + 1, 3, none⟩ (.slice none 0 0)) ⟨w.heap.size + 1, 4, none⟩ (.bool false) (w.heap.size + 2) (by simp only; omega)).trans hRW_3
    clear hRW_3
    have hRW_5 : ((((((w1.setCell ⟨w.heap.size + 1, 0, none⟩ (.int .i64 0)).setCell ⟨w.heap.size + 1, 1, none⟩ (.slice none 0 0)).setCell ⟨w.heap.size + 1, 2, none⟩ (.slice none 0 0)).setCell ⟨w.heap.size + 1, 3, none⟩ (.slice none 0 0)).setCell ⟨w.heap.size + 1, 4, none⟩ (.bool false)).setCell ⟨w.heap.size + 2, 0, none⟩ (.int .i64 0)).heap[w.heap.size + 2]? = some (.cells #[.int .i64 0, .int .i64 0, .int .i64 0] 29 (0, 0)) := box_set (j := 0) (u := .int .i64 0) hRW_4
    clear hRW_4
    have hRW_6 : (((((((w1.setCell ⟨w.heap.size + 1, 0, none⟩ (.int .i64 0)).setCell ⟨w.heap.size + 1, 1, none⟩ (.slice none 0 0)).setCell ⟨w.heap.size + 1, 2, none⟩ (.slice none 0 0)).setCell ⟨w.heap.size + 1, 3, none⟩ (.slice none 0 0)).setCell ⟨w.heap.size + 1, 4, none⟩ (.bool false)).setCell ⟨w.heap.size + 2, 0, none⟩ (.int .i64 0)).setCell ⟨w.heap.size + 2, 1, none⟩ (.int .i64 0)).heap[w.heap.size + 2]? = some (.cells #[.int .i64 0, .int .i64 0, .int .i64 0] 29 (0, 0)) := box_set (j := 1) (u := .int .i64 0) hRW_5
    clear hRW_5
    have hRW_7 : ((((((((w1.setCell ⟨w.heap.size + 1, 0, none⟩ (.int .i64 0)).setCell ⟨w.heap.size + 1, 1, none⟩ (.slice none 0 0)).setCell ⟨w.heap.size + 1, 2, none⟩ (.slice none 0 0)).setCell ⟨w.heap.size + 1, 3, none⟩ (.slice none 0 0)).setCell ⟨w.heap.size + 1, 4, none⟩ (.bool false)).setCell ⟨w.heap.size + 2, 0, none⟩ (.int .i64 0)).setCell ⟨w.heap.size + 2, 1, none⟩ (.int .i64 0)).setCell ⟨w.heap.size + 2, 2, none⟩ (.int .i64 0)).heap[w.heap.size + 2]? = some (.cells #[.int .i64 0, .int .i64 0, .int .i64 0] 29 (0, 0)) := box_set (j := 2) (u := .int .i64 0) hRW_6
    clear hRW_6
    have hRW := hRW_7
    clear hRW_7
    have hBF : Below w.heap.size w ((((((((w1.setCell ⟨w.heap.size + 1, 0, none⟩ (.int .i64 0)).setCell ⟨w.heap.size + 1, 1, none⟩ (.slice none 0 0)).setCell ⟨w.heap.size + 1, 2, none⟩ (.slice none 0 0)).setCell ⟨w.heap.size + 1, 3, none⟩ (.slice none 0 0)).setCell ⟨w.heap.size + 1, 4, none⟩ (.bool false)).setCell ⟨w.heap.size + 2, 0, none⟩ (.int .i64 0)).setCell ⟨w.heap.size + 2, 1, none⟩ (.int .i64 0)).setCell ⟨w.heap.size + 2, 2, none⟩ (.int .i64 0)) := (below_set (below_set (below_set (below_set (below_set (below_set (below_set (below_set HB1.out (by simp only; omega) (.int .i64 0)) (by simp only; omega) (.slice none 0 0)) (by simp only; omega) (.slice none 0 0)) (by simp only; omega) (.slice none 0 0)) (by simp only; omega) (.bool false)) (by simp only; omega) (.int .i64 0)) (by simp only; omega) (.int .i64 0)) (by simp only; omega) (.int .i64 0))
    generalize ((((((((w1.setCell ⟨w.heap.size + 1, 0, none⟩ (.int .i64 0)).setCell ⟨w.heap.size + 1, 1, none⟩ (.slice none 0 0)).setCell ⟨w.heap.size + 1, 2, none⟩ (.slice none 0 0)).setCell ⟨w.heap.size + 1, 3, none⟩ (.slice none 0 0)).setCell ⟨w.heap.size + 1, 4, none⟩ (.bool false)).setCell ⟨w.heap.size + 2, 0, none⟩ (.int .i64 0)).setCell ⟨w.heap.size + 2, 1, none⟩ (.int .i64 0)).setCell ⟨w.heap.size + 2, 2, none⟩ (.int .i64 0)) = WF at *
    have y0 := box_cell (j := 0) hRC rfl
    have y1 := box_cell (j := 1) hRC rfl
    have y2 := box_cell (j := 2) hRC rfl
    have y3 := box_cell (j := 3) hRC rfl
    have y4 := box_cell (j := 4) hRC rfl
    have z0 := box_cell (j := 0) hRW rfl
    have z1 := box_cell (j := 1) hRW rfl
    have z2 := box_cell (j := 2) hRW rfl
    refine bodyPost_ret (v := .tuple #[.agg #[.int .i64 0, .slice none 0 0, .slice none 0 0, .slice none 0 0, .bool false], .agg #[.int .i64 0, .int .i64 0, .int .i64 0], .int .i64 kd]) (by simp [results, Try.results13, go_sem, y0, y1, y2, y3, y4, z0, z1, z2]) rfl ?_
    rw [HR.out]
    exact ⟨_, rfl, own_zeroC _ _, hBF⟩
end Go.Proofs.Ytgdmcdblhpdlmaa
