
/- The program's Lock and Unlock. -/

import Derived.Test.YtalbbhnfdbacdaaMutP

import Derived.Test.YtalbbhnfdbacdaaMutX

namespace Go.Proofs.Ytalbbhnfdbacdaa
set_option linter.unusedSimpArgs false
set_option linter.unusedVariables false
open Go.RowKit

/-- A mutex that lies in a box of the call's own is handed out. -/
theorem madeM {w W : World} {r : DMutex} {u v : Value} {b0 p : Nat} {A : Option Addr} {c : Nat} (hw : (Lit.int .i64 r.fOwner).wf = true) (ht : TailR Lay.int 3 W (Fm W b0 p) A r.fWait.length c r.fWait) (hb0 : w.heap.size ≤ b0) (hb : Below w.heap.size w W) :
    MadeM w r u v (.returned (.tuple #[.agg #[.int .i64 r.fOwner, .slice A r.fWait.length c], u, v])) W :=
  ⟨[.int .i64 r.fOwner, .slice A r.fWait.length c], rfl, ownMutex hw ht (fun g hg => ⟨by have := hg.1; omega, hg.2.1⟩), hb⟩
theorem madeZ {w W : World} {u v : Value} (hb : Below w.heap.size w W) : MadeM w zeroM u v (.returned (.tuple #[.agg #[.int .i64 0, .slice none 0 0], u, v])) W :=
  ⟨[.int .i64 0, .slice none 0 0], rfl, own_zeroM _ _, hb⟩

set_option maxRecDepth 100000 in
set_option maxHeartbeats 8000000 in
theorem implLock_any {w : World} {hi : Nat} {x : DMutex} {vs : List Value} {g : Int} (h : layMutex.see w hi x vs) (hhi : hi ≤ w.heap.size) (hn : szMutex x ≤ 1048576) (hg : (Lit.int .i64 g).wf = true) :
    Calls Try.prog 10 #[.agg vs.toArray, .int .i64 g] w (fun e w' => MadeM w (lockR x g).1 (.bool (lockR x g).2.1) (.bool (lockR x g).2.2) e w') := by
  obtain ⟨A1, n1, c1, rfl, hw0, ⟨hc1, hm1, s1⟩⟩ := seeMutex h
  have HSE := Lib.hid (fun (W : World) (hW : Below w.heap.size w W) => layMutex.keep h (w' := W) fun k hk => hW.block k (by omega))
  have HOK := Lib.hid (fun (W : World) (hW : Below w.heap.size w W) => implMutexOk_any (HSE.out W hW) (by have := hW.size; omega) hn)
  have HCP := Lib.hid (fun (W : World) (hW : Below w.heap.size w W) => copyMutex_any (HSE.out W hW) (by have := hW.size; omega) hn)
  have HHS := Lib.hid (fun (W : World) (hW : Below w.heap.size w W) => hasInt_any (c := c1) (g := g) (s1.below hW hhi) (Nat.le_trans hc1 hm1))
  clear s1 h HSE
  obtain ⟨o, ds⟩ := x
  have hl : ds.length ≤ 1048576 := hn
  have HG := Lib.hid hg
  have HW0 := Lib.hid hw0
  simp only at HW0
  have HFN := Lib.hid (fun (h : mutOkB ⟨o, ds⟩ = true) => free_none h)
  clear hg hw0 hn
  obtain ⟨ok, hok⟩ : ∃ ok, ok = mutOkB ⟨o, ds⟩ := ⟨_, rfl⟩
  rw [← hok] at HOK HFN
  obtain ⟨hs, hhs⟩ : ∃ hs, hs = ds.contains g := ⟨_, rfl⟩
  simp only [← hhs] at HHS
  have HRR := Lib.hid (show lockR ⟨o, ds⟩ g = if ok && !decide (g < 0) && !hs then (if o = g then (⟨o, ds⟩, false, false) else if o = -1 then (⟨g, ds⟩, true, true) else (⟨o, ds ++ [g]⟩, false, true)) else (zeroM, false, false) from by rw [hok, hhs]; rfl)
  clear hok hhs
  show Calls Try.prog 10 #[.agg #[.int .i64 o, .slice A1 n1 c1], .int .i64 g] w _
  have HX0 := Lib.hid (show ((w.alloc (.cells #[.int .i64 o, .slice A1 n1 c1] 25)).alloc (.cells #[.int .i64 0, .slice none 0 0] 25)).heap[w.heap.size]? = some (.cells #[.int .i64 o, .slice A1 n1 c1] 25 (0, 0)) from by have := box_new w #[.int .i64 o, .slice A1 n1 c1] 25; exact box_keep this ((Below.refl _ _).alloc (Nat.le_refl _) _) (by simp))
  have HR0 := Lib.hid (show ((w.alloc (.cells #[.int .i64 o, .slice A1 n1 c1] 25)).alloc (.cells #[.int .i64 0, .slice none 0 0] 25)).heap[w.heap.size + 1]? = some (.cells #[.int .i64 0, .slice none 0 0] 25 (0, 0)) from by have := box_new (w.alloc (.cells #[.int .i64 o, .slice A1 n1 c1] 25)) #[.int .i64 0, .slice none 0 0] 25; rw [World.size_alloc] at this; exact this)
  have HB0 := Lib.hid (show Below w.heap.size w ((w.alloc (.cells #[.int .i64 o, .slice A1 n1 c1] 25)).alloc (.cells #[.int .i64 0, .slice none 0 0] 25)) from ((Below.refl _ _).alloc (Nat.le_refl _) _).alloc (by simp) _)
  have z0 : w.heap.size + 2 ≤ ((w.alloc (.cells #[.int .i64 o, .slice A1 n1 c1] 25)).alloc (.cells #[.int .i64 0, .slice none 0 0] 25)).heap.size := by simp
  go_enter Try.func10, Try.ntmps10
  go_wp2_with fail
  refine (HOK.out _ HB0.out).mono ?_
  rintro e w1 ⟨rfl, hb1⟩
  have z1 : w.heap.size + 2 ≤ w1.heap.size := Nat.le_trans z0 hb1.size
  have HX1 := Lib.hid (box_keep HX0.out hb1 (by omega))
  have HR1 := Lib.hid (box_keep HR0.out hb1 (by omega))
  have HB1 := Lib.hid (HB0.out.trans (hb1.mono (by omega)))
  have q0 := box_cell (j := 0) HX1.out rfl
  have q1 := box_cell (j := 1) HX1.out rfl
  clear hb1
  cases ok
  · skip
    have g0 := box_free HR1.out 0
    have g1 := box_free HR1.out 1
    have a0 := box_cell (j := 0) HR1.out rfl
    have a1 := box_cell (j := 1) HR1.out rfl
    go_wp2_with fail
    have hRF : ((w1.setCell ⟨w.heap.size + 1, 0, none⟩ (.int .i64 0)).setCell ⟨w.heap.size + 1, 1, none⟩ (.slice none 0 0)).heap[w.heap.size + 1]? = some (.cells #[.int .i64 0, .slice none 0 0] 25 (0, 0)) := box_set (j := 1) (u := .slice none 0 0) (box_set (j := 0) (u := .int .i64 0) HR1.out)
    have hBF : Below w.heap.size w ((w1.setCell ⟨w.heap.size + 1, 0, none⟩ (.int .i64 0)).setCell ⟨w.heap.size + 1, 1, none⟩ (.slice none 0 0)) := below_set (below_set HB1.out (by simp only; omega) (.int .i64 0)) (by simp only; omega) (.slice none 0 0)
    generalize ((w1.setCell ⟨w.heap.size + 1, 0, none⟩ (.int .i64 0)).setCell ⟨w.heap.size + 1, 1, none⟩ (.slice none 0 0)) = WF at *
    have y0 := box_cell (j := 0) hRF rfl
    have y1 := box_cell (j := 1) hRF rfl
    refine bodyPost_ret (v := .tuple #[.agg #[.int .i64 0, .slice none 0 0], .bool false, .bool false]) (by simp [results, Try.results10, go_sem, y0, y1]) rfl ?_
    rw [HRR.out]
    exact madeZ hBF
  · by_cases h0 : g < 0
    · skip
      have g0 := box_free HR1.out 0
      have g1 := box_free HR1.out 1
      have a0 := box_cell (j := 0) HR1.out rfl
      have a1 := box_cell (j := 1) HR1.out rfl
      go_wp2_with fail
      have hRF : ((w1.setCell ⟨w.heap.size + 1, 0, none⟩ (.int .i64 0)).setCell ⟨w.heap.size + 1, 1, none⟩ (.slice none 0 0)).heap[w.heap.size + 1]? = some (.cells #[.int .i64 0, .slice none 0 0] 25 (0, 0)) := box_set (j := 1) (u := .slice none 0 0) (box_set (j := 0) (u := .int .i64 0) HR1.out)
      have hBF : Below w.heap.size w ((w1.setCell ⟨w.heap.size + 1, 0, none⟩ (.int .i64 0)).setCell ⟨w.heap.size + 1, 1, none⟩ (.slice none 0 0)) := below_set (below_set HB1.out (by simp only; omega) (.int .i64 0)) (by simp only; omega) (.slice none 0 0)
      generalize ((w1.setCell ⟨w.heap.size + 1, 0, none⟩ (.int .i64 0)).setCell ⟨w.heap.size + 1, 1, none⟩ (.slice none 0 0)) = WF at *
      have y0 := box_cell (j := 0) hRF rfl
      have y1 := box_cell (j := 1) hRF rfl
      refine bodyPost_ret (v := .tuple #[.agg #[.int .i64 0, .slice none 0 0], .bool false, .bool false]) (by simp [results, Try.results10, go_sem, y0, y1]) rfl ?_
      rw [HRR.out, decide_eq_true h0]
      exact madeZ hBF
    · go_wp2_with fail
      refine (HHS.out _ HB1.out).mono ?_
      rintro e w1' ⟨rfl, rfl⟩
      rcases Bool.eq_false_or_eq_true hs with hb | hb
      · subst hb
        have g0 := box_free HR1.out 0
        have g1 := box_free HR1.out 1
        have a0 := box_cell (j := 0) HR1.out rfl
        have a1 := box_cell (j := 1) HR1.out rfl
        go_wp2_with fail
        have hRF : ((w1'.setCell ⟨w.heap.size + 1, 0, none⟩ (.int .i64 0)).setCell ⟨w.heap.size + 1, 1, none⟩ (.slice none 0 0)).heap[w.heap.size + 1]? = some (.cells #[.int .i64 0, .slice none 0 0] 25 (0, 0)) := box_set (j := 1) (u := .slice none 0 0) (box_set (j := 0) (u := .int .i64 0) HR1.out)
        have hBF : Below w.heap.size w ((w1'.setCell ⟨w.heap.size + 1, 0, none⟩ (.int .i64 0)).setCell ⟨w.heap.size + 1, 1, none⟩ (.slice none 0 0)) := below_set (below_set HB1.out (by simp only; omega) (.int .i64 0)) (by simp only; omega) (.slice none 0 0)
        generalize ((w1'.setCell ⟨w.heap.size + 1, 0, none⟩ (.int .i64 0)).setCell ⟨w.heap.size + 1, 1, none⟩ (.slice none 0 0)) = WF at *
        have y0 := box_cell (j := 0) hRF rfl
        have y1 := box_cell (j := 1) hRF rfl
        refine bodyPost_ret (v := .tuple #[.agg #[.int .i64 0, .slice none 0 0], .bool false, .bool false]) (by simp [results, Try.results10, go_sem, y0, y1]) rfl ?_
        rw [HRR.out, decide_eq_false (show ¬ g < 0 by omega)]
        exact madeZ hBF
      · subst hb
        have HRS := Lib.hid (show lockR ⟨o, ds⟩ g = (if o = g then (⟨o, ds⟩, false, false) else if o = -1 then (⟨g, ds⟩, true, true) else (⟨o, ds ++ [g]⟩, false, true)) from HRR.out.trans (by rw [decide_eq_false (show ¬ g < 0 by omega)]; exact if_pos rfl))
        clear HRR
        go_wp2_with fail
        refine (HCP.out _ HB1.out).mono ?_
        rintro e w2 ⟨p, rfl, hM2, hb2⟩
        try simp only at hM2
        have hp : w1'.heap.size ≤ p := hM2.1
        have z2 : w.heap.size + 2 ≤ w2.heap.size := Nat.le_trans z1 hb2.size
        have HR2 := Lib.hid (box_keep HR1.out hb2 (by omega))
        have HB2 := Lib.hid (HB1.out.trans (hb2.mono (by omega)))
        have HM2 := Lib.hid hM2
        obtain ⟨_, A2, c2, hX2, hO2⟩ := hM2
        have HX2 := Lib.hid hX2
        have HO2 := Lib.hid hO2
        have p0 := box_cell (j := 0) hX2 rfl
        have p1 := box_cell (j := 1) hX2 rfl
        clear hb2 hX2 hO2 q0 q1
        by_cases hog : o = g
        · subst hog
          have g0 := box_free HR2.out 0
          have g1 := box_free HR2.out 1
          have a0 := box_cell (j := 0) HR2.out rfl
          have a1 := box_cell (j := 1) HR2.out rfl
          go_wp2_with fail
          have hRF : ((w2.setCell ⟨w.heap.size + 1, 0, none⟩ (.int .i64 o)).setCell ⟨w.heap.size + 1, 1, none⟩ (.slice A2 ds.length c2)).heap[w.heap.size + 1]? = some (.cells #[.int .i64 o, .slice A2 ds.length c2] 25 (0, 0)) := (box_set (j := 1) (u := .slice A2 ds.length c2) (box_set (j := 0) (u := .int .i64 o) HR2.out))
          have hBF : Below w.heap.size w ((w2.setCell ⟨w.heap.size + 1, 0, none⟩ (.int .i64 o)).setCell ⟨w.heap.size + 1, 1, none⟩ (.slice A2 ds.length c2)) := (below_set (below_set HB2.out (by simp only; omega) (.int .i64 o)) (by simp only; omega) (.slice A2 ds.length c2))
          have hTF := Lib.hid (show TailR Lay.int 3 ((w2.setCell ⟨w.heap.size + 1, 0, none⟩ (.int .i64 o)).setCell ⟨w.heap.size + 1, 1, none⟩ (.slice A2 ds.length c2)) (Fm ((w2.setCell ⟨w.heap.size + 1, 0, none⟩ (.int .i64 o)).setCell ⟨w.heap.size + 1, 1, none⟩ (.slice A2 ds.length c2)) w1'.heap.size p) A2 ds.length c2 ds from ((TailR.of ((HO2.out.setCell (o := 0) (g := w.heap.size + 1) (fun e => by have := e.1; omega) (.int .i64 o)).setCell (o := 1) (g := w.heap.size + 1) (fun e => by have := e.1; omega) (.slice A2 ds.length c2))).wide fun k hk => ⟨hk.1, by have := hk.2.1; simpa [World.setCell] using this, hk.2.2⟩))
          generalize ((w2.setCell ⟨w.heap.size + 1, 0, none⟩ (.int .i64 o)).setCell ⟨w.heap.size + 1, 1, none⟩ (.slice A2 ds.length c2)) = WF at *
          have y0 := box_cell (j := 0) hRF rfl
          have y1 := box_cell (j := 1) hRF rfl
          refine bodyPost_ret (v := .tuple #[.agg #[.int .i64 o, .slice A2 ds.length c2], .bool false, .bool false]) (by simp [results, Try.results10, go_sem, y0, y1]) rfl ?_
          rw [HRS.out]
          simp only [if_true]
          exact madeM (r := ⟨o, ds⟩) HW0.out hTF.out (by omega) hBF
        · skip
          have hHM2 := HM2.out
          have HJO := Lib.hid (join_any (v := g) hHM2 hl HG.out)
          clear hHM2
          go_wp2_with fail
          refine HJO.out.mono ?_
          rintro e w3 ⟨rfl, hM3, hb3⟩
          have HST := Lib.hid (settle_any hM3.at_ (by simp; omega))
          have z3 : w.heap.size + 2 ≤ w3.heap.size := Nat.le_trans z2 hb3.size
          have HR3 := Lib.hid (box_keep HR2.out hb3 (by omega))
          have HB3 := Lib.hid (HB2.out.trans (hb3.mono (by omega)))
          clear hb3 hM3 p0 p1 HJO
          go_wp2_with fail
          refine HST.out.mono ?_
          rintro e w4 ⟨rfl, hM4, hb4⟩
          have z4 : w.heap.size + 2 ≤ w4.heap.size := Nat.le_trans z3 hb4.size
          have HR4 := Lib.hid (show w4.heap[w.heap.size + 1]? = some (.cells #[.int .i64 0, .slice none 0 0] 25 (0, 0)) from box_keep HR3.out hb4 (by omega))
          have HB4 := Lib.hid (HB3.out.trans (hb4.mono (by omega)))
          obtain ⟨o', xs', hpair, hM5⟩ : ∃ o' xs', (if o = g then ((⟨o, ds⟩ : DMutex), false, false) else if o = -1 then (⟨g, ds⟩, true, true) else (⟨o, ds ++ [g]⟩, false, true)) = ((⟨o', xs'⟩ : DMutex), o' == g, true) ∧ MutAt w4 w1'.heap.size p o' xs' ∧ (Lit.int .i64 o').wf = true := by
            rw [if_neg hog]
            by_cases ho : o = -1
            · have hds : ds = [] := by have := HFN.out; simp only [forall_const, true_implies] at this; exact this ho
              subst ho hds
              simp only [if_true] at hM4 ⊢
              exact ⟨g, [], by simp, hM4, HG.out⟩
            · simp only [ho, if_false] at hM4 ⊢
              exact ⟨o, ds ++ [g], by simp [hog], hM4, HW0.out⟩
          have HPP := Lib.hid (HRS.out.trans hpair)
          obtain ⟨⟨_, A5, c5, hX5, hO5⟩, hw5⟩ := hM5
          have HO5 := Lib.hid hO5
          have HX5 := Lib.hid hX5
          have HW5 := Lib.hid hw5
          have p0 := box_cell (j := 0) hX5 rfl
          have p1 := box_cell (j := 1) hX5 rfl
          have g0 := box_free HR4.out 0
          have g1 := box_free HR4.out 1
          have a0 := box_cell (j := 0) HR4.out rfl
          have a1 := box_cell (j := 1) HR4.out rfl
          have HRF := Lib.hid (show ((w4.setCell ⟨w.heap.size + 1, 0, none⟩ (.int .i64 o')).setCell ⟨w.heap.size + 1, 1, none⟩ (.slice A5 xs'.length c5)).heap[w.heap.size + 1]? = some (.cells #[.int .i64 o', .slice A5 xs'.length c5] 25 (0, 0)) from (box_set (j := 1) (u := .slice A5 xs'.length c5) (box_set (j := 0) (u := .int .i64 o') HR4.out)))
          have hXF : ((w4.setCell ⟨w.heap.size + 1, 0, none⟩ (.int .i64 o')).setCell ⟨w.heap.size + 1, 1, none⟩ (.slice A5 xs'.length c5)).heap[p]? = some (.cells #[.int .i64 o', .slice A5 xs'.length c5] 25 (0, 0)) := (Below.heap_setCell _ ⟨w.heap.size + 1, 1, none⟩ _ p (by simp only; omega)).trans ((Below.heap_setCell _ ⟨w.heap.size + 1, 0, none⟩ _ p (by simp only; omega)).trans HX5.out)
          have r0 := box_cell (j := 0) hXF rfl
          have HBF := Lib.hid (show Below w.heap.size w ((w4.setCell ⟨w.heap.size + 1, 0, none⟩ (.int .i64 o')).setCell ⟨w.heap.size + 1, 1, none⟩ (.slice A5 xs'.length c5)) from (below_set (below_set HB4.out (by simp only; omega) (.int .i64 o')) (by simp only; omega) (.slice A5 xs'.length c5)))
          have HTF := Lib.hid (show TailR Lay.int 3 ((w4.setCell ⟨w.heap.size + 1, 0, none⟩ (.int .i64 o')).setCell ⟨w.heap.size + 1, 1, none⟩ (.slice A5 xs'.length c5)) (Fm ((w4.setCell ⟨w.heap.size + 1, 0, none⟩ (.int .i64 o')).setCell ⟨w.heap.size + 1, 1, none⟩ (.slice A5 xs'.length c5)) w1'.heap.size p) A5 xs'.length c5 xs' from (((HO5.out.setCell (o := 0) (g := w.heap.size + 1) (fun e => by have := e.1; omega) (.int .i64 o')).setCell (o := 1) (g := w.heap.size + 1) (fun e => by have := e.1; omega) (.slice A5 xs'.length c5))).wide fun k hk => ⟨hk.1, by have := hk.2.1; simpa [World.setCell] using this, hk.2.2⟩)
          clear hM4 hb4 hpair hX5 hO5 hw5 hXF
          go_wp2_with fail
          go_region
          all_goals
            go_wp2_with fail
            generalize ((w4.setCell ⟨w.heap.size + 1, 0, none⟩ (.int .i64 o')).setCell ⟨w.heap.size + 1, 1, none⟩ (.slice A5 xs'.length c5)) = WF at *
            have y0 := box_cell (j := 0) HRF.out rfl
            have y1 := box_cell (j := 1) HRF.out rfl
            refine bodyPost_ret (v := .tuple #[.agg #[.int .i64 o', .slice A5 xs'.length c5], (.bool (o' == g)), .bool true]) (by simp [results, Try.results10, go_sem, y0, y1]) rfl ?_
            rw [HPP.out]
            exact madeM (r := ⟨o', xs'⟩) (W := WF.drew) HW5.out (show TailR Lay.int 3 WF.drew (Fm WF.drew w1'.heap.size p) A5 xs'.length c5 xs' from HTF.out.stay (w' := WF.drew) (fun _ _ _ => rfl) (Nat.le_refl _)) (by omega) (below_drawn HBF.out 1)

set_option maxRecDepth 100000 in
set_option maxHeartbeats 8000000 in
theorem implUnlock_any {w : World} {hi : Nat} {x : DMutex} {vs : List Value} {g : Int} (h : layMutex.see w hi x vs) (hhi : hi ≤ w.heap.size) (hn : szMutex x ≤ 1048576) (hg : (Lit.int .i64 g).wf = true) :
    Calls Try.prog 12 #[.agg vs.toArray, .int .i64 g] w (fun e w' => MadeM w (unlockR x g).1 (.int .i64 (unlockR x g).2.1) (.bool (unlockR x g).2.2) e w') := by
  obtain ⟨A1, n1, c1, rfl, hw0, ⟨hc1, hm1, s1⟩⟩ := seeMutex h
  have HSE := Lib.hid (fun (W : World) (hW : Below w.heap.size w W) => layMutex.keep h (w' := W) fun k hk => hW.block k (by omega))
  have HOK := Lib.hid (fun (W : World) (hW : Below w.heap.size w W) => implMutexOk_any (HSE.out W hW) (by have := hW.size; omega) hn)
  have HCP := Lib.hid (fun (W : World) (hW : Below w.heap.size w W) => copyMutex_any (HSE.out W hW) (by have := hW.size; omega) hn)
  clear h HSE
  obtain ⟨o, ds⟩ := x
  have hl : ds.length ≤ 1048576 := hn
  have HG := Lib.hid hg
  have HW0 := Lib.hid hw0
  simp only at HW0
  have HFN := Lib.hid (fun (h : mutOkB ⟨o, ds⟩ = true) => free_none h)
  clear hg hw0 hn
  obtain ⟨ok, hok⟩ : ∃ ok, ok = mutOkB ⟨o, ds⟩ := ⟨_, rfl⟩
  rw [← hok] at HOK HFN
  have HRR := Lib.hid (show unlockR ⟨o, ds⟩ g = if ok && !decide (g < 0) && decide (o = g) then (⟨ds.headD (-1), ds.tail⟩, ds.headD (-1), true) else (zeroM, 0, false) from by rw [hok]; rfl)
  clear hok
  have HWF := Lib.hid (show (Lit.int .i64 (ds.headD (-1))).wf = true by
    cases hds : ds with
    | nil => rfl
    | cons d t => exact seenR_wf s1 d (by simp [hds]))
  show Calls Try.prog 12 #[.agg #[.int .i64 o, .slice A1 n1 c1], .int .i64 g] w _
  have HX0 := Lib.hid (show ((w.alloc (.cells #[.int .i64 o, .slice A1 n1 c1] 25)).alloc (.cells #[.int .i64 0, .slice none 0 0] 25)).heap[w.heap.size]? = some (.cells #[.int .i64 o, .slice A1 n1 c1] 25 (0, 0)) from by have := box_new w #[.int .i64 o, .slice A1 n1 c1] 25; exact box_keep this ((Below.refl _ _).alloc (Nat.le_refl _) _) (by simp))
  have HR0 := Lib.hid (show ((w.alloc (.cells #[.int .i64 o, .slice A1 n1 c1] 25)).alloc (.cells #[.int .i64 0, .slice none 0 0] 25)).heap[w.heap.size + 1]? = some (.cells #[.int .i64 0, .slice none 0 0] 25 (0, 0)) from by have := box_new (w.alloc (.cells #[.int .i64 o, .slice A1 n1 c1] 25)) #[.int .i64 0, .slice none 0 0] 25; rw [World.size_alloc] at this; exact this)
  have HB0 := Lib.hid (show Below w.heap.size w ((w.alloc (.cells #[.int .i64 o, .slice A1 n1 c1] 25)).alloc (.cells #[.int .i64 0, .slice none 0 0] 25)) from ((Below.refl _ _).alloc (Nat.le_refl _) _).alloc (by simp) _)
  have z0 : w.heap.size + 2 ≤ ((w.alloc (.cells #[.int .i64 o, .slice A1 n1 c1] 25)).alloc (.cells #[.int .i64 0, .slice none 0 0] 25)).heap.size := by simp
  clear s1
  go_enter Try.func12, Try.ntmps12
  go_wp2_with fail
  refine (HOK.out _ HB0.out).mono ?_
  rintro e w1 ⟨rfl, hb1⟩
  have z1 : w.heap.size + 2 ≤ w1.heap.size := Nat.le_trans z0 hb1.size
  have HX1 := Lib.hid (box_keep HX0.out hb1 (by omega))
  have HR1 := Lib.hid (box_keep HR0.out hb1 (by omega))
  have HB1 := Lib.hid (HB0.out.trans (hb1.mono (by omega)))
  have q0 := box_cell (j := 0) HX1.out rfl
  have q1 := box_cell (j := 1) HX1.out rfl
  clear hb1
  cases ok
  · skip
    have g0 := box_free HR1.out 0
    have g1 := box_free HR1.out 1
    have a0 := box_cell (j := 0) HR1.out rfl
    have a1 := box_cell (j := 1) HR1.out rfl
    go_wp2_with fail
    have hRF : ((w1.setCell ⟨w.heap.size + 1, 0, none⟩ (.int .i64 0)).setCell ⟨w.heap.size + 1, 1, none⟩ (.slice none 0 0)).heap[w.heap.size + 1]? = some (.cells #[.int .i64 0, .slice none 0 0] 25 (0, 0)) := box_set (j := 1) (u := .slice none 0 0) (box_set (j := 0) (u := .int .i64 0) HR1.out)
    have hBF : Below w.heap.size w ((w1.setCell ⟨w.heap.size + 1, 0, none⟩ (.int .i64 0)).setCell ⟨w.heap.size + 1, 1, none⟩ (.slice none 0 0)) := below_set (below_set HB1.out (by simp only; omega) (.int .i64 0)) (by simp only; omega) (.slice none 0 0)
    generalize ((w1.setCell ⟨w.heap.size + 1, 0, none⟩ (.int .i64 0)).setCell ⟨w.heap.size + 1, 1, none⟩ (.slice none 0 0)) = WF at *
    have y0 := box_cell (j := 0) hRF rfl
    have y1 := box_cell (j := 1) hRF rfl
    refine bodyPost_ret (v := .tuple #[.agg #[.int .i64 0, .slice none 0 0], .int .i64 0, .bool false]) (by simp [results, Try.results12, go_sem, y0, y1]) rfl ?_
    rw [HRR.out]
    exact madeZ hBF
  · by_cases h0 : g < 0
    · skip
      have g0 := box_free HR1.out 0
      have g1 := box_free HR1.out 1
      have a0 := box_cell (j := 0) HR1.out rfl
      have a1 := box_cell (j := 1) HR1.out rfl
      go_wp2_with fail
      have hRF : ((w1.setCell ⟨w.heap.size + 1, 0, none⟩ (.int .i64 0)).setCell ⟨w.heap.size + 1, 1, none⟩ (.slice none 0 0)).heap[w.heap.size + 1]? = some (.cells #[.int .i64 0, .slice none 0 0] 25 (0, 0)) := box_set (j := 1) (u := .slice none 0 0) (box_set (j := 0) (u := .int .i64 0) HR1.out)
      have hBF : Below w.heap.size w ((w1.setCell ⟨w.heap.size + 1, 0, none⟩ (.int .i64 0)).setCell ⟨w.heap.size + 1, 1, none⟩ (.slice none 0 0)) := below_set (below_set HB1.out (by simp only; omega) (.int .i64 0)) (by simp only; omega) (.slice none 0 0)
      generalize ((w1.setCell ⟨w.heap.size + 1, 0, none⟩ (.int .i64 0)).setCell ⟨w.heap.size + 1, 1, none⟩ (.slice none 0 0)) = WF at *
      have y0 := box_cell (j := 0) hRF rfl
      have y1 := box_cell (j := 1) hRF rfl
      refine bodyPost_ret (v := .tuple #[.agg #[.int .i64 0, .slice none 0 0], .int .i64 0, .bool false]) (by simp [results, Try.results12, go_sem, y0, y1]) rfl ?_
      rw [HRR.out, decide_eq_true h0]
      exact madeZ hBF
    · by_cases hog : o = g
      · subst hog
        have HRS := Lib.hid (show unlockR ⟨o, ds⟩ o = (⟨ds.headD (-1), ds.tail⟩, ds.headD (-1), true) from HRR.out.trans (by rw [decide_eq_false (show ¬ o < 0 by omega), decide_eq_true (show o = o from rfl)]; exact if_pos rfl))
        clear HRR
        go_wp2_with fail
        refine (HCP.out _ HB1.out).mono ?_
        rintro e w2 ⟨p, rfl, hM2, hb2⟩
        try simp only at hM2
        have hp : w1.heap.size ≤ p := hM2.1
        have z2 : w.heap.size + 2 ≤ w2.heap.size := Nat.le_trans z1 hb2.size
        have HR2 := Lib.hid (box_keep HR1.out hb2 (by omega))
        have HB2 := Lib.hid (HB1.out.trans (hb2.mono (by omega)))
        obtain ⟨_, A2, c2, hX2, hO2⟩ := hM2
        have HX2 := Lib.hid hX2
        have HO2 := Lib.hid hO2
        have p0 := box_cell (j := 0) hX2 rfl
        have f0 := box_free hX2 0
        clear hb2 hX2 hO2 q0 q1
        go_upto_region 5 with (fail)
        have HST := Lib.hid (settle_any (w := (w2.setCell ⟨p, 0, none⟩ (.int .i64 (-1)))) (b0 := w1.heap.size) (g := p) (o := -1) (xs := ds) ⟨hp, A2, c2, box_set (j := 0) (u := .int .i64 (-1)) HX2.out, TailR.of ((HO2.out.setCell (o := 0) (g := p) (fun e => e.2.2 rfl) (.int .i64 (-1))).wide fun k hk => ⟨hk.1, by have := hk.2.1; simpa [World.setCell] using this, hk.2.2⟩)⟩ (by omega))
        have HR3 := Lib.hid (show (w2.setCell ⟨p, 0, none⟩ (.int .i64 (-1))).heap[w.heap.size + 1]? = some (.cells #[.int .i64 0, .slice none 0 0] 25 (0, 0)) from (Below.heap_setCell w2 ⟨p, 0, none⟩ (.int .i64 (-1)) (w.heap.size + 1) (by simp only; omega)).trans HR2.out)
        have HB3 := Lib.hid (show Below w.heap.size w (w2.setCell ⟨p, 0, none⟩ (.int .i64 (-1))) from below_set HB2.out (by simp only; omega) (.int .i64 (-1)))
        have hz3 : (w2.setCell ⟨p, 0, none⟩ (.int .i64 (-1))).heap.size = w2.heap.size := by simp [World.setCell]
        have HZ3 := Lib.hid hz3
        clear hz3 p0 f0
        simp only [if_true] at HST
        generalize (w2.setCell ⟨p, 0, none⟩ (.int .i64 (-1))) = w3 at *
        have z3 : w.heap.size + 2 ≤ w3.heap.size := by have := HZ3.out; omega
        generalize ds.headD (-1) = o' at *
        generalize ds.tail = xs' at *
        go_wp2_with fail
        refine HST.out.mono ?_
        rintro e w4 ⟨rfl, hM4, hb4⟩
        have z4 : w.heap.size + 2 ≤ w4.heap.size := Nat.le_trans z3 hb4.size
        have HR4 := Lib.hid (show w4.heap[w.heap.size + 1]? = some (.cells #[.int .i64 0, .slice none 0 0] 25 (0, 0)) from box_keep HR3.out hb4 (by omega))
        have HB4 := Lib.hid (HB3.out.trans (hb4.mono (by omega)))
        obtain ⟨_, A5, c5, hX5, hO5⟩ := hM4
        have HO5 := Lib.hid hO5
        have HX5 := Lib.hid hX5
        have p0 := box_cell (j := 0) hX5 rfl
        have p1 := box_cell (j := 1) hX5 rfl
        have g0 := box_free HR4.out 0
        have g1 := box_free HR4.out 1
        have a0 := box_cell (j := 0) HR4.out rfl
        have a1 := box_cell (j := 1) HR4.out rfl
        have HRF := Lib.hid (show ((w4.setCell ⟨w.heap.size + 1, 0, none⟩ (.int .i64 o')).setCell ⟨w.heap.size + 1, 1, none⟩ (.slice A5 xs'.length c5)).heap[w.heap.size + 1]? = some (.cells #[.int .i64 o', .slice A5 xs'.length c5] 25 (0, 0)) from (box_set (j := 1) (u := .slice A5 xs'.length c5) (box_set (j := 0) (u := .int .i64 o') HR4.out)))
        have hXF : ((w4.setCell ⟨w.heap.size + 1, 0, none⟩ (.int .i64 o')).setCell ⟨w.heap.size + 1, 1, none⟩ (.slice A5 xs'.length c5)).heap[p]? = some (.cells #[.int .i64 o', .slice A5 xs'.length c5] 25 (0, 0)) := (Below.heap_setCell _ ⟨w.heap.size + 1, 1, none⟩ _ p (by simp only; omega)).trans ((Below.heap_setCell _ ⟨w.heap.size + 1, 0, none⟩ _ p (by simp only; omega)).trans HX5.out)
        have r0 := box_cell (j := 0) hXF rfl
        have HBF := Lib.hid (show Below w.heap.size w ((w4.setCell ⟨w.heap.size + 1, 0, none⟩ (.int .i64 o')).setCell ⟨w.heap.size + 1, 1, none⟩ (.slice A5 xs'.length c5)) from (below_set (below_set HB4.out (by simp only; omega) (.int .i64 o')) (by simp only; omega) (.slice A5 xs'.length c5)))
        have HTF := Lib.hid (show TailR Lay.int 3 ((w4.setCell ⟨w.heap.size + 1, 0, none⟩ (.int .i64 o')).setCell ⟨w.heap.size + 1, 1, none⟩ (.slice A5 xs'.length c5)) (Fm ((w4.setCell ⟨w.heap.size + 1, 0, none⟩ (.int .i64 o')).setCell ⟨w.heap.size + 1, 1, none⟩ (.slice A5 xs'.length c5)) w1.heap.size p) A5 xs'.length c5 xs' from (((HO5.out.setCell (o := 0) (g := w.heap.size + 1) (fun e => by have := e.1; omega) (.int .i64 o')).setCell (o := 1) (g := w.heap.size + 1) (fun e => by have := e.1; omega) (.slice A5 xs'.length c5))).wide fun k hk => ⟨hk.1, by have := hk.2.1; simpa [World.setCell] using this, hk.2.2⟩)
        clear hb4 hX5 hO5 hXF
        go_wp2_with fail
        go_region
        all_goals
          go_wp2_with fail
          generalize ((w4.setCell ⟨w.heap.size + 1, 0, none⟩ (.int .i64 o')).setCell ⟨w.heap.size + 1, 1, none⟩ (.slice A5 xs'.length c5)) = WF at *
          have y0 := box_cell (j := 0) HRF.out rfl
          have y1 := box_cell (j := 1) HRF.out rfl
          refine bodyPost_ret (v := .tuple #[.agg #[.int .i64 o', .slice A5 xs'.length c5], (.int .i64 o'), .bool true]) (by simp [results, Try.results12, go_sem, y0, y1]) rfl ?_
          rw [HRS.out]
          exact madeM (r := ⟨o', xs'⟩) (W := WF.drew) HWF.out (show TailR Lay.int 3 WF.drew (Fm WF.drew w1.heap.size p) A5 xs'.length c5 xs' from HTF.out.stay (w' := WF.drew) (fun _ _ _ => rfl) (Nat.le_refl _)) (by omega) (below_drawn HBF.out 1)
      · have hne : (o != g) = true := by simpa using hog
        have hnn : ¬ g < 0 := h0
        have g0 := box_free HR1.out 0
        have g1 := box_free HR1.out 1
        have a0 := box_cell (j := 0) HR1.out rfl
        have a1 := box_cell (j := 1) HR1.out rfl
        go_wp2_with fail
        have hRF : ((w1.setCell ⟨w.heap.size + 1, 0, none⟩ (.int .i64 0)).setCell ⟨w.heap.size + 1, 1, none⟩ (.slice none 0 0)).heap[w.heap.size + 1]? = some (.cells #[.int .i64 0, .slice none 0 0] 25 (0, 0)) := box_set (j := 1) (u := .slice none 0 0) (box_set (j := 0) (u := .int .i64 0) HR1.out)
        have hBF : Below w.heap.size w ((w1.setCell ⟨w.heap.size + 1, 0, none⟩ (.int .i64 0)).setCell ⟨w.heap.size + 1, 1, none⟩ (.slice none 0 0)) := below_set (below_set HB1.out (by simp only; omega) (.int .i64 0)) (by simp only; omega) (.slice none 0 0)
        generalize ((w1.setCell ⟨w.heap.size + 1, 0, none⟩ (.int .i64 0)).setCell ⟨w.heap.size + 1, 1, none⟩ (.slice none 0 0)) = WF at *
        have y0 := box_cell (j := 0) hRF rfl
        have y1 := box_cell (j := 1) hRF rfl
        refine bodyPost_ret (v := .tuple #[.agg #[.int .i64 0, .slice none 0 0], .int .i64 0, .bool false]) (by simp [results, Try.results12, go_sem, y0, y1]) rfl ?_
        rw [HRR.out, decide_eq_false hog, Bool.and_false]
        exact madeZ hBF
end Go.Proofs.Ytalbbhnfdbacdaa
