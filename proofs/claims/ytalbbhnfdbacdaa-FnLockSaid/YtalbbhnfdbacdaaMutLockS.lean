
/- The model's l07Copy, Lock and Unlock. -/

import Derived.Test.YtalbbhnfdbacdaaMutOkS

import Derived.Test.YtalbbhnfdbacdaaMutLockI

namespace Go.Proofs.Ytalbbhnfdbacdaa
set_option linter.unusedSimpArgs false
set_option linter.unusedVariables false
open Go.RowKit

set_option maxRecDepth 100000 in
set_option maxHeartbeats 4000000 in
theorem l07Copy_any {w : World} {hi : Nat} {x : DMutex} {vs : List Value} (h : layMutex.see w hi x vs) (hhi : hi ≤ w.heap.size) (hn : szMutex x ≤ 1048576) :
    Calls Try.prog 37 #[.agg vs.toArray] w fun e w' => ∃ A c, e = .returned (.agg #[.int .i64 x.fOwner, .slice A x.fWait.length c]) ∧ OwnR Lay.int 3 w' (fun k => w.heap.size ≤ k ∧ k < w'.heap.size) A x.fWait.length c x.fWait ∧ Below w.heap.size w w' := by
  obtain ⟨A1, n1, c1, rfl, hw0, ⟨hc1, hm1, s1⟩⟩ := seeMutex h
  obtain ⟨o, ds⟩ := x
  have L1 := Lib.hid s1.1
  have hl : ds.length ≤ 1048576 := hn
  simp only at *
  rw [L1.out] at hl
  have HX0 := Lib.hid (show ((w.alloc (.cells #[.int .i64 o, .slice A1 n1 c1] 25)).alloc (.cells #[.int .i64 0, .slice none 0 0] 25)).heap[w.heap.size]? = some (.cells #[.int .i64 o, .slice A1 n1 c1] 25 (0, 0)) from by have := box_new w #[.int .i64 o, .slice A1 n1 c1] 25; exact box_keep this ((Below.refl _ _).alloc (Nat.le_refl _) _) (by simp))
  have HR0 := Lib.hid (show ((w.alloc (.cells #[.int .i64 o, .slice A1 n1 c1] 25)).alloc (.cells #[.int .i64 0, .slice none 0 0] 25)).heap[w.heap.size + 1]? = some (.cells #[.int .i64 0, .slice none 0 0] 25 (0, 0)) from by have := box_new (w.alloc (.cells #[.int .i64 o, .slice A1 n1 c1] 25)) #[.int .i64 0, .slice none 0 0] 25; rw [World.size_alloc] at this; exact this)
  have HB0 := Lib.hid (show Below w.heap.size w ((w.alloc (.cells #[.int .i64 o, .slice A1 n1 c1] 25)).alloc (.cells #[.int .i64 0, .slice none 0 0] 25)) from ((Below.refl _ _).alloc (Nat.le_refl _) _).alloc (by simp) _)
  have HS1 := Lib.hid (fun (W : World) (hW : Below w.heap.size w W) => s1.below hW hhi)
  have zz0 : w.heap.size + 2 ≤ ((w.alloc (.cells #[.int .i64 o, .slice A1 n1 c1] 25)).alloc (.cells #[.int .i64 0, .slice none 0 0] 25)).heap.size := by simp
  clear s1 h hn
  obtain ⟨i0, hi0, hiz0, hiz1, hiz2⟩ := info_parts infoIntC
  go_enter Try.func37, Try.ntmps37
  go_upto_region 1 with (fail)
  generalize ((w.alloc (.cells #[.int .i64 o, .slice A1 n1 c1] 25)).alloc (.cells #[.int .i64 0, .slice none 0 0] 25)) = w0b at *
  have hal1 : Below w0b.heap.size w0b (w0b.alloc (.cells #[] 3)) := (Below.refl _ _).alloc (Nat.le_refl _) _
  have hxa1 := box_keep HX0.out hal1 (by omega)
  have pa1 := box_cell (j := 1) hxa1 rfl
  have hsn1 := seenR_flat (HS1.out _ (HB0.out.trans (hal1.mono (by omega))))
  have hol1 : Own (w0b.alloc (.cells #[] 3)) w0b.heap.size (w0b.heap.size + 1) 3 1 (some ⟨w0b.heap.size, 0, none⟩) 0 0 [] := by simpa using Own.made (size := 1) (e := 3) w0b #[] 0 0 (by decide) rfl (Nat.le_refl _)
  go_upto_region 2 with (at_builtin; refine wpList_append_seen rfl (.tmp 3) (.tmp 5) _ rfl w0b.heap.size _ 3 i0 _ 1 8 Try.underlying23 hi0 hiz0 hiz1 hiz2 rfl (by omega) (some ⟨w0b.heap.size, 0, none⟩) 0 0 [] rfl hol1 hi A1 n1 c1 _ rfl hsn1.1 (cells_oneI _) (by simp only [maxLen]; omega) (by omega) (by simp) ?_; intro B1 e1 w1 own1 hb1; have hxk1 := box_keep hxa1 hb1 (by omega); have pk1 := box_cell (j := 1) hxk1 rfl; have fk1 := box_free hxk1 1)
  rw [Nat.zero_add] at own1
  simp only [List.nil_append] at own1
  replace own1 : OwnR Lay.int 3 w1 (fun g => w0b.heap.size ≤ g ∧ g < w1.heap.size) B1 n1 e1 ds := ownR_flat own1 L1.out hsn1.2
  replace hb1 := hal1.trans hb1
  have ha1 := hb1.size
  try simp only [Nat.zero_add]
  clear hal1 hxa1 hsn1 hol1 hxk1 pk1 fk1 pa1
  have zz1 : w.heap.size + 2 ≤ w1.heap.size := Nat.le_trans zz0 hb1.size
  have hx1 := box_keep HX0.out hb1 (by omega)
  have hr1 := box_keep HR0.out hb1 (by omega)
  have p1 := box_cell (j := 1) hx1 rfl
  have f1 := box_free hx1 1
  have HB1a := Lib.hid (HB0.out.trans (hb1.mono (by omega)))
  have HO1 := Lib.hid own1
  clear own1 hb1
  have HX1 := Lib.hid (show (w1.setCell ⟨w.heap.size, 1, none⟩ (.slice B1 n1 e1)).heap[w.heap.size]? = some (.cells #[.int .i64 o, .slice B1 n1 e1] 25 (0, 0)) from box_set (j := 1) (u := .slice B1 n1 e1) hx1)
  have HR1 := Lib.hid ((Below.heap_setCell w1 ⟨w.heap.size, 1, none⟩ (.slice B1 n1 e1) (w.heap.size + 1) (by simp only; omega)).trans hr1)
  have HB1 := Lib.hid (below_set (p := ⟨w.heap.size, 1, none⟩) HB1a.out (Nat.le_refl _) (.slice B1 n1 e1))
  replace HO1 := Lib.hid (OwnR.setCell (o := 1) HO1.out (g := w.heap.size) (by omega) (.slice B1 n1 e1))
  have hz1 := Lib.hid (show (w1.setCell ⟨w.heap.size, 1, none⟩ (.slice B1 n1 e1)).heap.size = w1.heap.size by simp [World.setCell])
  clear hx1 hr1 HB1a
  generalize w1.setCell ⟨w.heap.size, 1, none⟩ (.slice B1 n1 e1) = w1b at *
  have x0 := box_cell (j := 0) HX1.out rfl
  have x1 := box_cell (j := 1) HX1.out rfl
  have g0 := box_free HR1.out 0
  have g1 := box_free HR1.out 1
  have a0 := box_cell (j := 0) HR1.out rfl
  have a1 := box_cell (j := 1) HR1.out rfl
  clear p1 f1
  go_wp2_with fail
  have hRF : ((w1b.setCell ⟨w.heap.size + 1, 0, none⟩ (.int .i64 o)).setCell ⟨w.heap.size + 1, 1, none⟩ (.slice B1 n1 e1)).heap[w.heap.size + 1]? = some (.cells #[.int .i64 o, .slice B1 n1 e1] 25 (0, 0)) := box_set (j := 1) (u := .slice B1 n1 e1) (box_set (j := 0) (u := .int .i64 o) HR1.out)
  have hBF := below_set (p := ⟨w.heap.size + 1, 1, none⟩) (below_set (p := ⟨w.heap.size + 1, 0, none⟩) HB1.out (by simp only; omega) (.int .i64 o)) (by simp only; omega) (.slice B1 n1 e1)
  have hOF := OwnR.setCell (o := 1) (OwnR.setCell (o := 0) HO1.out (g := w.heap.size + 1) (by omega) (.int .i64 o)) (g := w.heap.size + 1) (by omega) (.slice B1 n1 e1)
  have hzF : ((w1b.setCell ⟨w.heap.size + 1, 0, none⟩ (.int .i64 o)).setCell ⟨w.heap.size + 1, 1, none⟩ (.slice B1 n1 e1)).heap.size = w1b.heap.size := by simp [World.setCell]
  generalize (w1b.setCell ⟨w.heap.size + 1, 0, none⟩ (.int .i64 o)).setCell ⟨w.heap.size + 1, 1, none⟩ (.slice B1 n1 e1) = WF at *
  have y0 := box_cell (j := 0) hRF rfl
  have y1 := box_cell (j := 1) hRF rfl
  refine bodyPost_ret (v := .agg #[.int .i64 o, .slice B1 n1 e1]) (by simp [results, Try.results37, go_sem, y0, y1]) rfl ?_
  have hzz := hz1.out
  rw [L1.out]
  exact ⟨B1, e1, rfl, hOF.wide fun k hk => by omega, hBF⟩

set_option maxRecDepth 100000 in
set_option maxHeartbeats 8000000 in
theorem specLock_any {w : World} {hi : Nat} {x : DMutex} {vs : List Value} {g : Int} (h : layMutex.see w hi x vs) (hhi : hi ≤ w.heap.size) (hn : szMutex x ≤ 1048576) (hg : (Lit.int .i64 g).wf = true) :
    Calls Try.prog 20 #[.agg vs.toArray, .int .i64 g] w (fun e w' => MadeM w (lockR x g).1 (.bool (lockR x g).2.1) (.bool (lockR x g).2.2) e w') := by
  obtain ⟨A1, n1, c1, rfl, hw0, ⟨hc1, hm1, s1⟩⟩ := seeMutex h
  have HSE := Lib.hid (fun (W : World) (hW : Below w.heap.size w W) => layMutex.keep h (w' := W) fun k hk => hW.block k (by omega))
  have HOK := Lib.hid (fun (W : World) (hW : Below w.heap.size w W) => specMutexOk_any (HSE.out W hW) (by have := hW.size; omega))
  have HCP := Lib.hid (fun (W : World) (hW : Below w.heap.size w W) => l07Copy_any (HSE.out W hW) (by have := hW.size; omega) hn)
  have HHS := Lib.hid (fun (W : World) (hW : Below w.heap.size w W) => specHas_any (c := c1) (g := g) (s1.below hW hhi) (Nat.le_trans hc1 hm1))
  clear s1 h HSE
  obtain ⟨o, ds⟩ := x
  have hl : ds.length ≤ 1048576 := hn
  have HG := Lib.hid hg
  have HW0 := Lib.hid hw0
  simp only at HW0
  have HFN := Lib.hid (fun (h : mutOkB ⟨o, ds⟩ = true) => free_none h)
  clear hg hw0 hn
  obtain ⟨ok, hok⟩ : ∃ ok, ok = mutOkB ⟨o, ds⟩ := ⟨_, rfl⟩
  rw [← hok] at HOK HFN
  obtain ⟨hs, hhs⟩ : ∃ hs, hs = ds.contains g := ⟨_, rfl⟩
  simp only [← hhs] at HHS
  have HRR := Lib.hid (show lockR ⟨o, ds⟩ g = if ok && !decide (g < 0) && !hs then (if o = g then (⟨o, ds⟩, false, false) else if o = -1 then (⟨g, ds⟩, true, true) else (⟨o, ds ++ [g]⟩, false, true)) else (zeroM, false, false) from by rw [hok, hhs]; rfl)
  clear hok hhs
  show Calls Try.prog 20 #[.agg #[.int .i64 o, .slice A1 n1 c1], .int .i64 g] w _
  have HX0 := Lib.hid (show ((w.alloc (.cells #[.int .i64 o, .slice A1 n1 c1] 25)).alloc (.cells #[.int .i64 0, .slice none 0 0] 25)).heap[w.heap.size]? = some (.cells #[.int .i64 o, .slice A1 n1 c1] 25 (0, 0)) from by have := box_new w #[.int .i64 o, .slice A1 n1 c1] 25; exact box_keep this ((Below.refl _ _).alloc (Nat.le_refl _) _) (by simp))
  have HR0 := Lib.hid (show ((w.alloc (.cells #[.int .i64 o, .slice A1 n1 c1] 25)).alloc (.cells #[.int .i64 0, .slice none 0 0] 25)).heap[w.heap.size + 1]? = some (.cells #[.int .i64 0, .slice none 0 0] 25 (0, 0)) from by have := box_new (w.alloc (.cells #[.int .i64 o, .slice A1 n1 c1] 25)) #[.int .i64 0, .slice none 0 0] 25; rw [World.size_alloc] at this; exact this)
  have HB0 := Lib.hid (show Below w.heap.size w ((w.alloc (.cells #[.int .i64 o, .slice A1 n1 c1] 25)).alloc (.cells #[.int .i64 0, .slice none 0 0] 25)) from ((Below.refl _ _).alloc (Nat.le_refl _) _).alloc (by simp) _)
  have z0 : w.heap.size + 2 ≤ ((w.alloc (.cells #[.int .i64 o, .slice A1 n1 c1] 25)).alloc (.cells #[.int .i64 0, .slice none 0 0] 25)).heap.size := by simp
  go_enter Try.func20, Try.ntmps20
  go_wp2_with fail
  refine (HOK.out _ HB0.out).mono ?_
  rintro e w1 ⟨rfl, hb1⟩
  have z1 : w.heap.size + 2 ≤ w1.heap.size := Nat.le_trans z0 hb1.size
  have HX1 := Lib.hid (box_keep HX0.out hb1 (by omega))
  have HR1 := Lib.hid (box_keep HR0.out hb1 (by omega))
  have HB1 := Lib.hid (HB0.out.trans (hb1.mono (by omega)))
  have q0 := box_cell (j := 0) HX1.out rfl
  have q1 := box_cell (j := 1) HX1.out rfl
  clear hb1
  cases ok
  · skip
    have g0 := box_free HR1.out 0
    have g1 := box_free HR1.out 1
    have a0 := box_cell (j := 0) HR1.out rfl
    have a1 := box_cell (j := 1) HR1.out rfl
    go_wp2_with fail
    have hRF : ((w1.setCell ⟨w.heap.size + 1, 0, none⟩ (.int .i64 0)).setCell ⟨w.heap.size + 1, 1, none⟩ (.slice none 0 0)).heap[w.heap.size + 1]? = some (.cells #[.int .i64 0, .slice none 0 0] 25 (0, 0)) := box_set (j := 1) (u := .slice none 0 0) (box_set (j := 0) (u := .int .i64 0) HR1.out)
    have hBF : Below w.heap.size w ((w1.setCell ⟨w.heap.size + 1, 0, none⟩ (.int .i64 0)).setCell ⟨w.heap.size + 1, 1, none⟩ (.slice none 0 0)) := below_set (below_set HB1.out (by simp only; omega) (.int .i64 0)) (by simp only; omega) (.slice none 0 0)
    generalize ((w1.setCell ⟨w.heap.size + 1, 0, none⟩ (.int .i64 0)).setCell ⟨w.heap.size + 1, 1, none⟩ (.slice none 0 0)) = WF at *
    have y0 := box_cell (j := 0) hRF rfl
    have y1 := box_cell (j := 1) hRF rfl
    refine bodyPost_ret (v := .tuple #[.agg #[.int .i64 0, .slice none 0 0], .bool false, .bool false]) (by simp [results, Try.results20, go_sem, y0, y1]) rfl ?_
    rw [HRR.out]
    exact madeZ hBF
  · by_cases h0 : g < 0
    · skip
      have g0 := box_free HR1.out 0
      have g1 := box_free HR1.out 1
      have a0 := box_cell (j := 0) HR1.out rfl
      have a1 := box_cell (j := 1) HR1.out rfl
      go_wp2_with fail
      have hRF : ((w1.setCell ⟨w.heap.size + 1, 0, none⟩ (.int .i64 0)).setCell ⟨w.heap.size + 1, 1, none⟩ (.slice none 0 0)).heap[w.heap.size + 1]? = some (.cells #[.int .i64 0, .slice none 0 0] 25 (0, 0)) := box_set (j := 1) (u := .slice none 0 0) (box_set (j := 0) (u := .int .i64 0) HR1.out)
      have hBF : Below w.heap.size w ((w1.setCell ⟨w.heap.size + 1, 0, none⟩ (.int .i64 0)).setCell ⟨w.heap.size + 1, 1, none⟩ (.slice none 0 0)) := below_set (below_set HB1.out (by simp only; omega) (.int .i64 0)) (by simp only; omega) (.slice none 0 0)
      generalize ((w1.setCell ⟨w.heap.size + 1, 0, none⟩ (.int .i64 0)).setCell ⟨w.heap.size + 1, 1, none⟩ (.slice none 0 0)) = WF at *
      have y0 := box_cell (j := 0) hRF rfl
      have y1 := box_cell (j := 1) hRF rfl
      refine bodyPost_ret (v := .tuple #[.agg #[.int .i64 0, .slice none 0 0], .bool false, .bool false]) (by simp [results, Try.results20, go_sem, y0, y1]) rfl ?_
      rw [HRR.out, decide_eq_true h0]
      exact madeZ hBF
    · go_wp2_with fail
      refine (HHS.out _ HB1.out).mono ?_
      rintro e w1' ⟨rfl, rfl⟩
      rcases Bool.eq_false_or_eq_true hs with hb | hb
      · subst hb
        have g0 := box_free HR1.out 0
        have g1 := box_free HR1.out 1
        have a0 := box_cell (j := 0) HR1.out rfl
        have a1 := box_cell (j := 1) HR1.out rfl
        go_wp2_with fail
        have hRF : ((w1'.setCell ⟨w.heap.size + 1, 0, none⟩ (.int .i64 0)).setCell ⟨w.heap.size + 1, 1, none⟩ (.slice none 0 0)).heap[w.heap.size + 1]? = some (.cells #[.int .i64 0, .slice none 0 0] 25 (0, 0)) := box_set (j := 1) (u := .slice none 0 0) (box_set (j := 0) (u := .int .i64 0) HR1.out)
        have hBF : Below w.heap.size w ((w1'.setCell ⟨w.heap.size + 1, 0, none⟩ (.int .i64 0)).setCell ⟨w.heap.size + 1, 1, none⟩ (.slice none 0 0)) := below_set (below_set HB1.out (by simp only; omega) (.int .i64 0)) (by simp only; omega) (.slice none 0 0)
        generalize ((w1'.setCell ⟨w.heap.size + 1, 0, none⟩ (.int .i64 0)).setCell ⟨w.heap.size + 1, 1, none⟩ (.slice none 0 0)) = WF at *
        have y0 := box_cell (j := 0) hRF rfl
        have y1 := box_cell (j := 1) hRF rfl
        refine bodyPost_ret (v := .tuple #[.agg #[.int .i64 0, .slice none 0 0], .bool false, .bool false]) (by simp [results, Try.results20, go_sem, y0, y1]) rfl ?_
        rw [HRR.out, decide_eq_false (show ¬ g < 0 by omega)]
        exact madeZ hBF
      · subst hb
        have HRS := Lib.hid (show lockR ⟨o, ds⟩ g = (if o = g then (⟨o, ds⟩, false, false) else if o = -1 then (⟨g, ds⟩, true, true) else (⟨o, ds ++ [g]⟩, false, true)) from HRR.out.trans (by rw [decide_eq_false (show ¬ g < 0 by omega)]; exact if_pos rfl))
        clear HRR
        go_wp2_with fail
        refine (HCP.out _ HB1.out).mono ?_
        rintro e w2 ⟨A2, c2, rfl, hO2, hb2⟩
        have z2 : w.heap.size + 2 ≤ w2.heap.size := Nat.le_trans z1 hb2.size
        have z2b := hb2.size
        have hal : Below w2.heap.size w2 (w2.alloc (.cells #[.int .i64 o, .slice A2 ds.length c2] 25)) := (Below.refl _ _).alloc (Nat.le_refl _) _
        have HX3 := Lib.hid (box_keep (box_keep HX1.out hb2 (by omega)) hal (by omega))
        have HR3 := Lib.hid (box_keep (box_keep HR1.out hb2 (by omega)) hal (by omega))
        have HB3 := Lib.hid ((HB1.out.trans (hb2.mono (by omega))).trans (hal.mono (by omega)))
        have HP3 := Lib.hid (box_new w2 #[.int .i64 o, .slice A2 ds.length c2] 25)
        have HO3 := Lib.hid ((hO2.stay (w' := (w2.alloc (.cells #[.int .i64 o, .slice A2 ds.length c2] 25))) (fun g hg hlt => hal.block g hlt) hal.size).wide (F' := Fm (w2.alloc (.cells #[.int .i64 o, .slice A2 ds.length c2] 25)) w1'.heap.size w2.heap.size) fun k hk => ⟨hk.1, by have := hk.2; simp; omega, by have := hk.2; omega⟩)
        have hz3 : (w2.alloc (.cells #[.int .i64 o, .slice A2 ds.length c2] 25)).heap.size = w2.heap.size + 1 := by simp
        have HZ3 := Lib.hid hz3
        clear hz3 hal hO2 hb2 q0 q1
        go_upto_region 4 with (fail)
        generalize (w2.alloc (.cells #[.int .i64 o, .slice A2 ds.length c2] 25)) = w3 at *
        have z3 : w.heap.size + 2 ≤ w3.heap.size := by have := HZ3.out; omega
        have z3b : w2.heap.size < w3.heap.size := by have := HZ3.out; omega
        have q0 := box_cell (j := 0) HX3.out rfl
        have q1 := box_cell (j := 1) HX3.out rfl
        have p0 := box_cell (j := 0) HP3.out rfl
        have p1 := box_cell (j := 1) HP3.out rfl
        have k0 := box_free HP3.out 0
        have k1 := box_free HP3.out 1
        have g0 := box_free HR3.out 0
        have g1 := box_free HR3.out 1
        have a0 := box_cell (j := 0) HR3.out rfl
        have a1 := box_cell (j := 1) HR3.out rfl
        by_cases hog : o = g
        · subst hog
          go_wp2_with fail
          have hRF : ((w3.setCell ⟨w.heap.size + 1, 0, none⟩ (.int .i64 o)).setCell ⟨w.heap.size + 1, 1, none⟩ (.slice A2 ds.length c2)).heap[w.heap.size + 1]? = some (.cells #[.int .i64 o, .slice A2 ds.length c2] 25 (0, 0)) := (box_set (j := 1) (u := .slice A2 ds.length c2) (box_set (j := 0) (u := .int .i64 o) HR3.out))
          have hBF : Below w.heap.size w ((w3.setCell ⟨w.heap.size + 1, 0, none⟩ (.int .i64 o)).setCell ⟨w.heap.size + 1, 1, none⟩ (.slice A2 ds.length c2)) := (below_set (below_set HB3.out (by simp only; omega) (.int .i64 o)) (by simp only; omega) (.slice A2 ds.length c2))
          have hTF := Lib.hid (show TailR Lay.int 3 ((w3.setCell ⟨w.heap.size + 1, 0, none⟩ (.int .i64 o)).setCell ⟨w.heap.size + 1, 1, none⟩ (.slice A2 ds.length c2)) (Fm ((w3.setCell ⟨w.heap.size + 1, 0, none⟩ (.int .i64 o)).setCell ⟨w.heap.size + 1, 1, none⟩ (.slice A2 ds.length c2)) w1'.heap.size w2.heap.size) A2 ds.length c2 ds from (((TailR.of HO3.out).setCell (o := 0) (g := w.heap.size + 1) (fun e => by have := e.1; omega) (.int .i64 o)).setCell (o := 1) (g := w.heap.size + 1) (fun e => by have := e.1; omega) (.slice A2 ds.length c2)).wide fun k hk => ⟨hk.1, by have := hk.2.1; simpa [World.setCell] using this, hk.2.2⟩)
          generalize ((w3.setCell ⟨w.heap.size + 1, 0, none⟩ (.int .i64 o)).setCell ⟨w.heap.size + 1, 1, none⟩ (.slice A2 ds.length c2)) = WF at *
          have y0 := box_cell (j := 0) hRF rfl
          have y1 := box_cell (j := 1) hRF rfl
          refine bodyPost_ret (v := .tuple #[.agg #[.int .i64 o, .slice A2 ds.length c2], .bool false, .bool false]) (by simp [results, Try.results20, go_sem, y0, y1]) rfl ?_
          rw [HRS.out]
          simp only [if_true]
          exact madeM (r := ⟨o, ds⟩) HW0.out hTF.out (by omega) hBF
        · by_cases ho : o = -1
          · subst ho
            go_upto_region 8 with (fail)
            have HP4 := Lib.hid (show (w3.setCell ⟨w2.heap.size, 0, none⟩ (.int .i64 g)).heap[w2.heap.size]? = some (.cells #[.int .i64 g, .slice A2 ds.length c2] 25 (0, 0)) from box_set (j := 0) (u := .int .i64 g) HP3.out)
            have HR4 := Lib.hid (show (w3.setCell ⟨w2.heap.size, 0, none⟩ (.int .i64 g)).heap[w.heap.size + 1]? = some (.cells #[.int .i64 0, .slice none 0 0] 25 (0, 0)) from (Below.heap_setCell w3 ⟨w2.heap.size, 0, none⟩ (.int .i64 g) (w.heap.size + 1) (by simp only; omega)).trans HR3.out)
            have HB4 := Lib.hid (show Below w.heap.size w (w3.setCell ⟨w2.heap.size, 0, none⟩ (.int .i64 g)) from below_set HB3.out (by simp only; omega) (.int .i64 g))
            have HO4 := Lib.hid (show TailR Lay.int 3 (w3.setCell ⟨w2.heap.size, 0, none⟩ (.int .i64 g)) (Fm (w3.setCell ⟨w2.heap.size, 0, none⟩ (.int .i64 g)) w1'.heap.size w2.heap.size) A2 ds.length c2 ds from (TailR.of (HO3.out.setCell (o := 0) (g := w2.heap.size) (fun e => e.2.2 rfl) (.int .i64 g))).wide fun k hk => ⟨hk.1, by have := hk.2.1; simpa [World.setCell] using this, hk.2.2⟩)
            clear q0 q1 p0 p1 k0 k1 g0 g1 a0 a1
            generalize (w3.setCell ⟨w2.heap.size, 0, none⟩ (.int .i64 g)) = w4 at *
            have p0 := box_cell (j := 0) HP4.out rfl
            have p1 := box_cell (j := 1) HP4.out rfl
            have g0 := box_free HR4.out 0
            have g1 := box_free HR4.out 1
            have a0 := box_cell (j := 0) HR4.out rfl
            have a1 := box_cell (j := 1) HR4.out rfl
            go_wp2_with fail
            have hRF : ((w4.setCell ⟨w.heap.size + 1, 0, none⟩ (.int .i64 g)).setCell ⟨w.heap.size + 1, 1, none⟩ (.slice A2 ds.length c2)).heap[w.heap.size + 1]? = some (.cells #[.int .i64 g, .slice A2 ds.length c2] 25 (0, 0)) := (box_set (j := 1) (u := .slice A2 ds.length c2) (box_set (j := 0) (u := .int .i64 g) HR4.out))
            have hBF : Below w.heap.size w ((w4.setCell ⟨w.heap.size + 1, 0, none⟩ (.int .i64 g)).setCell ⟨w.heap.size + 1, 1, none⟩ (.slice A2 ds.length c2)) := (below_set (below_set HB4.out (by simp only; omega) (.int .i64 g)) (by simp only; omega) (.slice A2 ds.length c2))
            have hTF := Lib.hid (show TailR Lay.int 3 ((w4.setCell ⟨w.heap.size + 1, 0, none⟩ (.int .i64 g)).setCell ⟨w.heap.size + 1, 1, none⟩ (.slice A2 ds.length c2)) (Fm ((w4.setCell ⟨w.heap.size + 1, 0, none⟩ (.int .i64 g)).setCell ⟨w.heap.size + 1, 1, none⟩ (.slice A2 ds.length c2)) w1'.heap.size w2.heap.size) A2 ds.length c2 ds from ((HO4.out.setCell (o := 0) (g := w.heap.size + 1) (fun e => by have := e.1; omega) (.int .i64 g)).setCell (o := 1) (g := w.heap.size + 1) (fun e => by have := e.1; omega) (.slice A2 ds.length c2)).wide fun k hk => ⟨hk.1, by have := hk.2.1; simpa [World.setCell] using this, hk.2.2⟩)
            generalize ((w4.setCell ⟨w.heap.size + 1, 0, none⟩ (.int .i64 g)).setCell ⟨w.heap.size + 1, 1, none⟩ (.slice A2 ds.length c2)) = WF at *
            have y0 := box_cell (j := 0) hRF rfl
            have y1 := box_cell (j := 1) hRF rfl
            refine bodyPost_ret (v := .tuple #[.agg #[.int .i64 g, .slice A2 ds.length c2], .bool true, .bool true]) (by simp [results, Try.results20, go_sem, y0, y1]) rfl ?_
            rw [HRS.out, if_neg hog]
            simp only [if_true]
            exact madeM (r := ⟨g, ds⟩) HG.out hTF.out (by omega) hBF
          · skip
            have hal5 : Below w3.heap.size w3 (w3.alloc (.cells #[.int .i64 g] 3)) := (Below.refl _ _).alloc (Nat.le_refl _) _
            obtain ⟨i0, hi0, hiz0, hiz1, hiz2⟩ := info_parts infoIntC
            have hown := (ownR_flat_own (lo := 0) (hi := w3.heap.size) HO3.out fun g hg => ⟨Nat.zero_le _, hg.2.1⟩).alloc (.cells #[.int .i64 g] 3)
            have HBL := Lib.hid HO3.out.blk
            have hxa := box_keep HP3.out hal5 (by omega)
            have p1a := box_cell (j := 1) hxa rfl
            have HNB := Lib.hid (show blkA A2 ≠ some w2.heap.size from fun h => (HBL.out _ h).2.2 rfl)
            have HXA := Lib.hid hxa
            clear hxa q1
            go_upto_region 10 with (at_builtin; refine wpList_append_kin rfl (.tmp 36) (.tmp 38) _ rfl 0 _ 3 i0 _ 1 8 Try.underlying23 hi0 hiz0 hiz1 hiz2 rfl (by omega) A2 ds.length c2 _ rfl hown _ ⟨w3.heap.size, 0, none⟩ 1 1 [.int .i64 g] rfl (Seen.one w3 (.int .i64 g) 3) (by simp [Value.oneCell']) (by simp only [maxLen]; omega) (by omega) (Nat.zero_le _) ?_; intro B4 e4 w5 own5 hb5 hk5 hA5; have hxk := (hk5 w2.heap.size (by simp; omega) HNB.out).trans HXA.out; have pk := box_cell (j := 1) hxk rfl; have fk := box_free hxk 1)
            have hfl : (ds.map fun z => [Value.int .i64 z]).flatten ++ [.int .i64 g] = ((ds ++ [g]).map fun z => [Value.int .i64 z]).flatten := by simp
            rw [hfl] at own5
            have hwf : ∀ z ∈ ds ++ [g], (Lit.int .i64 z).wf = true := by
              intro z hz
              rcases List.mem_append.1 hz with hz | hz
              · obtain ⟨i, hi⟩ := List.mem_iff_getElem?.1 hz
                obtain ⟨_, _, _, _, _, hel, _⟩ := HO3.out
                exact (hel i z hi).2
              · simp at hz
                subst hz
                exact HG.out
            have h9 : OwnR Lay.int 3 w5 (fun g => 0 ≤ g ∧ g < w5.heap.size) B4 (ds.length + 1) e4 (ds ++ [g]) := ownR_flat own5 (by simp) hwf
            have HU1 := Lib.hid (show OwnR Lay.int 3 w5 (fun g => blkA B4 = some g) B4 (ds.length + 1) e4 (ds ++ [g]) from by
              obtain ⟨h1, vs, G, ho, hAA, hel, hG, h4, h5⟩ := h9
              exact ⟨h1, vs, fun _ _ => False, ho, fun g hg => hg, fun i x hx => ⟨(hel i x hx).1, (hel i x hx).2⟩, fun _ _ _ h => h.elim, fun _ _ _ h => h.elim, fun _ _ _ _ _ h => h.elim⟩)
            have hz5 := hb5.size
            simp only [World.size_alloc] at hz5 hk5 hA5
            have hBB : ∀ k, blkA B4 = some k → w1'.heap.size ≤ k ∧ k ≠ w2.heap.size := fun k hk => by
              rcases hA5 with h1 | h1
              · exact ⟨(HBL.out k (h1 ▸ hk)).1, (HBL.out k (h1 ▸ hk)).2.2⟩
              · rw [h1] at hk
                injection hk with hk
                omega
            have hlow : Below w1'.heap.size w3 w5 := ⟨hb5.os, hb5.tape, hb5.output, by omega, fun k hk => (hk5 k (by omega) (fun e => by have := (HBL.out k e).1; omega)).trans (Below.heap_alloc w3 _ k (by omega))⟩
            have HR5 := Lib.hid (box_keep HR3.out hlow (by omega))
            have HB5 := Lib.hid (HB3.out.trans (hlow.mono (by omega)))
            have HXK := Lib.hid hxk
            have HBB := Lib.hid hBB
            clear hlow hBB h9 hwf own5 hb5 hk5 hA5 pk fk hxk hal5 hown p1a p0 p1 k0 k1 g0 g1 a0 a1 q0
            have HP6 := Lib.hid (show (w5.setCell ⟨w2.heap.size, 1, none⟩ (.slice B4 (ds.length + 1) e4)).heap[w2.heap.size]? = some (.cells #[.int .i64 o, .slice B4 (ds.length + 1) e4] 25 (0, 0)) from box_set (j := 1) (u := .slice B4 (ds.length + 1) e4) HXK.out)
            have HR6 := Lib.hid (show (w5.setCell ⟨w2.heap.size, 1, none⟩ (.slice B4 (ds.length + 1) e4)).heap[w.heap.size + 1]? = some (.cells #[.int .i64 0, .slice none 0 0] 25 (0, 0)) from (Below.heap_setCell w5 ⟨w2.heap.size, 1, none⟩ (.slice B4 (ds.length + 1) e4) (w.heap.size + 1) (by simp only; omega)).trans HR5.out)
            have HB6 := Lib.hid (show Below w.heap.size w (w5.setCell ⟨w2.heap.size, 1, none⟩ (.slice B4 (ds.length + 1) e4)) from below_set HB5.out (by simp only; omega) (.slice B4 (ds.length + 1) e4))
            have HO6 := Lib.hid (show TailR Lay.int 3 (w5.setCell ⟨w2.heap.size, 1, none⟩ (.slice B4 (ds.length + 1) e4)) (Fm (w5.setCell ⟨w2.heap.size, 1, none⟩ (.slice B4 (ds.length + 1) e4)) w1'.heap.size w2.heap.size) B4 (ds.length + 1) e4 (ds ++ [g]) from (TailR.of (HU1.out.setCell (o := 1) (g := w2.heap.size) (fun e => (HBB.out _ e).2 rfl) (.slice B4 (ds.length + 1) e4))).wide fun k hk => ⟨(HBB.out k hk).1, by have := HU1.out.lt_blk hk; simpa [World.setCell] using this, (HBB.out k hk).2⟩)
            generalize (w5.setCell ⟨w2.heap.size, 1, none⟩ (.slice B4 (ds.length + 1) e4)) = w6 at *
            have p0 := box_cell (j := 0) HP6.out rfl
            have p1 := box_cell (j := 1) HP6.out rfl
            have g0 := box_free HR6.out 0
            have g1 := box_free HR6.out 1
            have a0 := box_cell (j := 0) HR6.out rfl
            have a1 := box_cell (j := 1) HR6.out rfl
            go_wp2_with fail
            have hRF : ((w6.setCell ⟨w.heap.size + 1, 0, none⟩ (.int .i64 o)).setCell ⟨w.heap.size + 1, 1, none⟩ (.slice B4 (ds.length + 1) e4)).heap[w.heap.size + 1]? = some (.cells #[.int .i64 o, .slice B4 (ds.length + 1) e4] 25 (0, 0)) := (box_set (j := 1) (u := .slice B4 (ds.length + 1) e4) (box_set (j := 0) (u := .int .i64 o) HR6.out))
            have hBF : Below w.heap.size w ((w6.setCell ⟨w.heap.size + 1, 0, none⟩ (.int .i64 o)).setCell ⟨w.heap.size + 1, 1, none⟩ (.slice B4 (ds.length + 1) e4)) := (below_set (below_set HB6.out (by simp only; omega) (.int .i64 o)) (by simp only; omega) (.slice B4 (ds.length + 1) e4))
            have hTF := Lib.hid (show TailR Lay.int 3 ((w6.setCell ⟨w.heap.size + 1, 0, none⟩ (.int .i64 o)).setCell ⟨w.heap.size + 1, 1, none⟩ (.slice B4 (ds.length + 1) e4)) (Fm ((w6.setCell ⟨w.heap.size + 1, 0, none⟩ (.int .i64 o)).setCell ⟨w.heap.size + 1, 1, none⟩ (.slice B4 (ds.length + 1) e4)) w1'.heap.size w2.heap.size) B4 (ds.length + 1) e4 (ds ++ [g]) from ((HO6.out.setCell (o := 0) (g := w.heap.size + 1) (fun e => by have := e.1; omega) (.int .i64 o)).setCell (o := 1) (g := w.heap.size + 1) (fun e => by have := e.1; omega) (.slice B4 (ds.length + 1) e4)).wide fun k hk => ⟨hk.1, by have := hk.2.1; simpa [World.setCell] using this, hk.2.2⟩)
            generalize ((w6.setCell ⟨w.heap.size + 1, 0, none⟩ (.int .i64 o)).setCell ⟨w.heap.size + 1, 1, none⟩ (.slice B4 (ds.length + 1) e4)) = WF at *
            have y0 := box_cell (j := 0) hRF rfl
            have y1 := box_cell (j := 1) hRF rfl
            refine bodyPost_ret (v := .tuple #[.agg #[.int .i64 o, .slice B4 (ds.length + 1) e4], .bool false, .bool true]) (by simp [results, Try.results20, go_sem, y0, y1]) rfl ?_
            rw [HRS.out, if_neg hog, if_neg ho]
            have hTG := hTF.out
            have hLN := Lib.hid (show (ds ++ [g]).length = ds.length + 1 by simp)
            rw [← hLN.out] at hTG ⊢
            exact madeM (r := ⟨o, ds ++ [g]⟩) HW0.out hTG (by omega) hBF

set_option maxRecDepth 100000 in
set_option maxHeartbeats 8000000 in
theorem specUnlock_any {w : World} {hi : Nat} {x : DMutex} {vs : List Value} {g : Int} (h : layMutex.see w hi x vs) (hhi : hi ≤ w.heap.size) (hn : szMutex x ≤ 1048576) (hg : (Lit.int .i64 g).wf = true) :
    Calls Try.prog 21 #[.agg vs.toArray, .int .i64 g] w (fun e w' => MadeM w (unlockR x g).1 (.int .i64 (unlockR x g).2.1) (.bool (unlockR x g).2.2) e w') := by
  obtain ⟨A1, n1, c1, rfl, hw0, ⟨hc1, hm1, s1⟩⟩ := seeMutex h
  have HSE := Lib.hid (fun (W : World) (hW : Below w.heap.size w W) => layMutex.keep h (w' := W) fun k hk => hW.block k (by omega))
  have HOK := Lib.hid (fun (W : World) (hW : Below w.heap.size w W) => specMutexOk_any (HSE.out W hW) (by have := hW.size; omega))
  have HCP := Lib.hid (fun (W : World) (hW : Below w.heap.size w W) => l07Copy_any (HSE.out W hW) (by have := hW.size; omega) hn)
  have HS1 := Lib.hid (fun (W : World) (hW : Below w.heap.size w W) => s1.below hW hhi)
  have HWA := Lib.hid (seenR_wf s1)
  have HLN := Lib.hid s1.1
  clear s1 h HSE
  obtain ⟨o, ds⟩ := x
  have hl : ds.length ≤ 1048576 := hn
  have HG := Lib.hid hg
  have HW0 := Lib.hid hw0
  simp only at HW0
  have HFN := Lib.hid (fun (h : mutOkB ⟨o, ds⟩ = true) => free_none h)
  clear hg hw0 hn
  obtain ⟨ok, hok⟩ : ∃ ok, ok = mutOkB ⟨o, ds⟩ := ⟨_, rfl⟩
  rw [← hok] at HOK HFN
  have HRR := Lib.hid (show unlockR ⟨o, ds⟩ g = if ok && !decide (g < 0) && decide (o = g) then (⟨ds.headD (-1), ds.tail⟩, ds.headD (-1), true) else (zeroM, 0, false) from by rw [hok]; rfl)
  clear hok
  simp only at HS1 HWA HLN
  show Calls Try.prog 21 #[.agg #[.int .i64 o, .slice A1 n1 c1], .int .i64 g] w _
  have HX0 := Lib.hid (show ((w.alloc (.cells #[.int .i64 o, .slice A1 n1 c1] 25)).alloc (.cells #[.int .i64 0, .slice none 0 0] 25)).heap[w.heap.size]? = some (.cells #[.int .i64 o, .slice A1 n1 c1] 25 (0, 0)) from by have := box_new w #[.int .i64 o, .slice A1 n1 c1] 25; exact box_keep this ((Below.refl _ _).alloc (Nat.le_refl _) _) (by simp))
  have HR0 := Lib.hid (show ((w.alloc (.cells #[.int .i64 o, .slice A1 n1 c1] 25)).alloc (.cells #[.int .i64 0, .slice none 0 0] 25)).heap[w.heap.size + 1]? = some (.cells #[.int .i64 0, .slice none 0 0] 25 (0, 0)) from by have := box_new (w.alloc (.cells #[.int .i64 o, .slice A1 n1 c1] 25)) #[.int .i64 0, .slice none 0 0] 25; rw [World.size_alloc] at this; exact this)
  have HB0 := Lib.hid (show Below w.heap.size w ((w.alloc (.cells #[.int .i64 o, .slice A1 n1 c1] 25)).alloc (.cells #[.int .i64 0, .slice none 0 0] 25)) from ((Below.refl _ _).alloc (Nat.le_refl _) _).alloc (by simp) _)
  have z0 : w.heap.size + 2 ≤ ((w.alloc (.cells #[.int .i64 o, .slice A1 n1 c1] 25)).alloc (.cells #[.int .i64 0, .slice none 0 0] 25)).heap.size := by simp
  go_enter Try.func21, Try.ntmps21
  go_wp2_with fail
  refine (HOK.out _ HB0.out).mono ?_
  rintro e w1 ⟨rfl, hb1⟩
  have z1 : w.heap.size + 2 ≤ w1.heap.size := Nat.le_trans z0 hb1.size
  have HX1 := Lib.hid (box_keep HX0.out hb1 (by omega))
  have HR1 := Lib.hid (box_keep HR0.out hb1 (by omega))
  have HB1 := Lib.hid (HB0.out.trans (hb1.mono (by omega)))
  have q0 := box_cell (j := 0) HX1.out rfl
  have q1 := box_cell (j := 1) HX1.out rfl
  clear hb1
  cases ok
  · skip
    have g0 := box_free HR1.out 0
    have g1 := box_free HR1.out 1
    have a0 := box_cell (j := 0) HR1.out rfl
    have a1 := box_cell (j := 1) HR1.out rfl
    go_wp2_with fail
    have hRF : ((w1.setCell ⟨w.heap.size + 1, 0, none⟩ (.int .i64 0)).setCell ⟨w.heap.size + 1, 1, none⟩ (.slice none 0 0)).heap[w.heap.size + 1]? = some (.cells #[.int .i64 0, .slice none 0 0] 25 (0, 0)) := box_set (j := 1) (u := .slice none 0 0) (box_set (j := 0) (u := .int .i64 0) HR1.out)
    have hBF : Below w.heap.size w ((w1.setCell ⟨w.heap.size + 1, 0, none⟩ (.int .i64 0)).setCell ⟨w.heap.size + 1, 1, none⟩ (.slice none 0 0)) := below_set (below_set HB1.out (by simp only; omega) (.int .i64 0)) (by simp only; omega) (.slice none 0 0)
    generalize ((w1.setCell ⟨w.heap.size + 1, 0, none⟩ (.int .i64 0)).setCell ⟨w.heap.size + 1, 1, none⟩ (.slice none 0 0)) = WF at *
    have y0 := box_cell (j := 0) hRF rfl
    have y1 := box_cell (j := 1) hRF rfl
    refine bodyPost_ret (v := .tuple #[.agg #[.int .i64 0, .slice none 0 0], .int .i64 0, .bool false]) (by simp [results, Try.results21, go_sem, y0, y1]) rfl ?_
    rw [HRR.out]
    exact madeZ hBF
  · by_cases h0 : g < 0
    · skip
      have g0 := box_free HR1.out 0
      have g1 := box_free HR1.out 1
      have a0 := box_cell (j := 0) HR1.out rfl
      have a1 := box_cell (j := 1) HR1.out rfl
      go_wp2_with fail
      have hRF : ((w1.setCell ⟨w.heap.size + 1, 0, none⟩ (.int .i64 0)).setCell ⟨w.heap.size + 1, 1, none⟩ (.slice none 0 0)).heap[w.heap.size + 1]? = some (.cells #[.int .i64 0, .slice none 0 0] 25 (0, 0)) := box_set (j := 1) (u := .slice none 0 0) (box_set (j := 0) (u := .int .i64 0) HR1.out)
      have hBF : Below w.heap.size w ((w1.setCell ⟨w.heap.size + 1, 0, none⟩ (.int .i64 0)).setCell ⟨w.heap.size + 1, 1, none⟩ (.slice none 0 0)) := below_set (below_set HB1.out (by simp only; omega) (.int .i64 0)) (by simp only; omega) (.slice none 0 0)
      generalize ((w1.setCell ⟨w.heap.size + 1, 0, none⟩ (.int .i64 0)).setCell ⟨w.heap.size + 1, 1, none⟩ (.slice none 0 0)) = WF at *
      have y0 := box_cell (j := 0) hRF rfl
      have y1 := box_cell (j := 1) hRF rfl
      refine bodyPost_ret (v := .tuple #[.agg #[.int .i64 0, .slice none 0 0], .int .i64 0, .bool false]) (by simp [results, Try.results21, go_sem, y0, y1]) rfl ?_
      rw [HRR.out, decide_eq_true h0]
      exact madeZ hBF
    · by_cases hog : o = g
      · subst hog
        have HRS := Lib.hid (show unlockR ⟨o, ds⟩ o = (⟨ds.headD (-1), ds.tail⟩, ds.headD (-1), true) from HRR.out.trans (by rw [decide_eq_false (show ¬ o < 0 by omega), decide_eq_true (show o = o from rfl)]; exact if_pos rfl))
        clear HRR
        go_wp2_with fail
        refine (HCP.out _ HB1.out).mono ?_
        rintro e w2 ⟨A2, c2, rfl, hO2, hb2⟩
        have z2 : w.heap.size + 2 ≤ w2.heap.size := Nat.le_trans z1 hb2.size
        have z2b := hb2.size
        have hal : Below w2.heap.size w2 (w2.alloc (.cells #[.int .i64 o, .slice A2 ds.length c2] 25)) := (Below.refl _ _).alloc (Nat.le_refl _) _
        have HX3 := Lib.hid (box_keep (box_keep HX1.out hb2 (by omega)) hal (by omega))
        have HR3 := Lib.hid (box_keep (box_keep HR1.out hb2 (by omega)) hal (by omega))
        have HB3 := Lib.hid ((HB1.out.trans (hb2.mono (by omega))).trans (hal.mono (by omega)))
        have HP3 := Lib.hid (box_new w2 #[.int .i64 o, .slice A2 ds.length c2] 25)
        have HO3 := Lib.hid ((hO2.stay (w' := (w2.alloc (.cells #[.int .i64 o, .slice A2 ds.length c2] 25))) (fun g hg hlt => hal.block g hlt) hal.size).wide (F' := Fm (w2.alloc (.cells #[.int .i64 o, .slice A2 ds.length c2] 25)) w1.heap.size w2.heap.size) fun k hk => ⟨hk.1, by have := hk.2; simp; omega, by have := hk.2; omega⟩)
        have hz3 : (w2.alloc (.cells #[.int .i64 o, .slice A2 ds.length c2] 25)).heap.size = w2.heap.size + 1 := by simp
        have HZ3 := Lib.hid hz3
        clear hz3 hal hO2 hb2 q0 q1
        go_upto_region 4 with (fail)
        generalize (w2.alloc (.cells #[.int .i64 o, .slice A2 ds.length c2] 25)) = w3 at *
        have z3 : w.heap.size + 2 ≤ w3.heap.size := by have := HZ3.out; omega
        have z3b : w2.heap.size < w3.heap.size := by have := HZ3.out; omega
        have q0 := box_cell (j := 0) HX3.out rfl
        have q1 := box_cell (j := 1) HX3.out rfl
        have p0 := box_cell (j := 0) HP3.out rfl
        have p1 := box_cell (j := 1) HP3.out rfl
        have k0 := box_free HP3.out 0
        have k1 := box_free HP3.out 1
        have g0 := box_free HR3.out 0
        have g1 := box_free HR3.out 1
        have a0 := box_cell (j := 0) HR3.out rfl
        have a1 := box_cell (j := 1) HR3.out rfl
        go_upto_region 5 with (fail)
        have HP4 := Lib.hid (show (w3.setCell ⟨w2.heap.size, 0, none⟩ (.int .i64 (-1))).heap[w2.heap.size]? = some (.cells #[.int .i64 (-1), .slice A2 ds.length c2] 25 (0, 0)) from box_set (j := 0) (u := .int .i64 (-1)) HP3.out)
        have HX4 := Lib.hid (show (w3.setCell ⟨w2.heap.size, 0, none⟩ (.int .i64 (-1))).heap[w.heap.size]? = some (.cells #[.int .i64 o, .slice A1 n1 c1] 25 (0, 0)) from (Below.heap_setCell w3 ⟨w2.heap.size, 0, none⟩ (.int .i64 (-1)) (w.heap.size) (by simp only; omega)).trans HX3.out)
        have HR4 := Lib.hid (show (w3.setCell ⟨w2.heap.size, 0, none⟩ (.int .i64 (-1))).heap[w.heap.size + 1]? = some (.cells #[.int .i64 0, .slice none 0 0] 25 (0, 0)) from (Below.heap_setCell w3 ⟨w2.heap.size, 0, none⟩ (.int .i64 (-1)) (w.heap.size + 1) (by simp only; omega)).trans HR3.out)
        have HB4 := Lib.hid (show Below w.heap.size w (w3.setCell ⟨w2.heap.size, 0, none⟩ (.int .i64 (-1))) from below_set HB3.out (by simp only; omega) (.int .i64 (-1)))
        have HO4 := Lib.hid (show TailR Lay.int 3 (w3.setCell ⟨w2.heap.size, 0, none⟩ (.int .i64 (-1))) (Fm (w3.setCell ⟨w2.heap.size, 0, none⟩ (.int .i64 (-1))) w1.heap.size w2.heap.size) A2 ds.length c2 ds from (TailR.of (HO3.out.setCell (o := 0) (g := w2.heap.size) (fun e => e.2.2 rfl) (.int .i64 (-1)))).wide fun k hk => ⟨hk.1, by have := hk.2.1; simpa [World.setCell] using this, hk.2.2⟩)
        clear q0 q1 p0 p1 k0 k1 g0 g1 a0 a1
        generalize (w3.setCell ⟨w2.heap.size, 0, none⟩ (.int .i64 (-1))) = w4 at *
        have hs4 := HS1.out _ HB4.out
        have q1 := box_cell (j := 1) HX4.out rfl
        have p0 := box_cell (j := 0) HP4.out rfl
        have p1 := box_cell (j := 1) HP4.out rfl
        have k0 := box_free HP4.out 0
        have k1 := box_free HP4.out 1
        have g0 := box_free HR4.out 0
        have g1 := box_free HR4.out 1
        have a0 := box_cell (j := 0) HR4.out rfl
        have a1 := box_cell (j := 1) HR4.out rfl
        cases ds with
        | nil =>
          have hn0 : n1 = 0 := HLN.out.symm
          subst hn0
          simp only [List.length_nil] at *
          have HRF := Lib.hid (show ((w4.setCell ⟨w.heap.size + 1, 0, none⟩ (.int .i64 (-1))).setCell ⟨w.heap.size + 1, 1, none⟩ (.slice A2 0 c2)).heap[w.heap.size + 1]? = some (.cells #[.int .i64 (-1), .slice A2 0 c2] 25 (0, 0)) from (box_set (j := 1) (u := .slice A2 0 c2) (box_set (j := 0) (u := .int .i64 (-1)) HR4.out)))
          have hXF : ((w4.setCell ⟨w.heap.size + 1, 0, none⟩ (.int .i64 (-1))).setCell ⟨w.heap.size + 1, 1, none⟩ (.slice A2 0 c2)).heap[w2.heap.size]? = some (.cells #[.int .i64 (-1), .slice A2 0 c2] 25 (0, 0)) := (Below.heap_setCell _ ⟨w.heap.size + 1, 1, none⟩ _ (w2.heap.size) (by simp only; omega)).trans ((Below.heap_setCell _ ⟨w.heap.size + 1, 0, none⟩ _ (w2.heap.size) (by simp only; omega)).trans HP4.out)
          have r0 := box_cell (j := 0) hXF rfl
          have HBF := Lib.hid (show Below w.heap.size w ((w4.setCell ⟨w.heap.size + 1, 0, none⟩ (.int .i64 (-1))).setCell ⟨w.heap.size + 1, 1, none⟩ (.slice A2 0 c2)) from (below_set (below_set HB4.out (by simp only; omega) (.int .i64 (-1))) (by simp only; omega) (.slice A2 0 c2)))
          have HTF := Lib.hid (show TailR Lay.int 3 ((w4.setCell ⟨w.heap.size + 1, 0, none⟩ (.int .i64 (-1))).setCell ⟨w.heap.size + 1, 1, none⟩ (.slice A2 0 c2)) (Fm ((w4.setCell ⟨w.heap.size + 1, 0, none⟩ (.int .i64 (-1))).setCell ⟨w.heap.size + 1, 1, none⟩ (.slice A2 0 c2)) w1.heap.size w2.heap.size) A2 0 c2 ([] : List Int) from ((HO4.out.setCell (o := 0) (g := w.heap.size + 1) (fun e => by have := e.1; omega) (.int .i64 (-1))).setCell (o := 1) (g := w.heap.size + 1) (fun e => by have := e.1; omega) (.slice A2 0 c2)).wide fun k hk => ⟨hk.1, by have := hk.2.1; simpa [World.setCell] using this, hk.2.2⟩)
          clear hXF
          go_wp2_with fail
          go_region
          all_goals
            go_wp2_with fail
            generalize ((w4.setCell ⟨w.heap.size + 1, 0, none⟩ (.int .i64 (-1))).setCell ⟨w.heap.size + 1, 1, none⟩ (.slice A2 0 c2)) = WF at *
            have y0 := box_cell (j := 0) HRF.out rfl
            have y1 := box_cell (j := 1) HRF.out rfl
            refine bodyPost_ret (v := .tuple #[.agg #[.int .i64 (-1), .slice A2 0 c2], (.int .i64 (-1)), .bool true]) (by simp [results, Try.results21, go_sem, y0, y1]) rfl ?_
            rw [HRS.out]
            exact madeM (r := ⟨(-1), ([] : List Int)⟩) (W := WF.drew) (by decide) (show TailR Lay.int 3 WF.drew (Fm WF.drew w1.heap.size w2.heap.size) A2 0 c2 ([] : List Int) from HTF.out.stay (w' := WF.drew) (fun _ _ _ => rfl) (Nat.le_refl _)) (by omega) (below_drawn HBF.out 1)
        | cons d ds =>
          have hn0 : n1 = ds.length + 1 := HLN.out.symm
          subst hn0
          simp only [List.length_cons] at *
          obtain ⟨hx, gb, po, vs, hA1, hg, ⟨rfl, hw⟩, hcell⟩ := hs4.at_ (i := 0) (by omega)
          subst hA1
          have cc0 := hcell 0 _ rfl
          simp only [show Lay.int.size = 1 from rfl, ← Nat.add_assoc, Nat.add_zero, Nat.mul_one, Nat.zero_mul, List.getElem_cons_zero] at cc0 hw
          have HWD := Lib.hid hw
          clear hcell hs4 hw hx
          go_upto_region 7 with (fail)
          have HP5 := Lib.hid (show (w4.setCell ⟨w2.heap.size, 0, none⟩ (.int .i64 d)).heap[w2.heap.size]? = some (.cells #[.int .i64 d, .slice A2 (ds.length + 1) c2] 25 (0, 0)) from box_set (j := 0) (u := .int .i64 d) HP4.out)
          have HR5 := Lib.hid (show (w4.setCell ⟨w2.heap.size, 0, none⟩ (.int .i64 d)).heap[w.heap.size + 1]? = some (.cells #[.int .i64 0, .slice none 0 0] 25 (0, 0)) from (Below.heap_setCell w4 ⟨w2.heap.size, 0, none⟩ (.int .i64 d) (w.heap.size + 1) (by simp only; omega)).trans HR4.out)
          have HB5 := Lib.hid (show Below w.heap.size w (w4.setCell ⟨w2.heap.size, 0, none⟩ (.int .i64 d)) from below_set HB4.out (by simp only; omega) (.int .i64 d))
          have HO5 := Lib.hid (show TailR Lay.int 3 (w4.setCell ⟨w2.heap.size, 0, none⟩ (.int .i64 d)) (Fm (w4.setCell ⟨w2.heap.size, 0, none⟩ (.int .i64 d)) w1.heap.size w2.heap.size) A2 (ds.length + 1) c2 (d :: ds) from (HO4.out.setCell (o := 0) (g := w2.heap.size) (fun e => e.2.2 rfl) (.int .i64 d)).wide fun k hk => ⟨hk.1, by have := hk.2.1; simpa [World.setCell] using this, hk.2.2⟩)
          clear q1 p0 p1 k0 k1 g0 g1 a0 a1 cc0
          generalize (w4.setCell ⟨w2.heap.size, 0, none⟩ (.int .i64 d)) = w5 at *
          have p1 := box_cell (j := 1) HP5.out rfl
          have k1 := box_free HP5.out 1
          have hcut : ∀ W, (Instr.slice 23 (.slice A2 (ds.length + 1) c2) (some (.int .i64 1)) none none).run Try.prog W = .ok (.slice (restA A2 1 c2) ds.length (c2 - 1)) W := fun W => by
            have := run_rest (P := Try.prog) Try.underlying23 int_size W A2 (ds.length + 1) c2 (by omega)
            rw [Nat.add_sub_cancel] at this
            exact this
          go_upto_region 8 with (fail)
          have HP6 := Lib.hid (show (w5.setCell ⟨w2.heap.size, 1, none⟩ (.slice (restA A2 1 c2) ds.length (c2 - 1))).heap[w2.heap.size]? = some (.cells #[.int .i64 d, .slice (restA A2 1 c2) ds.length (c2 - 1)] 25 (0, 0)) from box_set (j := 1) (u := .slice (restA A2 1 c2) ds.length (c2 - 1)) HP5.out)
          have HR6 := Lib.hid (show (w5.setCell ⟨w2.heap.size, 1, none⟩ (.slice (restA A2 1 c2) ds.length (c2 - 1))).heap[w.heap.size + 1]? = some (.cells #[.int .i64 0, .slice none 0 0] 25 (0, 0)) from (Below.heap_setCell w5 ⟨w2.heap.size, 1, none⟩ (.slice (restA A2 1 c2) ds.length (c2 - 1)) (w.heap.size + 1) (by simp only; omega)).trans HR5.out)
          have HB6 := Lib.hid (show Below w.heap.size w (w5.setCell ⟨w2.heap.size, 1, none⟩ (.slice (restA A2 1 c2) ds.length (c2 - 1))) from below_set HB5.out (by simp only; omega) (.slice (restA A2 1 c2) ds.length (c2 - 1)))
          have HO6 := Lib.hid (show TailR Lay.int 3 (w5.setCell ⟨w2.heap.size, 1, none⟩ (.slice (restA A2 1 c2) ds.length (c2 - 1))) (Fm (w5.setCell ⟨w2.heap.size, 1, none⟩ (.slice (restA A2 1 c2) ds.length (c2 - 1))) w1.heap.size w2.heap.size) (restA A2 1 c2) ds.length (c2 - 1) ds from ((TailR.cut HO5.out).setCell (o := 1) (g := w2.heap.size) (fun e => e.2.2 rfl) (.slice (restA A2 1 c2) ds.length (c2 - 1))).wide fun k hk => ⟨hk.1, by have := hk.2.1; simpa [World.setCell] using this, hk.2.2⟩)
          clear p1 k1 hcut
          generalize (w5.setCell ⟨w2.heap.size, 1, none⟩ (.slice (restA A2 1 c2) ds.length (c2 - 1))) = w6 at *
          generalize restA A2 1 c2 = A6 at *
          generalize c2 - 1 = c6 at *
          have p0 := box_cell (j := 0) HP6.out rfl
          have p1 := box_cell (j := 1) HP6.out rfl
          have g0 := box_free HR6.out 0
          have g1 := box_free HR6.out 1
          have a0 := box_cell (j := 0) HR6.out rfl
          have a1 := box_cell (j := 1) HR6.out rfl
          have HRF := Lib.hid (show ((w6.setCell ⟨w.heap.size + 1, 0, none⟩ (.int .i64 d)).setCell ⟨w.heap.size + 1, 1, none⟩ (.slice A6 ds.length c6)).heap[w.heap.size + 1]? = some (.cells #[.int .i64 d, .slice A6 ds.length c6] 25 (0, 0)) from (box_set (j := 1) (u := .slice A6 ds.length c6) (box_set (j := 0) (u := .int .i64 d) HR6.out)))
          have hXF : ((w6.setCell ⟨w.heap.size + 1, 0, none⟩ (.int .i64 d)).setCell ⟨w.heap.size + 1, 1, none⟩ (.slice A6 ds.length c6)).heap[w2.heap.size]? = some (.cells #[.int .i64 d, .slice A6 ds.length c6] 25 (0, 0)) := (Below.heap_setCell _ ⟨w.heap.size + 1, 1, none⟩ _ (w2.heap.size) (by simp only; omega)).trans ((Below.heap_setCell _ ⟨w.heap.size + 1, 0, none⟩ _ (w2.heap.size) (by simp only; omega)).trans HP6.out)
          have r0 := box_cell (j := 0) hXF rfl
          have HBF := Lib.hid (show Below w.heap.size w ((w6.setCell ⟨w.heap.size + 1, 0, none⟩ (.int .i64 d)).setCell ⟨w.heap.size + 1, 1, none⟩ (.slice A6 ds.length c6)) from (below_set (below_set HB6.out (by simp only; omega) (.int .i64 d)) (by simp only; omega) (.slice A6 ds.length c6)))
          have HTF := Lib.hid (show TailR Lay.int 3 ((w6.setCell ⟨w.heap.size + 1, 0, none⟩ (.int .i64 d)).setCell ⟨w.heap.size + 1, 1, none⟩ (.slice A6 ds.length c6)) (Fm ((w6.setCell ⟨w.heap.size + 1, 0, none⟩ (.int .i64 d)).setCell ⟨w.heap.size + 1, 1, none⟩ (.slice A6 ds.length c6)) w1.heap.size w2.heap.size) A6 ds.length c6 ds from ((HO6.out.setCell (o := 0) (g := w.heap.size + 1) (fun e => by have := e.1; omega) (.int .i64 d)).setCell (o := 1) (g := w.heap.size + 1) (fun e => by have := e.1; omega) (.slice A6 ds.length c6)).wide fun k hk => ⟨hk.1, by have := hk.2.1; simpa [World.setCell] using this, hk.2.2⟩)
          clear hXF
          go_wp2_with fail
          go_region
          all_goals
            go_wp2_with fail
            generalize ((w6.setCell ⟨w.heap.size + 1, 0, none⟩ (.int .i64 d)).setCell ⟨w.heap.size + 1, 1, none⟩ (.slice A6 ds.length c6)) = WF at *
            have y0 := box_cell (j := 0) HRF.out rfl
            have y1 := box_cell (j := 1) HRF.out rfl
            refine bodyPost_ret (v := .tuple #[.agg #[.int .i64 d, .slice A6 ds.length c6], (.int .i64 d), .bool true]) (by simp [results, Try.results21, go_sem, y0, y1]) rfl ?_
            rw [HRS.out]
            exact madeM (r := ⟨d, ds⟩) (W := WF.drew) HWD.out (show TailR Lay.int 3 WF.drew (Fm WF.drew w1.heap.size w2.heap.size) A6 ds.length c6 ds from HTF.out.stay (w' := WF.drew) (fun _ _ _ => rfl) (Nat.le_refl _)) (by omega) (below_drawn HBF.out 1)
      · have hne : (o != g) = true := by simpa using hog
        have hnn : ¬ g < 0 := h0
        have g0 := box_free HR1.out 0
        have g1 := box_free HR1.out 1
        have a0 := box_cell (j := 0) HR1.out rfl
        have a1 := box_cell (j := 1) HR1.out rfl
        go_wp2_with fail
        have hRF : ((w1.setCell ⟨w.heap.size + 1, 0, none⟩ (.int .i64 0)).setCell ⟨w.heap.size + 1, 1, none⟩ (.slice none 0 0)).heap[w.heap.size + 1]? = some (.cells #[.int .i64 0, .slice none 0 0] 25 (0, 0)) := box_set (j := 1) (u := .slice none 0 0) (box_set (j := 0) (u := .int .i64 0) HR1.out)
        have hBF : Below w.heap.size w ((w1.setCell ⟨w.heap.size + 1, 0, none⟩ (.int .i64 0)).setCell ⟨w.heap.size + 1, 1, none⟩ (.slice none 0 0)) := below_set (below_set HB1.out (by simp only; omega) (.int .i64 0)) (by simp only; omega) (.slice none 0 0)
        generalize ((w1.setCell ⟨w.heap.size + 1, 0, none⟩ (.int .i64 0)).setCell ⟨w.heap.size + 1, 1, none⟩ (.slice none 0 0)) = WF at *
        have y0 := box_cell (j := 0) hRF rfl
        have y1 := box_cell (j := 1) hRF rfl
        refine bodyPost_ret (v := .tuple #[.agg #[.int .i64 0, .slice none 0 0], .int .i64 0, .bool false]) (by simp [results, Try.results21, go_sem, y0, y1]) rfl ?_
        rw [HRR.out, decide_eq_false hog, Bool.and_false]
        exact madeZ hBF
end Go.Proofs.Ytalbbhnfdbacdaa
