
/- Copies of a channel: the model's l06Copy. -/

import Derived.Test.YtgdmcdblhpdlmaaChanCopy

namespace Go.Proofs.Ytgdmcdblhpdlmaa
set_option linter.unusedSimpArgs false
set_option linter.unusedVariables false
open Go.RowKit

set_option maxRecDepth 100000 in
set_option maxHeartbeats 4000000 in
theorem l06Copy_any {w : World} {hi : Nat} {x : DChan} {vs : List Value} (h : layChan.see w hi x vs) (hhi : hi ≤ w.heap.size) (hn : szChan x ≤ 1048576) :
    Calls Try.prog 48 #[.agg vs.toArray] w (CopiedC x w) := by
  obtain ⟨A1, n1, c1, A2, n2, c2, A3, n3, c3, rfl, hw0, ⟨hc1, hm1, s1⟩, ⟨hc2, hm2, s2⟩, ⟨hc3, hm3, s3⟩⟩ := seeChan h
  have L1 := Lib.hid s1.1
  have L2 := Lib.hid s2.1
  have L3 := Lib.hid s3.1
  have hn0 := hn
  unfold szChan at hn0
  rw [L1.out] at hn0
  rw [L2.out] at hn0
  rw [L3.out] at hn0
  have HX0 := Lib.hid (show ((w.alloc (.cells #[.int .i64 x.fCap, .slice A1 n1 c1, .slice A2 n2 c2, .slice A3 n3 c3, .bool x.fClosed] 26)).alloc (.cells #[.int .i64 0, .slice none 0 0, .slice none 0 0, .slice none 0 0, .bool false] 26)).heap[w.heap.size]? = some (.cells #[.int .i64 x.fCap, .slice A1 n1 c1, .slice A2 n2 c2, .slice A3 n3 c3, .bool x.fClosed] 26 (0, 0)) from (Below.heap_alloc (w.alloc (.cells #[.int .i64 x.fCap, .slice A1 n1 c1, .slice A2 n2 c2, .slice A3 n3 c3, .bool x.fClosed] 26)) _ _ (by simp)).trans (box_new w #[.int .i64 x.fCap, .slice A1 n1 c1, .slice A2 n2 c2, .slice A3 n3 c3, .bool x.fClosed] 26))
  have HR0 := Lib.hid (show ((w.alloc (.cells #[.int .i64 x.fCap, .slice A1 n1 c1, .slice A2 n2 c2, .slice A3 n3 c3, .bool x.fClosed] 26)).alloc (.cells #[.int .i64 0, .slice none 0 0, .slice none 0 0, .slice none 0 0, .bool false] 26)).heap[w.heap.size + 1]? = some (.cells #[.int .i64 0, .slice none 0 0, .slice none 0 0, .slice none 0 0, .bool false] 26 (0, 0)) from by have := box_new (w.alloc (.cells #[.int .i64 x.fCap, .slice A1 n1 c1, .slice A2 n2 c2, .slice A3 n3 c3, .bool x.fClosed] 26)) #[.int .i64 0, .slice none 0 0, .slice none 0 0, .slice none 0 0, .bool false] 26; simpa using this)
  have HB0 := Lib.hid (show Below w.heap.size w ((w.alloc (.cells #[.int .i64 x.fCap, .slice A1 n1 c1, .slice A2 n2 c2, .slice A3 n3 c3, .bool x.fClosed] 26)).alloc (.cells #[.int .i64 0, .slice none 0 0, .slice none 0 0, .slice none 0 0, .bool false] 26)) by go_grown)
  have HS1 := Lib.hid (fun (W : World) (hW : Below w.heap.size w W) => s1.below hW hhi)
  have HS2 := Lib.hid (fun (W : World) (hW : Below w.heap.size w W) => s2.below hW hhi)
  have HS3 := Lib.hid (fun (W : World) (hW : Below w.heap.size w W) => s3.below hW hhi)
  have zz0 : w.heap.size + 2 ≤ ((w.alloc (.cells #[.int .i64 x.fCap, .slice A1 n1 c1, .slice A2 n2 c2, .slice A3 n3 c3, .bool x.fClosed] 26)).alloc (.cells #[.int .i64 0, .slice none 0 0, .slice none 0 0, .slice none 0 0, .bool false] 26)).heap.size := by simp
  clear s1 s2 s3 h
  have hsl1 := Lib.hid L1.out
  have hsl2 := Lib.hid L2.out
  have hsl3 := Lib.hid L3.out
  obtain ⟨i0, hi0, hiz0, hiz1, hiz2⟩ := info_parts infoIntC
  obtain ⟨j0, hj0, hjz0, hjz1, hjz2⟩ := info_parts infoWaiter
  go_enter Try.func48, Try.ntmps48
  go_upto_region 1 with (fail)
  generalize ((w.alloc (.cells #[.int .i64 x.fCap, .slice A1 n1 c1, .slice A2 n2 c2, .slice A3 n3 c3, .bool x.fClosed] 26)).alloc (.cells #[.int .i64 0, .slice none 0 0, .slice none 0 0, .slice none 0 0, .bool false] 26)) = w0b at *
  have hal1 : Below w0b.heap.size w0b (w0b.alloc (.cells #[] 3)) := (Below.refl _ _).alloc (Nat.le_refl _) _
  have hxa1 := box_keep HX0.out hal1 (by omega)
  have pa1 := box_cell (j := 1) hxa1 rfl
  have hsn1 := seenR_flat (HS1.out _ (HB0.out.trans (hal1.mono (by omega))))
  have hol1 : Own (w0b.alloc (.cells #[] 3)) w0b.heap.size (w0b.heap.size + 1) 3 1 (some ⟨w0b.heap.size, 0, none⟩) 0 0 [] := by simpa using Own.made (size := 1) (e := 3) w0b #[] 0 0 (by decide) rfl (Nat.le_refl _)
  go_upto_region 2 with (at_builtin; refine wpList_append_seen rfl (.tmp 3) (.tmp 5) _ rfl w0b.heap.size _ 3 i0 _ 1 8 Try.underlying23 hi0 hiz0 hiz1 hiz2 rfl (by omega) (some ⟨w0b.heap.size, 0, none⟩) 0 0 [] rfl hol1 hi A1 n1 c1 _ rfl hsn1.1 (cells_oneI _) (by simp only [maxLen]; omega) (by omega) (by simp) ?_; intro B1 e1 w1 own1 hb1; have hxk1 := box_keep hxa1 hb1 (by omega); have pk1 := box_cell (j := 1) hxk1 rfl; have fk1 := box_free hxk1 1)
  rw [Nat.zero_add] at own1
  simp only [List.nil_append] at own1
  replace own1 : OwnR Lay.int 3 w1 (fun g => w0b.heap.size ≤ g ∧ g < w1.heap.size) B1 n1 e1 x.fBuf := ownR_flat own1 hsl1.out hsn1.2
  replace hb1 := hal1.trans hb1
  have ha1 := hb1.size
  try simp only [Nat.zero_add]
  clear hal1 hxa1 hsn1 hol1 hxk1 pk1 fk1
  have zz1 : w.heap.size + 2 ≤ w1.heap.size := Nat.le_trans zz0 hb1.size
  have hx1 := box_keep HX0.out hb1 (by omega)
  have hr1 := box_keep HR0.out hb1 (by omega)
  have p1 := box_cell (j := 1) hx1 rfl
  have f1 := box_free hx1 1
  have HB1a := Lib.hid (HB0.out.trans (hb1.mono (by omega)))
  have HO1_1 := Lib.hid own1
  clear own1 hb1
  have HX1 := Lib.hid (show (w1.setCell ⟨w.heap.size, 1, none⟩ (.slice B1 n1 e1)).heap[w.heap.size]? = some (.cells #[.int .i64 x.fCap, .slice B1 n1 e1, .slice A2 n2 c2, .slice A3 n3 c3, .bool x.fClosed] 26 (0, 0)) from box_set (j := 1) (u := .slice B1 n1 e1) hx1)
  have HR1 := Lib.hid ((Below.heap_setCell w1 ⟨w.heap.size, 1, none⟩ (.slice B1 n1 e1) (w.heap.size + 1) (by simp only; omega)).trans hr1)
  have HB1 := Lib.hid (below_set (p := ⟨w.heap.size, 1, none⟩) HB1a.out (Nat.le_refl _) (.slice B1 n1 e1))
  replace HO1_1 := Lib.hid (OwnR.setCell (o := 1) HO1_1.out (g := w.heap.size) (by omega) (.slice B1 n1 e1))
  have hz1 := Lib.hid (show (w1.setCell ⟨w.heap.size, 1, none⟩ (.slice B1 n1 e1)).heap.size = w1.heap.size by simp [World.setCell])
  clear hx1 hr1 p1 f1 HB1a
  generalize w1.setCell ⟨w.heap.size, 1, none⟩ (.slice B1 n1 e1) = w1b at *
  replace zz1 : w.heap.size + 2 ≤ w1b.heap.size := by have := hz1.out; omega
  have hal2 : Below w1b.heap.size w1b (w1b.alloc (.cells #[] 29)) := (Below.refl _ _).alloc (Nat.le_refl _) _
  have hxa2 := box_keep HX1.out hal2 (by omega)
  have pa2 := box_cell (j := 2) hxa2 rfl
  have hsn2 := seenR_flat (HS2.out _ (HB1.out.trans (hal2.mono (by omega))))
  have hol2 : Own (w1b.alloc (.cells #[] 29)) w1b.heap.size (w1b.heap.size + 1) 29 3 (some ⟨w1b.heap.size, 0, none⟩) 0 0 [] := by simpa using Own.made (size := 3) (e := 29) w1b #[] 0 0 (by decide) rfl (Nat.le_refl _)
  go_upto_region 3 with (at_builtin; refine wpList_append_seen rfl (.tmp 8) (.tmp 10) _ rfl w1b.heap.size _ 29 j0 _ 3 24 Try.underlying24 hj0 hjz0 hjz1 hjz2 rfl (by omega) (some ⟨w1b.heap.size, 0, none⟩) 0 0 [] rfl hol2 hi A2 n2 c2 _ rfl hsn2.1 (cells_one _) (by simp only [maxLen]; omega) (by omega) (by simp) ?_; intro B2 e2 w2 own2 hb2; have hxk2 := box_keep hxa2 hb2 (by omega); have pk2 := box_cell (j := 2) hxk2 rfl; have fk2 := box_free hxk2 2)
  rw [Nat.zero_add] at own2
  simp only [List.nil_append] at own2
  replace own2 : OwnR layWaiter 29 w2 (fun g => w1b.heap.size ≤ g ∧ g < w2.heap.size) B2 n2 e2 x.fSends := ownR_flat own2 hsl2.out hsn2.2
  replace hb2 := hal2.trans hb2
  have ha2 := hb2.size
  try simp only [Nat.zero_add]
  clear hal2 hxa2 hsn2 hol2 hxk2 pk2 fk2
  have zz2 : w.heap.size + 2 ≤ w2.heap.size := Nat.le_trans zz1 hb2.size
  clear pa2
  have hx2 := box_keep HX1.out hb2 (by omega)
  have hr2 := box_keep HR1.out hb2 (by omega)
  have p2 := box_cell (j := 2) hx2 rfl
  have f2 := box_free hx2 2
  have HB2a := Lib.hid (HB1.out.trans (hb2.mono (by omega)))
  have HO1_2 := Lib.hid (HO1_1.out.stay (w' := w2) (fun g hg hlt => hb2.block g hlt) hb2.size)
  have HO2_2 := Lib.hid own2
  clear own2 hb2
  have HX2 := Lib.hid (show (w2.setCell ⟨w.heap.size, 2, none⟩ (.slice B2 n2 e2)).heap[w.heap.size]? = some (.cells #[.int .i64 x.fCap, .slice B1 n1 e1, .slice B2 n2 e2, .slice A3 n3 c3, .bool x.fClosed] 26 (0, 0)) from box_set (j := 2) (u := .slice B2 n2 e2) hx2)
  have HR2 := Lib.hid ((Below.heap_setCell w2 ⟨w.heap.size, 2, none⟩ (.slice B2 n2 e2) (w.heap.size + 1) (by simp only; omega)).trans hr2)
  have HB2 := Lib.hid (below_set (p := ⟨w.heap.size, 2, none⟩) HB2a.out (Nat.le_refl _) (.slice B2 n2 e2))
  replace HO1_2 := Lib.hid (OwnR.setCell (o := 2) HO1_2.out (g := w.heap.size) (by omega) (.slice B2 n2 e2))
  replace HO2_2 := Lib.hid (OwnR.setCell (o := 2) HO2_2.out (g := w.heap.size) (by omega) (.slice B2 n2 e2))
  have hz2 := Lib.hid (show (w2.setCell ⟨w.heap.size, 2, none⟩ (.slice B2 n2 e2)).heap.size = w2.heap.size by simp [World.setCell])
  clear hx2 hr2 p2 f2 HB2a
  generalize w2.setCell ⟨w.heap.size, 2, none⟩ (.slice B2 n2 e2) = w2b at *
  replace zz2 : w.heap.size + 2 ≤ w2b.heap.size := by have := hz2.out; omega
  have hal3 : Below w2b.heap.size w2b (w2b.alloc (.cells #[] 29)) := (Below.refl _ _).alloc (Nat.le_refl _) _
  have hxa3 := box_keep HX2.out hal3 (by omega)
  have pa3 := box_cell (j := 3) hxa3 rfl
  have hsn3 := seenR_flat (HS3.out _ (HB2.out.trans (hal3.mono (by omega))))
  have hol3 : Own (w2b.alloc (.cells #[] 29)) w2b.heap.size (w2b.heap.size + 1) 29 3 (some ⟨w2b.heap.size, 0, none⟩) 0 0 [] := by simpa using Own.made (size := 3) (e := 29) w2b #[] 0 0 (by decide) rfl (Nat.le_refl _)
  go_upto_region 4 with (at_builtin; refine wpList_append_seen rfl (.tmp 13) (.tmp 15) _ rfl w2b.heap.size _ 29 j0 _ 3 24 Try.underlying24 hj0 hjz0 hjz1 hjz2 rfl (by omega) (some ⟨w2b.heap.size, 0, none⟩) 0 0 [] rfl hol3 hi A3 n3 c3 _ rfl hsn3.1 (cells_one _) (by simp only [maxLen]; omega) (by omega) (by simp) ?_; intro B3 e3 w3 own3 hb3; have hxk3 := box_keep hxa3 hb3 (by omega); have pk3 := box_cell (j := 3) hxk3 rfl; have fk3 := box_free hxk3 3)
  rw [Nat.zero_add] at own3
  simp only [List.nil_append] at own3
  replace own3 : OwnR layWaiter 29 w3 (fun g => w2b.heap.size ≤ g ∧ g < w3.heap.size) B3 n3 e3 x.fRecvs := ownR_flat own3 hsl3.out hsn3.2
  replace hb3 := hal3.trans hb3
  have ha3 := hb3.size
  try simp only [Nat.zero_add]
  clear hal3 hxa3 hsn3 hol3 hxk3 pk3 fk3
  have zz3 : w.heap.size + 2 ≤ w3.heap.size := Nat.le_trans zz2 hb3.size
  clear pa3
  have hx3 := box_keep HX2.out hb3 (by omega)
  have hr3 := box_keep HR2.out hb3 (by omega)
  have p3 := box_cell (j := 3) hx3 rfl
  have f3 := box_free hx3 3
  have HB3a := Lib.hid (HB2.out.trans (hb3.mono (by omega)))
  have HO1_3 := Lib.hid (HO1_2.out.stay (w' := w3) (fun g hg hlt => hb3.block g hlt) hb3.size)
  have HO2_3 := Lib.hid (HO2_2.out.stay (w' := w3) (fun g hg hlt => hb3.block g hlt) hb3.size)
  have HO3_3 := Lib.hid own3
  clear own3 hb3
  have HX3 := Lib.hid (show (w3.setCell ⟨w.heap.size, 3, none⟩ (.slice B3 n3 e3)).heap[w.heap.size]? = some (.cells #[.int .i64 x.fCap, .slice B1 n1 e1, .slice B2 n2 e2, .slice B3 n3 e3, .bool x.fClosed] 26 (0, 0)) from box_set (j := 3) (u := .slice B3 n3 e3) hx3)
  have HR3 := Lib.hid ((Below.heap_setCell w3 ⟨w.heap.size, 3, none⟩ (.slice B3 n3 e3) (w.heap.size + 1) (by simp only; omega)).trans hr3)
  have HB3 := Lib.hid (below_set (p := ⟨w.heap.size, 3, none⟩) HB3a.out (Nat.le_refl _) (.slice B3 n3 e3))
  replace HO1_3 := Lib.hid (OwnR.setCell (o := 3) HO1_3.out (g := w.heap.size) (by omega) (.slice B3 n3 e3))
  replace HO2_3 := Lib.hid (OwnR.setCell (o := 3) HO2_3.out (g := w.heap.size) (by omega) (.slice B3 n3 e3))
  replace HO3_3 := Lib.hid (OwnR.setCell (o := 3) HO3_3.out (g := w.heap.size) (by omega) (.slice B3 n3 e3))
  have hz3 := Lib.hid (show (w3.setCell ⟨w.heap.size, 3, none⟩ (.slice B3 n3 e3)).heap.size = w3.heap.size by simp [World.setCell])
  clear hx3 hr3 p3 f3 HB3a
  generalize w3.setCell ⟨w.heap.size, 3, none⟩ (.slice B3 n3 e3) = w3b at *
  replace zz3 : w.heap.size + 2 ≤ w3b.heap.size := by have := hz3.out; omega
  have q0 := box_cell (j := 0) HX3.out rfl
  have q1 := box_cell (j := 1) HX3.out rfl
  have q2 := box_cell (j := 2) HX3.out rfl
  have q3 := box_cell (j := 3) HX3.out rfl
  have q4 := box_cell (j := 4) HX3.out rfl
  have r0 := box_cell (j := 0) HR3.out rfl
  have r1 := box_cell (j := 1) HR3.out rfl
  have r2 := box_cell (j := 2) HR3.out rfl
  have r3 := box_cell (j := 3) HR3.out rfl
  have r4 := box_cell (j := 4) HR3.out rfl
  have g0 := box_free HR3.out 0
  have g1 := box_free HR3.out 1
  have g2 := box_free HR3.out 2
  have g3 := box_free HR3.out 3
  have g4 := box_free HR3.out 4
  go_wp2_with fail
  have hzz1 := hz1.out
  have hzz2 := hz2.out
  have hzz3 := hz3.out
  have hfin := box_set (j := 4) (u := .bool x.fClosed) (box_set (j := 3) (u := .slice B3 n3 e3) (box_set (j := 2) (u := .slice B2 n2 e2) (box_set (j := 1) (u := .slice B1 n1 e1) (box_set (j := 0) (u := .int .i64 x.fCap) HR3.out))))
  have y0 := box_cell (j := 0) hfin rfl
  have y1 := box_cell (j := 1) hfin rfl
  have y2 := box_cell (j := 2) hfin rfl
  have y3 := box_cell (j := 3) hfin rfl
  have y4 := box_cell (j := 4) hfin rfl
  clear q0 q1 q2 q3 q4 r0 r1 r2 r3 r4 g0 g1 g2 g3 g4
  refine bodyPost_ret (v := .agg #[.int .i64 x.fCap, .slice B1 n1 e1, .slice B2 n2 e2, .slice B3 n3 e3, .bool x.fClosed]) (by simp [results, Try.results48, go_sem, y0, y1, y2, y3, y4]) rfl ?_
  refine ⟨below_set (below_set (below_set (below_set (below_set HB3.out (by simp only; omega) _) (by simp only; omega) _) (by simp only; omega) _) (by simp only; omega) _) (by simp only; omega) _, B1, e1, B2, e2, B3, e3, _, _, _, by rw [L1.out, L2.out, L3.out], by rw [L1.out]; exact OwnR.setCell (o := 4) (OwnR.setCell (o := 3) (OwnR.setCell (o := 2) (OwnR.setCell (o := 1) (OwnR.setCell (o := 0) HO1_3.out (g := w.heap.size + 1) (by omega) _) (by omega) _) (by omega) _) (by omega) _) (by omega) _, by rw [L2.out]; exact OwnR.setCell (o := 4) (OwnR.setCell (o := 3) (OwnR.setCell (o := 2) (OwnR.setCell (o := 1) (OwnR.setCell (o := 0) HO2_3.out (g := w.heap.size + 1) (by omega) _) (by omega) _) (by omega) _) (by omega) _) (by omega) _, by rw [L3.out]; exact OwnR.setCell (o := 4) (OwnR.setCell (o := 3) (OwnR.setCell (o := 2) (OwnR.setCell (o := 1) (OwnR.setCell (o := 0) HO3_3.out (g := w.heap.size + 1) (by omega) _) (by omega) _) (by omega) _) (by omega) _) (by omega) _, ?_, fun g hg hg' => by omega, fun g hg hg' => by omega, fun g hg hg' => by omega⟩
  rintro g (hg | hg | hg) <;> (simp only [World.size_setCell]; omega)
end Go.Proofs.Ytgdmcdblhpdlmaa
