
/- Copies of a goroutine: the model's l08Copy. -/

import Derived.Test.YtakogbpjijbpeaaGorC

import Derived.Deep.Cut

namespace Go.Proofs.Ytakogbpjijbpeaa
set_option linter.unusedSimpArgs false
set_option linter.unusedVariables false
open Go.RowKit

set_option maxRecDepth 100000 in
set_option maxHeartbeats 4000000 in
theorem l08Copy_any {w : World} {hi : Nat} {x : DGor} {vs : List Value} (h : layGor.see w hi x vs) (hhi : hi ≤ w.heap.size) (hn : szGor x ≤ 1048576) :
    Calls Try.prog 35 #[.agg vs.toArray] w (CopiedG x w) := by
  obtain ⟨A2, n2, c2, A4, n4, c4, rfl, hw0, hw1, ⟨hc2, hm2, s2⟩, hw3, ⟨hc4, hm4, s4⟩⟩ := seeGor h
  obtain ⟨pr, pc, regs, st, tr⟩ := x
  have l2 := s2.1
  have l4 := s4.1
  simp only at l2 l4 s2 s4 hw0 hw1 hw3
  subst l2 l4
  have hn2 : regs.length ≤ 1048576 := by unfold szGor at hn; simp at hn; omega
  have hn4 : tr.length ≤ 1048576 := by unfold szGor at hn; simp at hn; omega
  unfold CopiedG
  simp only
  have hall0 : Below w.heap.size w ((w.alloc (.cells #[.int .i64 pr, .int .i64 pc, .slice A2 regs.length c2, .int .i64 st, .slice A4 tr.length c4] 25)).alloc (.cells #[.int .i64 0, .int .i64 0, .slice none 0 0, .int .i64 0, .slice none 0 0] 25)) := ((Below.refl _ _).alloc (Nat.le_refl _) _).alloc (by simp) _
  have hX0 := box_keep (box_new w #[.int .i64 pr, .int .i64 pc, .slice A2 regs.length c2, .int .i64 st, .slice A4 tr.length c4] 25) ((Below.refl _ _).alloc (Nat.le_refl _) (.cells #[.int .i64 0, .int .i64 0, .slice none 0 0, .int .i64 0, .slice none 0 0] 25)) (by simp)
  have hR0 := box_new (w.alloc (.cells #[.int .i64 pr, .int .i64 pc, .slice A2 regs.length c2, .int .i64 st, .slice A4 tr.length c4] 25)) #[.int .i64 0, .int .i64 0, .slice none 0 0, .int .i64 0, .slice none 0 0] 25
  rw [World.size_alloc] at hR0
  have hz0 : w.heap.size + 2 ≤ ((w.alloc (.cells #[.int .i64 pr, .int .i64 pc, .slice A2 regs.length c2, .int .i64 st, .slice A4 tr.length c4] 25)).alloc (.cells #[.int .i64 0, .int .i64 0, .slice none 0 0, .int .i64 0, .slice none 0 0] 25)).heap.size := by simp
  have HX0 := Lib.hid hX0
  have HR0 := Lib.hid hR0
  have HB0 := Lib.hid hall0
  have HS2 := Lib.hid (fun (W : World) (hW : Below w.heap.size w W) => s2.below hW hhi)
  have HS4 := Lib.hid (fun (W : World) (hW : Below w.heap.size w W) => s4.below hW hhi)
  obtain ⟨i0, hi0, hiz0, hiz1, hiz2⟩ := info_parts infoIntC
  obtain ⟨j0, hj0, hjz0, hjz1, hjz2⟩ := info_parts infoItem
  clear hX0 hR0 hall0 s2 s4 h hn
  generalize hN : regs.length = n at *
  have HN := Lib.hid hN
  clear hN
  go_enter Try.func35, Try.ntmps35
  go_upto_region 1 with (fail)
  generalize ((w.alloc (.cells #[.int .i64 pr, .int .i64 pc, .slice A2 n c2, .int .i64 st, .slice A4 tr.length c4] 25)).alloc (.cells #[.int .i64 0, .int .i64 0, .slice none 0 0, .int .i64 0, .slice none 0 0] 25)) = W0 at *
  have hal1 : Below W0.heap.size W0 (W0.alloc (.cells #[] 3)) := (Below.refl _ _).alloc (Nat.le_refl _) _
  have hxa1 := box_keep HX0.out hal1 (by omega)
  have pa1 := box_cell (j := 2) hxa1 rfl
  have hsn1 := seenR_flat (HS2.out _ (HB0.out.trans (hal1.mono (by omega))))
  have hol1 : Own (W0.alloc (.cells #[] 3)) W0.heap.size (W0.heap.size + 1) 3 1 (some ⟨W0.heap.size, 0, none⟩) 0 0 [] := by simpa using Own.made (size := 1) (e := 3) W0 #[] 0 0 (by decide) rfl (Nat.le_refl _)
  go_upto_region 2 with (at_builtin; refine wpList_append_seen rfl (.tmp 3) (.tmp 5) _ rfl W0.heap.size _ 3 i0 _ 1 8 Try.underlying22 hi0 hiz0 hiz1 hiz2 rfl (by omega) (some ⟨W0.heap.size, 0, none⟩) 0 0 [] rfl hol1 hi A2 n c2 _ rfl hsn1.1 (cells_oneI _) (by simp only [maxLen]; omega) (by omega) (by simp) ?_; intro B1 e1 w1 own1 hb1; have hxk1 := box_keep hxa1 hb1 (by omega); have pk1 := box_cell (j := 2) hxk1 rfl; have fk1 := box_free hxk1 2)
  rw [Nat.zero_add] at own1
  simp only [List.nil_append] at own1
  replace own1 : OwnR Lay.int 3 w1 (fun g => W0.heap.size ≤ g ∧ g < w1.heap.size) B1 n e1 regs := ownR_flat own1 HN.out hsn1.2
  replace hb1 := hal1.trans hb1
  have ha1 := hb1.size
  try simp only [Nat.zero_add]
  clear hal1 hxa1 hsn1 hol1 hxk1 pk1 fk1 pa1
  have hx1 := box_keep HX0.out hb1 (by omega)
  have hr1 := box_keep HR0.out hb1 (by omega)
  have HB1a := Lib.hid (HB0.out.trans (hb1.mono (by omega)))
  have HX1 := Lib.hid (show (w1.setCell ⟨w.heap.size, 2, none⟩ (.slice B1 n e1)).heap[w.heap.size]? = some (.cells #[.int .i64 pr, .int .i64 pc, .slice B1 n e1, .int .i64 st, .slice A4 tr.length c4] 25 (0, 0)) from box_set (j := 2) (u := .slice B1 n e1) hx1)
  have HR1 := Lib.hid ((Below.heap_setCell w1 ⟨w.heap.size, 2, none⟩ (.slice B1 n e1) (w.heap.size + 1) (by simp only; omega)).trans hr1)
  have HB1 := Lib.hid (below_set (p := ⟨w.heap.size, 2, none⟩) HB1a.out (Nat.le_refl _) (.slice B1 n e1))
  have HO1 := Lib.hid (OwnR.setCell (o := 2) own1 (g := w.heap.size) (by omega) (.slice B1 n e1))
  have hz1a : (w1.setCell ⟨w.heap.size, 2, none⟩ (.slice B1 n e1)).heap.size ≤ w1.heap.size := by simp [World.setCell]
  have hz1b : w1.heap.size ≤ (w1.setCell ⟨w.heap.size, 2, none⟩ (.slice B1 n e1)).heap.size := by simp [World.setCell]
  clear hx1 hr1 HB1a own1 hb1
  generalize w1.setCell ⟨w.heap.size, 2, none⟩ (.slice B1 n e1) = W1 at *
  have hal2 : Below W1.heap.size W1 (W1.alloc (.cells #[] 41)) := (Below.refl _ _).alloc (Nat.le_refl _) _
  have hxa2 := box_keep HX1.out hal2 (by omega)
  have pa2 := box_cell (j := 4) hxa2 rfl
  have hsn2 := seenR_flat (HS4.out _ (HB1.out.trans (hal2.mono (by omega))))
  have hol2 : Own (W1.alloc (.cells #[] 41)) W1.heap.size (W1.heap.size + 1) 41 4 (some ⟨W1.heap.size, 0, none⟩) 0 0 [] := by simpa using Own.made (size := 4) (e := 41) W1 #[] 0 0 (by decide) rfl (Nat.le_refl _)
  go_upto_region 3 with (at_builtin; refine wpList_append_seen rfl (.tmp 8) (.tmp 10) _ rfl W1.heap.size _ 41 j0 _ 4 32 Try.underlying23 hj0 hjz0 hjz1 hjz2 rfl (by omega) (some ⟨W1.heap.size, 0, none⟩) 0 0 [] rfl hol2 hi A4 tr.length c4 _ rfl hsn2.1 (cells_oneT _) (by simp only [maxLen]; omega) (by omega) (by simp) ?_; intro B2 e2 w2 own2 hb2; have hxk2 := box_keep hxa2 hb2 (by omega); have pk2 := box_cell (j := 4) hxk2 rfl; have fk2 := box_free hxk2 4)
  rw [Nat.zero_add] at own2
  simp only [List.nil_append] at own2
  replace own2 : OwnR layItem 41 w2 (fun g => W1.heap.size ≤ g ∧ g < w2.heap.size) B2 tr.length e2 tr := ownR_flat own2 rfl hsn2.2
  replace hb2 := hal2.trans hb2
  have ha2 := hb2.size
  try simp only [Nat.zero_add]
  clear hal2 hxa2 hsn2 hol2 hxk2 pk2 fk2 pa2
  have hx2 := box_keep HX1.out hb2 (by omega)
  have hr2 := box_keep HR1.out hb2 (by omega)
  have HB2a := Lib.hid (HB1.out.trans (hb2.mono (by omega)))
  have hX5 : (w2.setCell ⟨w.heap.size, 4, none⟩ (.slice B2 tr.length e2)).heap[w.heap.size]? = some (.cells #[.int .i64 pr, .int .i64 pc, .slice B1 n e1, .int .i64 st, .slice B2 tr.length e2] 25 (0, 0)) := box_set (j := 4) (u := .slice B2 tr.length e2) hx2
  have hR5 := (Below.heap_setCell w2 ⟨w.heap.size, 4, none⟩ (.slice B2 tr.length e2) (w.heap.size + 1) (by simp only; omega)).trans hr2
  have HB5 := Lib.hid (below_set (p := ⟨w.heap.size, 4, none⟩) HB2a.out (Nat.le_refl _) (.slice B2 tr.length e2))
  have HO5 := Lib.hid (OwnR.setCell (o := 4) (HO1.out.stay (w' := w2) (fun g hg hlt => hb2.block g hlt) hb2.size) (g := w.heap.size) (by omega) (.slice B2 tr.length e2))
  have HT5 := Lib.hid (OwnR.setCell (o := 4) own2 (g := w.heap.size) (by omega) (.slice B2 tr.length e2))
  have hz5a : (w2.setCell ⟨w.heap.size, 4, none⟩ (.slice B2 tr.length e2)).heap.size ≤ w2.heap.size := by simp [World.setCell]
  have hz5b : w2.heap.size ≤ (w2.setCell ⟨w.heap.size, 4, none⟩ (.slice B2 tr.length e2)).heap.size := by simp [World.setCell]
  clear hx2 hr2 HB2a own2 hb2
  generalize w2.setCell ⟨w.heap.size, 4, none⟩ (.slice B2 tr.length e2) = W5 at *
  have q0 := box_cell (j := 0) hX5 rfl
  have q1 := box_cell (j := 1) hX5 rfl
  have q2 := box_cell (j := 2) hX5 rfl
  have q3 := box_cell (j := 3) hX5 rfl
  have q4 := box_cell (j := 4) hX5 rfl
  have r0 := box_cell (j := 0) hR5 rfl
  have r1 := box_cell (j := 1) hR5 rfl
  have r2 := box_cell (j := 2) hR5 rfl
  have r3 := box_cell (j := 3) hR5 rfl
  have r4 := box_cell (j := 4) hR5 rfl
  have g0 := box_free hR5 0
  have g1 := box_free hR5 1
  have g2 := box_free hR5 2
  have g3 := box_free hR5 3
  have g4 := box_free hR5 4
  have HR5 := Lib.hid hR5
  clear hX5 hR5
  go_wp2_with fail
  have hfin := box_set (j := 4) (u := .slice B2 tr.length e2) (box_set (j := 3) (u := .int .i64 st) (box_set (j := 2) (u := .slice B1 n e1) (box_set (j := 1) (u := .int .i64 pc) (box_set (j := 0) (u := .int .i64 pr) HR5.out))))
  have y0 := box_cell (j := 0) hfin rfl
  have y1 := box_cell (j := 1) hfin rfl
  have y2 := box_cell (j := 2) hfin rfl
  have y3 := box_cell (j := 3) hfin rfl
  have y4 := box_cell (j := 4) hfin rfl
  clear q0 q1 q2 q3 q4 r0 r1 r2 r3 r4 g0 g1 g2 g3 g4
  refine bodyPost_ret (v := .agg #[.int .i64 pr, .int .i64 pc, .slice B1 n e1, .int .i64 st, .slice B2 tr.length e2]) (by simp [results, Try.results35, go_sem, y0, y1, y2, y3, y4]) rfl ?_
  refine ⟨below_set (below_set (below_set (below_set (below_set HB5.out (by simp only; omega) _) (by simp only; omega) _) (by simp only; omega) _) (by simp only; omega) _) (by simp only; omega) _, _, _, _, _, _, _, rfl, OwnR.setCell (o := 4) (OwnR.setCell (o := 3) (OwnR.setCell (o := 2) (OwnR.setCell (o := 1) (OwnR.setCell (o := 0) HO5.out (g := w.heap.size + 1) (by omega) _) (by omega) _) (by omega) _) (by omega) _) (by omega) _, OwnR.setCell (o := 4) (OwnR.setCell (o := 3) (OwnR.setCell (o := 2) (OwnR.setCell (o := 1) (OwnR.setCell (o := 0) HT5.out (g := w.heap.size + 1) (by omega) _) (by omega) _) (by omega) _) (by omega) _) (by omega) _, ?_, fun g hg hg' => by omega⟩
  rintro g (hg | hg) <;> (simp only [World.size_setCell]; omega)
end Go.Proofs.Ytakogbpjijbpeaa
