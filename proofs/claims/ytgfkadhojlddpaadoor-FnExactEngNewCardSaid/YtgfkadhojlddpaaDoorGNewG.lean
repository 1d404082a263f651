
/- GorNew, GorNewS, GorNewL, merged for claims. -/

import Derived.Test.YtgfkadhojlddpaaDoorGGorX

import Derived.Test.YtgfkadhojlddpaaDoorGMEng

import Derived.Test.YtgfkadhojlddpaaDoorGInv

namespace Go.Proofs.YtgfkadhojlddpaaDoor
set_option linter.unusedSimpArgs false
set_option linter.unusedVariables false
open Go.RowKit

set_option maxRecDepth 100000 in
set_option maxHeartbeats 4000000 in
theorem implGorNew_any {w : World} {p a : Int} (hv : (Lit.int .i64 p).wf = true) (hv2 : (Lit.int .i64 a).wf = true) :
    Calls Tryd.prog 66 #[.int .i64 p, .int .i64 a] w (CopiedG (newG p a) w) := by
  have hR := box_new w #[.int .i64 0, .int .i64 0, .slice none 0 0, .int .i64 0, .slice none 0 0] 57
  have HB := Lib.hid ((Below.refl w.heap.size w).alloc (Nat.le_refl _) (.cells #[.int .i64 0, .int .i64 0, .slice none 0 0, .int .i64 0, .slice none 0 0] 57))
  have HV := Lib.hid hv2
  clear hv hv2
  have hcase : (0 ≤ p ∧ okV a = true) ∨ p < 0 ∨ (0 ≤ p ∧ okV a = false) := by
    by_cases h0 : p < 0
    · exact .inr (.inl h0)
    · cases h2 : okV a
      · exact .inr (.inr ⟨by omega, rfl⟩)
      · exact .inl ⟨by omega, rfl⟩
  rcases hcase with ⟨hp, ho⟩ | hp | ⟨hp, ho⟩
  · skip
    rw [show newG p a = ⟨p, 0, [a, 0, 0, 0, 0, 0], 1, []⟩ from if_neg (by rw [ho]; intro h; rcases h with h | h <;> first | omega | cases h)]
    have hp1 : ¬ p < 0 := by omega
    have HO := Lib.hid ho
    clear ho
    have HR := Lib.hid hR
    clear hR
    go_enter Tryd.func66, Tryd.ntmps66
    go_wp2_with fail
    refine (isValG_any _ _).mono ?_
    rw [HO.out]
    rintro e w5 ⟨rfl, rfl⟩
    go_upto_region 3 with (fail)
    have HW1 := Lib.hid (show w.heap.size + 1 ≤ (w.alloc (.cells #[.int .i64 0, .int .i64 0, .slice none 0 0, .int .i64 0, .slice none 0 0] 57)).heap.size by simp)
    have HW1b := Lib.hid (show (w.alloc (.cells #[.int .i64 0, .int .i64 0, .slice none 0 0, .int .i64 0, .slice none 0 0] 57)).heap.size ≤ w.heap.size + 1 by simp)
    generalize (w.alloc (.cells #[.int .i64 0, .int .i64 0, .slice none 0 0, .int .i64 0, .slice none 0 0] 57)) = W1 at *
    have hmk := make_zeros (n := 6) (by omega) W1 6 rfl
    have hw1 := HW1.out
    have hw1b := HW1b.out
    have hb2 : Below W1.heap.size W1 ((W1.alloc (.cells (zeros 6).toArray 3)).alloc (.cells #[.int .i64 a] 3)) := ((Below.refl _ _).alloc (Nat.le_refl _) _).alloc (by simp) _
    have hsn : SeenR Lay.int ((W1.alloc (.cells (zeros 6).toArray 3)).alloc (.cells #[.int .i64 a] 3)) (W1.heap.size + 2) (some ⟨W1.heap.size + 1, 0, none⟩) 1 [a] := by
      refine ⟨rfl, .inr ⟨_, 0, rfl, by omega, fun _ => [.int .i64 a], fun j x hx => ?_⟩⟩
      rcases j with _ | j
      · simp at hx
        subst hx
        refine ⟨⟨rfl, HV.out⟩, fun j u hu => ?_⟩
        have hbn := box_new (W1.alloc (.cells (zeros 6).toArray 3)) #[.int .i64 a] 3
        rw [World.size_alloc] at hbn
        rcases j with _ | j
        · simp at hu; subst hu; exact box_cell (j := 0) hbn rfl
        · simp at hu
      · simp at hx
    have hL := loadRegs_any (c := 1) (n := 6) (box_keep (box_new W1 (zeros 6).toArray 3) ((Below.refl _ _).alloc (Nat.le_refl _) (.cells #[.int .i64 a] 3)) (by simp)) hsn (by omega)
    have HL := Lib.hid hL
    have HB2 := Lib.hid hb2
    clear hL hsn hb2
    go_wp2_with fail
    refine HL.out.mono ?_
    rintro e w6 ⟨rfl, hx6, hb6⟩
    have hz6 := hb6.size
    simp only [World.size_alloc] at hz6
    have hR6 := box_keep (box_keep HR.out HB2.out (by omega)) hb6 (by omega)
    have HO6 := Lib.hid (own_block (n := 6) (xs := [a, 0, 0, 0, 0, 0]) rfl (by omega) (show w6.heap[W1.heap.size]? = _ from hx6) (by intro x hx; simp at hx; rcases hx with rfl | rfl <;> first | exact HV.out | decide))
    have HB6 := Lib.hid (HB.out.trans ((HB2.out.mono (by omega)).trans (hb6.mono (by omega))))
    clear hx6 hb6 hmk
    have HG6 := Lib.hid (fun g (hg : (W1.heap.size ≤ g ∧ g < W1.heap.size + 1) ∨ False) => show w.heap.size + 1 ≤ g by rcases hg with hg | hg <;> first | omega | exact hg.elim)
    have HF6 := Lib.hid (fun g (hg : (W1.heap.size ≤ g ∧ g < W1.heap.size + 1) ∨ False) => show w.heap.size ≤ g ∧ g < w6.heap.size by rcases hg with hg | hg <;> first | omega | exact hg.elim)
    have HD6 := Lib.hid (fun g (hg : (W1.heap.size ≤ g ∧ g < W1.heap.size + 1)) => show ¬ False from id)
    have HT6 := Lib.hid (ownG_nil layItem 143 w6)
    have r0 := box_cell (j := 0) hR6 rfl
    have r1 := box_cell (j := 1) hR6 rfl
    have r2 := box_cell (j := 2) hR6 rfl
    have r3 := box_cell (j := 3) hR6 rfl
    have r4 := box_cell (j := 4) hR6 rfl
    have g0 := box_free hR6 0
    have g1 := box_free hR6 1
    have g2 := box_free hR6 2
    have g3 := box_free hR6 3
    have g4 := box_free hR6 4
    have HRz := Lib.hid hR6
    clear hR6
    go_wp2_with fail
    have hfin := (box_set (j := 4) (u := .slice none 0 0) (box_set (j := 3) (u := .int .i64 1) (box_set (j := 2) (u := .slice (some ⟨W1.heap.size, 0, none⟩) 6 6) (box_set (j := 1) (u := .int .i64 0) (box_set (j := 0) (u := .int .i64 p) HRz.out)))))
    have y0 := box_cell (j := 0) hfin rfl
    have y1 := box_cell (j := 1) hfin rfl
    have y2 := box_cell (j := 2) hfin rfl
    have y3 := box_cell (j := 3) hfin rfl
    have y4 := box_cell (j := 4) hfin rfl
    clear r0 r1 r2 r3 r4 g0 g1 g2 g3 g4
    refine bodyPost_ret (v := .agg #[.int .i64 p, .int .i64 0, .slice (some ⟨W1.heap.size, 0, none⟩) 6 6, .int .i64 1, .slice none 0 0]) (by simp [results, Tryd.results66, go_sem, y0, y1, y2, y3, y4]) rfl ?_
    have hnR2 : ¬ (fun k => W1.heap.size ≤ k ∧ k < W1.heap.size + 1) (w.heap.size) := fun hg => by have := HG6.out _ (.inl hg); omega
    have hnR4 : ¬ (fun _ => False) (w.heap.size) := fun hg => hg
    refine ⟨(below_set (below_set (below_set (below_set (below_set HB6.out (by simp only; omega) _) (by simp only; omega) _) (by simp only; omega) _) (by simp only; omega) _) (by simp only; omega) _), _, _, _, _, _, _, rfl, (OwnR.setCell (o := 4) (OwnR.setCell (o := 3) (OwnR.setCell (o := 2) (OwnR.setCell (o := 1) (OwnR.setCell (o := 0) HO6.out (g := w.heap.size) hnR2 _) hnR2 _) hnR2 _) hnR2 _) hnR2 _), (OwnR.setCell (o := 4) (OwnR.setCell (o := 3) (OwnR.setCell (o := 2) (OwnR.setCell (o := 1) (OwnR.setCell (o := 0) HT6.out (g := w.heap.size) hnR4 _) hnR4 _) hnR4 _) hnR4 _) hnR4 _), ?_, fun g hg hg' => by exact HD6.out g hg hg'⟩
    rintro g (hg | hg) <;> (have hq := HF6.out g; simp only [World.size_setCell]; first | (have := hq (.inl hg); omega) | (have := hq (.inr hg); omega))
  · skip
    rw [show newG p a = ⟨0, 0, [], 0, []⟩ from if_pos (.inl hp)]
    have HR := Lib.hid hR
    clear hR
    go_enter Tryd.func66, Tryd.ntmps66
    have hR6 := HR.out
    have r0 := box_cell (j := 0) HR.out rfl
    have r1 := box_cell (j := 1) HR.out rfl
    have r2 := box_cell (j := 2) HR.out rfl
    have r3 := box_cell (j := 3) HR.out rfl
    have r4 := box_cell (j := 4) HR.out rfl
    have g0 := box_free HR.out 0
    have g1 := box_free HR.out 1
    have g2 := box_free HR.out 2
    have g3 := box_free HR.out 3
    have g4 := box_free HR.out 4
    clear hR6
    go_wp2_with fail
    have hfin := (box_set (j := 4) (u := .slice none 0 0) (box_set (j := 3) (u := .int .i64 0) (box_set (j := 2) (u := .slice none 0 0) (box_set (j := 1) (u := .int .i64 0) (box_set (j := 0) (u := .int .i64 0) HR.out)))))
    have y0 := box_cell (j := 0) hfin rfl
    have y1 := box_cell (j := 1) hfin rfl
    have y2 := box_cell (j := 2) hfin rfl
    have y3 := box_cell (j := 3) hfin rfl
    have y4 := box_cell (j := 4) hfin rfl
    clear r0 r1 r2 r3 r4 g0 g1 g2 g3 g4
    refine bodyPost_ret (v := .agg #[.int .i64 0, .int .i64 0, .slice none 0 0, .int .i64 0, .slice none 0 0]) (by simp [results, Tryd.results66, go_sem, y0, y1, y2, y3, y4]) rfl ?_
    exact ⟨HB.out, none, 0, none, 0, (fun _ => False), (fun _ => False), rfl, ownG_nil _ _ _, ownG_nil _ _ _, fun g hg => by rcases hg with hg | hg <;> exact hg.elim, fun g hg => hg.elim⟩
  · skip
    rw [show newG p a = ⟨0, 0, [], 0, []⟩ from if_pos (.inr ho)]
    have hp1 : ¬ p < 0 := by omega
    have HO := Lib.hid ho
    clear ho
    have HR := Lib.hid hR
    clear hR
    go_enter Tryd.func66, Tryd.ntmps66
    go_wp2_with fail
    refine (isValG_any _ _).mono ?_
    rw [HO.out]
    rintro e w5 ⟨rfl, rfl⟩
    have hR6 := HR.out
    have r0 := box_cell (j := 0) HR.out rfl
    have r1 := box_cell (j := 1) HR.out rfl
    have r2 := box_cell (j := 2) HR.out rfl
    have r3 := box_cell (j := 3) HR.out rfl
    have r4 := box_cell (j := 4) HR.out rfl
    have g0 := box_free HR.out 0
    have g1 := box_free HR.out 1
    have g2 := box_free HR.out 2
    have g3 := box_free HR.out 3
    have g4 := box_free HR.out 4
    clear hR6
    go_wp2_with fail
    have hfin := (box_set (j := 4) (u := .slice none 0 0) (box_set (j := 3) (u := .int .i64 0) (box_set (j := 2) (u := .slice none 0 0) (box_set (j := 1) (u := .int .i64 0) (box_set (j := 0) (u := .int .i64 0) HR.out)))))
    have y0 := box_cell (j := 0) hfin rfl
    have y1 := box_cell (j := 1) hfin rfl
    have y2 := box_cell (j := 2) hfin rfl
    have y3 := box_cell (j := 3) hfin rfl
    have y4 := box_cell (j := 4) hfin rfl
    clear r0 r1 r2 r3 r4 g0 g1 g2 g3 g4
    refine bodyPost_ret (v := .agg #[.int .i64 0, .int .i64 0, .slice none 0 0, .int .i64 0, .slice none 0 0]) (by simp [results, Tryd.results66, go_sem, y0, y1, y2, y3, y4]) rfl ?_
    exact ⟨HB.out, none, 0, none, 0, (fun _ => False), (fun _ => False), rfl, ownG_nil _ _ _, ownG_nil _ _ _, fun g hg => by rcases hg with hg | hg <;> exact hg.elim, fun g hg => hg.elim⟩
end Go.Proofs.YtgfkadhojlddpaaDoor

namespace Go.Proofs.YtgfkadhojlddpaaDoor
set_option linter.unusedSimpArgs false
set_option linter.unusedVariables false
open Go.RowKit

set_option maxRecDepth 100000 in
set_option maxHeartbeats 4000000 in
theorem specGorNew_any {w : World} {p a : Int} (hv : (Lit.int .i64 p).wf = true) (hv2 : (Lit.int .i64 a).wf = true) :
    Calls Tryd.prog 64 #[.int .i64 p, .int .i64 a] w (CopiedG (newG p a) w) := by
  have hR := box_new w #[.int .i64 0, .int .i64 0, .slice none 0 0, .int .i64 0, .slice none 0 0] 57
  have HB := Lib.hid ((Below.refl w.heap.size w).alloc (Nat.le_refl _) (.cells #[.int .i64 0, .int .i64 0, .slice none 0 0, .int .i64 0, .slice none 0 0] 57))
  have HV := Lib.hid hv2
  clear hv hv2
  have hcase : (0 ≤ p ∧ okV a = true) ∨ p < 0 ∨ (0 ≤ p ∧ okV a = false) := by
    by_cases h0 : p < 0
    · exact .inr (.inl h0)
    · cases h2 : okV a
      · exact .inr (.inr ⟨by omega, rfl⟩)
      · exact .inl ⟨by omega, rfl⟩
  rcases hcase with ⟨hp, ho⟩ | hp | ⟨hp, ho⟩
  · skip
    rw [show newG p a = ⟨p, 0, [a, 0, 0, 0, 0, 0], 1, []⟩ from if_neg (by rw [ho]; intro h; rcases h with h | h <;> first | omega | cases h)]
    have hp1 : ¬ p < 0 := by omega
    have HO := Lib.hid ho
    clear ho
    have HR := Lib.hid hR
    clear hR
    go_enter Tryd.func64, Tryd.ntmps64
    go_wp2_with fail
    refine (l03ValG_any _ _).mono ?_
    rw [HO.out]
    rintro e w5 ⟨rfl, rfl⟩
    go_upto_region 3 with (fail)
    have HW1 := Lib.hid (show w.heap.size + 1 ≤ (w.alloc (.cells #[.int .i64 0, .int .i64 0, .slice none 0 0, .int .i64 0, .slice none 0 0] 57)).heap.size by simp)
    generalize (w.alloc (.cells #[.int .i64 0, .int .i64 0, .slice none 0 0, .int .i64 0, .slice none 0 0] 57)) = W1 at *
    have hmk := make_zeros (n := 6) (by omega) W1 6 rfl
    have hw1 := HW1.out
    go_upto_region 5 with (fail)
    have hb2 : Below W1.heap.size W1 ((W1.alloc (.cells ((Array.replicate 6 (Value.int IntKind.i64 0)).setIfInBounds 0 (Value.int IntKind.i64 a)) 3)).alloc (.cells #[.int .i64 p, .int .i64 0, .slice (some ⟨W1.heap.size, 0, none⟩) 6 6, .int .i64 1, .slice none 0 0] 57)) := ((Below.refl _ _).alloc (Nat.le_refl _) _).alloc (by simp) _
    have hx6 : ((W1.alloc (.cells ((Array.replicate 6 (Value.int IntKind.i64 0)).setIfInBounds 0 (Value.int IntKind.i64 a)) 3)).alloc (.cells #[.int .i64 p, .int .i64 0, .slice (some ⟨W1.heap.size, 0, none⟩) 6 6, .int .i64 1, .slice none 0 0] 57)).heap[W1.heap.size]? = _ := box_keep (box_new W1 ((Array.replicate 6 (Value.int IntKind.i64 0)).setIfInBounds 0 (Value.int IntKind.i64 a)) 3) ((Below.refl _ _).alloc (Nat.le_refl _) (.cells #[.int .i64 p, .int .i64 0, .slice (some ⟨W1.heap.size, 0, none⟩) 6 6, .int .i64 1, .slice none 0 0] 57)) (by simp)
    have hY6 := box_new (W1.alloc (.cells ((Array.replicate 6 (Value.int IntKind.i64 0)).setIfInBounds 0 (Value.int IntKind.i64 a)) 3)) #[.int .i64 p, .int .i64 0, .slice (some ⟨W1.heap.size, 0, none⟩) 6 6, .int .i64 1, .slice none 0 0] 57
    rw [World.size_alloc] at hY6
    have hR6 := box_keep HR.out hb2 (by omega)
    have HO6 := Lib.hid (own_block (n := 6) (xs := [a, 0, 0, 0, 0, 0]) rfl (by omega) (show ((W1.alloc (.cells ((Array.replicate 6 (Value.int IntKind.i64 0)).setIfInBounds 0 (Value.int IntKind.i64 a)) 3)).alloc (.cells #[.int .i64 p, .int .i64 0, .slice (some ⟨W1.heap.size, 0, none⟩) 6 6, .int .i64 1, .slice none 0 0] 57)).heap[W1.heap.size]? = _ from hx6) (by intro x hx; simp at hx; rcases hx with rfl | rfl <;> first | exact HV.out | decide))
    have HB6 := Lib.hid (HB.out.trans (hb2.mono (by omega)))
    have hz6 : W1.heap.size + 2 ≤ ((W1.alloc (.cells ((Array.replicate 6 (Value.int IntKind.i64 0)).setIfInBounds 0 (Value.int IntKind.i64 a)) 3)).alloc (.cells #[.int .i64 p, .int .i64 0, .slice (some ⟨W1.heap.size, 0, none⟩) 6 6, .int .i64 1, .slice none 0 0] 57)).heap.size := by simp
    clear hx6 hmk hb2
    generalize ((W1.alloc (.cells ((Array.replicate 6 (Value.int IntKind.i64 0)).setIfInBounds 0 (Value.int IntKind.i64 a)) 3)).alloc (.cells #[.int .i64 p, .int .i64 0, .slice (some ⟨W1.heap.size, 0, none⟩) 6 6, .int .i64 1, .slice none 0 0] 57)) = w6 at *
    have q0 := box_cell (j := 0) hY6 rfl
    have q1 := box_cell (j := 1) hY6 rfl
    have q2 := box_cell (j := 2) hY6 rfl
    have q3 := box_cell (j := 3) hY6 rfl
    have q4 := box_cell (j := 4) hY6 rfl
    clear hY6
    have HG6 := Lib.hid (fun g (hg : (W1.heap.size ≤ g ∧ g < W1.heap.size + 1) ∨ False) => show w.heap.size + 1 ≤ g by rcases hg with hg | hg <;> first | omega | exact hg.elim)
    have HF6 := Lib.hid (fun g (hg : (W1.heap.size ≤ g ∧ g < W1.heap.size + 1) ∨ False) => show w.heap.size ≤ g ∧ g < w6.heap.size by rcases hg with hg | hg <;> first | omega | exact hg.elim)
    have HD6 := Lib.hid (fun g (hg : (W1.heap.size ≤ g ∧ g < W1.heap.size + 1)) => show ¬ False from id)
    have HT6 := Lib.hid (ownG_nil layItem 143 w6)
    have r0 := box_cell (j := 0) hR6 rfl
    have r1 := box_cell (j := 1) hR6 rfl
    have r2 := box_cell (j := 2) hR6 rfl
    have r3 := box_cell (j := 3) hR6 rfl
    have r4 := box_cell (j := 4) hR6 rfl
    have g0 := box_free hR6 0
    have g1 := box_free hR6 1
    have g2 := box_free hR6 2
    have g3 := box_free hR6 3
    have g4 := box_free hR6 4
    have HRz := Lib.hid hR6
    clear hR6
    go_wp2_with fail
    have hfin := (box_set (j := 4) (u := .slice none 0 0) (box_set (j := 3) (u := .int .i64 1) (box_set (j := 2) (u := .slice (some ⟨W1.heap.size, 0, none⟩) 6 6) (box_set (j := 1) (u := .int .i64 0) (box_set (j := 0) (u := .int .i64 p) HRz.out)))))
    have y0 := box_cell (j := 0) hfin rfl
    have y1 := box_cell (j := 1) hfin rfl
    have y2 := box_cell (j := 2) hfin rfl
    have y3 := box_cell (j := 3) hfin rfl
    have y4 := box_cell (j := 4) hfin rfl
    clear r0 r1 r2 r3 r4 g0 g1 g2 g3 g4
    refine bodyPost_ret (v := .agg #[.int .i64 p, .int .i64 0, .slice (some ⟨W1.heap.size, 0, none⟩) 6 6, .int .i64 1, .slice none 0 0]) (by simp [results, Tryd.results64, go_sem, y0, y1, y2, y3, y4]) rfl ?_
    have hnR2 : ¬ (fun k => W1.heap.size ≤ k ∧ k < W1.heap.size + 1) (w.heap.size) := fun hg => by have := HG6.out _ (.inl hg); omega
    have hnR4 : ¬ (fun _ => False) (w.heap.size) := fun hg => hg
    refine ⟨(below_set (below_set (below_set (below_set (below_set HB6.out (by simp only; omega) _) (by simp only; omega) _) (by simp only; omega) _) (by simp only; omega) _) (by simp only; omega) _), _, _, _, _, _, _, rfl, (OwnR.setCell (o := 4) (OwnR.setCell (o := 3) (OwnR.setCell (o := 2) (OwnR.setCell (o := 1) (OwnR.setCell (o := 0) HO6.out (g := w.heap.size) hnR2 _) hnR2 _) hnR2 _) hnR2 _) hnR2 _), (OwnR.setCell (o := 4) (OwnR.setCell (o := 3) (OwnR.setCell (o := 2) (OwnR.setCell (o := 1) (OwnR.setCell (o := 0) HT6.out (g := w.heap.size) hnR4 _) hnR4 _) hnR4 _) hnR4 _) hnR4 _), ?_, fun g hg hg' => by exact HD6.out g hg hg'⟩
    rintro g (hg | hg) <;> (have hq := HF6.out g; simp only [World.size_setCell]; first | (have := hq (.inl hg); omega) | (have := hq (.inr hg); omega))
  · skip
    rw [show newG p a = ⟨0, 0, [], 0, []⟩ from if_pos (.inl hp)]
    have HR := Lib.hid hR
    clear hR
    go_enter Tryd.func64, Tryd.ntmps64
    have hR6 := HR.out
    have r0 := box_cell (j := 0) HR.out rfl
    have r1 := box_cell (j := 1) HR.out rfl
    have r2 := box_cell (j := 2) HR.out rfl
    have r3 := box_cell (j := 3) HR.out rfl
    have r4 := box_cell (j := 4) HR.out rfl
    have g0 := box_free HR.out 0
    have g1 := box_free HR.out 1
    have g2 := box_free HR.out 2
    have g3 := box_free HR.out 3
    have g4 := box_free HR.out 4
    clear hR6
    go_wp2_with fail
    have hfin := (box_set (j := 4) (u := .slice none 0 0) (box_set (j := 3) (u := .int .i64 0) (box_set (j := 2) (u := .slice none 0 0) (box_set (j := 1) (u := .int .i64 0) (box_set (j := 0) (u := .int .i64 0) HR.out)))))
    have y0 := box_cell (j := 0) hfin rfl
    have y1 := box_cell (j := 1) hfin rfl
    have y2 := box_cell (j := 2) hfin rfl
    have y3 := box_cell (j := 3) hfin rfl
    have y4 := box_cell (j := 4) hfin rfl
    clear r0 r1 r2 r3 r4 g0 g1 g2 g3 g4
    refine bodyPost_ret (v := .agg #[.int .i64 0, .int .i64 0, .slice none 0 0, .int .i64 0, .slice none 0 0]) (by simp [results, Tryd.results64, go_sem, y0, y1, y2, y3, y4]) rfl ?_
    exact ⟨HB.out, none, 0, none, 0, (fun _ => False), (fun _ => False), rfl, ownG_nil _ _ _, ownG_nil _ _ _, fun g hg => by rcases hg with hg | hg <;> exact hg.elim, fun g hg => hg.elim⟩
  · skip
    rw [show newG p a = ⟨0, 0, [], 0, []⟩ from if_pos (.inr ho)]
    have hp1 : ¬ p < 0 := by omega
    have HO := Lib.hid ho
    clear ho
    have HR := Lib.hid hR
    clear hR
    go_enter Tryd.func64, Tryd.ntmps64
    go_wp2_with fail
    refine (l03ValG_any _ _).mono ?_
    rw [HO.out]
    rintro e w5 ⟨rfl, rfl⟩
    have hR6 := HR.out
    have r0 := box_cell (j := 0) HR.out rfl
    have r1 := box_cell (j := 1) HR.out rfl
    have r2 := box_cell (j := 2) HR.out rfl
    have r3 := box_cell (j := 3) HR.out rfl
    have r4 := box_cell (j := 4) HR.out rfl
    have g0 := box_free HR.out 0
    have g1 := box_free HR.out 1
    have g2 := box_free HR.out 2
    have g3 := box_free HR.out 3
    have g4 := box_free HR.out 4
    clear hR6
    go_wp2_with fail
    have hfin := (box_set (j := 4) (u := .slice none 0 0) (box_set (j := 3) (u := .int .i64 0) (box_set (j := 2) (u := .slice none 0 0) (box_set (j := 1) (u := .int .i64 0) (box_set (j := 0) (u := .int .i64 0) HR.out)))))
    have y0 := box_cell (j := 0) hfin rfl
    have y1 := box_cell (j := 1) hfin rfl
    have y2 := box_cell (j := 2) hfin rfl
    have y3 := box_cell (j := 3) hfin rfl
    have y4 := box_cell (j := 4) hfin rfl
    clear r0 r1 r2 r3 r4 g0 g1 g2 g3 g4
    refine bodyPost_ret (v := .agg #[.int .i64 0, .int .i64 0, .slice none 0 0, .int .i64 0, .slice none 0 0]) (by simp [results, Tryd.results64, go_sem, y0, y1, y2, y3, y4]) rfl ?_
    exact ⟨HB.out, none, 0, none, 0, (fun _ => False), (fun _ => False), rfl, ownG_nil _ _ _, ownG_nil _ _ _, fun g hg => by rcases hg with hg | hg <;> exact hg.elim, fun g hg => hg.elim⟩
end Go.Proofs.YtgfkadhojlddpaaDoor

namespace Go.Proofs.YtgfkadhojlddpaaDoor
set_option linter.unusedSimpArgs false
set_option linter.unusedVariables false
open Go.RowKit

theorem madeG_of {w w' : World} {r : DGor} {e : Ending} (h0 : (Lit.int .i64 r.fProc).wf = true) (h1 : (Lit.int .i64 r.fPc).wf = true) (h3 : (Lit.int .i64 r.fState).wf = true) (h : CopiedG r w e w') : MadeO layGor w r e w' := by
  obtain ⟨hb, A2, c2, A4, c4, F2, F4, rfl, o2, o4, hF, hd⟩ := h
  exact ⟨[.int .i64 r.fProc, .int .i64 r.fPc, .slice A2 r.fRegs.length c2, .int .i64 r.fState, .slice A4 r.fTrace.length c4], fun g => F2 g ∨ F4 g, rfl, ownGor h0 h1 (TailR.of o2) h3 (TailR.of o4) (fun g h => .inl h) (fun g h => .inr h) hd, hF, hb⟩
theorem wf_newG {p a : Int} (hp : (Lit.int .i64 p).wf = true) : (Lit.int .i64 (newG p a).fProc).wf = true ∧ (Lit.int .i64 (newG p a).fPc).wf = true ∧ (Lit.int .i64 (newG p a).fState).wf = true := by
  unfold newG
  split
  · exact ⟨show (Lit.int .i64 0).wf = true by decide, show (Lit.int .i64 0).wf = true by decide, show (Lit.int .i64 0).wf = true by decide⟩
  · exact ⟨hp, show (Lit.int .i64 0).wf = true by decide, show (Lit.int .i64 1).wf = true by decide⟩
theorem implGorNew_law {w : World} {p a : Int} (hv : (Lit.int .i64 p).wf = true) (hv2 : (Lit.int .i64 a).wf = true) : Calls Tryd.prog 66 #[.int .i64 p, .int .i64 a] w (MadeO layGor w (newG p a)) :=
  (implGorNew_any hv hv2).mono fun _ _ h => madeG_of (wf_newG hv).1 (wf_newG hv).2.1 (wf_newG hv).2.2 h
theorem specGorNew_law {w : World} {p a : Int} (hv : (Lit.int .i64 p).wf = true) (hv2 : (Lit.int .i64 a).wf = true) : Calls Tryd.prog 64 #[.int .i64 p, .int .i64 a] w (MadeO layGor w (newG p a)) :=
  (specGorNew_any hv hv2).mono fun _ _ h => madeG_of (wf_newG hv).1 (wf_newG hv).2.1 (wf_newG hv).2.2 h
theorem vcntG_le {x : DGor} (h : szGor x ≤ 1048580) : 0 ≤ vcntGor x ∧ vcntGor x ≤ 12582960 := by
  unfold szGor at h
  unfold vcntGor
  omega
theorem newG_sz {p a : Int} : szGor (newG p a) ≤ 1048580 := by
  unfold newG szGor
  split <;> simp
end Go.Proofs.YtgfkadhojlddpaaDoor
