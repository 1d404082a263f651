
/- addPlace, likeCase, lockPlace, placesOf, Places: the program's. Laid by wip/gen9/placei.py. -/

import Derived.Test.YtghkdkagnibkgaaGreatDoorGCasM

import Derived.Deep.Cut

namespace Go.Proofs.YtghkdkagnibkgaaGreatDoor
set_option linter.unusedSimpArgs false
set_option linter.unusedVariables false
open Go.RowKit

set_option maxRecDepth 100000 in
set_option maxHeartbeats 4000000 in
theorem addPlace_any {w : World} {hi lo : Nat} {g : DGor} {us : List Value} (hg : layGor.see w hi g us) (hhi : hi ≤ w.heap.size) {c : DCase} {n k : Int} {B : Option Addr} {cB : Nat} {ps : List DPlace}
    (hown : Own w lo w.heap.size 174 6 B ps.length cB ((ps.map plC).flatten)) (hlo : lo ≤ w.heap.size) (hlen : ps.length ≤ 1048576) (hch : -1 ≤ c.fChan) (hreg : 0 ≤ c.fReg ∧ c.fReg ≤ 5) (h6 : g.fRegs.length = 6) :
    Calls Tryz.prog 164 #[.slice B ps.length cB, .agg us.toArray, .agg #[.bool c.fSend, .int .i64 c.fChan, .int .i64 c.fReg, .int .i64 c.fOk, .int .i64 c.fTo], .agg #[.int .i64 n, .int .i64 k, .int .i64 0]] w (MoreP w lo (ps ++ casePl g n k c)) := by
  obtain ⟨i0, hi0, iz0, iz1, iz2⟩ := info_parts infoPlaceE
  obtain ⟨A2, n2, c2, A4, n4, c4, rfl, -, -, ⟨hc2, hm2, s2⟩, -⟩ := seeGor hg
  obtain ⟨q, hq⟩ := Int.eq_ofNat_of_zero_le hreg.1
  have hql : q < g.fRegs.length := by omega
  have hqn : q < n2 := by have := s2.1; omega
  have HRG := Lib.hid (regR_in hql)
  obtain ⟨snd, ch, rg, ok, to⟩ := c
  simp only at hch hq ⊢
  subst hq
  have hb0 : Below w.heap.size w (((w.alloc (.cells #[.int .i64 g.fProc, .int .i64 g.fPc, .slice A2 n2 c2, .int .i64 g.fState, .slice A4 n4 c4] 65)).alloc (.cells #[.bool snd, .int .i64 ch, .int .i64 (q : Int), .int .i64 ok, .int .i64 to] 89)).alloc (.cells #[.int .i64 n, .int .i64 k, .int .i64 0] 166)) := (((Below.refl _ _).alloc (Nat.le_refl _) _).alloc (by simp) _).alloc (by simp; omega) _
  have hz0 : (((w.alloc (.cells #[.int .i64 g.fProc, .int .i64 g.fPc, .slice A2 n2 c2, .int .i64 g.fState, .slice A4 n4 c4] 65)).alloc (.cells #[.bool snd, .int .i64 ch, .int .i64 (q : Int), .int .i64 ok, .int .i64 to] 89)).alloc (.cells #[.int .i64 n, .int .i64 k, .int .i64 0] 166)).heap.size = w.heap.size + 3 := by simp
  have hG0 := box_keep (box_new w #[.int .i64 g.fProc, .int .i64 g.fPc, .slice A2 n2 c2, .int .i64 g.fState, .slice A4 n4 c4] 65) (((Below.refl _ _).alloc (Nat.le_refl _) (.cells #[.bool snd, .int .i64 ch, .int .i64 (q : Int), .int .i64 ok, .int .i64 to] 89)).alloc (by simp) (.cells #[.int .i64 n, .int .i64 k, .int .i64 0] 166)) (by simp)
  have hC0 := box_keep (box_new (w.alloc (.cells #[.int .i64 g.fProc, .int .i64 g.fPc, .slice A2 n2 c2, .int .i64 g.fState, .slice A4 n4 c4] 65)) #[.bool snd, .int .i64 ch, .int .i64 (q : Int), .int .i64 ok, .int .i64 to] 89) ((Below.refl _ _).alloc (Nat.le_refl _) (.cells #[.int .i64 n, .int .i64 k, .int .i64 0] 166)) (by simp)
  have hW0 := box_new ((w.alloc (.cells #[.int .i64 g.fProc, .int .i64 g.fPc, .slice A2 n2 c2, .int .i64 g.fState, .slice A4 n4 c4] 65)).alloc (.cells #[.bool snd, .int .i64 ch, .int .i64 (q : Int), .int .i64 ok, .int .i64 to] 89)) #[.int .i64 n, .int .i64 k, .int .i64 0] 166
  simp only [World.size_alloc] at hC0 hW0
  have hOW := ((hown.alloc (.cells #[.int .i64 g.fProc, .int .i64 g.fPc, .slice A2 n2 c2, .int .i64 g.fState, .slice A4 n4 c4] 65)).alloc (.cells #[.bool snd, .int .i64 ch, .int .i64 (q : Int), .int .i64 ok, .int .i64 to] 89)).alloc (.cells #[.int .i64 n, .int .i64 k, .int .i64 0] 166)
  obtain ⟨hx, gA, oA, ws, rfl, hgA, ⟨rfl, -⟩, hcell⟩ := (s2.below hb0 hhi).at_ hqn
  have cc0 := hcell 0 _ rfl
  simp only [Lay.int, Lay.flat, Nat.add_zero, Nat.mul_one] at cc0
  have hi1 : (q : Int) < (n2 : Int) := by omega
  have hiq : (0 : Int) ≤ (q : Int) := by omega
  rw [show g.fRegs[q] = regR g q from HRG.out.symm] at cc0
  clear hcell hg s2 hown HRG hreg
  go_enter Tryz.func164, Tryz.ntmps164
  go_upto_region 1 with (fail)
  generalize (((w.alloc (.cells #[.int .i64 g.fProc, .int .i64 g.fPc, .slice (some ⟨gA, oA, none⟩) n2 c2, .int .i64 g.fState, .slice A4 n4 c4] 65)).alloc (.cells #[.bool snd, .int .i64 ch, .int .i64 (q : Int), .int .i64 ok, .int .i64 to] 89)).alloc (.cells #[.int .i64 n, .int .i64 k, .int .i64 0] 166)) = W0 at *
  have c0 := box_cell (j := 0) hC0 rfl
  have c1 := box_cell (j := 1) hC0 rfl
  have c2' := box_cell (j := 2) hC0 rfl
  have g2 := box_cell (j := 2) hG0 rfl
  have w0 := box_cell (j := 0) hW0 rfl
  have w1 := box_cell (j := 1) hW0 rfl
  have w2 := box_cell (j := 2) hW0 rfl
  have f2 := box_free hW0 2
  by_cases hc : ch = -1
  · subst hc
    have hOW' := hOW
    clear hOW
    go_wp2_with fail
    go_ret
    rw [show casePl g n k ⟨snd, -1, (q : Int), ok, to⟩ = [] from rfl, List.append_nil]
    exact ⟨B, cB, rfl, hOW'.wider (Nat.le_refl _) (by omega), hb0.mono hlo⟩
  have qc : (ch == -1) = false := by simp [hc]
  have hcp : casePl g n k ⟨snd, ch, (q : Int), ok, to⟩ = [⟨false, ch, snd, n, k, if snd then regR g q else 0⟩] := by unfold casePl; rw [if_neg (by simp only; omega)]
  have HCP := Lib.hid hcp
  clear hcp hc
  cases snd
  · have hsb := seen_block W0 [.bool false, .int .i64 ch, .bool false, .int .i64 n, .int .i64 k, .int .i64 0] 174
    rw [hz0] at hsb
    have hownA := hOW.alloc (.cells [.bool false, .int .i64 ch, .bool false, .int .i64 n, .int .i64 k, .int .i64 0].toArray 174)
    have hbA := (hb0.mono hlo).trans (((Below.refl W0.heap.size W0).alloc (Nat.le_refl _) (.cells [.bool false, .int .i64 ch, .bool false, .int .i64 n, .int .i64 k, .int .i64 0].toArray 174)).mono (by omega))
    have HBA := Lib.hid hbA
    clear hOW hbA
    go_wp2_with (at_builtin; refine wpList_append_seen rfl (.tmp 22) (.tmp 29) _ rfl lo _ 174 i0 _ 6 48 Tryz.underlying147 hi0 iz0 iz1 iz2 rfl (by omega) B ps.length cB _ rfl hownA _ _ 1 1 _ rfl hsb (by simp [Value.oneCell']) (by simp only [maxLen]; omega) (by omega) (by simp; omega) ?_; intro B4 c4' w5 own5 hb5)
    go_ret
    rw [HCP.out]
    exact ⟨B4, c4', by simp, by rw [List.map_append, List.flatten_append, List.length_append]; exact own5, HBA.out.trans hb5⟩
  · have hsb := seen_block (W0.setCell ⟨w.heap.size + 2, 2, none⟩ (.int .i64 (regR g q))) [.bool false, .int .i64 ch, .bool true, .int .i64 n, .int .i64 k, .int .i64 (regR g q)] 174
    have hzs : (W0.setCell ⟨w.heap.size + 2, 2, none⟩ (.int .i64 (regR g q))).heap.size = W0.heap.size := by simp
    rw [hzs, hz0] at hsb
    have hownA := (hOW.setCell (o := 2) (g := w.heap.size + 2) (.inr (by omega)) (.int .i64 (regR g q))).alloc (.cells [.bool false, .int .i64 ch, .bool true, .int .i64 n, .int .i64 k, .int .i64 (regR g q)].toArray 174)
    have hbA := (below_set (p := ⟨w.heap.size + 2, 2, none⟩) (hb0.mono hlo) (show lo ≤ w.heap.size + 2 by omega) (.int .i64 (regR g q))).trans (((Below.refl _ (W0.setCell ⟨w.heap.size + 2, 2, none⟩ (.int .i64 (regR g q)))).alloc (Nat.le_refl _) (.cells [.bool false, .int .i64 ch, .bool true, .int .i64 n, .int .i64 k, .int .i64 (regR g q)].toArray 174)).mono (by rw [hzs]; omega))
    have HBA := Lib.hid hbA
    clear hOW hbA
    go_wp2_with (at_builtin; refine wpList_append_seen rfl (.tmp 22) (.tmp 29) _ rfl lo _ 174 i0 _ 6 48 Tryz.underlying147 hi0 iz0 iz1 iz2 rfl (by omega) B ps.length cB _ rfl hownA _ _ 1 1 _ rfl hsb (by simp [Value.oneCell']) (by simp only [maxLen]; omega) (by omega) (by simp; omega) ?_; intro B4 c4' w5 own5 hb5)
    go_ret
    rw [HCP.out]
    exact ⟨B4, c4', by simp, by rw [List.map_append, List.flatten_append, List.length_append]; exact own5, HBA.out.trans hb5⟩

set_option maxRecDepth 100000 in
set_option maxHeartbeats 1000000 in
theorem likeCase8_any (a b c : Int) (w : World) : Calls Tryz.prog 79 #[.agg #[.int .i64 8, .int .i64 a, .int .i64 b, .int .i64 c]] w fun e w' => e = .returned (.agg #[.bool true, .int .i64 a, .int .i64 b, .int .i64 0, .int .i64 0]) ∧ Below w.heap.size w w' := by
  have hb : Below w.heap.size w ((w.alloc (.cells #[.int .i64 8, .int .i64 a, .int .i64 b, .int .i64 c] 61)).alloc (.cells #[.bool false, .int .i64 0, .int .i64 0, .int .i64 0, .int .i64 0] 89)) := ((Below.refl _ _).alloc (Nat.le_refl _) _).alloc (by simp) _
  have hR := box_new (w.alloc (.cells #[.int .i64 8, .int .i64 a, .int .i64 b, .int .i64 c] 61)) #[.bool false, .int .i64 0, .int .i64 0, .int .i64 0, .int .i64 0] 89
  have hI := box_keep (box_new w #[.int .i64 8, .int .i64 a, .int .i64 b, .int .i64 c] 61) ((Below.refl _ _).alloc (Nat.le_refl _) (.cells #[.bool false, .int .i64 0, .int .i64 0, .int .i64 0, .int .i64 0] 89)) (by simp)
  simp only [World.size_alloc] at hR
  go_enter Tryz.func79, Tryz.ntmps79
  go_upto_region 1 with (fail)
  generalize ((w.alloc (.cells #[.int .i64 8, .int .i64 a, .int .i64 b, .int .i64 c] 61)).alloc (.cells #[.bool false, .int .i64 0, .int .i64 0, .int .i64 0, .int .i64 0] 89)) = W0 at *
  have x0 := box_cell (j := 0) hI rfl
  have x1 := box_cell (j := 1) hI rfl
  have x2 := box_cell (j := 2) hI rfl
  have x3 := box_cell (j := 3) hI rfl
  have r0 := box_cell (j := 0) hR rfl
  have r1 := box_cell (j := 1) hR rfl
  have r2 := box_cell (j := 2) hR rfl
  have r3 := box_cell (j := 3) hR rfl
  have r4 := box_cell (j := 4) hR rfl
  have f0 := box_free hR 0
  have f1 := box_free hR 1
  have f2 := box_free hR 2
  have f3 := box_free hR 3
  have f4 := box_free hR 4
  have HR := Lib.hid hR
  have HB := Lib.hid hb
  clear hR hI hb
  go_wp2_with fail
  have hfin := box_set (j := 4) (u := .int .i64 0) (box_set (j := 3) (u := .int .i64 0) (box_set (j := 2) (u := .int .i64 b) (box_set (j := 1) (u := .int .i64 a) (box_set (j := 0) (u := .bool true) HR.out))))
  have y0 := box_cell (j := 0) hfin rfl
  have y1 := box_cell (j := 1) hfin rfl
  have y2 := box_cell (j := 2) hfin rfl
  have y3 := box_cell (j := 3) hfin rfl
  have y4 := box_cell (j := 4) hfin rfl
  clear r0 r1 r2 r3 r4 f0 f1 f2 f3 f4
  refine bodyPost_ret (v := .agg #[.bool true, .int .i64 a, .int .i64 b, .int .i64 0, .int .i64 0]) (by simp [results, Tryz.results79, go_sem, y0, y1, y2, y3, y4]) rfl ?_
  exact ⟨rfl, below_set (p := ⟨w.heap.size + 1, 4, none⟩) (below_set4 HB.out (by omega)) (by simp) _⟩

set_option maxRecDepth 100000 in
set_option maxHeartbeats 1000000 in
theorem likeCase9_any (a b c : Int) (w : World) : Calls Tryz.prog 79 #[.agg #[.int .i64 9, .int .i64 a, .int .i64 b, .int .i64 c]] w fun e w' => e = .returned (.agg #[.bool false, .int .i64 a, .int .i64 b, .int .i64 c, .int .i64 0]) ∧ Below w.heap.size w w' := by
  have hb : Below w.heap.size w ((w.alloc (.cells #[.int .i64 9, .int .i64 a, .int .i64 b, .int .i64 c] 61)).alloc (.cells #[.bool false, .int .i64 0, .int .i64 0, .int .i64 0, .int .i64 0] 89)) := ((Below.refl _ _).alloc (Nat.le_refl _) _).alloc (by simp) _
  have hR := box_new (w.alloc (.cells #[.int .i64 9, .int .i64 a, .int .i64 b, .int .i64 c] 61)) #[.bool false, .int .i64 0, .int .i64 0, .int .i64 0, .int .i64 0] 89
  have hI := box_keep (box_new w #[.int .i64 9, .int .i64 a, .int .i64 b, .int .i64 c] 61) ((Below.refl _ _).alloc (Nat.le_refl _) (.cells #[.bool false, .int .i64 0, .int .i64 0, .int .i64 0, .int .i64 0] 89)) (by simp)
  simp only [World.size_alloc] at hR
  go_enter Tryz.func79, Tryz.ntmps79
  go_upto_region 1 with (fail)
  generalize ((w.alloc (.cells #[.int .i64 9, .int .i64 a, .int .i64 b, .int .i64 c] 61)).alloc (.cells #[.bool false, .int .i64 0, .int .i64 0, .int .i64 0, .int .i64 0] 89)) = W0 at *
  have x0 := box_cell (j := 0) hI rfl
  have x1 := box_cell (j := 1) hI rfl
  have x2 := box_cell (j := 2) hI rfl
  have x3 := box_cell (j := 3) hI rfl
  have r0 := box_cell (j := 0) hR rfl
  have r1 := box_cell (j := 1) hR rfl
  have r2 := box_cell (j := 2) hR rfl
  have r3 := box_cell (j := 3) hR rfl
  have r4 := box_cell (j := 4) hR rfl
  have f0 := box_free hR 0
  have f1 := box_free hR 1
  have f2 := box_free hR 2
  have f3 := box_free hR 3
  have f4 := box_free hR 4
  have HR := Lib.hid hR
  have HB := Lib.hid hb
  clear hR hI hb
  go_wp2_with fail
  have hfin := box_set (j := 4) (u := .int .i64 0) (box_set (j := 3) (u := .int .i64 c) (box_set (j := 2) (u := .int .i64 b) (box_set (j := 1) (u := .int .i64 a) (box_set (j := 0) (u := .bool false) HR.out))))
  have y0 := box_cell (j := 0) hfin rfl
  have y1 := box_cell (j := 1) hfin rfl
  have y2 := box_cell (j := 2) hfin rfl
  have y3 := box_cell (j := 3) hfin rfl
  have y4 := box_cell (j := 4) hfin rfl
  clear r0 r1 r2 r3 r4 f0 f1 f2 f3 f4
  refine bodyPost_ret (v := .agg #[.bool false, .int .i64 a, .int .i64 b, .int .i64 c, .int .i64 0]) (by simp [results, Tryz.results79, go_sem, y0, y1, y2, y3, y4]) rfl ?_
  exact ⟨rfl, below_set (p := ⟨w.heap.size + 1, 4, none⟩) (below_set4 HB.out (by omega)) (by simp) _⟩

set_option maxRecDepth 100000 in
set_option maxHeartbeats 1000000 in
theorem lockPlace_any (o n : Int) (w : World) : Calls Tryz.prog 165 #[.int .i64 o, .int .i64 n] w fun e w' => e = .returned (.agg (plC (plM o n)).toArray) ∧ Below w.heap.size w w' := by
  have hb : Below w.heap.size w (w.alloc (.cells #[.bool false, .int .i64 0, .bool false, .int .i64 0, .int .i64 0, .int .i64 0] 174)) := (Below.refl _ _).alloc (Nat.le_refl _) _
  have hR := box_new w #[.bool false, .int .i64 0, .bool false, .int .i64 0, .int .i64 0, .int .i64 0] 174
  go_enter Tryz.func165, Tryz.ntmps165
  go_upto_region 1 with (fail)
  generalize (w.alloc (.cells #[.bool false, .int .i64 0, .bool false, .int .i64 0, .int .i64 0, .int .i64 0] 174)) = W0 at *
  have r0 := box_cell (j := 0) hR rfl
  have r1 := box_cell (j := 1) hR rfl
  have r2 := box_cell (j := 2) hR rfl
  have r3 := box_cell (j := 3) hR rfl
  have r4 := box_cell (j := 4) hR rfl
  have r5 := box_cell (j := 5) hR rfl
  have f0 := box_free hR 0
  have f1 := box_free hR 1
  have f2 := box_free hR 2
  have f3 := box_free hR 3
  have f4 := box_free hR 4
  have f5 := box_free hR 5
  have HR := Lib.hid hR
  have HB := Lib.hid hb
  clear hR hb
  go_wp2_with fail
  have hfin := box_set (j := 5) (u := .int .i64 0) (box_set (j := 4) (u := .int .i64 (-1)) (box_set (j := 3) (u := .int .i64 n) (box_set (j := 2) (u := .bool false) (box_set (j := 1) (u := .int .i64 o) (box_set (j := 0) (u := .bool true) HR.out)))))
  have y0 := box_cell (j := 0) hfin rfl
  have y1 := box_cell (j := 1) hfin rfl
  have y2 := box_cell (j := 2) hfin rfl
  have y3 := box_cell (j := 3) hfin rfl
  have y4 := box_cell (j := 4) hfin rfl
  have y5 := box_cell (j := 5) hfin rfl
  clear r0 r1 r2 r3 r4 r5 f0 f1 f2 f3 f4 f5
  refine bodyPost_ret (v := .agg #[.bool true, .int .i64 o, .bool false, .int .i64 n, .int .i64 (-1), .int .i64 0]) (by simp [results, Tryz.results165, go_sem, y0, y1, y2, y3, y4, y5]) rfl ?_
  exact ⟨rfl, below_set (p := ⟨w.heap.size, 5, none⟩) (below_set (p := ⟨w.heap.size, 4, none⟩) (below_set4 HB.out (Nat.le_refl _)) (Nat.le_refl _) _) (Nat.le_refl _) _⟩

set_option maxRecDepth 100000 in
set_option maxHeartbeats 8000000 in
theorem placesOf_any {w : World} {hi : Nat} {p : DProg} {g : DGor} {vs us : List Value} {n : Int} (hp : layProg.see w hi p vs) (hg : layGor.see w hi g us) (hhi : hi ≤ w.heap.size) (hnp : szProg p ≤ 1048576) (hok : progOkB p = true) (hgb : gorB (instrsZ p g.fProc) g = true) :
    Calls Tryz.prog 134 #[.agg vs.toArray, .agg us.toArray, .int .i64 n] w (MoreP w w.heap.size (toldOf p g n)) := by
  obtain ⟨i0, hi0, iz0, iz1, iz2⟩ := info_parts infoPlaceE
  obtain ⟨hat, hrl, hra⟩ := gorB_parts hgb
  obtain ⟨n8, n9, n11, n12⟩ := at_names hok hat
  have hsc := fun (h : (atI p g).fOp = 11) (k : Nat) (c : DCase) (hc : (selI p (atI p g)).fCases[k]? = some c) => sel_case hok (n11 h).2.2 hc
  have hsl := fun (h : (atI p g).fOp = 11) => sel_len hok (n11 h).2.2
  have HSC := Lib.hid hsc
  have HSL := Lib.hid hsl
  have HI := Lib.hid (fun (W : World) (hW : Below w.heap.size w W) => implAt_any (layProg.keep hp fun k hk => hW.block k (by omega)) (layGor.keep hg fun k hk => hW.block k (by omega)) (Nat.le_trans hhi hW.size) hnp hat)
  have HGS := Lib.hid (fun (W : World) (hW : Below w.heap.size w W) => layGor.keep hg (w' := W) fun k hk => hW.block k (by omega))
  obtain ⟨A0, n0, c0, B2, m2, d2, A3, n3, c3, rfl, -, -, ⟨hc2, hm2, s2⟩, -⟩ := seeProg hp
  have HS := Lib.hid (fun (W : World) (hW : Below w.heap.size w W) => s2.below hW hhi)
  have hn2 : m2 ≤ 1048576 := by have := s2.1; unfold szProg at hnp; omega
  obtain ⟨A2, n2, c2, A4, n4, c4, rfl, -⟩ := seeGor hg
  clear hp hg s2 hgb hat hra hsc hsl
  have hB0 : Below w.heap.size w ((w.alloc (.cells #[.slice A0 n0 c0, .int .i64 p.fMus, .slice B2 m2 d2, .slice A3 n3 c3] 38)).alloc (.cells #[.int .i64 g.fProc, .int .i64 g.fPc, .slice A2 n2 c2, .int .i64 g.fState, .slice A4 n4 c4] 65)) := ((Below.refl _ _).alloc (Nat.le_refl _) _).alloc (by simp) _
  have hP0 := box_keep (box_new w #[.slice A0 n0 c0, .int .i64 p.fMus, .slice B2 m2 d2, .slice A3 n3 c3] 38) ((Below.refl _ _).alloc (Nat.le_refl _) (.cells #[.int .i64 g.fProc, .int .i64 g.fPc, .slice A2 n2 c2, .int .i64 g.fState, .slice A4 n4 c4] 65)) (by simp)
  have hG0 := box_new (w.alloc (.cells #[.slice A0 n0 c0, .int .i64 p.fMus, .slice B2 m2 d2, .slice A3 n3 c3] 38)) #[.int .i64 g.fProc, .int .i64 g.fPc, .slice A2 n2 c2, .int .i64 g.fState, .slice A4 n4 c4] 65
  rw [World.size_alloc] at hG0
  have hz0 : w.heap.size + 2 ≤ ((w.alloc (.cells #[.slice A0 n0 c0, .int .i64 p.fMus, .slice B2 m2 d2, .slice A3 n3 c3] 38)).alloc (.cells #[.int .i64 g.fProc, .int .i64 g.fPc, .slice A2 n2 c2, .int .i64 g.fState, .slice A4 n4 c4] 65)).heap.size := by simp
  go_enter Tryz.func134, Tryz.ntmps134
  by_cases hst : g.fState = 2
  rotate_left
  · have qs : (g.fState != 2) = true := by simp [hst]
    have HT := Lib.hid (show toldOf p g n = [] from if_neg hst)
    clear hst
    go_wp2_with fail
    go_ret
    rw [HT.out]
    exact ⟨none, 0, rfl, Own.nil_ _ _ _ _ _, hB0⟩
  have qs : (g.fState != 2) = false := by simp [hst]
  have HT := Lib.hid (show toldOf p g n = placesL p g n from if_pos hst)
  clear hst
  go_wp2_with fail
  refine (HI.out _ hB0).mono ?_
  rintro e w1 ⟨rfl, hb1⟩
  have hz1 := hb1.size
  go_upto_region 5 with (fail)
  unfold placesL at HT
  generalize atI p g = ins at *
  obtain ⟨op, ia, ib, ic⟩ := ins
  simp only at n8 n9 n11 n12 HSC HSL HT
  have hA1 : Below w1.heap.size w1 (w1.alloc (.cells #[.int .i64 op, .int .i64 ia, .int .i64 ib, .int .i64 ic] 61)) := (Below.refl _ _).alloc (Nat.le_refl _) _
  have hB1 := hB0.trans ((hb1.mono (by omega)).trans (hA1.mono (by omega)))
  have hP1 := box_keep (box_keep hP0 hb1 (by omega)) hA1 (by omega)
  have hG1 := box_keep (box_keep hG0 hb1 (by omega)) hA1 (by omega)
  have hX1 := box_new w1 #[.int .i64 op, .int .i64 ia, .int .i64 ib, .int .i64 ic] 61
  obtain ⟨bI, hbI⟩ : ∃ b, b = w1.heap.size := ⟨_, rfl⟩
  have hnm : w1.heap.size = bI := hbI.symm
  have hzI : (w1.alloc (.cells #[.int .i64 op, .int .i64 ia, .int .i64 ib, .int .i64 ic] 61)).heap.size = bI + 1 := by rw [hbI]; simp
  have hbI2 : w.heap.size + 2 ≤ bI := by omega
  rw [hnm] at hX1
  have HP1 := Lib.hid hP1
  have HG1 := Lib.hid hG1
  have HX1 := Lib.hid hX1
  have HB1 := Lib.hid hB1
  clear hA1 hB1 hP1 hG1 hX1 hP0 hG0 hb1 hB0 hz0 HI hz1
  generalize (w1.alloc (.cells #[.int .i64 op, .int .i64 ia, .int .i64 ib, .int .i64 ic] 61)) = W1 at *
  simp only [hnm]
  clear hnm hbI
  have x0 := box_cell (j := 0) HX1.out rfl
  by_cases h12 : op = 12
  · subst h12
    replace HT : Hid (toldOf p g n = [⟨true, ia, false, n, -1, 0⟩]) := Lib.hid (by rw [HT.out]; simp)
    have x1 := box_cell (j := 1) HX1.out rfl
    go_wp2_with fail
    refine (lockPlace_any ia n W1).mono ?_
    rintro e w2 ⟨rfl, hb2⟩
    have hsb := seen_block w2 (plC (plM ia n)) 174
    have hb3 : Below W1.heap.size W1 (w2.alloc (.cells (plC (plM ia n)).toArray 174)) := hb2.alloc hb2.size _
    have hz2 := hb2.size
    have HB3 := Lib.hid (HB1.out.trans (hb3.mono (by omega)))
    have hown := Own.nil_ (w2.alloc (.cells (plC (plM ia n)).toArray 174)) w.heap.size w.heap.size 174 6
    go_wp2_with (at_builtin; refine wpList_append_seen rfl (.tmp 54) (.tmp 59) _ rfl w.heap.size _ 174 i0 _ 6 48 Tryz.underlying147 hi0 iz0 iz1 iz2 rfl (by omega) none 0 0 _ rfl hown _ _ 1 1 _ rfl hsb (by simp [plM, Value.oneCell']) (by simp only [maxLen]; omega) (by omega) (by simp; omega) ?_; intro B4 c4' w5 own5 hb5)
    go_ret
    rw [HT.out]
    exact ⟨B4, c4', rfl, own5, HB3.out.trans hb5⟩
  by_cases h8 : op = 8
  · subst h8
    obtain ⟨⟨ha1, ha2⟩, hb⟩ := n8 rfl
    have hcp : casePl g n (-1) ⟨true, ia, ib, 0, 0⟩ = (if ia < 0 then [] else [⟨false, ia, true, n, -1, regR g ib⟩]) := by unfold casePl; simp
    replace HT : Hid (toldOf p g n = casePl g n (-1) ⟨true, ia, ib, 0, 0⟩) := Lib.hid (by rw [HT.out, hcp]; simp)
    have HAP := Lib.hid (fun (W : World) (hW : Below w.heap.size w W) => (List.nil_append (casePl g n (-1) ⟨true, ia, ib, 0, 0⟩)) ▸ addPlace_any (lo := W.heap.size) (n := n) (k := -1) (c := ⟨true, ia, ib, 0, 0⟩) (ps := []) (B := none) (cB := 0) (HGS.out W hW) (Nat.le_trans hhi hW.size) (Own.nil_ _ _ _ _ _) (Nat.le_refl _) (by simp) ha1 hb hrl)
    clear hcp h12
    go_upto_region 8 with (fail)
    refine wp_region_inv (fun AC0 L a W => ∃ sl22 sl23 sl24 sl25 sl26 sl27 sl28 sl7 : Value, a = ((((((((AC0.put (some 22) sl22).put (some 23) sl23).put (some 24) sl24).put (some 25) sl25).put (some 26) sl26).put (some 27) sl27).put (some 28) sl28).put (some 7) sl7) ∧ Below W1.heap.size W1 W ∧ ((L 0 → sl22 = (.slice none 0 0)) ∧ (L 1 → sl23 = (.agg #[.int .i64 g.fProc, .int .i64 g.fPc, .slice A2 n2 c2, .int .i64 g.fState, .slice A4 n4 c4])) ∧ (L 2 → sl24 = (.agg #[.int .i64 8, .int .i64 ia, .int .i64 ib, .int .i64 ic])) ∧ (L 3 → sl25 = (.agg #[.bool true, .int .i64 ia, .int .i64 ib, .int .i64 0, .int .i64 0])) ∧ (L 4 → sl26 = (.int .i64 n)) ∧ (L 5 → sl27 = (.agg #[.int .i64 n, .int .i64 (-1), .int .i64 0])) ∧ (L 6 → RowAtP W1.heap.size W (casePl g n (-1) ⟨true, ia, ib, 0, 0⟩) sl28) ∧ (L 7 → RowAtP W1.heap.size W (casePl g n (-1) ⟨true, ia, ib, 0, 0⟩) sl7) ∧ (L 0 ∨ (¬ L 7 ∧ sl7 = (.slice none 0 0))))) (by kernel_rfl) (by kernel_rfl) ?_ ?_ ?_
    · exact ⟨undef, undef, undef, undef, undef, undef, undef, (.slice none 0 0), by kernel_rfl, Below.drew (Below.refl _ _), fun h => absurd h id, fun h => absurd h id, fun h => absurd h id, fun h => absurd h id, fun h => absurd h id, fun h => absurd h id, fun h => absurd h id, fun h => absurd h id, .inr ⟨id, rfl⟩⟩
    · intro Q9; refine InvFrom.cons (fun L a W hI hN hD K hK => ?_) ?_
      · obtain ⟨sl22, sl23, sl24, sl25, sl26, sl27, sl28, sl7, ha, hB, f0, f1, f2, f3, f4, f5, f6, f7, x7⟩ := hI
        subst ha
        have hz := hB.size
        have dx7 := (x7.resolve_left hN).2
        subst dx7
        refine Kept.mk ?_
        simp only [Act.put, pA, pZ, pS]
        go_simp
        refine hK.out _ _ ?_
        exact ⟨(.slice none 0 0), sl23, sl24, sl25, sl26, sl27, sl28, (.slice none 0 0), by kernel_rfl, hB, fun _ => rfl, nf f1, nf f2, nf f3, nf f4, nf f5, nf f6, nf f7, .inl (.inr rfl)⟩
      refine InvFrom.cons (fun L a W hI hN hD K hK => ?_) ?_
      · obtain ⟨sl22, sl23, sl24, sl25, sl26, sl27, sl28, sl7, ha, hB, f0, f1, f2, f3, f4, f5, f6, f7, x7⟩ := hI
        subst ha
        have hz := hB.size
        have pg0 := box_cell (j := 0) (box_keep HG1.out hB (by omega)) rfl
        have pg1 := box_cell (j := 1) (box_keep HG1.out hB (by omega)) rfl
        have pg2 := box_cell (j := 2) (box_keep HG1.out hB (by omega)) rfl
        have pg3 := box_cell (j := 3) (box_keep HG1.out hB (by omega)) rfl
        have pg4 := box_cell (j := 4) (box_keep HG1.out hB (by omega)) rfl
        refine Kept.mk ?_
        simp only [Act.put, pA, pZ, pS]
        go_simp
        refine hK.out _ _ ?_
        exact ⟨sl22, (.agg #[.int .i64 g.fProc, .int .i64 g.fPc, .slice A2 n2 c2, .int .i64 g.fState, .slice A4 n4 c4]), sl24, sl25, sl26, sl27, sl28, sl7, by kernel_rfl, hB, nf f0, fun _ => rfl, nf f2, nf f3, nf f4, nf f5, nf f6, nf f7, x7.imp .inl (fun h => ⟨fun h9 => h9.elim h.1 (by decide), h.2⟩)⟩
      refine InvFrom.cons (fun L a W hI hN hD K hK => ?_) ?_
      · obtain ⟨sl22, sl23, sl24, sl25, sl26, sl27, sl28, sl7, ha, hB, f0, f1, f2, f3, f4, f5, f6, f7, x7⟩ := hI
        subst ha
        have hz := hB.size
        have pi0 := box_cell (j := 0) (box_keep HX1.out hB (by omega)) rfl
        have pi1 := box_cell (j := 1) (box_keep HX1.out hB (by omega)) rfl
        have pi2 := box_cell (j := 2) (box_keep HX1.out hB (by omega)) rfl
        have pi3 := box_cell (j := 3) (box_keep HX1.out hB (by omega)) rfl
        refine Kept.mk ?_
        simp only [Act.put, pA, pZ, pS]
        go_simp
        refine hK.out _ _ ?_
        exact ⟨sl22, sl23, (.agg #[.int .i64 8, .int .i64 ia, .int .i64 ib, .int .i64 ic]), sl25, sl26, sl27, sl28, sl7, by kernel_rfl, hB, nf f0, nf f1, fun _ => rfl, nf f3, nf f4, nf f5, nf f6, nf f7, x7.imp .inl (fun h => ⟨fun h9 => h9.elim h.1 (by decide), h.2⟩)⟩
      refine InvFrom.cons (fun L a W hI hN hD K hK => ?_) ?_
      · obtain ⟨sl22, sl23, sl24, sl25, sl26, sl27, sl28, sl7, ha, hB, f0, f1, f2, f3, f4, f5, f6, f7, x7⟩ := hI
        subst ha
        have hz := hB.size
        have d2 := f2 (hD 2 (by kernel_rfl))
        subst d2
        refine kept_c1 rfl 79 _ _ rfl (fenters_of' Tryz.func79 (by kernel_rfl) (by kernel_rfl)) (.agg #[.int .i64 8, .int .i64 ia, .int .i64 ib, .int .i64 ic]) (by kernel_rfl) (likeCase8_any ia ib ic W) ?_
        rintro e W1 ⟨rfl, hb1⟩
        refine ⟨_, rfl, hK.out _ _ ?_⟩
        exact ⟨sl22, sl23, (.agg #[.int .i64 8, .int .i64 ia, .int .i64 ib, .int .i64 ic]), (.agg #[.bool true, .int .i64 ia, .int .i64 ib, .int .i64 0, .int .i64 0]), sl26, sl27, sl28, sl7, by kernel_rfl, hB.trans ((hb1.mono (Nat.le_refl _)).mono hz), nf f0, nf f1, nf f2, fun _ => rfl, nf f4, nf f5, fun h => (f6 (nx h)).up (hb1.mono (Nat.le_refl _)), fun h => (f7 (nx h)).up (hb1.mono (Nat.le_refl _)), x7.imp .inl (fun h => ⟨fun h9 => h9.elim h.1 (by decide), h.2⟩)⟩
      refine InvFrom.cons (fun L a W hI hN hD K hK => ?_) ?_
      · obtain ⟨sl22, sl23, sl24, sl25, sl26, sl27, sl28, sl7, ha, hB, f0, f1, f2, f3, f4, f5, f6, f7, x7⟩ := hI
        subst ha
        have hz := hB.size
        refine Kept.mk ?_
        simp only [Act.put, pA, pZ, pS]
        go_simp
        refine hK.out _ _ ?_
        exact ⟨sl22, sl23, sl24, sl25, (.int .i64 n), sl27, sl28, sl7, by kernel_rfl, hB, nf f0, nf f1, nf f2, nf f3, fun _ => rfl, nf f5, nf f6, nf f7, x7.imp .inl (fun h => ⟨fun h9 => h9.elim h.1 (by decide), h.2⟩)⟩
      refine InvFrom.cons (fun L a W hI hN hD K hK => ?_) ?_
      · obtain ⟨sl22, sl23, sl24, sl25, sl26, sl27, sl28, sl7, ha, hB, f0, f1, f2, f3, f4, f5, f6, f7, x7⟩ := hI
        subst ha
        have hz := hB.size
        have d4 := f4 (hD 4 (by kernel_rfl))
        subst d4
        refine Kept.mk ?_
        simp only [Act.put, pA, pZ, pS]
        go_simp
        refine hK.out _ _ ?_
        exact ⟨sl22, sl23, sl24, sl25, (.int .i64 n), (.agg #[.int .i64 n, .int .i64 (-1), .int .i64 0]), sl28, sl7, by kernel_rfl, hB, nf f0, nf f1, nf f2, nf f3, nf f4, fun _ => rfl, nf f6, nf f7, x7.imp .inl (fun h => ⟨fun h9 => h9.elim h.1 (by decide), h.2⟩)⟩
      refine InvFrom.cons (fun L a W hI hN hD K hK => ?_) ?_
      · obtain ⟨sl22, sl23, sl24, sl25, sl26, sl27, sl28, sl7, ha, hB, f0, f1, f2, f3, f4, f5, f6, f7, x7⟩ := hI
        subst ha
        have hz := hB.size
        have d0 := f0 (hD 0 (by kernel_rfl))
        subst d0
        have d1 := f1 (hD 1 (by kernel_rfl))
        subst d1
        have d3 := f3 (hD 3 (by kernel_rfl))
        subst d3
        have d5 := f5 (hD 5 (by kernel_rfl))
        subst d5
        refine kept_c4 rfl 164 _ _ _ _ _ rfl (fenters_of' Tryz.func164 (by kernel_rfl) (by kernel_rfl)) (.slice none 0 0) (.agg #[.int .i64 g.fProc, .int .i64 g.fPc, .slice A2 n2 c2, .int .i64 g.fState, .slice A4 n4 c4]) (.agg #[.bool true, .int .i64 ia, .int .i64 ib, .int .i64 0, .int .i64 0]) (.agg #[.int .i64 n, .int .i64 (-1), .int .i64 0]) (by kernel_rfl) (by kernel_rfl) (by kernel_rfl) (by kernel_rfl) (HAP.out W (HB1.out.trans (hB.mono (by omega)))) ?_
        rintro e W1 ⟨A9, c9, rfl, own9, hb9⟩
        refine ⟨_, rfl, hK.out _ _ ?_⟩
        exact ⟨(.slice none 0 0), (.agg #[.int .i64 g.fProc, .int .i64 g.fPc, .slice A2 n2 c2, .int .i64 g.fState, .slice A4 n4 c4]), sl24, (.agg #[.bool true, .int .i64 ia, .int .i64 ib, .int .i64 0, .int .i64 0]), sl26, (.agg #[.int .i64 n, .int .i64 (-1), .int .i64 0]), (.slice A9 (casePl g n (-1) ⟨true, ia, ib, 0, 0⟩).length c9), sl7, by kernel_rfl, hB.trans (hb9.mono hz), nf f0, nf f1, nf f2, nf f3, nf f4, nf f5, fun _ => ⟨A9, c9, rfl, own9.wider hz (Nat.le_refl _)⟩, fun h => (f7 (nx h)).up hb9, x7.imp .inl (fun h => ⟨fun h9 => h9.elim h.1 (by decide), h.2⟩)⟩
      refine InvFrom.cons (fun L a W hI hN hD K hK => ?_) ?_
      · obtain ⟨sl22, sl23, sl24, sl25, sl26, sl27, sl28, sl7, ha, hB, f0, f1, f2, f3, f4, f5, f6, f7, x7⟩ := hI
        subst ha
        have hz := hB.size
        have d6 := f6 (hD 6 (by kernel_rfl))
        obtain ⟨A9, c9, rfl, own9⟩ := d6
        refine Kept.mk ?_
        simp only [Act.put, pA, pZ, pS]
        go_simp
        refine hK.out _ _ ?_
        exact ⟨sl22, sl23, sl24, sl25, sl26, sl27, (.slice A9 (casePl g n (-1) ⟨true, ia, ib, 0, 0⟩).length c9), (.slice A9 (casePl g n (-1) ⟨true, ia, ib, 0, 0⟩).length c9), by kernel_rfl, hB, nf f0, nf f1, nf f2, nf f3, nf f4, nf f5, nf f6, fun _ => ⟨A9, c9, rfl, own9⟩, .inl (.inl (hD 0 (by kernel_rfl)))⟩
      exact InvFrom.nil
    intro L a w2 hL hI
    obtain ⟨sl22, sl23, sl24, sl25, sl26, sl27, sl28, sl7, ha, hbw2, hI⟩ := hI
    subst ha
    have hfin := hI.2.2.2.2.2.2.2.1 (hL 7 (by decide))
    clear hL hI
    refine Kept.mk ?_
    simp only [Act.put, pA, pZ, pS]
    obtain ⟨Aq, cq, hsl, hoq⟩ := hfin
    subst hsl
    have HOQ := Lib.hid hoq
    have HBW := Lib.hid (HB1.out.trans (hbw2.mono (by omega)))
    clear hoq hbw2
    go_wp2_with fail
    go_ret
    rw [HT.out]
    exact ⟨Aq, cq, rfl, HOQ.out.wider (by omega) (Nat.le_refl _), HBW.out⟩
  by_cases h9 : op = 9
  · subst h9
    obtain ⟨⟨ha1, ha2⟩, hb⟩ := n9 rfl
    have hcp : casePl g n (-1) ⟨false, ia, ib, ic, 0⟩ = (if ia < 0 then [] else [⟨false, ia, false, n, -1, 0⟩]) := by unfold casePl; simp
    replace HT : Hid (toldOf p g n = casePl g n (-1) ⟨false, ia, ib, ic, 0⟩) := Lib.hid (by rw [HT.out, hcp]; simp)
    have HAP := Lib.hid (fun (W : World) (hW : Below w.heap.size w W) => (List.nil_append (casePl g n (-1) ⟨false, ia, ib, ic, 0⟩)) ▸ addPlace_any (lo := W.heap.size) (n := n) (k := -1) (c := ⟨false, ia, ib, ic, 0⟩) (ps := []) (B := none) (cB := 0) (HGS.out W hW) (Nat.le_trans hhi hW.size) (Own.nil_ _ _ _ _ _) (Nat.le_refl _) (by simp) ha1 hb hrl)
    clear hcp h12
    go_upto_region 8 with (fail)
    refine wp_region_inv (fun AC0 L a W => ∃ sl22 sl23 sl24 sl25 sl26 sl27 sl28 sl7 : Value, a = ((((((((AC0.put (some 22) sl22).put (some 23) sl23).put (some 24) sl24).put (some 25) sl25).put (some 26) sl26).put (some 27) sl27).put (some 28) sl28).put (some 7) sl7) ∧ Below W1.heap.size W1 W ∧ ((L 0 → sl22 = (.slice none 0 0)) ∧ (L 1 → sl23 = (.agg #[.int .i64 g.fProc, .int .i64 g.fPc, .slice A2 n2 c2, .int .i64 g.fState, .slice A4 n4 c4])) ∧ (L 2 → sl24 = (.agg #[.int .i64 9, .int .i64 ia, .int .i64 ib, .int .i64 ic])) ∧ (L 3 → sl25 = (.agg #[.bool false, .int .i64 ia, .int .i64 ib, .int .i64 ic, .int .i64 0])) ∧ (L 4 → sl26 = (.int .i64 n)) ∧ (L 5 → sl27 = (.agg #[.int .i64 n, .int .i64 (-1), .int .i64 0])) ∧ (L 6 → RowAtP W1.heap.size W (casePl g n (-1) ⟨false, ia, ib, ic, 0⟩) sl28) ∧ (L 7 → RowAtP W1.heap.size W (casePl g n (-1) ⟨false, ia, ib, ic, 0⟩) sl7) ∧ (L 0 ∨ (¬ L 7 ∧ sl7 = (.slice none 0 0))))) (by kernel_rfl) (by kernel_rfl) ?_ ?_ ?_
    · exact ⟨undef, undef, undef, undef, undef, undef, undef, (.slice none 0 0), by kernel_rfl, Below.drew (Below.refl _ _), fun h => absurd h id, fun h => absurd h id, fun h => absurd h id, fun h => absurd h id, fun h => absurd h id, fun h => absurd h id, fun h => absurd h id, fun h => absurd h id, .inr ⟨id, rfl⟩⟩
    · intro Q9; refine InvFrom.cons (fun L a W hI hN hD K hK => ?_) ?_
      · obtain ⟨sl22, sl23, sl24, sl25, sl26, sl27, sl28, sl7, ha, hB, f0, f1, f2, f3, f4, f5, f6, f7, x7⟩ := hI
        subst ha
        have hz := hB.size
        have dx7 := (x7.resolve_left hN).2
        subst dx7
        refine Kept.mk ?_
        simp only [Act.put, pA, pZ, pS]
        go_simp
        refine hK.out _ _ ?_
        exact ⟨(.slice none 0 0), sl23, sl24, sl25, sl26, sl27, sl28, (.slice none 0 0), by kernel_rfl, hB, fun _ => rfl, nf f1, nf f2, nf f3, nf f4, nf f5, nf f6, nf f7, .inl (.inr rfl)⟩
      refine InvFrom.cons (fun L a W hI hN hD K hK => ?_) ?_
      · obtain ⟨sl22, sl23, sl24, sl25, sl26, sl27, sl28, sl7, ha, hB, f0, f1, f2, f3, f4, f5, f6, f7, x7⟩ := hI
        subst ha
        have hz := hB.size
        have pg0 := box_cell (j := 0) (box_keep HG1.out hB (by omega)) rfl
        have pg1 := box_cell (j := 1) (box_keep HG1.out hB (by omega)) rfl
        have pg2 := box_cell (j := 2) (box_keep HG1.out hB (by omega)) rfl
        have pg3 := box_cell (j := 3) (box_keep HG1.out hB (by omega)) rfl
        have pg4 := box_cell (j := 4) (box_keep HG1.out hB (by omega)) rfl
        refine Kept.mk ?_
        simp only [Act.put, pA, pZ, pS]
        go_simp
        refine hK.out _ _ ?_
        exact ⟨sl22, (.agg #[.int .i64 g.fProc, .int .i64 g.fPc, .slice A2 n2 c2, .int .i64 g.fState, .slice A4 n4 c4]), sl24, sl25, sl26, sl27, sl28, sl7, by kernel_rfl, hB, nf f0, fun _ => rfl, nf f2, nf f3, nf f4, nf f5, nf f6, nf f7, x7.imp .inl (fun h => ⟨fun h9 => h9.elim h.1 (by decide), h.2⟩)⟩
      refine InvFrom.cons (fun L a W hI hN hD K hK => ?_) ?_
      · obtain ⟨sl22, sl23, sl24, sl25, sl26, sl27, sl28, sl7, ha, hB, f0, f1, f2, f3, f4, f5, f6, f7, x7⟩ := hI
        subst ha
        have hz := hB.size
        have pi0 := box_cell (j := 0) (box_keep HX1.out hB (by omega)) rfl
        have pi1 := box_cell (j := 1) (box_keep HX1.out hB (by omega)) rfl
        have pi2 := box_cell (j := 2) (box_keep HX1.out hB (by omega)) rfl
        have pi3 := box_cell (j := 3) (box_keep HX1.out hB (by omega)) rfl
        refine Kept.mk ?_
        simp only [Act.put, pA, pZ, pS]
        go_simp
        refine hK.out _ _ ?_
        exact ⟨sl22, sl23, (.agg #[.int .i64 9, .int .i64 ia, .int .i64 ib, .int .i64 ic]), sl25, sl26, sl27, sl28, sl7, by kernel_rfl, hB, nf f0, nf f1, fun _ => rfl, nf f3, nf f4, nf f5, nf f6, nf f7, x7.imp .inl (fun h => ⟨fun h9 => h9.elim h.1 (by decide), h.2⟩)⟩
      refine InvFrom.cons (fun L a W hI hN hD K hK => ?_) ?_
      · obtain ⟨sl22, sl23, sl24, sl25, sl26, sl27, sl28, sl7, ha, hB, f0, f1, f2, f3, f4, f5, f6, f7, x7⟩ := hI
        subst ha
        have hz := hB.size
        have d2 := f2 (hD 2 (by kernel_rfl))
        subst d2
        refine kept_c1 rfl 79 _ _ rfl (fenters_of' Tryz.func79 (by kernel_rfl) (by kernel_rfl)) (.agg #[.int .i64 9, .int .i64 ia, .int .i64 ib, .int .i64 ic]) (by kernel_rfl) (likeCase9_any ia ib ic W) ?_
        rintro e W1 ⟨rfl, hb1⟩
        refine ⟨_, rfl, hK.out _ _ ?_⟩
        exact ⟨sl22, sl23, (.agg #[.int .i64 9, .int .i64 ia, .int .i64 ib, .int .i64 ic]), (.agg #[.bool false, .int .i64 ia, .int .i64 ib, .int .i64 ic, .int .i64 0]), sl26, sl27, sl28, sl7, by kernel_rfl, hB.trans ((hb1.mono (Nat.le_refl _)).mono hz), nf f0, nf f1, nf f2, fun _ => rfl, nf f4, nf f5, fun h => (f6 (nx h)).up (hb1.mono (Nat.le_refl _)), fun h => (f7 (nx h)).up (hb1.mono (Nat.le_refl _)), x7.imp .inl (fun h => ⟨fun h9 => h9.elim h.1 (by decide), h.2⟩)⟩
      refine InvFrom.cons (fun L a W hI hN hD K hK => ?_) ?_
      · obtain ⟨sl22, sl23, sl24, sl25, sl26, sl27, sl28, sl7, ha, hB, f0, f1, f2, f3, f4, f5, f6, f7, x7⟩ := hI
        subst ha
        have hz := hB.size
        refine Kept.mk ?_
        simp only [Act.put, pA, pZ, pS]
        go_simp
        refine hK.out _ _ ?_
        exact ⟨sl22, sl23, sl24, sl25, (.int .i64 n), sl27, sl28, sl7, by kernel_rfl, hB, nf f0, nf f1, nf f2, nf f3, fun _ => rfl, nf f5, nf f6, nf f7, x7.imp .inl (fun h => ⟨fun h9 => h9.elim h.1 (by decide), h.2⟩)⟩
      refine InvFrom.cons (fun L a W hI hN hD K hK => ?_) ?_
      · obtain ⟨sl22, sl23, sl24, sl25, sl26, sl27, sl28, sl7, ha, hB, f0, f1, f2, f3, f4, f5, f6, f7, x7⟩ := hI
        subst ha
        have hz := hB.size
        have d4 := f4 (hD 4 (by kernel_rfl))
        subst d4
        refine Kept.mk ?_
        simp only [Act.put, pA, pZ, pS]
        go_simp
        refine hK.out _ _ ?_
        exact ⟨sl22, sl23, sl24, sl25, (.int .i64 n), (.agg #[.int .i64 n, .int .i64 (-1), .int .i64 0]), sl28, sl7, by kernel_rfl, hB, nf f0, nf f1, nf f2, nf f3, nf f4, fun _ => rfl, nf f6, nf f7, x7.imp .inl (fun h => ⟨fun h9 => h9.elim h.1 (by decide), h.2⟩)⟩
      refine InvFrom.cons (fun L a W hI hN hD K hK => ?_) ?_
      · obtain ⟨sl22, sl23, sl24, sl25, sl26, sl27, sl28, sl7, ha, hB, f0, f1, f2, f3, f4, f5, f6, f7, x7⟩ := hI
        subst ha
        have hz := hB.size
        have d0 := f0 (hD 0 (by kernel_rfl))
        subst d0
        have d1 := f1 (hD 1 (by kernel_rfl))
        subst d1
        have d3 := f3 (hD 3 (by kernel_rfl))
        subst d3
        have d5 := f5 (hD 5 (by kernel_rfl))
        subst d5
        refine kept_c4 rfl 164 _ _ _ _ _ rfl (fenters_of' Tryz.func164 (by kernel_rfl) (by kernel_rfl)) (.slice none 0 0) (.agg #[.int .i64 g.fProc, .int .i64 g.fPc, .slice A2 n2 c2, .int .i64 g.fState, .slice A4 n4 c4]) (.agg #[.bool false, .int .i64 ia, .int .i64 ib, .int .i64 ic, .int .i64 0]) (.agg #[.int .i64 n, .int .i64 (-1), .int .i64 0]) (by kernel_rfl) (by kernel_rfl) (by kernel_rfl) (by kernel_rfl) (HAP.out W (HB1.out.trans (hB.mono (by omega)))) ?_
        rintro e W1 ⟨A9, c9, rfl, own9, hb9⟩
        refine ⟨_, rfl, hK.out _ _ ?_⟩
        exact ⟨(.slice none 0 0), (.agg #[.int .i64 g.fProc, .int .i64 g.fPc, .slice A2 n2 c2, .int .i64 g.fState, .slice A4 n4 c4]), sl24, (.agg #[.bool false, .int .i64 ia, .int .i64 ib, .int .i64 ic, .int .i64 0]), sl26, (.agg #[.int .i64 n, .int .i64 (-1), .int .i64 0]), (.slice A9 (casePl g n (-1) ⟨false, ia, ib, ic, 0⟩).length c9), sl7, by kernel_rfl, hB.trans (hb9.mono hz), nf f0, nf f1, nf f2, nf f3, nf f4, nf f5, fun _ => ⟨A9, c9, rfl, own9.wider hz (Nat.le_refl _)⟩, fun h => (f7 (nx h)).up hb9, x7.imp .inl (fun h => ⟨fun h9 => h9.elim h.1 (by decide), h.2⟩)⟩
      refine InvFrom.cons (fun L a W hI hN hD K hK => ?_) ?_
      · obtain ⟨sl22, sl23, sl24, sl25, sl26, sl27, sl28, sl7, ha, hB, f0, f1, f2, f3, f4, f5, f6, f7, x7⟩ := hI
        subst ha
        have hz := hB.size
        have d6 := f6 (hD 6 (by kernel_rfl))
        obtain ⟨A9, c9, rfl, own9⟩ := d6
        refine Kept.mk ?_
        simp only [Act.put, pA, pZ, pS]
        go_simp
        refine hK.out _ _ ?_
        exact ⟨sl22, sl23, sl24, sl25, sl26, sl27, (.slice A9 (casePl g n (-1) ⟨false, ia, ib, ic, 0⟩).length c9), (.slice A9 (casePl g n (-1) ⟨false, ia, ib, ic, 0⟩).length c9), by kernel_rfl, hB, nf f0, nf f1, nf f2, nf f3, nf f4, nf f5, nf f6, fun _ => ⟨A9, c9, rfl, own9⟩, .inl (.inl (hD 0 (by kernel_rfl)))⟩
      exact InvFrom.nil
    intro L a w2 hL hI
    obtain ⟨sl22, sl23, sl24, sl25, sl26, sl27, sl28, sl7, ha, hbw2, hI⟩ := hI
    subst ha
    have hfin := hI.2.2.2.2.2.2.2.1 (hL 7 (by decide))
    clear hL hI
    refine Kept.mk ?_
    simp only [Act.put, pA, pZ, pS]
    obtain ⟨Aq, cq, hsl, hoq⟩ := hfin
    subst hsl
    have HOQ := Lib.hid hoq
    have HBW := Lib.hid (HB1.out.trans (hbw2.mono (by omega)))
    clear hoq hbw2
    go_wp2_with fail
    go_ret
    rw [HT.out]
    exact ⟨Aq, cq, rfl, HOQ.out.wider (by omega) (Nat.le_refl _), HBW.out⟩
  by_cases h11 : op = 11
  · subst h11
    obtain ⟨⟨ha, hb⟩, -, -⟩ := n11 rfl
    obtain ⟨q, rfl⟩ := Int.eq_ofNat_of_zero_le ha
    have hq : q < m2 := by have := (HS.out _ (Below.refl _ _)).1; omega
    replace HT : Hid (toldOf p g n = casesPl g n (selI p ⟨11, q, ib, ic⟩).fCases (selI p ⟨11, q, ib, ic⟩).fCases.length) := Lib.hid (by rw [HT.out]; simp)
    obtain ⟨hx, g9, o9, ws, rfl, hg9, hsee, hcell⟩ := (HS.out _ HB1.out).at_ hq
    have hsl : selI p ⟨11, q, ib, ic⟩ = p.fSels[q] := by unfold selI; simp only [Int.toNat_natCast]; rw [List.getElem?_eq_getElem hx, Option.getD_some]
    rw [hsl] at HT HSC HSL
    clear hsl
    generalize p.fSels[q] = s at *
    obtain ⟨B0, m0, d0, rfl, ⟨hcs, hms, sc⟩, -⟩ := seeSelect hsee
    have hm4 : m0 ≤ 4 := by have := HSL.out (by trivial); have := sc.1; omega
    have HCL := Lib.hid sc.1
    have HCS := Lib.hid (fun (W : World) (hW : Below W1.heap.size W1 W) => sc.below hW (by have := HB1.out.size; omega))
    have cc0 := hcell 0 _ rfl
    simp only [show laySelect.size = 2 from rfl, ← Nat.add_assoc, Nat.add_zero] at cc0
    have hi1 : (q : Int) < (m2 : Int) := by omega
    have x1 := box_cell (j := 1) HX1.out rfl
    have p2 := box_cell (j := 2) HP1.out rfl
    clear hcell hsee sc HS h12 h8 h9
    go_wp2_with fail
    clear x0 x1 p2 cc0
    go_loopw [7, 39] (fun l i wr => ∃ (k : Nat) (B : Option Addr) (c' : Nat) (ps : List DPlace), k ≤ m0 ∧ i = .int .i64 k ∧ l = .slice B ps.length c' ∧ Hid (ps = casesPl g n s.fCases k) ∧ Own wr (bI + 1) wr.heap.size 174 6 B ps.length c' ((ps.map plC).flatten) ∧ Below (bI + 1) W1 wr) (fun _ i _ => m0 - (intOf i).toNat)
    case atStart => exact ⟨0, none, 0, [], Nat.zero_le _, rfl, rfl, Lib.hid rfl, Own.nil_ _ _ _ _ _, Below.refl _ _⟩
    case round =>
      obtain ⟨k, B, c', ps, hk, rfl, rfl, HPS, hown, hbr⟩ := hrel
      have hzr := hbr.size
      by_cases hlt : k < m0
      · obtain ⟨hx, gC, oC, ws, rfl, hgC, ⟨rfl, -⟩, hcell⟩ := (HCS.out wr (hbr.mono (by omega))).at_ hlt
        have cc0 := hcell 0 _ rfl
        have cc1 := hcell 1 _ rfl
        have cc2 := hcell 2 _ rfl
        have cc3 := hcell 3 _ rfl
        have cc4 := hcell 4 _ rfl
        simp only [show layCase.size = 5 from rfl, ← Nat.add_assoc, Nat.add_zero] at cc0 cc1 cc2 cc3 cc4
        have hst := casesPl_step (g := g) (n := n) (List.getElem?_eq_getElem hx)
        have hsc := HSC.out (by trivial) k _ (List.getElem?_eq_getElem hx)
        have hpl := casesPl_len (g := g) (n := n) (cs := s.fCases) k
        rw [← HPS.out] at hst hpl
        have HST := Lib.hid hst
        generalize s.fCases[k] = cs at *
        clear hcell hst
        have hbA : Below wr.heap.size wr (wr.alloc (.cells #[.bool cs.fSend, .int .i64 cs.fChan, .int .i64 cs.fReg, .int .i64 cs.fOk, .int .i64 cs.fTo] 89)) := (Below.refl _ _).alloc (Nat.le_refl _) _
        have hbB := hbr.trans (hbA.mono (by omega))
        have hG9 := box_keep HG1.out hbB (by omega)
        have g0 := box_cell (j := 0) hG9 rfl
        have g1 := box_cell (j := 1) hG9 rfl
        have g2 := box_cell (j := 2) hG9 rfl
        have g3 := box_cell (j := 3) hG9 rfl
        have g4 := box_cell (j := 4) hG9 rfl
        have HAP := Lib.hid (addPlace_any (lo := bI + 1) (n := n) (k := (k : Int)) (c := cs) (ps := ps) (B := B) (cB := c') (HGS.out _ (HB1.out.trans (hbB.mono (by omega)))) (by have := HB1.out.size; simp; omega) ((hown.alloc (.cells #[.bool cs.fSend, .int .i64 cs.fChan, .int .i64 cs.fReg, .int .i64 cs.fOk, .int .i64 cs.fTo] 89)).wider (Nat.le_refl _) (by simp)) (by simp; omega) (by omega) hsc.1.1 hsc.2 hrl)
        have HBB := Lib.hid hbB
        clear hown hbB hbA hG9 hbr
        go_wp2_with fail
        refine HAP.out.mono ?_
        rintro e w5 ⟨B5, c5, rfl, own5, hb5⟩
        go_wp2_with fail
        go_roundw
        case rel => exact ⟨k + 1, B5, c5, ps ++ casePl g n k cs, by omega, by go_num, by simp, Lib.hid (by rw [HST.out]), own5, HBB.out.trans hb5⟩
        case measure => simp [intOf]; omega
      · obtain rfl : k = m0 := by omega
        have h9 := HPS.out
        have HOW := Lib.hid hown
        have HBB := Lib.hid (HB1.out.trans (hbr.mono (by omega)))
        clear hown hbr
        go_wp2_with fail
        go_ret
        rw [HT.out, HCL.out, ← h9]
        exact ⟨B, c', rfl, HOW.out.wider (by omega) (Nat.le_refl _), HBB.out⟩
  · have q8 : (op == 8) = false := by simp [h8]
    have q9 : (op == 9) = false := by simp [h9]
    have q12 : (op == 12) = false := by simp [h12]
    have q11 : (op == 11) = false := by simp [h11]
    replace HT : Hid (toldOf p g n = []) := Lib.hid (by rw [HT.out, if_neg h8, if_neg h9, if_neg h11, if_neg h12])
    clear h8 h9 h12 h11
    go_wp2_with fail
    go_ret
    rw [HT.out]
    exact ⟨none, 0, rfl, Own.nil_ _ _ _ _ _, HB1.out⟩

end Go.Proofs.YtghkdkagnibkgaaGreatDoor
