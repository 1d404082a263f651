
/- l09Cases, l09Places, Places: the model's. Laid by wip/gen9/places.py. -/

import Derived.Test.YtghkdkagnibkgaaGreatDoorGCasM

import Derived.Test.YtghkdkagnibkgaaGreatDoorGorReg

import Derived.Deep.Cut

namespace Go.Proofs.YtghkdkagnibkgaaGreatDoor
set_option linter.unusedSimpArgs false
set_option linter.unusedVariables false
open Go.RowKit

theorem made_one (W : World) (xs : List Value) (t : TypeId) : Own (W.alloc (.cells xs.toArray t)) W.heap.size (W.alloc (.cells xs.toArray t)).heap.size t xs.length (some ⟨W.heap.size, 0, none⟩) 1 1 xs := by
  have h1 := Own.made (size := xs.length) (e := t) W xs.toArray 1 1 (by decide) (by simp) (Nat.le_refl _)
  rw [show (xs.toArray.toList.take (1 * xs.length)) = xs by rw [Nat.one_mul]; simp] at h1
  simpa using h1
theorem made_none (W : World) (size : Nat) (t : TypeId) : Own (W.alloc (.cells #[] t)) W.heap.size (W.alloc (.cells #[] t)).heap.size t size (some ⟨W.heap.size, 0, none⟩) 0 0 [] := by
  have h1 := Own.made (size := size) (e := t) W #[] 0 0 (by decide) (by simp) (Nat.le_refl _)
  simpa using h1

set_option maxRecDepth 100000 in
set_option maxHeartbeats 8000000 in
theorem specCases_any {w : World} {hi : Nat} {g : DGor} {us : List Value} {cs : List DCase} {AS : Option Addr} {m cS : Nat} {el n : Int} (hs : SeenR layCase w hi AS m cs) (hg : layGor.see w hi g us) (hhi : hi ≤ w.heap.size) (hm : m ≤ 1048576) (hng : szGor g ≤ 1048576) :
    Calls Tryz.prog 120 #[.agg #[.slice AS m cS, .int .i64 el], .agg us.toArray, .int .i64 n] w (MoreP w w.heap.size (casesPl g n cs m)) := by
  obtain ⟨i0, hi0, iz0, iz1, iz2⟩ := info_parts infoPlaceE
  have HL := Lib.hid hs.1
  have HS := Lib.hid (fun (W : World) (hW : Below w.heap.size w W) => hs.below hW hhi)
  have HREG := Lib.hid (fun (r : Int) (hr : (Lit.int .i64 r).wf = true) (W : World) (hW : Below w.heap.size w W) => specReg_any (r := r) (layGor.keep hg fun k hk => hW.block k (by omega)) (Nat.le_trans hhi hW.size) hng hr)
  obtain ⟨A2, n2, c2, A4, n4, c4, rfl, -⟩ := seeGor hg
  clear hs hg hng
  have hb0 : Below w.heap.size w ((w.alloc (.cells #[.slice AS m cS, .int .i64 el] 93)).alloc (.cells #[.int .i64 g.fProc, .int .i64 g.fPc, .slice A2 n2 c2, .int .i64 g.fState, .slice A4 n4 c4] 65)) := ((Below.refl _ _).alloc (Nat.le_refl _) _).alloc (by simp) _
  have hS0 := box_keep (box_new w #[.slice AS m cS, .int .i64 el] 93) ((Below.refl _ _).alloc (Nat.le_refl _) (.cells #[.int .i64 g.fProc, .int .i64 g.fPc, .slice A2 n2 c2, .int .i64 g.fState, .slice A4 n4 c4] 65)) (by simp)
  have hG0 := box_new (w.alloc (.cells #[.slice AS m cS, .int .i64 el] 93)) #[.int .i64 g.fProc, .int .i64 g.fPc, .slice A2 n2 c2, .int .i64 g.fState, .slice A4 n4 c4] 65
  rw [World.size_alloc] at hG0
  have hz0 : ((w.alloc (.cells #[.slice AS m cS, .int .i64 el] 93)).alloc (.cells #[.int .i64 g.fProc, .int .i64 g.fPc, .slice A2 n2 c2, .int .i64 g.fState, .slice A4 n4 c4] 65)).heap.size = w.heap.size + 2 := by simp
  go_enter Tryz.func120, Tryz.ntmps120
  go_upto_region 1 with (fail)
  generalize ((w.alloc (.cells #[.slice AS m cS, .int .i64 el] 93)).alloc (.cells #[.int .i64 g.fProc, .int .i64 g.fPc, .slice A2 n2 c2, .int .i64 g.fState, .slice A4 n4 c4] 65)) = W0 at *
  have HG0 := Lib.hid hG0
  have HB0 := Lib.hid hb0
  have s0 := box_cell (j := 0) (box_keep hS0 ((Below.refl _ _).alloc (Nat.le_refl _) (.cells #[] 174)) (by omega)) rfl
  clear hG0 hb0 hS0
  go_wp2_with fail
  clear s0
  go_loopw [7, 15] (fun l i wr => ∃ (k : Nat) (B : Option Addr) (c' : Nat) (ps : List DPlace), k ≤ m ∧ i = .int .i64 k ∧ l = .slice B ps.length c' ∧ Hid (ps = casesPl g n cs k) ∧ Own wr (w.heap.size + 2) wr.heap.size 174 6 B ps.length c' ((ps.map plC).flatten) ∧ Below (w.heap.size + 2) W0 wr) (fun _ i _ => m - (intOf i).toNat)
  case atStart =>
    have h9 := made_none W0 6 174
    exact ⟨0, _, 0, [], Nat.zero_le _, rfl, rfl, Lib.hid rfl, by rw [hz0] at h9; simpa [hz0] using h9, (Below.refl _ _).alloc (by omega) _⟩
  case round =>
    obtain ⟨k, B, c', ps, hk, rfl, rfl, HPS, hown, hbr⟩ := hrel
    have hzr := hbr.size
    by_cases hlt : k < m
    · obtain ⟨hx, gC, oC, ws, rfl, hgC, ⟨rfl, hwc⟩, hcell⟩ := (HS.out wr (HB0.out.trans (hbr.mono (by omega)))).at_ hlt
      have cc0 := hcell 0 _ rfl
      have cc1 := hcell 1 _ rfl
      have cc2 := hcell 2 _ rfl
      have cc3 := hcell 3 _ rfl
      have cc4 := hcell 4 _ rfl
      simp only [show layCase.size = 5 from rfl, ← Nat.add_assoc, Nat.add_zero] at cc0 cc1 cc2 cc3 cc4
      have hst := casesPl_step (g := g) (n := n) (List.getElem?_eq_getElem hx)
      have hpl := casesPl_len (g := g) (n := n) (cs := cs) k
      rw [← HPS.out] at hst hpl
      have HST := Lib.hid hst
      have HWC := Lib.hid hwc
      generalize cs[k] = x at *
      obtain ⟨snd, ch, rg, ok, to⟩ := x
      simp only at cc0 cc1 cc2 cc3 cc4 HWC HST
      clear hcell hst hwc
      have hbA : Below wr.heap.size wr (wr.alloc (.cells #[.bool snd, .int .i64 ch, .int .i64 rg, .int .i64 ok, .int .i64 to] 89)) := (Below.refl _ _).alloc (Nat.le_refl _) _
      have hzA : (wr.alloc (.cells #[.bool snd, .int .i64 ch, .int .i64 rg, .int .i64 ok, .int .i64 to] 89)).heap.size = wr.heap.size + 1 := by simp
      have hCA := box_new wr #[.bool snd, .int .i64 ch, .int .i64 rg, .int .i64 ok, .int .i64 to] 89
      have hoA := hown.alloc (.cells #[.bool snd, .int .i64 ch, .int .i64 rg, .int .i64 ok, .int .i64 to] 89)
      have HBA := Lib.hid (hbr.trans (hbA.mono (by omega)))
      go_upto_region 5 with (fail)
      generalize (wr.alloc (.cells #[.bool snd, .int .i64 ch, .int .i64 rg, .int .i64 ok, .int .i64 to] 89)) = WA at *
      clear cc0 cc1 cc2 cc3 cc4 hbA hown
      have HCA := Lib.hid hCA
      have HOA := Lib.hid hoA
      clear hCA hoA
      have x0 := box_cell (j := 0) HCA.out rfl
      have x1 := box_cell (j := 1) HCA.out rfl
      have x2 := box_cell (j := 2) HCA.out rfl
      by_cases hc : ch < 0
      · have qc : decide (ch < 0) = true := decide_eq_true hc
        have HCP := Lib.hid (show casePl g n k ⟨snd, ch, rg, ok, to⟩ = [] from if_pos hc)
        go_wp2_with fail
        go_roundw
        case rel => exact ⟨k + 1, B, c', ps, by omega, by go_num, rfl, Lib.hid (by rw [HST.out, HCP.out, List.append_nil]), HOA.out.wider (Nat.le_refl _) (by omega), HBA.out⟩
        case measure => simp [intOf]; omega
      have qc : decide (ch < 0) = false := decide_eq_false hc
      have HCP := Lib.hid (show casePl g n k ⟨snd, ch, rg, ok, to⟩ = [⟨false, ch, snd, n, k, if snd then regR g rg else 0⟩] from if_neg hc)
      clear hc
      cases snd
      · have hbB : Below WA.heap.size WA (WA.alloc (.cells #[.int .i64 n, .int .i64 k, .int .i64 0] 166)) := (Below.refl _ _).alloc (Nat.le_refl _) _
        have hWB := box_new WA #[.int .i64 n, .int .i64 k, .int .i64 0] 166
        rw [hzA] at hWB
        have HOB := Lib.hid (HOA.out.alloc (.cells #[.int .i64 n, .int .i64 k, .int .i64 0] 166))
        have HBB := Lib.hid (HBA.out.trans (hbB.mono (by omega)))
        have hzB : (WA.alloc (.cells #[.int .i64 n, .int .i64 k, .int .i64 0] 166)).heap.size = WA.heap.size + 1 := by simp
        have hCB := box_keep HCA.out hbB (by omega)
        clear x0 x1 x2
        have x0 := box_cell (j := 0) HCA.out rfl
        have x1 := box_cell (j := 1) HCA.out rfl
        go_upto_region 7 with (fail)
        generalize (WA.alloc (.cells #[.int .i64 n, .int .i64 k, .int .i64 0] 166)) = WB at *
        clear x0 x1
        have x0 := box_cell (j := 0) hCB rfl
        have x1 := box_cell (j := 1) hCB rfl
        have y0 := box_cell (j := 0) hWB rfl
        have y1 := box_cell (j := 1) hWB rfl
        have y2 := box_cell (j := 2) hWB rfl
        have hsb := seen_block WB [.bool false, .int .i64 ch, .bool false, .int .i64 n, .int .i64 k, .int .i64 0] 174
        rw [hzB, hzA] at hsb
        have hownA := HOB.out.alloc (.cells [.bool false, .int .i64 ch, .bool false, .int .i64 n, .int .i64 k, .int .i64 0].toArray 174)
        have HBC := Lib.hid (HBB.out.trans (((Below.refl WB.heap.size WB).alloc (Nat.le_refl _) (.cells [.bool false, .int .i64 ch, .bool false, .int .i64 n, .int .i64 k, .int .i64 0].toArray 174)).mono (by omega)))
        clear hbB hWB hCB
        go_wp2_with (at_builtin; refine wpList_append_seen rfl (.tmp 33) (.tmp 40) _ rfl (w.heap.size + 2) _ 174 i0 _ 6 48 Tryz.underlying147 hi0 iz0 iz1 iz2 rfl (by omega) B ps.length c' _ rfl hownA _ _ 1 1 _ rfl hsb (by simp [Value.oneCell']) (by simp only [maxLen]; omega) (by omega) (by simp; omega) ?_; intro B4 c4' w5 own5 hb5)
        go_roundw
        case rel => exact ⟨k + 1, B4, c4', ps ++ [⟨false, ch, false, n, k, 0⟩], by omega, by go_num, by simp, Lib.hid (by rw [HST.out, HCP.out]; rfl), by rw [List.map_append, List.flatten_append, List.length_append]; exact own5, HBC.out.trans hb5⟩
        case measure => simp [intOf]; omega
      · have hbB : Below WA.heap.size WA (WA.alloc (.cells #[.int .i64 n, .int .i64 k, .int .i64 0] 166)) := (Below.refl _ _).alloc (Nat.le_refl _) _
        have hWB := box_new WA #[.int .i64 n, .int .i64 k, .int .i64 0] 166
        rw [hzA] at hWB
        have hOB := (HOA.out.alloc (.cells #[.int .i64 n, .int .i64 k, .int .i64 0] 166))
        have HBB := Lib.hid (HBA.out.trans (hbB.mono (by omega)))
        have hzB : (WA.alloc (.cells #[.int .i64 n, .int .i64 k, .int .i64 0] 166)).heap.size = WA.heap.size + 1 := by simp
        have hCB := box_keep HCA.out hbB (by omega)
        go_upto_region 7 with (fail)
        generalize (WA.alloc (.cells #[.int .i64 n, .int .i64 k, .int .i64 0] 166)) = WB at *
        clear x0 x1 x2
        have hGB := box_keep HG0.out HBB.out (by omega)
        have x0 := box_cell (j := 0) hCB rfl
        have x2 := box_cell (j := 2) hCB rfl
        have g0 := box_cell (j := 0) hGB rfl
        have g1 := box_cell (j := 1) hGB rfl
        have g2 := box_cell (j := 2) hGB rfl
        have g3 := box_cell (j := 3) hGB rfl
        have g4 := box_cell (j := 4) hGB rfl
        go_wp2_with fail
        refine (HREG.out rg HWC.out.2.1 WB (HB0.out.trans (HBB.out.mono (by omega)))).mono ?_
        rintro e w5 ⟨rfl, hb5⟩
        have hz5 := hb5.size
        have hW5 := box_keep hWB hb5 (by omega)
        have hC5 := box_keep hCB hb5 (by omega)
        have hO5 := (hOB.below hb5 (by omega))
        have hB5 := HBB.out.trans (hb5.mono (by omega))
        clear x0 x2 g0 g1 g2 g3 g4 hGB hb5 hbB hWB hCB hOB
        have x0 := box_cell (j := 0) hC5 rfl
        have x1 := box_cell (j := 1) hC5 rfl
        have y0 := box_cell (j := 0) hW5 rfl
        have y1 := box_cell (j := 1) hW5 rfl
        have y2 := box_cell (j := 2) hW5 rfl
        have f2 := box_free hW5 2
        have hsb := seen_block (w5.setCell ⟨wr.heap.size + 1, 2, none⟩ (.int .i64 (regR g rg))) [.bool false, .int .i64 ch, .bool true, .int .i64 n, .int .i64 k, .int .i64 (regR g rg)] 174
        have hzs : (w5.setCell ⟨wr.heap.size + 1, 2, none⟩ (.int .i64 (regR g rg))).heap.size = w5.heap.size := by simp
        rw [hzs] at hsb
        have hownA := (hO5.setCell (o := 2) (g := wr.heap.size + 1) (.inr (by omega)) (.int .i64 (regR g rg))).alloc (.cells [.bool false, .int .i64 ch, .bool true, .int .i64 n, .int .i64 k, .int .i64 (regR g rg)].toArray 174)
        have HBC := Lib.hid ((below_set (p := ⟨wr.heap.size + 1, 2, none⟩) hB5 (show w.heap.size + 2 ≤ wr.heap.size + 1 by omega) (.int .i64 (regR g rg))).trans (((Below.refl _ (w5.setCell ⟨wr.heap.size + 1, 2, none⟩ (.int .i64 (regR g rg)))).alloc (Nat.le_refl _) (.cells [.bool false, .int .i64 ch, .bool true, .int .i64 n, .int .i64 k, .int .i64 (regR g rg)].toArray 174)).mono (by rw [hzs]; omega)))
        clear hW5 hC5 hO5 hB5
        go_wp2_with (at_builtin; refine wpList_append_seen rfl (.tmp 33) (.tmp 40) _ rfl (w.heap.size + 2) _ 174 i0 _ 6 48 Tryz.underlying147 hi0 iz0 iz1 iz2 rfl (by omega) B ps.length c' _ rfl hownA _ _ 1 1 _ rfl hsb (by simp [Value.oneCell']) (by simp only [maxLen]; omega) (by omega) (by simp; omega) ?_; intro B4 c4' w6 own6 hb6)
        go_roundw
        case rel => exact ⟨k + 1, B4, c4', ps ++ [⟨false, ch, true, n, k, regR g rg⟩], by omega, by go_num, by simp, Lib.hid (by rw [HST.out, HCP.out]; rfl), by rw [List.map_append, List.flatten_append, List.length_append]; exact own6, HBC.out.trans hb6⟩
        case measure => simp [intOf]; omega
    · obtain rfl : k = m := by omega
      have h9 := HPS.out
      have HOW := Lib.hid hown
      have HBB := Lib.hid (HB0.out.trans (hbr.mono (by omega)))
      clear hown hbr
      go_wp2_with fail
      go_ret
      rw [← h9]
      exact ⟨B, c', rfl, HOW.out.wider (by omega) (Nat.le_refl _), HBB.out⟩
set_option maxRecDepth 100000 in
set_option maxHeartbeats 8000000 in
theorem specPlacesL_any {w : World} {hi : Nat} {p : DProg} {g : DGor} {vs us : List Value} {n : Int} (hp : layProg.see w hi p vs) (hg : layGor.see w hi g us) (hhi : hi ≤ w.heap.size) (hnp : szProg p ≤ 1048576) (hng : szGor g ≤ 1048576) (hok : progOkB p = true) (hgb : gorB (instrsZ p g.fProc) g = true) :
    Calls Tryz.prog 91 #[.agg vs.toArray, .agg us.toArray, .int .i64 n] w (MoreP w w.heap.size (placesL p g n)) := by
  obtain ⟨hat, hrl, hra⟩ := gorB_parts hgb
  obtain ⟨n8, n9, n11, n12⟩ := at_names hok hat
  have HI := Lib.hid (fun (W : World) (hW : Below w.heap.size w W) => specAt_any (layProg.keep hp fun k hk => hW.block k (by omega)) (layGor.keep hg fun k hk => hW.block k (by omega)) (Nat.le_trans hhi hW.size) hnp hat)
  have HGS := Lib.hid (fun (W : World) (hW : Below w.heap.size w W) => layGor.keep hg (w' := W) fun k hk => hW.block k (by omega))
  have HREG := Lib.hid (fun (r : Int) (hr : 0 ≤ r ∧ r ≤ 5) (W : World) (hW : Below w.heap.size w W) => specReg_any (r := r) (layGor.keep hg fun k hk => hW.block k (by omega)) (Nat.le_trans hhi hW.size) hng (WalkArith.wf_i64 (by omega)))
  obtain ⟨A0, n0, c0, B2, m2, d2, A3, n3, c3, rfl, -, -, ⟨hc2, hm2, s2⟩, -⟩ := seeProg hp
  have HS := Lib.hid (fun (W : World) (hW : Below w.heap.size w W) => s2.below hW hhi)
  have hn2 : m2 ≤ 1048576 := by have := s2.1; unfold szProg at hnp; omega
  have hsl := fun (h : (atI p g).fOp = 11) => sel_len hok (n11 h).2.2
  have HSL := Lib.hid hsl
  obtain ⟨A2, n2, c2, A4, n4, c4, rfl, -⟩ := seeGor hg
  clear hp hg s2 hgb hat hra hsl
  have hB0 : Below w.heap.size w ((w.alloc (.cells #[.slice A0 n0 c0, .int .i64 p.fMus, .slice B2 m2 d2, .slice A3 n3 c3] 38)).alloc (.cells #[.int .i64 g.fProc, .int .i64 g.fPc, .slice A2 n2 c2, .int .i64 g.fState, .slice A4 n4 c4] 65)) := ((Below.refl _ _).alloc (Nat.le_refl _) _).alloc (by simp) _
  have hP0 := box_keep (box_new w #[.slice A0 n0 c0, .int .i64 p.fMus, .slice B2 m2 d2, .slice A3 n3 c3] 38) ((Below.refl _ _).alloc (Nat.le_refl _) (.cells #[.int .i64 g.fProc, .int .i64 g.fPc, .slice A2 n2 c2, .int .i64 g.fState, .slice A4 n4 c4] 65)) (by simp)
  have hG0 := box_new (w.alloc (.cells #[.slice A0 n0 c0, .int .i64 p.fMus, .slice B2 m2 d2, .slice A3 n3 c3] 38)) #[.int .i64 g.fProc, .int .i64 g.fPc, .slice A2 n2 c2, .int .i64 g.fState, .slice A4 n4 c4] 65
  rw [World.size_alloc] at hG0
  have hz0 : w.heap.size + 2 ≤ ((w.alloc (.cells #[.slice A0 n0 c0, .int .i64 p.fMus, .slice B2 m2 d2, .slice A3 n3 c3] 38)).alloc (.cells #[.int .i64 g.fProc, .int .i64 g.fPc, .slice A2 n2 c2, .int .i64 g.fState, .slice A4 n4 c4] 65)).heap.size := by simp
  obtain ⟨R, hR⟩ : ∃ R, R = placesL p g n := ⟨_, rfl⟩
  rw [← hR]
  have HT := Lib.hid hR
  clear hR
  go_enter Tryz.func91, Tryz.ntmps91
  go_wp2_with fail
  refine (HI.out _ hB0).mono ?_
  rintro e w1 ⟨rfl, hb1⟩
  have hz1 := hb1.size
  go_upto_region 2 with (fail)
  unfold placesL at HT
  generalize atI p g = ins at *
  obtain ⟨op, ia, ib, ic⟩ := ins
  simp only at n8 n9 n11 n12 HSL HT
  have hA1 : Below w1.heap.size w1 (w1.alloc (.cells #[.int .i64 op, .int .i64 ia, .int .i64 ib, .int .i64 ic] 61)) := (Below.refl _ _).alloc (Nat.le_refl _) _
  have hB1 := hB0.trans ((hb1.mono (by omega)).trans (hA1.mono (by omega)))
  have hP1 := box_keep (box_keep hP0 hb1 (by omega)) hA1 (by omega)
  have hG1 := box_keep (box_keep hG0 hb1 (by omega)) hA1 (by omega)
  have hX1 := box_new w1 #[.int .i64 op, .int .i64 ia, .int .i64 ib, .int .i64 ic] 61
  obtain ⟨bI, hbI⟩ : ∃ b, b = w1.heap.size := ⟨_, rfl⟩
  have hnm : w1.heap.size = bI := hbI.symm
  have hzI : (w1.alloc (.cells #[.int .i64 op, .int .i64 ia, .int .i64 ib, .int .i64 ic] 61)).heap.size = bI + 1 := by rw [hbI]; simp
  have hbI2 : w.heap.size + 2 ≤ bI := by omega
  rw [hnm] at hX1
  clear hP0 hG0 hb1 hB0 hz0 HI hz1
  generalize (w1.alloc (.cells #[.int .i64 op, .int .i64 ia, .int .i64 ib, .int .i64 ic] 61)) = W0 at *
  simp only [hnm]
  clear hnm hbI hA1
  have hA2 : Below W0.heap.size W0 (W0.alloc (.cells #[.int .i64 n, .int .i64 (-1), .int .i64 0] 166)) := (Below.refl _ _).alloc (Nat.le_refl _) _
  have hzW : (W0.alloc (.cells #[.int .i64 n, .int .i64 (-1), .int .i64 0] 166)).heap.size = bI + 2 := by simp [hzI]
  have hY1 := box_new W0 #[.int .i64 n, .int .i64 (-1), .int .i64 0] 166
  rw [hzI] at hY1
  have hB2 := hB1.trans (hA2.mono (by omega))
  have hP2 := box_keep hP1 hA2 (by omega)
  have hG2 := box_keep hG1 hA2 (by omega)
  have hX2 := box_keep hX1 hA2 (by omega)
  clear hB1 hP1 hG1 hX1
  go_upto_region 3 with (fail)
  generalize (W0.alloc (.cells #[.int .i64 n, .int .i64 (-1), .int .i64 0] 166)) = W1 at *
  (try simp only [hzI])
  clear hA2 hzI
  have HP1 := Lib.hid hP2
  have HG1 := Lib.hid hG2
  have HX1 := Lib.hid hX2
  have HY1 := Lib.hid hY1
  have HB1 := Lib.hid hB2
  clear hP2 hG2 hX2 hY1 hB2
  have x0 := box_cell (j := 0) HX1.out rfl
  have x1 := box_cell (j := 1) HX1.out rfl
  have y0 := box_cell (j := 0) HY1.out rfl
  have y1 := box_cell (j := 1) HY1.out rfl
  have y2 := box_cell (j := 2) HY1.out rfl
  by_cases h12 : op = 12
  · subst h12
    replace HT : Hid (R = [⟨true, ia, false, n, -1, 0⟩]) := Lib.hid (by rw [HT.out]; simp)
    have hsb := made_one W1 [.bool true, .int .i64 ia, .bool false, .int .i64 n, .int .i64 (-1), .int .i64 0] 174
    have hB3 := HB1.out.trans (((Below.refl _ _).alloc (Nat.le_refl W1.heap.size) (.cells [.bool true, .int .i64 ia, .bool false, .int .i64 n, .int .i64 (-1), .int .i64 0].toArray 174)).mono (by omega))
    rw [hzW] at hsb
    have HSB := Lib.hid hsb
    have HB3 := Lib.hid hB3
    clear hsb hB3
    go_wp2_with fail
    go_ret
    rw [HT.out]
    exact ⟨_, 1, rfl, HSB.out.wider (by omega) (Nat.le_refl _), HB3.out⟩
  by_cases h8 : op = 8 ∧ 0 ≤ ia
  · obtain ⟨rfl, ha⟩ := h8
    obtain ⟨-, hb⟩ := n8 rfl
    replace HT : Hid (R = [⟨false, ia, true, n, -1, regR g ib⟩]) := Lib.hid (by rw [HT.out]; simp; omega)
    have qa : decide (ia ≥ 0) = true := decide_eq_true ha
    have x2 := box_cell (j := 2) HX1.out rfl
    have g0 := box_cell (j := 0) HG1.out rfl
    have g1 := box_cell (j := 1) HG1.out rfl
    have g2 := box_cell (j := 2) HG1.out rfl
    have g3 := box_cell (j := 3) HG1.out rfl
    have g4 := box_cell (j := 4) HG1.out rfl
    go_wp2_with fail
    refine (HREG.out ib hb W1 HB1.out).mono ?_
    rintro e w5 ⟨rfl, hb5⟩
    have hz5 := hb5.size
    have hX5 := box_keep HX1.out hb5 (by omega)
    have hY5 := box_keep HY1.out hb5 (by omega)
    have HB5 := Lib.hid (HB1.out.trans (hb5.mono (by omega)))
    clear x0 x1 x2 y0 y1 y2 g0 g1 g2 g3 g4 hb5
    have x1 := box_cell (j := 1) hX5 rfl
    have y0 := box_cell (j := 0) hY5 rfl
    have y1 := box_cell (j := 1) hY5 rfl
    have y2 := box_cell (j := 2) hY5 rfl
    have f2 := box_free hY5 2
    have hsb := made_one (w5.setCell ⟨bI + 1, 2, none⟩ (.int .i64 (regR g ib))) [.bool false, .int .i64 ia, .bool true, .int .i64 n, .int .i64 (-1), .int .i64 (regR g ib)] 174
    have hzs : (w5.setCell ⟨bI + 1, 2, none⟩ (.int .i64 (regR g ib))).heap.size = w5.heap.size := by simp
    have hB6 := (below_set (p := ⟨bI + 1, 2, none⟩) HB5.out (show w.heap.size ≤ bI + 1 by omega) (.int .i64 (regR g ib))).trans (((Below.refl _ (w5.setCell ⟨bI + 1, 2, none⟩ (.int .i64 (regR g ib)))).alloc (Nat.le_refl _) (.cells [.bool false, .int .i64 ia, .bool true, .int .i64 n, .int .i64 (-1), .int .i64 (regR g ib)].toArray 174)).mono (by rw [hzs]; omega))
    have HSB := Lib.hid hsb
    have HB6 := Lib.hid hB6
    clear hsb hB6 hX5 hY5
    go_wp2_with fail
    go_ret
    rw [HT.out]
    have h9 := HSB.out.wider (lo' := w.heap.size) (by rw [hzs]; omega) (Nat.le_refl _)
    rw [hzs] at h9
    exact ⟨_, 1, rfl, h9, HB6.out⟩
  by_cases h9 : op = 9 ∧ 0 ≤ ia
  · obtain ⟨rfl, ha⟩ := h9
    replace HT : Hid (R = [⟨false, ia, false, n, -1, 0⟩]) := Lib.hid (by rw [HT.out]; simp; omega)
    have qa : decide (ia ≥ 0) = true := decide_eq_true ha
    have hsb := made_one W1 [.bool false, .int .i64 ia, .bool false, .int .i64 n, .int .i64 (-1), .int .i64 0] 174
    have hB3 := HB1.out.trans (((Below.refl _ _).alloc (Nat.le_refl W1.heap.size) (.cells [.bool false, .int .i64 ia, .bool false, .int .i64 n, .int .i64 (-1), .int .i64 0].toArray 174)).mono (by omega))
    rw [hzW] at hsb
    have HSB := Lib.hid hsb
    have HB3 := Lib.hid hB3
    clear hsb hB3 h8
    go_wp2_with fail
    go_ret
    rw [HT.out]
    exact ⟨_, 1, rfl, HSB.out.wider (by omega) (Nat.le_refl _), HB3.out⟩
  by_cases h11 : op = 11
  · subst h11
    obtain ⟨⟨ha, hb⟩, -, -⟩ := n11 rfl
    obtain ⟨q, rfl⟩ := Int.eq_ofNat_of_zero_le ha
    have hq : q < m2 := by have := (HS.out _ (Below.refl _ _)).1; omega
    replace HT : Hid (R = casesPl g n (selI p ⟨11, q, ib, ic⟩).fCases (selI p ⟨11, q, ib, ic⟩).fCases.length) := Lib.hid (by rw [HT.out]; simp)
    obtain ⟨hx, g9, o9, ws, rfl, hg9, hsee, hcell⟩ := (HS.out _ HB1.out).at_ hq
    have hsl : selI p ⟨11, q, ib, ic⟩ = p.fSels[q] := by unfold selI; simp only [Int.toNat_natCast]; rw [List.getElem?_eq_getElem hx, Option.getD_some]
    rw [hsl] at HT HSL
    clear hsl
    generalize p.fSels[q] = s at *
    obtain ⟨B0, m0, d0, rfl, ⟨hcs, hms, sc⟩, -⟩ := seeSelect hsee
    have hm4 : m0 ≤ 4 := by have := HSL.out (by trivial); have := sc.1; omega
    rw [sc.1] at HT
    have HCA := Lib.hid (fun (W : World) (hW : Below W1.heap.size W1 W) => specCases_any (cS := d0) (el := s.fElse) (n := n) (sc.below hW (by have := HB1.out.size; omega)) (HGS.out W (HB1.out.trans (hW.mono (by omega)))) (by have := HB1.out.size; have := hW.size; omega) (by omega) hng)
    have HCC := Lib.hid (fun (W : World) (hW : Below W1.heap.size W1 W) => show W.cell? ⟨g9, o9 + q * 2, none⟩ = some (.slice B0 m0 d0) ∧ W.cell? ⟨g9, o9 + q * 2 + 1, none⟩ = some (.int .i64 s.fElse) from by
      have cc0 := hcell 0 _ rfl
      have cc1 := hcell 1 _ rfl
      simp only [show laySelect.size = 2 from rfl, ← Nat.add_assoc, Nat.add_zero] at cc0 cc1
      exact ⟨cell_kept hW cc0, cell_kept hW cc1⟩)
    have hi1 : (q : Int) < (m2 : Int) := by omega
    have hiq : (0 : Int) ≤ (q : Int) := by omega
    clear hcell hsee sc HS h8 h9 h12
    go_upto_region 9 with (fail)
    refine wp_region_inv (fun AC0 L a W => ∃ sl51 sl52 sl53 sl54 sl55 sl56 sl57 sl58 sl59 sl6 : Value, a = ((((((((((AC0.put (some 51) sl51).put (some 52) sl52).put (some 53) sl53).put (some 54) sl54).put (some 55) sl55).put (some 56) sl56).put (some 57) sl57).put (some 58) sl58).put (some 59) sl59).put (some 6) sl6) ∧ Below W1.heap.size W1 W ∧ ((L 0 → sl51 = (.pointer (some ⟨w.heap.size, 2, none⟩))) ∧ (L 1 → sl52 = (.slice (some ⟨g9, o9, none⟩) m2 d2)) ∧ (L 2 → sl53 = (.pointer (some ⟨bI, 1, none⟩))) ∧ (L 3 → sl54 = (.int .i64 (q : Int))) ∧ (L 4 → sl55 = (.pointer (some ⟨g9, o9 + q * 2, none⟩))) ∧ (L 5 → sl56 = (.agg #[.slice B0 m0 d0, .int .i64 s.fElse])) ∧ (L 6 → sl57 = (.agg #[.int .i64 g.fProc, .int .i64 g.fPc, .slice A2 n2 c2, .int .i64 g.fState, .slice A4 n4 c4])) ∧ (L 7 → sl58 = (.int .i64 n)) ∧ (L 8 → RowAtP W1.heap.size W (casesPl g n s.fCases m0) sl59) ∧ (L 9 → RowAtP W1.heap.size W (casesPl g n s.fCases m0) sl6))) (by kernel_rfl) (by kernel_rfl) ?_ ?_ ?_
    · exact ⟨undef, undef, undef, undef, undef, undef, undef, undef, undef, (.slice none 0 0), by kernel_rfl, Below.drew (Below.refl _ _), fun h => absurd h id, fun h => absurd h id, fun h => absurd h id, fun h => absurd h id, fun h => absurd h id, fun h => absurd h id, fun h => absurd h id, fun h => absurd h id, fun h => absurd h id, fun h => absurd h id⟩
    · intro Q9; refine InvFrom.cons (fun L a W hI hN hD K hK => ?_) ?_
      · obtain ⟨sl51, sl52, sl53, sl54, sl55, sl56, sl57, sl58, sl59, sl6, ha, hB, f0, f1, f2, f3, f4, f5, f6, f7, f8, f9⟩ := hI
        subst ha
        have hz := hB.size
        refine Kept.mk ?_
        simp only [Act.put, pA, pZ, pS]
        go_simp
        refine hK.out _ _ ?_
        exact ⟨(.pointer (some ⟨w.heap.size, 2, none⟩)), sl52, sl53, sl54, sl55, sl56, sl57, sl58, sl59, sl6, by kernel_rfl, hB, fun _ => rfl, nf f1, nf f2, nf f3, nf f4, nf f5, nf f6, nf f7, nf f8, nf f9⟩
      refine InvFrom.cons (fun L a W hI hN hD K hK => ?_) ?_
      · obtain ⟨sl51, sl52, sl53, sl54, sl55, sl56, sl57, sl58, sl59, sl6, ha, hB, f0, f1, f2, f3, f4, f5, f6, f7, f8, f9⟩ := hI
        subst ha
        have hz := hB.size
        have d0 := f0 (hD 0 (by kernel_rfl))
        subst d0
        have pp := box_cell (j := 2) (box_keep HP1.out hB (by omega)) rfl
        refine Kept.mk ?_
        simp only [Act.put, pA, pZ, pS]
        go_simp
        refine hK.out _ _ ?_
        exact ⟨(.pointer (some ⟨w.heap.size, 2, none⟩)), (.slice (some ⟨g9, o9, none⟩) m2 d2), sl53, sl54, sl55, sl56, sl57, sl58, sl59, sl6, by kernel_rfl, hB, nf f0, fun _ => rfl, nf f2, nf f3, nf f4, nf f5, nf f6, nf f7, nf f8, nf f9⟩
      refine InvFrom.cons (fun L a W hI hN hD K hK => ?_) ?_
      · obtain ⟨sl51, sl52, sl53, sl54, sl55, sl56, sl57, sl58, sl59, sl6, ha, hB, f0, f1, f2, f3, f4, f5, f6, f7, f8, f9⟩ := hI
        subst ha
        have hz := hB.size
        refine Kept.mk ?_
        simp only [Act.put, pA, pZ, pS]
        go_simp
        refine hK.out _ _ ?_
        exact ⟨sl51, sl52, (.pointer (some ⟨bI, 1, none⟩)), sl54, sl55, sl56, sl57, sl58, sl59, sl6, by kernel_rfl, hB, nf f0, nf f1, fun _ => rfl, nf f3, nf f4, nf f5, nf f6, nf f7, nf f8, nf f9⟩
      refine InvFrom.cons (fun L a W hI hN hD K hK => ?_) ?_
      · obtain ⟨sl51, sl52, sl53, sl54, sl55, sl56, sl57, sl58, sl59, sl6, ha, hB, f0, f1, f2, f3, f4, f5, f6, f7, f8, f9⟩ := hI
        subst ha
        have hz := hB.size
        have d2 := f2 (hD 2 (by kernel_rfl))
        subst d2
        have pi := box_cell (j := 1) (box_keep HX1.out hB (by omega)) rfl
        refine Kept.mk ?_
        simp only [Act.put, pA, pZ, pS]
        go_simp
        refine hK.out _ _ ?_
        exact ⟨sl51, sl52, (.pointer (some ⟨bI, 1, none⟩)), (.int .i64 (q : Int)), sl55, sl56, sl57, sl58, sl59, sl6, by kernel_rfl, hB, nf f0, nf f1, nf f2, fun _ => rfl, nf f4, nf f5, nf f6, nf f7, nf f8, nf f9⟩
      refine InvFrom.cons (fun L a W hI hN hD K hK => ?_) ?_
      · obtain ⟨sl51, sl52, sl53, sl54, sl55, sl56, sl57, sl58, sl59, sl6, ha, hB, f0, f1, f2, f3, f4, f5, f6, f7, f8, f9⟩ := hI
        subst ha
        have hz := hB.size
        have d1 := f1 (hD 1 (by kernel_rfl))
        subst d1
        have d3 := f3 (hD 3 (by kernel_rfl))
        subst d3
        refine Kept.mk ?_
        simp only [Act.put, pA, pZ, pS]
        go_simp
        refine hK.out _ _ ?_
        exact ⟨sl51, (.slice (some ⟨g9, o9, none⟩) m2 d2), sl53, (.int .i64 (q : Int)), (.pointer (some ⟨g9, o9 + q * 2, none⟩)), sl56, sl57, sl58, sl59, sl6, by kernel_rfl, hB, nf f0, nf f1, nf f2, nf f3, fun _ => rfl, nf f5, nf f6, nf f7, nf f8, nf f9⟩
      refine InvFrom.cons (fun L a W hI hN hD K hK => ?_) ?_
      · obtain ⟨sl51, sl52, sl53, sl54, sl55, sl56, sl57, sl58, sl59, sl6, ha, hB, f0, f1, f2, f3, f4, f5, f6, f7, f8, f9⟩ := hI
        subst ha
        have hz := hB.size
        have d4 := f4 (hD 4 (by kernel_rfl))
        subst d4
        have cc0 := (HCC.out W hB).1
        have cc1 := (HCC.out W hB).2
        refine Kept.mk ?_
        simp only [Act.put, pA, pZ, pS]
        go_simp
        refine hK.out _ _ ?_
        exact ⟨sl51, sl52, sl53, sl54, (.pointer (some ⟨g9, o9 + q * 2, none⟩)), (.agg #[.slice B0 m0 d0, .int .i64 s.fElse]), sl57, sl58, sl59, sl6, by kernel_rfl, hB, nf f0, nf f1, nf f2, nf f3, nf f4, fun _ => rfl, nf f6, nf f7, nf f8, nf f9⟩
      refine InvFrom.cons (fun L a W hI hN hD K hK => ?_) ?_
      · obtain ⟨sl51, sl52, sl53, sl54, sl55, sl56, sl57, sl58, sl59, sl6, ha, hB, f0, f1, f2, f3, f4, f5, f6, f7, f8, f9⟩ := hI
        subst ha
        have hz := hB.size
        have pg0 := box_cell (j := 0) (box_keep HG1.out hB (by omega)) rfl
        have pg1 := box_cell (j := 1) (box_keep HG1.out hB (by omega)) rfl
        have pg2 := box_cell (j := 2) (box_keep HG1.out hB (by omega)) rfl
        have pg3 := box_cell (j := 3) (box_keep HG1.out hB (by omega)) rfl
        have pg4 := box_cell (j := 4) (box_keep HG1.out hB (by omega)) rfl
        refine Kept.mk ?_
        simp only [Act.put, pA, pZ, pS]
        go_simp
        refine hK.out _ _ ?_
        exact ⟨sl51, sl52, sl53, sl54, sl55, sl56, (.agg #[.int .i64 g.fProc, .int .i64 g.fPc, .slice A2 n2 c2, .int .i64 g.fState, .slice A4 n4 c4]), sl58, sl59, sl6, by kernel_rfl, hB, nf f0, nf f1, nf f2, nf f3, nf f4, nf f5, fun _ => rfl, nf f7, nf f8, nf f9⟩
      refine InvFrom.cons (fun L a W hI hN hD K hK => ?_) ?_
      · obtain ⟨sl51, sl52, sl53, sl54, sl55, sl56, sl57, sl58, sl59, sl6, ha, hB, f0, f1, f2, f3, f4, f5, f6, f7, f8, f9⟩ := hI
        subst ha
        have hz := hB.size
        refine Kept.mk ?_
        simp only [Act.put, pA, pZ, pS]
        go_simp
        refine hK.out _ _ ?_
        exact ⟨sl51, sl52, sl53, sl54, sl55, sl56, sl57, (.int .i64 n), sl59, sl6, by kernel_rfl, hB, nf f0, nf f1, nf f2, nf f3, nf f4, nf f5, nf f6, fun _ => rfl, nf f8, nf f9⟩
      refine InvFrom.cons (fun L a W hI hN hD K hK => ?_) ?_
      · obtain ⟨sl51, sl52, sl53, sl54, sl55, sl56, sl57, sl58, sl59, sl6, ha, hB, f0, f1, f2, f3, f4, f5, f6, f7, f8, f9⟩ := hI
        subst ha
        have hz := hB.size
        have d5 := f5 (hD 5 (by kernel_rfl))
        subst d5
        have d6 := f6 (hD 6 (by kernel_rfl))
        subst d6
        have d7 := f7 (hD 7 (by kernel_rfl))
        subst d7
        refine kept_c3 rfl 120 _ _ _ _ rfl (fenters_of' Tryz.func120 (by kernel_rfl) (by kernel_rfl)) (.agg #[.slice B0 m0 d0, .int .i64 s.fElse]) (.agg #[.int .i64 g.fProc, .int .i64 g.fPc, .slice A2 n2 c2, .int .i64 g.fState, .slice A4 n4 c4]) (.int .i64 n) (by kernel_rfl) (by kernel_rfl) (by kernel_rfl) (HCA.out W hB) ?_
        rintro e W1 ⟨A9, c9, rfl, own9, hb9⟩
        refine ⟨_, rfl, hK.out _ _ ?_⟩
        exact ⟨sl51, sl52, sl53, sl54, sl55, (.agg #[.slice B0 m0 d0, .int .i64 s.fElse]), (.agg #[.int .i64 g.fProc, .int .i64 g.fPc, .slice A2 n2 c2, .int .i64 g.fState, .slice A4 n4 c4]), (.int .i64 n), (.slice A9 (casesPl g n s.fCases m0).length c9), sl6, by kernel_rfl, hB.trans (hb9.mono hz), nf f0, nf f1, nf f2, nf f3, nf f4, nf f5, nf f6, nf f7, fun _ => ⟨A9, c9, rfl, own9.wider hz (Nat.le_refl _)⟩, fun h => (f9 (nx h)).up hb9⟩
      refine InvFrom.cons (fun L a W hI hN hD K hK => ?_) ?_
      · obtain ⟨sl51, sl52, sl53, sl54, sl55, sl56, sl57, sl58, sl59, sl6, ha, hB, f0, f1, f2, f3, f4, f5, f6, f7, f8, f9⟩ := hI
        subst ha
        have hz := hB.size
        have d8 := f8 (hD 8 (by kernel_rfl))
        obtain ⟨A9, c9, rfl, own9⟩ := d8
        refine Kept.mk ?_
        simp only [Act.put, pA, pZ, pS]
        go_simp
        refine hK.out _ _ ?_
        exact ⟨sl51, sl52, sl53, sl54, sl55, sl56, sl57, sl58, (.slice A9 (casesPl g n s.fCases m0).length c9), (.slice A9 (casesPl g n s.fCases m0).length c9), by kernel_rfl, hB, nf f0, nf f1, nf f2, nf f3, nf f4, nf f5, nf f6, nf f7, nf f8, fun _ => ⟨A9, c9, rfl, own9⟩⟩
      exact InvFrom.nil
    intro L a w2 hL hI
    obtain ⟨sl51, sl52, sl53, sl54, sl55, sl56, sl57, sl58, sl59, sl6, ha, hbw2, hI⟩ := hI
    subst ha
    have hfin := hI.2.2.2.2.2.2.2.2.2 (hL 9 (by decide))
    clear hL hI
    refine Kept.mk ?_
    simp only [Act.put, pA, pZ, pS]
    obtain ⟨Aq, cq, hsl, hoq⟩ := hfin
    subst hsl
    have HOQ := Lib.hid hoq
    have HBW := Lib.hid (HB1.out.trans (hbw2.mono (by omega)))
    clear hoq hbw2
    go_wp2_with fail
    go_ret
    rw [HT.out]
    exact ⟨Aq, cq, rfl, HOQ.out.wider (by omega) (Nat.le_refl _), HBW.out⟩
  · have q12 : (op == 12) = false := by simp [h12]
    have q11 : (op == 11) = false := by simp [h11]
    have hB3 := HB1.out.trans (((Below.refl _ _).alloc (Nat.le_refl W1.heap.size) (.cells #[] 174)).mono (by omega))
    have hsb := made_none W1 6 174
    rw [hzW] at hsb
    have HSB := Lib.hid hsb
    have HB3 := Lib.hid hB3
    clear hsb hB3
    by_cases k8 : op = 8
    · subst k8
      have ha : ¬ 0 ≤ ia := fun h => h8 ⟨rfl, h⟩
      have qa : decide (ia ≥ 0) = false := decide_eq_false ha
      replace HT : Hid (R = []) := Lib.hid (by rw [HT.out]; simp; omega)
      clear h8 h9 h11 h12
      go_wp2_with fail
      go_ret
      rw [HT.out]
      exact ⟨_, 0, rfl, HSB.out.wider (by omega) (Nat.le_refl _), HB3.out⟩
    · have q8 : (op == 8) = false := by simp [k8]
      by_cases k9 : op = 9
      · subst k9
        have ha : ¬ 0 ≤ ia := fun h => h9 ⟨rfl, h⟩
        have qa : decide (ia ≥ 0) = false := decide_eq_false ha
        replace HT : Hid (R = []) := Lib.hid (by rw [HT.out]; simp; omega)
        clear h8 h9 h11 h12 k8
        go_wp2_with fail
        go_ret
        rw [HT.out]
        exact ⟨_, 0, rfl, HSB.out.wider (by omega) (Nat.le_refl _), HB3.out⟩
      · have q9 : (op == 9) = false := by simp [k9]
        replace HT : Hid (R = []) := Lib.hid (by rw [HT.out, if_neg k8, if_neg k9, if_neg h11, if_neg h12])
        clear h8 h9 h11 h12 k8 k9
        go_wp2_with fail
        go_ret
        rw [HT.out]
        exact ⟨_, 0, rfl, HSB.out.wider (by omega) (Nat.le_refl _), HB3.out⟩

end Go.Proofs.YtghkdkagnibkgaaGreatDoor
