
/- The model's ReadyCases, Blocks, Choices. Laid by wip/gen11/casS.py. -/

import Derived.Test.YtghkdkagnibkgaaGreatDoorGCasM

import Derived.Test.YtghkdkagnibkgaaGreatDoorCaseS

import Derived.Test.YtghkdkagnibkgaaGreatDoorGEngM

import Derived.Test.YtghkdkagnibkgaaGreatDoorGEngS

import Derived.Test.YtghkdkagnibkgaaGreatDoorGCas

import Derived.Deep.Cut

namespace Go.Proofs.YtghkdkagnibkgaaGreatDoor
set_option linter.unusedSimpArgs false
set_option linter.unusedVariables false
open Go.RowKit


set_option maxRecDepth 100000 in
set_option maxHeartbeats 4000000 in
theorem l11Ready_any {w : World} {hi : Nat} {p : DProg} {x : DEng} {vs us : List Value} (hp : layProg.see w hi p vs) (he : layEng.see w hi x us) (hhi : hi ≤ w.heap.size) (hnp : szProg p ≤ 1048576) {q : Nat} (hq : q < p.fSels.length) :
    Calls Tryz.prog 31 #[.agg vs.toArray, .agg us.toArray, .int .i64 (q : Int)] w (MadeRow Lay.int 3 w (rdyL x (p.fSels[q]).fCases)) := by
  obtain ⟨i0, hi0, iz0, iz1, iz2⟩ := info_parts int_info
  have HC := Lib.hid (fun (W : World) (hW : Below w.heap.size w W) => specCase_any (layEng.keep he fun k hk => hW.block k (by omega)) (Nat.le_trans hhi hW.size))
  obtain ⟨B0, m0, d0, B2, m2, d2, B3, m3, d3, rfl, -, -, ⟨hc2, hm2, s2⟩, -⟩ := seeProg hp
  obtain ⟨A0, n0, c0, A1, n1, c1, A2, n2, c2, rfl, ⟨hc0, hm0, s0⟩, ⟨hc1, hm1, s1⟩, ⟨hc9, hm9, s9⟩⟩ := seeEng he
  have hP0 := box_new w #[.slice B0 m0 d0, .int .i64 p.fMus, .slice B2 m2 d2, .slice B3 m3 d3] 38
  have hP0 := box_keep hP0 ((Below.refl _ _).alloc (Nat.le_refl _) (.cells #[.slice A0 n0 c0, .slice A1 n1 c1, .slice A2 n2 c2] 44)) (by simp only [World.size_alloc]; omega)
  have hE0 := box_new (w.alloc (.cells #[.slice B0 m0 d0, .int .i64 p.fMus, .slice B2 m2 d2, .slice B3 m3 d3] 38)) #[.slice A0 n0 c0, .slice A1 n1 c1, .slice A2 n2 c2] 44
  simp only [World.size_alloc, Nat.add_assoc, Nat.reduceAdd] at hE0
  have hB0 : Below w.heap.size w ((w.alloc (.cells #[.slice B0 m0 d0, .int .i64 p.fMus, .slice B2 m2 d2, .slice B3 m3 d3] 38)).alloc (.cells #[.slice A0 n0 c0, .slice A1 n1 c1, .slice A2 n2 c2] 44)) := ((Below.refl _ _).alloc (Nat.le_refl _) _).alloc (by simp only [World.size_alloc]; omega) _
  have hz0 : w.heap.size + 2 ≤ ((w.alloc (.cells #[.slice B0 m0 d0, .int .i64 p.fMus, .slice B2 m2 d2, .slice B3 m3 d3] 38)).alloc (.cells #[.slice A0 n0 c0, .slice A1 n1 c1, .slice A2 n2 c2] 44)).heap.size := by simp only [World.size_alloc]; omega
  have hqm : q < m2 := by have := s2.1; omega
  obtain ⟨hx, g, o, ws, rfl, hg, hsee, hcell⟩ := (s2.below hB0 hhi).at_ hqm
  have hln : (p.fSels[q]).fCases.length ≤ 1048576 := by have h1 := sum_mem_le szSelect (List.getElem_mem hq); unfold szProg at hnp; unfold szSelect at h1 hnp; omega
  generalize p.fSels[q] = s at *
  obtain ⟨C0, l0, f0, rfl, ⟨hcc, hmm, sC⟩, -⟩ := seeSelect hsee
  have cc0 := hcell 0 _ rfl
  have cc1 := hcell 1 _ rfl
  simp only [show laySelect.size = 2 from rfl, ← Nat.add_assoc, Nat.add_zero, Nat.mul_one] at cc0 cc1
  have HLN := Lib.hid hln
  have HL := Lib.hid sC.1
  have hl0 : l0 ≤ 1048576 := by rw [← HL.out]; exact HLN.out
  have hi9 : (q : Int) < (m2 : Int) := by omega
  have hi8 : (0 : Int) ≤ (q : Int) := by omega
  have pe0 := box_cell (j := 0) hE0 rfl
  have pe1 := box_cell (j := 1) hE0 rfl
  have pe2 := box_cell (j := 2) hE0 rfl
  have pp0 := box_cell (j := 0) hP0 rfl
  have pp1 := box_cell (j := 1) hP0 rfl
  have pp2 := box_cell (j := 2) hP0 rfl
  have pp3 := box_cell (j := 3) hP0 rfl
  have HE0 := Lib.hid hE0
  have HB0 := Lib.hid hB0
  have hhi0 := hB0.size
  have HSC := Lib.hid sC
  clear hcell hsee hp he s2 s0 s1 s9 hP0 hE0 hB0 hq hln sC
  go_enter Tryz.func31, Tryz.ntmps31
  go_upto_region 1 with (fail)
  generalize ((w.alloc (.cells #[.slice B0 m0 d0, .int .i64 p.fMus, .slice (some ⟨g, o, none⟩) m2 d2, .slice B3 m3 d3] 38)).alloc (.cells #[.slice A0 n0 c0, .slice A1 n1 c1, .slice A2 n2 c2] 44)) = W0 at *
  have hlt0 : w.heap.size < W0.heap.size := by omega
  have hltg : g < W0.heap.size := by omega
  go_wp2_with fail
  go_loopw [7, 18] (fun q i wr => ∃ (k : Nat) (B : Option Addr) (c' : Nat) (done : List Int), k ≤ l0 ∧ i = .int .i64 k ∧ q = .slice B done.length c' ∧ Hid (done = rdyTo x s.fCases k) ∧ Own wr W0.heap.size wr.heap.size 3 1 B done.length c' (done.map (Value.int .i64)) ∧ Below W0.heap.size W0 wr) (fun _ i _ => l0 - (intOf i).toNat)
  case atStart =>
    have h9 := Own.made (size := 1) (e := 3) W0 #[] 0 0 (by decide) rfl (Nat.le_refl _)
    have h8 := h9.wider (lo' := W0.heap.size) (by simp) (Nat.le_refl _)
    exact ⟨0, _, 0, [], Nat.zero_le _, rfl, rfl, Lib.hid rfl, by simpa using h8, (Below.refl _ _).alloc (Nat.le_refl _) _⟩
  case round =>
    obtain ⟨k, B, c', done, hk, rfl, rfl, HDN, hown, hb⟩ := hrel
    have hzb := hb.size
    by_cases hlt : k < l0
    · obtain ⟨hx2, g2, o2, ts, rfl, hg2, ⟨rfl, -⟩, hcell⟩ := (HSC.out.below hb (by omega)).at_ hlt
      have HD := Lib.hid (List.getElem?_eq_getElem hx2)
      have hdl : done.length ≤ k := by rw [HDN.out]; exact rdyTo_len _ _ _
      generalize s.fCases[k] = d at *
      have HT := Lib.hid (rdyTo_step (e := x) HD.out)
      obtain ⟨ds, dc, dr, dk, dt⟩ := d
      have qc0 := hcell 0 _ rfl
      have qc1 := hcell 1 _ rfl
      have qc2 := hcell 2 _ rfl
      have qc3 := hcell 3 _ rfl
      have qc4 := hcell 4 _ rfl
      simp only [show layCase.size = 5 from rfl, ← Nat.add_assoc, Nat.add_zero, Nat.mul_one] at qc0 qc1 qc2 qc3 qc4
      have HB := Lib.hid (hb.alloc hzb (.cells #[.bool ds, .int .i64 dc, .int .i64 dr, .int .i64 dk, .int .i64 dt] 89))
      have HO := Lib.hid (hown.alloc (.cells #[.bool ds, .int .i64 dc, .int .i64 dr, .int .i64 dk, .int .i64 dt] 89))
      have pf0 := box_cell (j := 0) (box_keep HE0.out HB.out (by omega)) rfl
      have pf1 := box_cell (j := 1) (box_keep HE0.out HB.out (by omega)) rfl
      have pf2 := box_cell (j := 2) (box_keep HE0.out HB.out (by omega)) rfl
      have HCW := Lib.hid (HC.out _ (HB0.out.trans (HB.out.mono (by omega))) ds dc dr dk dt)
      generalize hrb : canB x ⟨ds, dc, dr, dk, dt⟩ = rb at *
      clear hcell hrb HD HC hb hown
      go_wp2_with fail
      refine HCW.out.mono ?_
      rintro e w5 ⟨rfl, hb5⟩
      have hz5 := hb5.size
      simp only [World.size_alloc] at hz5
      have HB5 := Lib.hid (HB.out.trans (hb5.mono (by simp only [World.size_alloc]; omega)))
      have HO5 := Lib.hid ((HO.out.below hb5 (by simp)).wider (Nat.le_refl _) (by omega) : Own w5 W0.heap.size w5.heap.size 3 1 B done.length c' (done.map (Value.int .i64)))
      clear HCW hb5 HO HB
      clear qc0
      clear qc1
      clear qc2
      clear qc3
      clear qc4
      clear pf0
      clear pf1
      clear pf2
      cases rb
      · simp only [Bool.false_eq_true, if_false] at HT
        go_wp2_with fail
        go_roundw
        case rel => exact ⟨k + 1, B, c', done, by omega, by go_num, rfl, Lib.hid (by rw [HT.out, ← HDN.out]; simp), HO5.out, HB5.out⟩
        case measure => simp [intOf]; omega
      · simp only [if_true] at HT
        have hs1 := Seen.one w5 (.int .i64 (k : Int)) 3
        have hownA := HO5.out.alloc (.cells #[.int .i64 (k : Int)] 3)
        have hdm : done.length ≤ 1048576 := by omega
        go_wp2_with (at_builtin; refine wpList_append_seen rfl (.tmp 26) (.tmp 28) _ rfl W0.heap.size _ 3 i0 _ 1 8 Tryz.underlying22 hi0 iz0 iz1 iz2 rfl (by omega) B done.length c' _ rfl hownA _ _ 1 1 _ rfl hs1 (by simp [Value.oneCell']) (by simp only [maxLen]; omega) (by omega) (by simp; omega) ?_; intro B4 c4 w6 own6 hb6)
        go_roundw
        case rel =>
          refine ⟨k + 1, B4, c4, done ++ [(k : Int)], by omega, by go_num, by simp, Lib.hid ?_, ?_, ?_⟩
          · rw [HT.out, ← HDN.out]
          · rw [List.map_append, List.length_append]; exact own6
          · exact HB5.out.trans (((Below.refl _ _).alloc (by omega) _).trans hb6)
        case measure => simp [intOf]; omega
    · obtain rfl : k = l0 := by omega
      have h9 := HDN.out
      go_wp2_with fail
      go_ret
      rw [show rdyL x s.fCases = rdyTo x s.fCases k by unfold rdyL; rw [HL.out], ← h9]
      exact ⟨B, c', rfl, (own_rowI hown (fun z hz => by rw [h9] at hz; have := rdyTo_mem hz; exact WalkArith.wf_i64 (by omega))).wide (fun b hb => ⟨by omega, hb.2⟩), HB0.out.trans (hb.mono (by omega))⟩

set_option maxRecDepth 100000 in
set_option maxHeartbeats 4000000 in
theorem l11Asked_any {w : World} {hi : Nat} {p : DProg} {x : DEng} {vs us : List Value} (hp : layProg.see w hi p vs) (he : layEng.see w hi x us) (hhi : hi ≤ w.heap.size) (hnp : szProg p ≤ 1048576) (hne : szEng x ≤ 1048576) (n : Int) :
    Calls Tryz.prog 29 #[.agg vs.toArray, .agg us.toArray, .int .i64 n] w fun e w' => e = .returned (.bool (askB p x n)) ∧ Below w.heap.size w w' := by
  have HK := Lib.hid (fun (W : World) (hW : Below w.heap.size w W) => specEngOk_any (layProg.keep hp fun k hk => hW.block k (by omega)) (layEng.keep he fun k hk => hW.block k (by omega)) (Nat.le_trans hhi hW.size) hnp hne)
  obtain ⟨B0, m0, d0, B2, m2, d2, B3, m3, d3, rfl, -, -, ⟨hc2, hm2, s2⟩, -⟩ := seeProg hp
  obtain ⟨A0, n0, c0, A1, n1, c1, A2, n2, c2, rfl, ⟨hc0, hm0, s0⟩, ⟨hc1, hm1, s1⟩, ⟨hc9, hm9, s9⟩⟩ := seeEng he
  have HS0 := Lib.hid s0
  have HL0 := Lib.hid s0.1
  have hP0 := box_new w #[.slice B0 m0 d0, .int .i64 p.fMus, .slice B2 m2 d2, .slice B3 m3 d3] 38
  have hP0 := box_keep hP0 ((Below.refl _ _).alloc (Nat.le_refl _) (.cells #[.slice A0 n0 c0, .slice A1 n1 c1, .slice A2 n2 c2] 44)) (by simp only [World.size_alloc]; omega)
  have hE0 := box_new (w.alloc (.cells #[.slice B0 m0 d0, .int .i64 p.fMus, .slice B2 m2 d2, .slice B3 m3 d3] 38)) #[.slice A0 n0 c0, .slice A1 n1 c1, .slice A2 n2 c2] 44
  simp only [World.size_alloc, Nat.add_assoc, Nat.reduceAdd] at hE0
  have hB0 : Below w.heap.size w ((w.alloc (.cells #[.slice B0 m0 d0, .int .i64 p.fMus, .slice B2 m2 d2, .slice B3 m3 d3] 38)).alloc (.cells #[.slice A0 n0 c0, .slice A1 n1 c1, .slice A2 n2 c2] 44)) := ((Below.refl _ _).alloc (Nat.le_refl _) _).alloc (by simp only [World.size_alloc]; omega) _
  have hz0 : w.heap.size + 2 ≤ ((w.alloc (.cells #[.slice B0 m0 d0, .int .i64 p.fMus, .slice B2 m2 d2, .slice B3 m3 d3] 38)).alloc (.cells #[.slice A0 n0 c0, .slice A1 n1 c1, .slice A2 n2 c2] 44)).heap.size := by simp only [World.size_alloc]; omega
  have pe0 := box_cell (j := 0) hE0 rfl
  have pe1 := box_cell (j := 1) hE0 rfl
  have pe2 := box_cell (j := 2) hE0 rfl
  have pp0 := box_cell (j := 0) hP0 rfl
  have pp1 := box_cell (j := 1) hP0 rfl
  have pp2 := box_cell (j := 2) hP0 rfl
  have pp3 := box_cell (j := 3) hP0 rfl
  have HE0 := Lib.hid hE0
  have HB0 := Lib.hid hB0
  unfold askB
  generalize engB p x = b1 at *
  clear hp he s0 s1 s2 s9 hP0 hE0 hB0
  go_enter Tryz.func29, Tryz.ntmps29
  go_upto_region 1 with (fail)
  generalize ((w.alloc (.cells #[.slice B0 m0 d0, .int .i64 p.fMus, .slice B2 m2 d2, .slice B3 m3 d3] 38)).alloc (.cells #[.slice A0 n0 c0, .slice A1 n1 c1, .slice A2 n2 c2] 44)) = W0 at *
  go_wp2_with fail
  refine (HK.out _ HB0.out).mono ?_
  rintro e w1 ⟨rfl, hb1⟩
  have hz1 := hb1.size
  have HB1 := Lib.hid (HB0.out.trans (hb1.mono (by omega)))
  clear pe0 pe1 pe2
  have pe0 := box_cell (j := 0) (box_keep HE0.out hb1 (by omega)) rfl
  have pe1 := box_cell (j := 1) (box_keep HE0.out hb1 (by omega)) rfl
  have pe2 := box_cell (j := 2) (box_keep HE0.out hb1 (by omega)) rfl
  have hbx := hb1
  clear hb1
  cases b1
  · go_wp2_with fail
    go_ret
    exact ⟨rfl, HB1.out⟩
  by_cases h0 : 0 ≤ n
  · by_cases h1 : n < (n0 : Int)
    · obtain ⟨q, rfl⟩ := Int.eq_ofNat_of_zero_le h0
      have hq : q < n0 := by omega
      obtain ⟨hx, g, o, ws, rfl, hg, hsee, hcell⟩ := (HS0.out.below HB1.out hhi).at_ hq
      have hga : gorAt x (q : Int) = x.fGs[q] := gorAt_get hx
      generalize x.fGs[q] = d at *
      have HGA := Lib.hid hga
      obtain ⟨E2, k2, e2, E4, k4, e4, rfl, -⟩ := seeGor hsee
      have cc3 := hcell 3 _ rfl
      simp only [show layGor.size = 5 from rfl, ← Nat.add_assoc, Nat.add_zero, Nat.mul_one] at cc3
      have HLL := HL0.out
      have HL1 := Lib.hid HLL
      clear hcell hsee HS0 hga HLL
      by_cases hs : d.fState = 1
      · have hqe : (d.fState == 1) = true := by simp [hs]
        have HA := Lib.hid (show (true && (decide (0 ≤ (q : Int) ∧ (q : Int) < x.fGs.length) && decide ((gorAt x (q : Int)).fState = 1))) = true by rw [HGA.out, decide_eq_true (show 0 ≤ (q : Int) ∧ (q : Int) < x.fGs.length by rw [HL1.out]; omega), decide_eq_true hs]; rfl)
        clear hs
        go_wp2_with fail
        go_ret
        exact ⟨by rw [HA.out] <;> rfl, HB1.out⟩
      · have hqe : (d.fState == 1) = false := by simp [hs]
        have HA := Lib.hid (show (true && (decide (0 ≤ (q : Int) ∧ (q : Int) < x.fGs.length) && decide ((gorAt x (q : Int)).fState = 1))) = false by rw [HGA.out, decide_eq_true (show 0 ≤ (q : Int) ∧ (q : Int) < x.fGs.length by rw [HL1.out]; omega), decide_eq_false hs]; rfl)
        clear hs
        go_wp2_with fail
        go_ret
        exact ⟨by rw [HA.out] <;> rfl, HB1.out⟩
    · have HA := Lib.hid (show (true && (decide (0 ≤ n ∧ n < x.fGs.length) && decide ((gorAt x n).fState = 1))) = false by rw [decide_eq_false (show ¬ (0 ≤ n ∧ n < x.fGs.length) by rw [HL0.out]; omega)]; rfl)
      have h9 : decide (n < (n0 : Int)) = false := decide_eq_false h1
      clear h1
      go_wp2_with fail
      go_ret
      exact ⟨by rw [HA.out] <;> rfl, HB1.out⟩
  · have HA := Lib.hid (show (true && (decide (0 ≤ n ∧ n < x.fGs.length) && decide ((gorAt x n).fState = 1))) = false by rw [decide_eq_false (show ¬ (0 ≤ n ∧ n < x.fGs.length) by omega)]; rfl)
    have h9 : decide (0 ≤ n) = false := decide_eq_false h0
    clear h0
    go_wp2_with fail
    go_ret
    exact ⟨by rw [HA.out] <;> rfl, HB1.out⟩

set_option maxRecDepth 100000 in
set_option maxHeartbeats 4000000 in
theorem specReadyCases_any {w : World} {hi : Nat} {p : DProg} {x : DEng} {vs us : List Value} (hp : layProg.see w hi p vs) (he : layEng.see w hi x us) (hhi : hi ≤ w.heap.size) (hnp : szProg p ≤ 1048576) (hne : szEng x ≤ 1048576) (n : Int) :
    Calls Tryz.prog 8 #[.agg vs.toArray, .agg us.toArray, .int .i64 n] w (MadeRow Lay.int 3 w (readyCasesL p x n)) := by
  have HK := Lib.hid (fun (W : World) (hW : Below w.heap.size w W) => l11Asked_any (layProg.keep hp fun k hk => hW.block k (by omega)) (layEng.keep he fun k hk => hW.block k (by omega)) (Nat.le_trans hhi hW.size) hnp hne n)
  have HI9 := Lib.hid (fun (hat : 0 ≤ (gorAt x n).fPc ∧ (gorAt x n).fPc < instrsZ p (gorAt x n).fProc) (d : DGor) (hd : gorAt x n = d) (W : World) (hW : Below w.heap.size w W) (gs : List Value) (hi9 : Nat) (hg : layGor.see W hi9 d gs) (h9 : hi9 ≤ W.heap.size) => specAt_any (layProg.more (layProg.keep hp fun k hk => hW.block k (by omega)) (Nat.le_trans hhi hW.size)) (layGor.more hg h9) (Nat.le_refl _) hnp (by rw [← hd]; exact hat))
  have HRD := Lib.hid (fun (W : World) (hW : Below w.heap.size w W) (q : Nat) (hq : q < p.fSels.length) => l11Ready_any (layProg.keep hp fun k hk => hW.block k (by omega)) (layEng.keep he fun k hk => hW.block k (by omega)) (Nat.le_trans hhi hW.size) hnp hq)
  have HCS := Lib.hid (fun (W : World) (hW : Below w.heap.size w W) => specCase_any (layEng.keep he fun k hk => hW.block k (by omega)) (Nat.le_trans hhi hW.size))
  obtain ⟨B0, m0, d0, B2, m2, d2, B3, m3, d3, rfl, -, -, ⟨hc2, hm2, s2⟩, -⟩ := seeProg hp
  obtain ⟨A0, n0, c0, A1, n1, c1, A2, n2, c2, rfl, ⟨hc0, hm0, s0⟩, ⟨hc1, hm1, s1⟩, ⟨hc9, hm9, s9⟩⟩ := seeEng he
  have HS0 := Lib.hid s0
  have HS2 := Lib.hid s2
  have HS9 := Lib.hid s9
  have HL0 := Lib.hid s0.1
  have HL2 := Lib.hid s2.1
  have HL9 := Lib.hid s9.1
  have hP0 := box_new w #[.slice B0 m0 d0, .int .i64 p.fMus, .slice B2 m2 d2, .slice B3 m3 d3] 38
  have hP0 := box_keep hP0 ((Below.refl _ _).alloc (Nat.le_refl _) (.cells #[.slice A0 n0 c0, .slice A1 n1 c1, .slice A2 n2 c2] 44)) (by simp only [World.size_alloc]; omega)
  have hE0 := box_new (w.alloc (.cells #[.slice B0 m0 d0, .int .i64 p.fMus, .slice B2 m2 d2, .slice B3 m3 d3] 38)) #[.slice A0 n0 c0, .slice A1 n1 c1, .slice A2 n2 c2] 44
  simp only [World.size_alloc, Nat.add_assoc, Nat.reduceAdd] at hE0
  have hB0 : Below w.heap.size w ((w.alloc (.cells #[.slice B0 m0 d0, .int .i64 p.fMus, .slice B2 m2 d2, .slice B3 m3 d3] 38)).alloc (.cells #[.slice A0 n0 c0, .slice A1 n1 c1, .slice A2 n2 c2] 44)) := ((Below.refl _ _).alloc (Nat.le_refl _) _).alloc (by simp only [World.size_alloc]; omega) _
  have hz0 : w.heap.size + 2 ≤ ((w.alloc (.cells #[.slice B0 m0 d0, .int .i64 p.fMus, .slice B2 m2 d2, .slice B3 m3 d3] 38)).alloc (.cells #[.slice A0 n0 c0, .slice A1 n1 c1, .slice A2 n2 c2] 44)).heap.size := by simp only [World.size_alloc]; omega
  have pe0 := box_cell (j := 0) hE0 rfl
  have pe1 := box_cell (j := 1) hE0 rfl
  have pe2 := box_cell (j := 2) hE0 rfl
  have pp0 := box_cell (j := 0) hP0 rfl
  have pp1 := box_cell (j := 1) hP0 rfl
  have pp2 := box_cell (j := 2) hP0 rfl
  have pp3 := box_cell (j := 3) hP0 rfl
  have HE0 := Lib.hid hE0
  have HP0 := Lib.hid hP0
  have HB0 := Lib.hid hB0
  clear hp he s0 s1 s2 s9 hP0 hE0 hB0
  go_enter Tryz.func8, Tryz.ntmps8
  go_upto_region 1 with (fail)
  generalize ((w.alloc (.cells #[.slice B0 m0 d0, .int .i64 p.fMus, .slice B2 m2 d2, .slice B3 m3 d3] 38)).alloc (.cells #[.slice A0 n0 c0, .slice A1 n1 c1, .slice A2 n2 c2] 44)) = W0 at *
  go_wp2_with fail
  refine (HK.out _ HB0.out).mono ?_
  rintro e w1 ⟨rfl, hb1⟩
  have hz1 := hb1.size
  have HB1 := Lib.hid (HB0.out.trans (hb1.mono (by omega)))
  have HP1 := Lib.hid (box_keep HP0.out hb1 (by omega))
  have HE1 := Lib.hid (box_keep HE0.out hb1 (by omega))
  clear pe0 pe1 pe2 pp0 pp1 pp2 pp3 hb1 HK HP0 HE0 HB0
  cases ha : askB p x n
  · have HR0 := Lib.hid (show readyCasesL p x n = [] by unfold readyCasesL; rw [if_neg (by rw [ha]; simp)])
    clear ha
    go_wp2_with fail
    go_ret
    rw [HR0.out]
    exact ⟨none, 0, rfl, own_rowI (Own.nil_ _ _ _ _ _) (fun z hz => by cases hz), HB1.out⟩
  have HR := Lib.hid (show readyCasesL p x n = rdyL x (csAt p (insAt p x n)) by unfold readyCasesL; rw [if_pos ha])
  have HQ := ask_parts ha
  have HQP := Lib.hid HQ
  obtain ⟨q, rfl⟩ := Int.eq_ofNat_of_zero_le HQ.n0
  have hq : q < n0 := by have := HQ.n1; rw [HL0.out] at this; omega
  have hnm := at_names HQ.prog HQ.at_
  have HI8 := Lib.hid (HI9.out HQ.at_)
  clear HQ HI9
  obtain ⟨hx, g, o, ws, rfl, hg, hsee, hcell⟩ := (HS0.out.below HB1.out hhi).at_ hq
  have hga : gorAt x (q : Int) = x.fGs[q] := gorAt_get hx
  have hsw := fun (W : World) (hW : Below w1.heap.size w1 W) => layGor.keep hsee (w' := W) fun k hk => hW.block k (by have := HB1.out.size; omega)
  generalize x.fGs[q] = d at *
  obtain ⟨E2, k2, e2, E4, k4, e4, rfl, -⟩ := seeGor hsee
  have cc0 := hcell 0 _ rfl
  have cc1 := hcell 1 _ rfl
  have cc2 := hcell 2 _ rfl
  have cc3 := hcell 3 _ rfl
  have cc4 := hcell 4 _ rfl
  simp only [show layGor.size = 5 from rfl, ← Nat.add_assoc, Nat.add_zero, Nat.mul_one] at cc0 cc1 cc2 cc3 cc4
  have HCC0 := Lib.hid cc0
  have HCC1 := Lib.hid cc1
  have HCC2 := Lib.hid cc2
  have HCC3 := Lib.hid cc3
  have HCC4 := Lib.hid cc4
  have HI7 := Lib.hid (fun (W : World) (hW : Below w1.heap.size w1 W) => HI8.out d hga W (HB1.out.trans (hW.mono HB1.out.size)) _ hi (hsw W hW) (by have := HB1.out.size; have := hW.size; omega))
  have hin : insAt p x (q : Int) = atI p d := by unfold insAt; rw [hga]
  rw [show atI p (gorAt x (q : Int)) = atI p d by rw [hga]] at hnm
  clear cc0 cc1 cc2 cc3 cc4 hcell hsee hsw hga HS0 HI8
  generalize atI p d = ins at *
  obtain ⟨io, ia, ib, ic⟩ := ins
  simp only at HI7 hnm
  have HI := HI7
  clear HI7
  have HNM := Lib.hid hnm
  have HIN := Lib.hid hin
  clear hnm hin
  have hi0 : (0 : Int) ≤ (q : Int) := by omega
  have hi1 : (q : Int) < (n0 : Int) := by omega
  go_upto_region 3 with (fail)
  clear ha
  refine wp_region_inv (fun AC0 L a W => ∃ sl13 sl14 sl15 sl16 sl17 sl18 sl19 sl7 : Value, a = ((((((((AC0.put (some 13) sl13).put (some 14) sl14).put (some 15) sl15).put (some 16) sl16).put (some 17) sl17).put (some 18) sl18).put (some 19) sl19).put (some 7) sl7) ∧ Below w1.heap.size w1 W ∧ ((¬ L 8 ∧ (L 0 → sl13 = (.agg #[.slice B0 m0 d0, .int .i64 p.fMus, .slice B2 m2 d2, .slice B3 m3 d3])) ∧ (L 1 → sl14 = (.pointer (some ⟨w.heap.size + 1, 0, none⟩))) ∧ (L 2 → sl15 = (.slice (some ⟨g, o, none⟩) n0 c0)) ∧ (L 3 → sl16 = (.int .i64 (q : Int))) ∧ (L 4 → sl17 = (.pointer (some ⟨g, o + q * 5, none⟩))) ∧ (L 5 → sl18 = (.agg #[.int .i64 d.fProc, .int .i64 d.fPc, .slice E2 k2 e2, .int .i64 d.fState, .slice E4 k4 e4])) ∧ (L 6 → sl19 = (.agg #[.int .i64 io, .int .i64 ia, .int .i64 ib, .int .i64 ic])) ∧ (L 7 → BoxAt 61 [.int .i64 0, .int .i64 0, .int .i64 0, .int .i64 0] w1.heap.size W sl7) ∧ BoxLt W sl7) ∨ ((∀ j, j < 9 → L j) ∧ ∃ g9, sl7 = .pointer (some ⟨g9, 0, none⟩) ∧ w1.heap.size ≤ g9 ∧ W.heap[g9]? = some (.cells #[.int .i64 io, .int .i64 ia, .int .i64 ib, .int .i64 ic] 61 (0, 0))))) (by kernel_rfl) (by kernel_rfl) ?_ ?_ ?_
  · exact ⟨undef, undef, undef, undef, undef, undef, undef, undef, by kernel_rfl, Below.drew (Below.refl _ _), .inl ⟨id, fun h => absurd h id, fun h => absurd h id, fun h => absurd h id, fun h => absurd h id, fun h => absurd h id, fun h => absurd h id, fun h => absurd h id, fun h => absurd h id, BoxLt.undef⟩⟩
  · intro Q9; refine InvFrom.cons (fun L a W hI hN hD K hK => ?_) ?_
    · obtain ⟨sl13, sl14, sl15, sl16, sl17, sl18, sl19, sl7, ha, hB, hI⟩ := hI
      subst ha
      have hI := hI.resolve_right (fun h => hN (h.1 0 (by decide)))
      obtain ⟨hn, f0, f1, f2, f3, f4, f5, f6, f7, fL⟩ := hI
      have hz := hB.size
      have pp0 := box_cell (j := 0) (box_keep HP1.out hB (by omega)) rfl
      have pp1 := box_cell (j := 1) (box_keep HP1.out hB (by omega)) rfl
      have pp2 := box_cell (j := 2) (box_keep HP1.out hB (by omega)) rfl
      have pp3 := box_cell (j := 3) (box_keep HP1.out hB (by omega)) rfl
      refine Kept.mk ?_
      simp only [Act.put, pA, pZ, pS]
      go_simp
      refine hK.out _ _ ?_
      exact ⟨(.agg #[.slice B0 m0 d0, .int .i64 p.fMus, .slice B2 m2 d2, .slice B3 m3 d3]), sl14, sl15, sl16, sl17, sl18, sl19, sl7, by kernel_rfl, hB, .inl ⟨fun h => h.elim hn (by decide), fun _ => rfl, nf f1, nf f2, nf f3, nf f4, nf f5, nf f6, nf f7, fL⟩⟩
    refine InvFrom.cons (fun L a W hI hN hD K hK => ?_) ?_
    · obtain ⟨sl13, sl14, sl15, sl16, sl17, sl18, sl19, sl7, ha, hB, hI⟩ := hI
      subst ha
      have hI := hI.resolve_right (fun h => hN (h.1 1 (by decide)))
      obtain ⟨hn, f0, f1, f2, f3, f4, f5, f6, f7, fL⟩ := hI
      have hz := hB.size
      refine Kept.mk ?_
      simp only [Act.put, pA, pZ, pS]
      go_simp
      refine hK.out _ _ ?_
      exact ⟨sl13, (.pointer (some ⟨w.heap.size + 1, 0, none⟩)), sl15, sl16, sl17, sl18, sl19, sl7, by kernel_rfl, hB, .inl ⟨fun h => h.elim hn (by decide), nf f0, fun _ => rfl, nf f2, nf f3, nf f4, nf f5, nf f6, nf f7, fL⟩⟩
    refine InvFrom.cons (fun L a W hI hN hD K hK => ?_) ?_
    · obtain ⟨sl13, sl14, sl15, sl16, sl17, sl18, sl19, sl7, ha, hB, hI⟩ := hI
      subst ha
      have hI := hI.resolve_right (fun h => hN (h.1 2 (by decide)))
      obtain ⟨hn, f0, f1, f2, f3, f4, f5, f6, f7, fL⟩ := hI
      have hz := hB.size
      have d1 := f1 (hD 1 (by kernel_rfl))
      subst d1
      have pe0 := box_cell (j := 0) (box_keep HE1.out hB (by omega)) rfl
      refine Kept.mk ?_
      simp only [Act.put, pA, pZ, pS]
      go_simp
      refine hK.out _ _ ?_
      exact ⟨sl13, (.pointer (some ⟨w.heap.size + 1, 0, none⟩)), (.slice (some ⟨g, o, none⟩) n0 c0), sl16, sl17, sl18, sl19, sl7, by kernel_rfl, hB, .inl ⟨fun h => h.elim hn (by decide), nf f0, nf f1, fun _ => rfl, nf f3, nf f4, nf f5, nf f6, nf f7, fL⟩⟩
    refine InvFrom.cons (fun L a W hI hN hD K hK => ?_) ?_
    · obtain ⟨sl13, sl14, sl15, sl16, sl17, sl18, sl19, sl7, ha, hB, hI⟩ := hI
      subst ha
      have hI := hI.resolve_right (fun h => hN (h.1 3 (by decide)))
      obtain ⟨hn, f0, f1, f2, f3, f4, f5, f6, f7, fL⟩ := hI
      have hz := hB.size
      refine Kept.mk ?_
      simp only [Act.put, pA, pZ, pS]
      go_simp
      refine hK.out _ _ ?_
      exact ⟨sl13, sl14, sl15, (.int .i64 (q : Int)), sl17, sl18, sl19, sl7, by kernel_rfl, hB, .inl ⟨fun h => h.elim hn (by decide), nf f0, nf f1, nf f2, fun _ => rfl, nf f4, nf f5, nf f6, nf f7, fL⟩⟩
    refine InvFrom.cons (fun L a W hI hN hD K hK => ?_) ?_
    · obtain ⟨sl13, sl14, sl15, sl16, sl17, sl18, sl19, sl7, ha, hB, hI⟩ := hI
      subst ha
      have hI := hI.resolve_right (fun h => hN (h.1 4 (by decide)))
      obtain ⟨hn, f0, f1, f2, f3, f4, f5, f6, f7, fL⟩ := hI
      have hz := hB.size
      have d2 := f2 (hD 2 (by kernel_rfl))
      subst d2
      have d3 := f3 (hD 3 (by kernel_rfl))
      subst d3
      refine Kept.mk ?_
      simp only [Act.put, pA, pZ, pS]
      go_simp
      refine hK.out _ _ ?_
      exact ⟨sl13, sl14, (.slice (some ⟨g, o, none⟩) n0 c0), (.int .i64 (q : Int)), (.pointer (some ⟨g, o + q * 5, none⟩)), sl18, sl19, sl7, by kernel_rfl, hB, .inl ⟨fun h => h.elim hn (by decide), nf f0, nf f1, nf f2, nf f3, fun _ => rfl, nf f5, nf f6, nf f7, fL⟩⟩
    refine InvFrom.cons (fun L a W hI hN hD K hK => ?_) ?_
    · obtain ⟨sl13, sl14, sl15, sl16, sl17, sl18, sl19, sl7, ha, hB, hI⟩ := hI
      subst ha
      have hI := hI.resolve_right (fun h => hN (h.1 5 (by decide)))
      obtain ⟨hn, f0, f1, f2, f3, f4, f5, f6, f7, fL⟩ := hI
      have hz := hB.size
      have d4 := f4 (hD 4 (by kernel_rfl))
      subst d4
      have cw0 := cell_up HCC0.out hB
      have cw1 := cell_up HCC1.out hB
      have cw2 := cell_up HCC2.out hB
      have cw3 := cell_up HCC3.out hB
      have cw4 := cell_up HCC4.out hB
      refine Kept.mk ?_
      simp only [Act.put, pA, pZ, pS]
      go_simp
      refine hK.out _ _ ?_
      exact ⟨sl13, sl14, sl15, sl16, (.pointer (some ⟨g, o + q * 5, none⟩)), (.agg #[.int .i64 d.fProc, .int .i64 d.fPc, .slice E2 k2 e2, .int .i64 d.fState, .slice E4 k4 e4]), sl19, sl7, by kernel_rfl, hB, .inl ⟨fun h => h.elim hn (by decide), nf f0, nf f1, nf f2, nf f3, nf f4, fun _ => rfl, nf f6, nf f7, fL⟩⟩
    refine InvFrom.cons (fun L a W hI hN hD K hK => ?_) ?_
    · obtain ⟨sl13, sl14, sl15, sl16, sl17, sl18, sl19, sl7, ha, hB, hI⟩ := hI
      subst ha
      have hI := hI.resolve_right (fun h => hN (h.1 6 (by decide)))
      obtain ⟨hn, f0, f1, f2, f3, f4, f5, f6, f7, fL⟩ := hI
      have hz := hB.size
      have d0 := f0 (hD 0 (by kernel_rfl))
      subst d0
      have d5 := f5 (hD 5 (by kernel_rfl))
      subst d5
      refine kept_c2 rfl 30 _ _ _ rfl (fenters_of' Tryz.func30 (by kernel_rfl) (by kernel_rfl)) (.agg #[.slice B0 m0 d0, .int .i64 p.fMus, .slice B2 m2 d2, .slice B3 m3 d3]) (.agg #[.int .i64 d.fProc, .int .i64 d.fPc, .slice E2 k2 e2, .int .i64 d.fState, .slice E4 k4 e4]) (by kernel_rfl) (by kernel_rfl) (HI.out W hB) ?_
      rintro e W1 ⟨rfl, hb1⟩
      refine ⟨_, rfl, hK.out _ _ ?_⟩
      exact ⟨(.agg #[.slice B0 m0 d0, .int .i64 p.fMus, .slice B2 m2 d2, .slice B3 m3 d3]), sl14, sl15, sl16, sl17, (.agg #[.int .i64 d.fProc, .int .i64 d.fPc, .slice E2 k2 e2, .int .i64 d.fState, .slice E4 k4 e4]), (.agg #[.int .i64 io, .int .i64 ia, .int .i64 ib, .int .i64 ic]), sl7, by kernel_rfl, hB.trans ((hb1.mono (Nat.le_refl _)).mono hz), .inl ⟨fun h => h.elim hn (by decide), nf f0, nf f1, nf f2, nf f3, nf f4, nf f5, fun _ => rfl, fun h => (f7 (nx h)).up (hb1.mono (Nat.le_refl _)), fL.up (hb1.mono (Nat.le_refl _))⟩⟩
    refine InvFrom.cons (fun L a W hI hN hD K hK => ?_) ?_
    · obtain ⟨sl13, sl14, sl15, sl16, sl17, sl18, sl19, sl7, ha, hB, hI⟩ := hI
      subst ha
      have hI := hI.resolve_right (fun h => hN (h.1 7 (by decide)))
      obtain ⟨hn, f0, f1, f2, f3, f4, f5, f6, f7, fL⟩ := hI
      have hz := hB.size
      refine Kept.mk ?_
      simp only [Act.put, pA, pZ, pS]
      go_simp
      refine hK.out _ _ ?_
      have hb1 : Below W.heap.size W (W.alloc (.cells #[.int .i64 0, .int .i64 0, .int .i64 0, .int .i64 0] 61)) := (Below.refl _ _).alloc (Nat.le_refl _) _
      exact ⟨sl13, sl14, sl15, sl16, sl17, sl18, sl19, (.pointer (some ⟨W.heap.size, 0, none⟩)), by kernel_rfl, hB.trans (hb1.mono hz), .inl ⟨fun h => h.elim hn (by decide), nf f0, nf f1, nf f2, nf f3, nf f4, nf f5, nf f6, fun _ => BoxAt.new hz, BoxLt.new⟩⟩
    refine InvFrom.cons (fun L a W hI hN hD K hK => ?_) ?_
    · obtain ⟨sl13, sl14, sl15, sl16, sl17, sl18, sl19, sl7, ha, hB, hI⟩ := hI
      subst ha
      have hI := hI.resolve_right (fun h => hN (h.1 8 (by decide)))
      obtain ⟨hn, f0, f1, f2, f3, f4, f5, f6, f7, fL⟩ := hI
      have hz := hB.size
      have d6 := f6 (hD 6 (by kernel_rfl))
      subst d6
      have d7 := f7 (hD 7 (by kernel_rfl))
      obtain ⟨b5, rfl, hb51, hb52, hbz⟩ := d7
      have zc0 := box_cell (j := 0) hbz rfl
      have zc1 := box_cell (j := 1) hbz rfl
      have zc2 := box_cell (j := 2) hbz rfl
      have zc3 := box_cell (j := 3) hbz rfl
      have zf0 := box_free hbz 0
      have zf1 := box_free hbz 1
      have zf2 := box_free hbz 2
      have zf3 := box_free hbz 3
      refine Kept.mk ?_
      simp only [Act.put, pA, pZ, pS]
      go_simp
      have hall : ∀ j, j < 9 → (L j ∨ j = 8) := by
        intro j hj
        have hj2 : j = 0 ∨ j = 1 ∨ j = 2 ∨ j = 3 ∨ j = 4 ∨ j = 5 ∨ j = 6 ∨ j = 7 ∨ j = 8 := by omega
        rcases hj2 with rfl | rfl | rfl | rfl | rfl | rfl | rfl | rfl | rfl
        all_goals first | exact .inr rfl | exact .inl (hD _ (by kernel_rfl))
      have hpw : putCells W b5 0 [.int .i64 io, .int .i64 ia, .int .i64 ib, .int .i64 ic] = ((((W.setCell ⟨b5, 0, none⟩ (.int .i64 io)).setCell ⟨b5, 1, none⟩ (.int .i64 ia)).setCell ⟨b5, 2, none⟩ (.int .i64 ib)).setCell ⟨b5, 3, none⟩ (.int .i64 ic)) := rfl
      have hA9 := (show w1.heap.size ≤ b5 ∧ (putCells W b5 0 [.int .i64 io, .int .i64 ia, .int .i64 ib, .int .i64 ic]).heap[b5]? = some (.cells #[.int .i64 io, .int .i64 ia, .int .i64 ib, .int .i64 ic] 61 (0, 0)) from ⟨hb51, putI4 hbz⟩)
      have hB9 : Below w1.heap.size w1 (putCells W b5 0 [.int .i64 io, .int .i64 ia, .int .i64 ib, .int .i64 ic]) := putCells_below _ _ _ _ hB hb51
      rw [← hpw]
      clear hpw
      generalize putCells W b5 0 [.int .i64 io, .int .i64 ia, .int .i64 ib, .int .i64 ic] = W9 at hA9 hB9 ⊢
      refine hK.out _ _ ?_
      exact ⟨sl13, sl14, sl15, sl16, sl17, sl18, (.agg #[.int .i64 io, .int .i64 ia, .int .i64 ib, .int .i64 ic]), (.pointer (some ⟨b5, 0, none⟩)), by kernel_rfl, hB9, .inr ⟨hall, b5, rfl, hA9⟩⟩
    exact InvFrom.nil
  intro L a w4 hL hI
  obtain ⟨sl13, sl14, sl15, sl16, sl17, sl18, sl19, sl7, ha, hbw4, hI⟩ := hI
  subst ha
  have hfin := (hI.resolve_left (fun h => h.1 (hL 8 (by decide)))).2
  obtain ⟨bi, rfl, hbi, hbx⟩ := hfin
  clear hL hI
  refine Kept.mk ?_
  simp only [Act.put, pA, pZ, pS]
  have hz4 := hbw4.size
  have HB4 := Lib.hid (HB1.out.trans (hbw4.mono (by omega)))
  have HP4 := Lib.hid (box_keep HP1.out hbw4 (by omega))
  have HE4 := Lib.hid (box_keep HE1.out hbw4 (by omega))
  have HX4 := Lib.hid hbx
  have zi0 := box_cell (j := 0) hbx rfl
  have zi1 := box_cell (j := 1) hbx rfl
  have zi2 := box_cell (j := 2) hbx rfl
  have zi3 := box_cell (j := 3) hbx rfl
  have hbi4 := lt_of_block hbx
  clear hbw4 hbx HP1 HE1 HI
  clear HCC0
  clear HCC1
  clear HCC2
  clear HCC3
  clear HCC4
  rw [HIN.out] at HR
  by_cases h11 : io = 11
  · subst h11
    obtain ⟨⟨ha0, ha1⟩, -, -⟩ := HNM.out.2.2.1 rfl
    obtain ⟨qa, rfl⟩ := Int.eq_ofNat_of_zero_le ha0
    have hqa : qa < p.fSels.length := by omega
    have hcs : csAt p ⟨11, (qa : Int), ib, ic⟩ = (p.fSels[qa]).fCases := by unfold csAt selI; simp only [if_pos, Int.toNat_natCast]; rw [List.getElem?_eq_getElem hqa, Option.getD_some]
    have HRX := Lib.hid (HR.out.trans (by rw [hcs]))
    have HRW := Lib.hid (fun (W : World) (hW : Below w.heap.size w W) => HRD.out W hW qa hqa)
    generalize rdyL x (p.fSels[qa]).fCases = r at *
    clear hcs HRD HNM HR HIN HCS hqa ha0 ha1
    have pp0 := box_cell (j := 0) HP4.out rfl
    have pp1 := box_cell (j := 1) HP4.out rfl
    have pp2 := box_cell (j := 2) HP4.out rfl
    have pp3 := box_cell (j := 3) HP4.out rfl
    have pe0 := box_cell (j := 0) HE4.out rfl
    have pe1 := box_cell (j := 1) HE4.out rfl
    have pe2 := box_cell (j := 2) HE4.out rfl
    go_wp2_with fail
    refine (HRW.out _ HB4.out).mono ?_
    rintro e w5 ⟨A, c, rfl, own5, hb5⟩
    go_wp2_with fail
    go_ret
    rw [HRX.out]
    exact ⟨A, c, rfl, own5.wide (fun b hb => ⟨by have := HB4.out.size; omega, hb.2⟩), HB4.out.trans (hb5.mono HB4.out.size)⟩
  · have h9 : (io != 11) = true := by simp [h11]
    have HRX := Lib.hid (HR.out.trans (by rw [show csAt p ⟨io, ia, ib, ic⟩ = [] by unfold csAt; rw [if_neg h11]]))
    clear h11 HR
    go_wp2_with fail
    go_ret
    rw [HRX.out]
    exact ⟨none, 0, rfl, own_rowI (Own.nil_ _ _ _ _ _) (fun z hz => by cases hz), HB4.out⟩

set_option maxRecDepth 100000 in
set_option maxHeartbeats 4000000 in
theorem specBlocks_any {w : World} {hi : Nat} {p : DProg} {x : DEng} {vs us : List Value} (hp : layProg.see w hi p vs) (he : layEng.see w hi x us) (hhi : hi ≤ w.heap.size) (hnp : szProg p ≤ 1048576) (hne : szEng x ≤ 1048576) (n : Int) :
    Calls Tryz.prog 19 #[.agg vs.toArray, .agg us.toArray, .int .i64 n] w fun e w' => e = .returned (.bool (blocksB p x n)) ∧ Below w.heap.size w w' := by
  have HK := Lib.hid (fun (W : World) (hW : Below w.heap.size w W) => l11Asked_any (layProg.keep hp fun k hk => hW.block k (by omega)) (layEng.keep he fun k hk => hW.block k (by omega)) (Nat.le_trans hhi hW.size) hnp hne n)
  have HI9 := Lib.hid (fun (hat : 0 ≤ (gorAt x n).fPc ∧ (gorAt x n).fPc < instrsZ p (gorAt x n).fProc) (d : DGor) (hd : gorAt x n = d) (W : World) (hW : Below w.heap.size w W) (gs : List Value) (hi9 : Nat) (hg : layGor.see W hi9 d gs) (h9 : hi9 ≤ W.heap.size) => specAt_any (layProg.more (layProg.keep hp fun k hk => hW.block k (by omega)) (Nat.le_trans hhi hW.size)) (layGor.more hg h9) (Nat.le_refl _) hnp (by rw [← hd]; exact hat))
  have HRD := Lib.hid (fun (W : World) (hW : Below w.heap.size w W) (q : Nat) (hq : q < p.fSels.length) => l11Ready_any (layProg.keep hp fun k hk => hW.block k (by omega)) (layEng.keep he fun k hk => hW.block k (by omega)) (Nat.le_trans hhi hW.size) hnp hq)
  have HCS := Lib.hid (fun (W : World) (hW : Below w.heap.size w W) => specCase_any (layEng.keep he fun k hk => hW.block k (by omega)) (Nat.le_trans hhi hW.size))
  obtain ⟨B0, m0, d0, B2, m2, d2, B3, m3, d3, rfl, -, -, ⟨hc2, hm2, s2⟩, -⟩ := seeProg hp
  obtain ⟨A0, n0, c0, A1, n1, c1, A2, n2, c2, rfl, ⟨hc0, hm0, s0⟩, ⟨hc1, hm1, s1⟩, ⟨hc9, hm9, s9⟩⟩ := seeEng he
  have HS0 := Lib.hid s0
  have HS2 := Lib.hid s2
  have HS9 := Lib.hid s9
  have HL0 := Lib.hid s0.1
  have HL2 := Lib.hid s2.1
  have HL9 := Lib.hid s9.1
  have hP0 := box_new w #[.slice B0 m0 d0, .int .i64 p.fMus, .slice B2 m2 d2, .slice B3 m3 d3] 38
  have hP0 := box_keep hP0 ((Below.refl _ _).alloc (Nat.le_refl _) (.cells #[.slice A0 n0 c0, .slice A1 n1 c1, .slice A2 n2 c2] 44)) (by simp only [World.size_alloc]; omega)
  have hE0 := box_new (w.alloc (.cells #[.slice B0 m0 d0, .int .i64 p.fMus, .slice B2 m2 d2, .slice B3 m3 d3] 38)) #[.slice A0 n0 c0, .slice A1 n1 c1, .slice A2 n2 c2] 44
  simp only [World.size_alloc, Nat.add_assoc, Nat.reduceAdd] at hE0
  have hB0 : Below w.heap.size w ((w.alloc (.cells #[.slice B0 m0 d0, .int .i64 p.fMus, .slice B2 m2 d2, .slice B3 m3 d3] 38)).alloc (.cells #[.slice A0 n0 c0, .slice A1 n1 c1, .slice A2 n2 c2] 44)) := ((Below.refl _ _).alloc (Nat.le_refl _) _).alloc (by simp only [World.size_alloc]; omega) _
  have hz0 : w.heap.size + 2 ≤ ((w.alloc (.cells #[.slice B0 m0 d0, .int .i64 p.fMus, .slice B2 m2 d2, .slice B3 m3 d3] 38)).alloc (.cells #[.slice A0 n0 c0, .slice A1 n1 c1, .slice A2 n2 c2] 44)).heap.size := by simp only [World.size_alloc]; omega
  have pe0 := box_cell (j := 0) hE0 rfl
  have pe1 := box_cell (j := 1) hE0 rfl
  have pe2 := box_cell (j := 2) hE0 rfl
  have pp0 := box_cell (j := 0) hP0 rfl
  have pp1 := box_cell (j := 1) hP0 rfl
  have pp2 := box_cell (j := 2) hP0 rfl
  have pp3 := box_cell (j := 3) hP0 rfl
  have HE0 := Lib.hid hE0
  have HP0 := Lib.hid hP0
  have HB0 := Lib.hid hB0
  clear hp he s0 s1 s2 s9 hP0 hE0 hB0
  go_enter Tryz.func19, Tryz.ntmps19
  go_upto_region 1 with (fail)
  generalize ((w.alloc (.cells #[.slice B0 m0 d0, .int .i64 p.fMus, .slice B2 m2 d2, .slice B3 m3 d3] 38)).alloc (.cells #[.slice A0 n0 c0, .slice A1 n1 c1, .slice A2 n2 c2] 44)) = W0 at *
  go_wp2_with fail
  refine (HK.out _ HB0.out).mono ?_
  rintro e w1 ⟨rfl, hb1⟩
  have hz1 := hb1.size
  have HB1 := Lib.hid (HB0.out.trans (hb1.mono (by omega)))
  have HP1 := Lib.hid (box_keep HP0.out hb1 (by omega))
  have HE1 := Lib.hid (box_keep HE0.out hb1 (by omega))
  clear pe0 pe1 pe2 pp0 pp1 pp2 pp3 hb1 HK HP0 HE0 HB0
  cases ha : askB p x n
  · have HR0 := Lib.hid (show blocksB p x n = false by unfold blocksB; rw [ha]; rfl)
    clear ha
    go_wp2_with fail
    go_ret
    exact ⟨by rw [HR0.out] <;> rfl, HB1.out⟩
  have HR := Lib.hid (show blocksB p x n = !goB p x (insAt p x n) n by unfold blocksB; rw [ha]; rfl)
  have HQ := ask_parts ha
  have HQP := Lib.hid HQ
  obtain ⟨q, rfl⟩ := Int.eq_ofNat_of_zero_le HQ.n0
  have hq : q < n0 := by have := HQ.n1; rw [HL0.out] at this; omega
  have hnm := at_names HQ.prog HQ.at_
  have HI8 := Lib.hid (HI9.out HQ.at_)
  clear HQ HI9
  obtain ⟨hx, g, o, ws, rfl, hg, hsee, hcell⟩ := (HS0.out.below HB1.out hhi).at_ hq
  have hga : gorAt x (q : Int) = x.fGs[q] := gorAt_get hx
  have hsw := fun (W : World) (hW : Below w1.heap.size w1 W) => layGor.keep hsee (w' := W) fun k hk => hW.block k (by have := HB1.out.size; omega)
  generalize x.fGs[q] = d at *
  obtain ⟨E2, k2, e2, E4, k4, e4, rfl, -⟩ := seeGor hsee
  have cc0 := hcell 0 _ rfl
  have cc1 := hcell 1 _ rfl
  have cc2 := hcell 2 _ rfl
  have cc3 := hcell 3 _ rfl
  have cc4 := hcell 4 _ rfl
  simp only [show layGor.size = 5 from rfl, ← Nat.add_assoc, Nat.add_zero, Nat.mul_one] at cc0 cc1 cc2 cc3 cc4
  have HCC0 := Lib.hid cc0
  have HCC1 := Lib.hid cc1
  have HCC2 := Lib.hid cc2
  have HCC3 := Lib.hid cc3
  have HCC4 := Lib.hid cc4
  have HI7 := Lib.hid (fun (W : World) (hW : Below w1.heap.size w1 W) => HI8.out d hga W (HB1.out.trans (hW.mono HB1.out.size)) _ hi (hsw W hW) (by have := HB1.out.size; have := hW.size; omega))
  have hin : insAt p x (q : Int) = atI p d := by unfold insAt; rw [hga]
  rw [show atI p (gorAt x (q : Int)) = atI p d by rw [hga]] at hnm
  clear cc0 cc1 cc2 cc3 cc4 hcell hsee hsw hga HS0 HI8
  generalize atI p d = ins at *
  obtain ⟨io, ia, ib, ic⟩ := ins
  simp only at HI7 hnm
  have HI := HI7
  clear HI7
  have HNM := Lib.hid hnm
  have HIN := Lib.hid hin
  clear hnm hin
  have hi0 : (0 : Int) ≤ (q : Int) := by omega
  have hi1 : (q : Int) < (n0 : Int) := by omega
  go_upto_region 3 with (fail)
  clear ha
  refine wp_region_inv (fun AC0 L a W => ∃ sl14 sl15 sl16 sl17 sl18 sl19 sl20 sl7 : Value, a = ((((((((AC0.put (some 14) sl14).put (some 15) sl15).put (some 16) sl16).put (some 17) sl17).put (some 18) sl18).put (some 19) sl19).put (some 20) sl20).put (some 7) sl7) ∧ Below w1.heap.size w1 W ∧ ((¬ L 8 ∧ (L 0 → sl14 = (.agg #[.slice B0 m0 d0, .int .i64 p.fMus, .slice B2 m2 d2, .slice B3 m3 d3])) ∧ (L 1 → sl15 = (.pointer (some ⟨w.heap.size + 1, 0, none⟩))) ∧ (L 2 → sl16 = (.slice (some ⟨g, o, none⟩) n0 c0)) ∧ (L 3 → sl17 = (.int .i64 (q : Int))) ∧ (L 4 → sl18 = (.pointer (some ⟨g, o + q * 5, none⟩))) ∧ (L 5 → sl19 = (.agg #[.int .i64 d.fProc, .int .i64 d.fPc, .slice E2 k2 e2, .int .i64 d.fState, .slice E4 k4 e4])) ∧ (L 6 → sl20 = (.agg #[.int .i64 io, .int .i64 ia, .int .i64 ib, .int .i64 ic])) ∧ (L 7 → BoxAt 61 [.int .i64 0, .int .i64 0, .int .i64 0, .int .i64 0] w1.heap.size W sl7) ∧ BoxLt W sl7) ∨ ((∀ j, j < 9 → L j) ∧ ∃ g9, sl7 = .pointer (some ⟨g9, 0, none⟩) ∧ w1.heap.size ≤ g9 ∧ W.heap[g9]? = some (.cells #[.int .i64 io, .int .i64 ia, .int .i64 ib, .int .i64 ic] 61 (0, 0))))) (by kernel_rfl) (by kernel_rfl) ?_ ?_ ?_
  · exact ⟨undef, undef, undef, undef, undef, undef, undef, undef, by kernel_rfl, Below.drew (Below.refl _ _), .inl ⟨id, fun h => absurd h id, fun h => absurd h id, fun h => absurd h id, fun h => absurd h id, fun h => absurd h id, fun h => absurd h id, fun h => absurd h id, fun h => absurd h id, BoxLt.undef⟩⟩
  · intro Q9; refine InvFrom.cons (fun L a W hI hN hD K hK => ?_) ?_
    · obtain ⟨sl14, sl15, sl16, sl17, sl18, sl19, sl20, sl7, ha, hB, hI⟩ := hI
      subst ha
      have hI := hI.resolve_right (fun h => hN (h.1 0 (by decide)))
      obtain ⟨hn, f0, f1, f2, f3, f4, f5, f6, f7, fL⟩ := hI
      have hz := hB.size
      have pp0 := box_cell (j := 0) (box_keep HP1.out hB (by omega)) rfl
      have pp1 := box_cell (j := 1) (box_keep HP1.out hB (by omega)) rfl
      have pp2 := box_cell (j := 2) (box_keep HP1.out hB (by omega)) rfl
      have pp3 := box_cell (j := 3) (box_keep HP1.out hB (by omega)) rfl
      refine Kept.mk ?_
      simp only [Act.put, pA, pZ, pS]
      go_simp
      refine hK.out _ _ ?_
      exact ⟨(.agg #[.slice B0 m0 d0, .int .i64 p.fMus, .slice B2 m2 d2, .slice B3 m3 d3]), sl15, sl16, sl17, sl18, sl19, sl20, sl7, by kernel_rfl, hB, .inl ⟨fun h => h.elim hn (by decide), fun _ => rfl, nf f1, nf f2, nf f3, nf f4, nf f5, nf f6, nf f7, fL⟩⟩
    refine InvFrom.cons (fun L a W hI hN hD K hK => ?_) ?_
    · obtain ⟨sl14, sl15, sl16, sl17, sl18, sl19, sl20, sl7, ha, hB, hI⟩ := hI
      subst ha
      have hI := hI.resolve_right (fun h => hN (h.1 1 (by decide)))
      obtain ⟨hn, f0, f1, f2, f3, f4, f5, f6, f7, fL⟩ := hI
      have hz := hB.size
      refine Kept.mk ?_
      simp only [Act.put, pA, pZ, pS]
      go_simp
      refine hK.out _ _ ?_
      exact ⟨sl14, (.pointer (some ⟨w.heap.size + 1, 0, none⟩)), sl16, sl17, sl18, sl19, sl20, sl7, by kernel_rfl, hB, .inl ⟨fun h => h.elim hn (by decide), nf f0, fun _ => rfl, nf f2, nf f3, nf f4, nf f5, nf f6, nf f7, fL⟩⟩
    refine InvFrom.cons (fun L a W hI hN hD K hK => ?_) ?_
    · obtain ⟨sl14, sl15, sl16, sl17, sl18, sl19, sl20, sl7, ha, hB, hI⟩ := hI
      subst ha
      have hI := hI.resolve_right (fun h => hN (h.1 2 (by decide)))
      obtain ⟨hn, f0, f1, f2, f3, f4, f5, f6, f7, fL⟩ := hI
      have hz := hB.size
      have d1 := f1 (hD 1 (by kernel_rfl))
      subst d1
      have pe0 := box_cell (j := 0) (box_keep HE1.out hB (by omega)) rfl
      refine Kept.mk ?_
      simp only [Act.put, pA, pZ, pS]
      go_simp
      refine hK.out _ _ ?_
      exact ⟨sl14, (.pointer (some ⟨w.heap.size + 1, 0, none⟩)), (.slice (some ⟨g, o, none⟩) n0 c0), sl17, sl18, sl19, sl20, sl7, by kernel_rfl, hB, .inl ⟨fun h => h.elim hn (by decide), nf f0, nf f1, fun _ => rfl, nf f3, nf f4, nf f5, nf f6, nf f7, fL⟩⟩
    refine InvFrom.cons (fun L a W hI hN hD K hK => ?_) ?_
    · obtain ⟨sl14, sl15, sl16, sl17, sl18, sl19, sl20, sl7, ha, hB, hI⟩ := hI
      subst ha
      have hI := hI.resolve_right (fun h => hN (h.1 3 (by decide)))
      obtain ⟨hn, f0, f1, f2, f3, f4, f5, f6, f7, fL⟩ := hI
      have hz := hB.size
      refine Kept.mk ?_
      simp only [Act.put, pA, pZ, pS]
      go_simp
      refine hK.out _ _ ?_
      exact ⟨sl14, sl15, sl16, (.int .i64 (q : Int)), sl18, sl19, sl20, sl7, by kernel_rfl, hB, .inl ⟨fun h => h.elim hn (by decide), nf f0, nf f1, nf f2, fun _ => rfl, nf f4, nf f5, nf f6, nf f7, fL⟩⟩
    refine InvFrom.cons (fun L a W hI hN hD K hK => ?_) ?_
    · obtain ⟨sl14, sl15, sl16, sl17, sl18, sl19, sl20, sl7, ha, hB, hI⟩ := hI
      subst ha
      have hI := hI.resolve_right (fun h => hN (h.1 4 (by decide)))
      obtain ⟨hn, f0, f1, f2, f3, f4, f5, f6, f7, fL⟩ := hI
      have hz := hB.size
      have d2 := f2 (hD 2 (by kernel_rfl))
      subst d2
      have d3 := f3 (hD 3 (by kernel_rfl))
      subst d3
      refine Kept.mk ?_
      simp only [Act.put, pA, pZ, pS]
      go_simp
      refine hK.out _ _ ?_
      exact ⟨sl14, sl15, (.slice (some ⟨g, o, none⟩) n0 c0), (.int .i64 (q : Int)), (.pointer (some ⟨g, o + q * 5, none⟩)), sl19, sl20, sl7, by kernel_rfl, hB, .inl ⟨fun h => h.elim hn (by decide), nf f0, nf f1, nf f2, nf f3, fun _ => rfl, nf f5, nf f6, nf f7, fL⟩⟩
    refine InvFrom.cons (fun L a W hI hN hD K hK => ?_) ?_
    · obtain ⟨sl14, sl15, sl16, sl17, sl18, sl19, sl20, sl7, ha, hB, hI⟩ := hI
      subst ha
      have hI := hI.resolve_right (fun h => hN (h.1 5 (by decide)))
      obtain ⟨hn, f0, f1, f2, f3, f4, f5, f6, f7, fL⟩ := hI
      have hz := hB.size
      have d4 := f4 (hD 4 (by kernel_rfl))
      subst d4
      have cw0 := cell_up HCC0.out hB
      have cw1 := cell_up HCC1.out hB
      have cw2 := cell_up HCC2.out hB
      have cw3 := cell_up HCC3.out hB
      have cw4 := cell_up HCC4.out hB
      refine Kept.mk ?_
      simp only [Act.put, pA, pZ, pS]
      go_simp
      refine hK.out _ _ ?_
      exact ⟨sl14, sl15, sl16, sl17, (.pointer (some ⟨g, o + q * 5, none⟩)), (.agg #[.int .i64 d.fProc, .int .i64 d.fPc, .slice E2 k2 e2, .int .i64 d.fState, .slice E4 k4 e4]), sl20, sl7, by kernel_rfl, hB, .inl ⟨fun h => h.elim hn (by decide), nf f0, nf f1, nf f2, nf f3, nf f4, fun _ => rfl, nf f6, nf f7, fL⟩⟩
    refine InvFrom.cons (fun L a W hI hN hD K hK => ?_) ?_
    · obtain ⟨sl14, sl15, sl16, sl17, sl18, sl19, sl20, sl7, ha, hB, hI⟩ := hI
      subst ha
      have hI := hI.resolve_right (fun h => hN (h.1 6 (by decide)))
      obtain ⟨hn, f0, f1, f2, f3, f4, f5, f6, f7, fL⟩ := hI
      have hz := hB.size
      have d0 := f0 (hD 0 (by kernel_rfl))
      subst d0
      have d5 := f5 (hD 5 (by kernel_rfl))
      subst d5
      refine kept_c2 rfl 30 _ _ _ rfl (fenters_of' Tryz.func30 (by kernel_rfl) (by kernel_rfl)) (.agg #[.slice B0 m0 d0, .int .i64 p.fMus, .slice B2 m2 d2, .slice B3 m3 d3]) (.agg #[.int .i64 d.fProc, .int .i64 d.fPc, .slice E2 k2 e2, .int .i64 d.fState, .slice E4 k4 e4]) (by kernel_rfl) (by kernel_rfl) (HI.out W hB) ?_
      rintro e W1 ⟨rfl, hb1⟩
      refine ⟨_, rfl, hK.out _ _ ?_⟩
      exact ⟨(.agg #[.slice B0 m0 d0, .int .i64 p.fMus, .slice B2 m2 d2, .slice B3 m3 d3]), sl15, sl16, sl17, sl18, (.agg #[.int .i64 d.fProc, .int .i64 d.fPc, .slice E2 k2 e2, .int .i64 d.fState, .slice E4 k4 e4]), (.agg #[.int .i64 io, .int .i64 ia, .int .i64 ib, .int .i64 ic]), sl7, by kernel_rfl, hB.trans ((hb1.mono (Nat.le_refl _)).mono hz), .inl ⟨fun h => h.elim hn (by decide), nf f0, nf f1, nf f2, nf f3, nf f4, nf f5, fun _ => rfl, fun h => (f7 (nx h)).up (hb1.mono (Nat.le_refl _)), fL.up (hb1.mono (Nat.le_refl _))⟩⟩
    refine InvFrom.cons (fun L a W hI hN hD K hK => ?_) ?_
    · obtain ⟨sl14, sl15, sl16, sl17, sl18, sl19, sl20, sl7, ha, hB, hI⟩ := hI
      subst ha
      have hI := hI.resolve_right (fun h => hN (h.1 7 (by decide)))
      obtain ⟨hn, f0, f1, f2, f3, f4, f5, f6, f7, fL⟩ := hI
      have hz := hB.size
      refine Kept.mk ?_
      simp only [Act.put, pA, pZ, pS]
      go_simp
      refine hK.out _ _ ?_
      have hb1 : Below W.heap.size W (W.alloc (.cells #[.int .i64 0, .int .i64 0, .int .i64 0, .int .i64 0] 61)) := (Below.refl _ _).alloc (Nat.le_refl _) _
      exact ⟨sl14, sl15, sl16, sl17, sl18, sl19, sl20, (.pointer (some ⟨W.heap.size, 0, none⟩)), by kernel_rfl, hB.trans (hb1.mono hz), .inl ⟨fun h => h.elim hn (by decide), nf f0, nf f1, nf f2, nf f3, nf f4, nf f5, nf f6, fun _ => BoxAt.new hz, BoxLt.new⟩⟩
    refine InvFrom.cons (fun L a W hI hN hD K hK => ?_) ?_
    · obtain ⟨sl14, sl15, sl16, sl17, sl18, sl19, sl20, sl7, ha, hB, hI⟩ := hI
      subst ha
      have hI := hI.resolve_right (fun h => hN (h.1 8 (by decide)))
      obtain ⟨hn, f0, f1, f2, f3, f4, f5, f6, f7, fL⟩ := hI
      have hz := hB.size
      have d6 := f6 (hD 6 (by kernel_rfl))
      subst d6
      have d7 := f7 (hD 7 (by kernel_rfl))
      obtain ⟨b5, rfl, hb51, hb52, hbz⟩ := d7
      have zc0 := box_cell (j := 0) hbz rfl
      have zc1 := box_cell (j := 1) hbz rfl
      have zc2 := box_cell (j := 2) hbz rfl
      have zc3 := box_cell (j := 3) hbz rfl
      have zf0 := box_free hbz 0
      have zf1 := box_free hbz 1
      have zf2 := box_free hbz 2
      have zf3 := box_free hbz 3
      refine Kept.mk ?_
      simp only [Act.put, pA, pZ, pS]
      go_simp
      have hall : ∀ j, j < 9 → (L j ∨ j = 8) := by
        intro j hj
        have hj2 : j = 0 ∨ j = 1 ∨ j = 2 ∨ j = 3 ∨ j = 4 ∨ j = 5 ∨ j = 6 ∨ j = 7 ∨ j = 8 := by omega
        rcases hj2 with rfl | rfl | rfl | rfl | rfl | rfl | rfl | rfl | rfl
        all_goals first | exact .inr rfl | exact .inl (hD _ (by kernel_rfl))
      have hpw : putCells W b5 0 [.int .i64 io, .int .i64 ia, .int .i64 ib, .int .i64 ic] = ((((W.setCell ⟨b5, 0, none⟩ (.int .i64 io)).setCell ⟨b5, 1, none⟩ (.int .i64 ia)).setCell ⟨b5, 2, none⟩ (.int .i64 ib)).setCell ⟨b5, 3, none⟩ (.int .i64 ic)) := rfl
      have hA9 := (show w1.heap.size ≤ b5 ∧ (putCells W b5 0 [.int .i64 io, .int .i64 ia, .int .i64 ib, .int .i64 ic]).heap[b5]? = some (.cells #[.int .i64 io, .int .i64 ia, .int .i64 ib, .int .i64 ic] 61 (0, 0)) from ⟨hb51, putI4 hbz⟩)
      have hB9 : Below w1.heap.size w1 (putCells W b5 0 [.int .i64 io, .int .i64 ia, .int .i64 ib, .int .i64 ic]) := putCells_below _ _ _ _ hB hb51
      rw [← hpw]
      clear hpw
      generalize putCells W b5 0 [.int .i64 io, .int .i64 ia, .int .i64 ib, .int .i64 ic] = W9 at hA9 hB9 ⊢
      refine hK.out _ _ ?_
      exact ⟨sl14, sl15, sl16, sl17, sl18, sl19, (.agg #[.int .i64 io, .int .i64 ia, .int .i64 ib, .int .i64 ic]), (.pointer (some ⟨b5, 0, none⟩)), by kernel_rfl, hB9, .inr ⟨hall, b5, rfl, hA9⟩⟩
    exact InvFrom.nil
  intro L a w4 hL hI
  obtain ⟨sl14, sl15, sl16, sl17, sl18, sl19, sl20, sl7, ha, hbw4, hI⟩ := hI
  subst ha
  have hfin := (hI.resolve_left (fun h => h.1 (hL 8 (by decide)))).2
  obtain ⟨bi, rfl, hbi, hbx⟩ := hfin
  clear hL hI
  refine Kept.mk ?_
  simp only [Act.put, pA, pZ, pS]
  have hz4 := hbw4.size
  have HB4 := Lib.hid (HB1.out.trans (hbw4.mono (by omega)))
  have HP4 := Lib.hid (box_keep HP1.out hbw4 (by omega))
  have HE4 := Lib.hid (box_keep HE1.out hbw4 (by omega))
  have HX4 := Lib.hid hbx
  have zi0 := box_cell (j := 0) hbx rfl
  have zi1 := box_cell (j := 1) hbx rfl
  have zi2 := box_cell (j := 2) hbx rfl
  have zi3 := box_cell (j := 3) hbx rfl
  have hbi4 := lt_of_block hbx
  clear hbw4 hbx HP1 HE1 HI
  clear HCC0
  clear HCC1
  clear HCC2
  clear HCC3
  clear HCC4
  rw [HIN.out] at HR
  by_cases h8 : io = 8
  · subst h8
    have HRW := Lib.hid (show blocksB p x (q : Int) = !canB x ⟨true, ia, 0, 0, 0⟩ from by rw [HR.out]; rfl)
    have HCW := Lib.hid (fun (W : World) (hW : Below w.heap.size w W) => HCS.out W hW true ia 0 0 0)
    generalize canB x ⟨true, ia, 0, 0, 0⟩ = rb at *
    clear HCS HRD HNM HR HIN
    have pe0 := box_cell (j := 0) HE4.out rfl
    have pe1 := box_cell (j := 1) HE4.out rfl
    have pe2 := box_cell (j := 2) HE4.out rfl
    go_wp2_with fail
    refine (HCW.out _ HB4.out).mono ?_
    rintro e w5 ⟨rfl, hb5⟩
    go_wp2_with fail
    go_ret
    exact ⟨by rw [HRW.out] <;> rfl, HB4.out.trans (hb5.mono HB4.out.size)⟩
  by_cases h9 : io = 9
  · subst h9
    have HRW := Lib.hid (show blocksB p x (q : Int) = !canB x ⟨false, ia, 0, 0, 0⟩ from by rw [HR.out]; rfl)
    have HCW := Lib.hid (fun (W : World) (hW : Below w.heap.size w W) => HCS.out W hW false ia 0 0 0)
    generalize canB x ⟨false, ia, 0, 0, 0⟩ = rb at *
    clear HCS HRD HNM HR HIN
    have pe0 := box_cell (j := 0) HE4.out rfl
    have pe1 := box_cell (j := 1) HE4.out rfl
    have pe2 := box_cell (j := 2) HE4.out rfl
    go_wp2_with fail
    refine (HCW.out _ HB4.out).mono ?_
    rintro e w5 ⟨rfl, hb5⟩
    go_wp2_with fail
    go_ret
    exact ⟨by rw [HRW.out] <;> rfl, HB4.out.trans (hb5.mono HB4.out.size)⟩
  by_cases h12 : io = 12
  · subst h12
    obtain ⟨ha0, ha1⟩ := HNM.out.2.2.2 rfl
    obtain ⟨hl, hlo, qa, hqa, hqe, how⟩ := owner_low HQP.out.eng ha0 ha1
    subst hqe
    have HRW := Lib.hid (show blocksB p x (q : Int) = !(decide (ownerAt x (qa : Int) = -1) || decide (ownerAt x (qa : Int) = (q : Int))) from by rw [HR.out]; rfl)
    rw [how] at HRW hlo
    obtain ⟨hx2, g2, o2, ts, rfl, hg2, hsee2, hcell2⟩ := (HS9.out.below HB4.out hhi).at_ (show qa < n2 by rw [← HL9.out]; exact hqa)
    generalize x.fMus[qa] = mu at *
    obtain ⟨D1, j1, f1, rfl, -⟩ := seeMutex hsee2
    have mc0 := hcell2 0 _ rfl
    simp only [show layMutex.size = 2 from rfl, ← Nat.add_assoc, Nat.add_zero, Nat.mul_one] at mc0
    have hi2 : (0 : Int) ≤ (qa : Int) := by omega
    have hi3 : (qa : Int) < (n2 : Int) := by have := HL9.out; omega
    have pe0 := box_cell (j := 0) HE4.out rfl
    have pe1 := box_cell (j := 1) HE4.out rfl
    have pe2 := box_cell (j := 2) HE4.out rfl
    obtain ⟨mo, mw⟩ := mu
    simp only at mc0 hlo HRW
    clear HCS HRD HNM HR HIN hcell2 hsee2 how hl ha0 ha1 HS9
    by_cases hm : mo = -1
    · subst hm
      go_wp2_with fail
      go_ret
      exact ⟨by rw [HRW.out]; simp, HB4.out⟩
    have hm0 : 0 ≤ mo := by omega
    by_cases hmq : mo = (q : Int)
    · subst hmq
      go_wp2_with fail
      go_ret
      exact ⟨by rw [HRW.out]; simp, HB4.out⟩
    have h9 : (mo != (q : Int)) = true := by simp [hmq]
    have HRX := Lib.hid (show blocksB p x (q : Int) = true by rw [HRW.out, decide_eq_false hm, decide_eq_false hmq]; rfl)
    clear hmq hm HRW
    go_wp2_with fail
    go_ret
    exact ⟨by rw [HRX.out] <;> rfl, HB4.out⟩
  by_cases h11 : io = 11
  · subst h11
    obtain ⟨⟨ha0, ha1⟩, hel, -⟩ := HNM.out.2.2.1 rfl
    obtain ⟨qa, rfl⟩ := Int.eq_ofNat_of_zero_le ha0
    have hqa : qa < p.fSels.length := by omega
    have hsl : selI p ⟨11, (qa : Int), ib, ic⟩ = p.fSels[qa] := by unfold selI; simp only [Int.toNat_natCast]; rw [List.getElem?_eq_getElem hqa, Option.getD_some]
    rw [hsl] at hel
    have HRW := Lib.hid (show blocksB p x (q : Int) = !(decide ((p.fSels[qa]).fElse ≠ -1) || decide (0 < (rdyL x (p.fSels[qa]).fCases).length)) from by rw [HR.out, ← hsl]; rfl)
    have HRY := Lib.hid (fun (W : World) (hW : Below w.heap.size w W) => HRD.out W hW qa hqa)
    have hrl : (rdyL x (p.fSels[qa]).fCases).length ≤ 4 := by have h8 := rdyL_len HQP.out; rw [HIN.out, show csAt p ⟨11, (qa : Int), ib, ic⟩ = (p.fSels[qa]).fCases by unfold csAt; rw [if_pos rfl, hsl]] at h8; exact h8
    have hqm : qa < m2 := by have := HL2.out; omega
    have hsee9 := fun (W : World) (hW : Below w.heap.size w W) => (HS2.out.below hW hhi).at_ hqm
    have HSE := Lib.hid hsee9
    obtain ⟨hx2, g2, o2, ts, rfl, hg2, hsee2, hcell2⟩ := HSE.out _ HB4.out
    have hhh : ∀ (W : World), Below w4.heap.size w4 W → ∀ j u, ts[j]? = some u → W.cell? ⟨g2, o2 + (qa * laySelect.size + j), none⟩ = some u := fun W hW j u hu => cell_up (hcell2 j u hu) hW
    generalize p.fSels[qa] = s at *
    obtain ⟨C0, l0, f0, rfl, -⟩ := seeSelect hsee2
    have HCE := Lib.hid (fun (W : World) (hW : Below w4.heap.size w4 W) => show W.cell? ⟨g2, o2 + qa * 2 + 1, none⟩ = some (.int .i64 s.fElse) from by have h7 := hhh W hW 1 _ rfl; rw [show o2 + (qa * laySelect.size + 1) = o2 + qa * 2 + 1 from by rw [show laySelect.size = 2 from rfl]; omega] at h7; exact h7)
    generalize rdyL x s.fCases = r at *
    generalize s.fElse = el at *
    have hi2 : (0 : Int) ≤ (qa : Int) := by omega
    have hi3 : (qa : Int) < (m2 : Int) := by omega
    clear HSE hsee9 hhh hsee2 hcell2 HS2 HRD HCS HNM HR HIN hsl ha0 ha1 hqa
    have pp0 := box_cell (j := 0) HP4.out rfl
    have pp1 := box_cell (j := 1) HP4.out rfl
    have pp2 := box_cell (j := 2) HP4.out rfl
    have pp3 := box_cell (j := 3) HP4.out rfl
    have pe0 := box_cell (j := 0) HE4.out rfl
    have pe1 := box_cell (j := 1) HE4.out rfl
    have pe2 := box_cell (j := 2) HE4.out rfl
    go_wp2_with fail
    refine (HRY.out _ HB4.out).mono ?_
    rintro e w5 ⟨A, c, rfl, -, hb5⟩
    have hz5 := hb5.size
    have HB5 := Lib.hid (HB4.out.trans (hb5.mono HB4.out.size))
    have ce := HCE.out _ hb5
    have HX5 := Lib.hid (box_keep HX4.out hb5 hbi4)
    have HP5 := Lib.hid (box_keep HP4.out hb5 (by omega))
    clear pp0 pp1 pp2 pp3 pe0 pe1 pe2 zi0 zi1 zi2 zi3 hb5 HCE HRY HX4 HP4 HE4
    have zi0 := box_cell (j := 0) HX5.out rfl
    have zi1 := box_cell (j := 1) HX5.out rfl
    have zi2 := box_cell (j := 2) HX5.out rfl
    have zi3 := box_cell (j := 3) HX5.out rfl
    have pp0 := box_cell (j := 0) HP5.out rfl
    have pp1 := box_cell (j := 1) HP5.out rfl
    have pp2 := box_cell (j := 2) HP5.out rfl
    have pp3 := box_cell (j := 3) HP5.out rfl
    rcases Nat.eq_zero_or_pos r.length with hr | hr
    · have HRX := Lib.hid (show blocksB p x (q : Int) = !decide (el ≠ -1) by rw [HRW.out, hr]; simp)
      have hrr : ((r.length : Int) == 0) = true := by simp [hr]
      clear hr HRW
      by_cases hel2 : el < 0
      · have HRZ := Lib.hid (show blocksB p x (q : Int) = true by rw [HRX.out]; simp; omega)
        go_wp2_with fail
        go_ret
        exact ⟨by rw [HRZ.out] <;> rfl, HB5.out⟩
      · have HRZ := Lib.hid (show blocksB p x (q : Int) = false by rw [HRX.out]; simp; omega)
        have h9 : decide (el < 0) = false := decide_eq_false hel2
        clear hel2
        go_wp2_with fail
        go_ret
        exact ⟨by rw [HRZ.out] <;> rfl, HB5.out⟩
    · have HRX := Lib.hid (show blocksB p x (q : Int) = false by rw [HRW.out, decide_eq_true hr]; simp)
      have hrr : ((r.length : Int) == 0) = false := by have hr9 : ¬ (r.length : Int) = 0 := (by omega); simp only [beq_eq_false_iff_ne, ne_eq]; exact hr9
      clear hr HRW
      go_wp2_with fail
      go_ret
      exact ⟨by rw [HRX.out] <;> rfl, HB5.out⟩
  have q8 : (io == 8) = false := by simp [h8]
  have q9 : (io == 9) = false := by simp [h9]
  have q12 : (io == 12) = false := by simp [h12]
  have q11 : (io == 11) = false := by simp [h11]
  have HRW := Lib.hid (show blocksB p x (q : Int) = false by rw [HR.out]; unfold goB; rw [if_neg (fun h => h.elim h8 h9), if_neg h11, if_neg h12]; rfl)
  clear h8 h9 h11 h12 HR HCS HRD HNM HIN
  go_wp2_with fail
  go_ret
  exact ⟨by rw [HRW.out] <;> rfl, HB4.out⟩

set_option maxRecDepth 100000 in
set_option maxHeartbeats 4000000 in
theorem specChoices_any {w : World} {hi : Nat} {p : DProg} {x : DEng} {vs us : List Value} (hp : layProg.see w hi p vs) (he : layEng.see w hi x us) (hhi : hi ≤ w.heap.size) (hnp : szProg p ≤ 1048576) (hne : szEng x ≤ 1048576) (n : Int) :
    Calls Tryz.prog 21 #[.agg vs.toArray, .agg us.toArray, .int .i64 n] w fun e w' => e = .returned (.int .i64 (choicesZ p x n)) ∧ Below w.heap.size w w' := by
  have HK := Lib.hid (fun (W : World) (hW : Below w.heap.size w W) => l11Asked_any (layProg.keep hp fun k hk => hW.block k (by omega)) (layEng.keep he fun k hk => hW.block k (by omega)) (Nat.le_trans hhi hW.size) hnp hne n)
  have HRC := Lib.hid (fun (W : World) (hW : Below w.heap.size w W) => specReadyCases_any (layProg.keep hp fun k hk => hW.block k (by omega)) (layEng.keep he fun k hk => hW.block k (by omega)) (Nat.le_trans hhi hW.size) hnp hne n)
  obtain ⟨B0, m0, d0, B2, m2, d2, B3, m3, d3, rfl, -⟩ := seeProg hp
  obtain ⟨A0, n0, c0, A1, n1, c1, A2, n2, c2, rfl, -⟩ := seeEng he
  have hP0 := box_new w #[.slice B0 m0 d0, .int .i64 p.fMus, .slice B2 m2 d2, .slice B3 m3 d3] 38
  have hP0 := box_keep hP0 ((Below.refl _ _).alloc (Nat.le_refl _) (.cells #[.slice A0 n0 c0, .slice A1 n1 c1, .slice A2 n2 c2] 44)) (by simp only [World.size_alloc]; omega)
  have hE0 := box_new (w.alloc (.cells #[.slice B0 m0 d0, .int .i64 p.fMus, .slice B2 m2 d2, .slice B3 m3 d3] 38)) #[.slice A0 n0 c0, .slice A1 n1 c1, .slice A2 n2 c2] 44
  simp only [World.size_alloc, Nat.add_assoc, Nat.reduceAdd] at hE0
  have hB0 : Below w.heap.size w ((w.alloc (.cells #[.slice B0 m0 d0, .int .i64 p.fMus, .slice B2 m2 d2, .slice B3 m3 d3] 38)).alloc (.cells #[.slice A0 n0 c0, .slice A1 n1 c1, .slice A2 n2 c2] 44)) := ((Below.refl _ _).alloc (Nat.le_refl _) _).alloc (by simp only [World.size_alloc]; omega) _
  have hz0 : w.heap.size + 2 ≤ ((w.alloc (.cells #[.slice B0 m0 d0, .int .i64 p.fMus, .slice B2 m2 d2, .slice B3 m3 d3] 38)).alloc (.cells #[.slice A0 n0 c0, .slice A1 n1 c1, .slice A2 n2 c2] 44)).heap.size := by simp only [World.size_alloc]; omega
  have pe0 := box_cell (j := 0) hE0 rfl
  have pe1 := box_cell (j := 1) hE0 rfl
  have pe2 := box_cell (j := 2) hE0 rfl
  have pp0 := box_cell (j := 0) hP0 rfl
  have pp1 := box_cell (j := 1) hP0 rfl
  have pp2 := box_cell (j := 2) hP0 rfl
  have pp3 := box_cell (j := 3) hP0 rfl
  have HE0 := Lib.hid hE0
  have HP0 := Lib.hid hP0
  have HB0 := Lib.hid hB0
  clear hp he hP0 hE0 hB0
  go_enter Tryz.func21, Tryz.ntmps21
  go_upto_region 1 with (fail)
  generalize ((w.alloc (.cells #[.slice B0 m0 d0, .int .i64 p.fMus, .slice B2 m2 d2, .slice B3 m3 d3] 38)).alloc (.cells #[.slice A0 n0 c0, .slice A1 n1 c1, .slice A2 n2 c2] 44)) = W0 at *
  go_wp2_with fail
  refine (HK.out _ HB0.out).mono ?_
  rintro e w1 ⟨rfl, hb1⟩
  have hz1 := hb1.size
  have HB1 := Lib.hid (HB0.out.trans (hb1.mono (by omega)))
  clear pe0 pe1 pe2 pp0 pp1 pp2 pp3 HK
  have pp0 := box_cell (j := 0) (box_keep HP0.out hb1 (by omega)) rfl
  have pp1 := box_cell (j := 1) (box_keep HP0.out hb1 (by omega)) rfl
  have pp2 := box_cell (j := 2) (box_keep HP0.out hb1 (by omega)) rfl
  have pp3 := box_cell (j := 3) (box_keep HP0.out hb1 (by omega)) rfl
  have pe0 := box_cell (j := 0) (box_keep HE0.out hb1 (by omega)) rfl
  have pe1 := box_cell (j := 1) (box_keep HE0.out hb1 (by omega)) rfl
  have pe2 := box_cell (j := 2) (box_keep HE0.out hb1 (by omega)) rfl
  clear hb1 HP0 HE0 HB0
  cases ha : askB p x n
  · have HR0 := Lib.hid (show choicesZ p x n = 0 by unfold choicesZ; rw [if_neg (by rw [ha]; simp)])
    clear ha HRC
    go_wp2_with fail
    go_ret
    exact ⟨by rw [HR0.out] <;> rfl, HB1.out⟩
  have HR := Lib.hid (show choicesZ p x n = max 1 ((readyCasesL p x n).length : Int) by unfold choicesZ readyCasesL; rw [if_pos ha, if_pos ha])
  have hrl := readyCasesL_len p x n
  generalize readyCasesL p x n = r at *
  clear ha
  go_wp2_with fail
  refine (HRC.out _ HB1.out).mono ?_
  rintro e w2 ⟨A, c, rfl, -, hb2⟩
  have HB2 := Lib.hid (HB1.out.trans (hb2.mono HB1.out.size))
  clear pp0 pp1 pp2 pp3 pe0 pe1 pe2 hb2 HRC
  rcases Nat.eq_zero_or_pos r.length with hr | hr
  · have HRX := Lib.hid (show choicesZ p x n = 1 by rw [HR.out, hr]; rfl)
    have hrr : ((r.length : Int) == 0) = true := by simp [hr]
    clear hr HR
    go_wp2_with fail
    go_ret
    exact ⟨by rw [HRX.out] <;> rfl, HB2.out⟩
  · have HRX := Lib.hid (show choicesZ p x n = (r.length : Int) by rw [HR.out]; omega)
    have hrr : ((r.length : Int) == 0) = false := by have hr9 : ¬ (r.length : Int) = 0 := (by omega); simp only [beq_eq_false_iff_ne, ne_eq]; exact hr9
    clear hr HR
    go_wp2_with fail
    go_ret
    exact ⟨by rw [HRX.out] <;> rfl, HB2.out⟩
end Go.Proofs.YtghkdkagnibkgaaGreatDoor
