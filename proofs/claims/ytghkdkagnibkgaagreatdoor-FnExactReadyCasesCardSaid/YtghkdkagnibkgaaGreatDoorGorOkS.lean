
/- l08Ok, GorOk: the model's. Laid by wip/gen8/l08ok.py. -/

import Derived.Test.YtghkdkagnibkgaaGreatDoorGTrace

import Derived.Test.YtghkdkagnibkgaaGreatDoorInstrs

import Derived.Test.YtghkdkagnibkgaaGreatDoorOkProgS

namespace Go.Proofs.YtghkdkagnibkgaaGreatDoor
set_option linter.unusedSimpArgs false
set_option linter.unusedVariables false
open Go.RowKit

set_option maxRecDepth 100000 in
set_option maxHeartbeats 4000000 in
theorem l08Ok_any {w : World} {hi : Nat} {p : DProg} {g : DGor} {vs us : List Value} (hp : layProg.see w hi p vs) (hg : layGor.see w hi g us) (hhi : hi ≤ w.heap.size) (hnp : szProg p ≤ 1048576) (hng : szGor g ≤ 1048576) :
    Calls Tryz.prog 89 #[.agg vs.toArray, .agg us.toArray] w fun e w' => e = .returned (.bool (gorB (instrsZ p g.fProc) g)) ∧ Below w.heap.size w w' := by
  have HI := Lib.hid (fun (W : World) (hW : Below w.heap.size w W) (q : Int) => specInstrs_any (q := q) (layProg.keep hp fun k hk => hW.block k (by omega)) (Nat.le_trans hhi hW.size) hnp)
  have HT := Lib.hid (fun (W : World) (hW : Below w.heap.size w W) => l08Trace_any (layGor.keep hg fun k hk => hW.block k (by omega)) (Nat.le_trans hhi hW.size) hng)
  obtain ⟨A0, n0, c0, B2, m2, d2, A3, n3, c3, rfl, -⟩ := seeProg hp
  obtain ⟨A2, n2, c2, A4, n4, c4, rfl, -, -, ⟨hc2, hm2, s2⟩, -, ⟨hc4, hm4, -⟩⟩ := seeGor hg
  obtain ⟨pr, pc, regs, st, tr⟩ := g
  have hn2 : n2 ≤ 1048576 := by have := s2.1; unfold szGor at hng; simp at hng this; omega
  simp only at s2 HT ⊢
  have HL := Lib.hid s2.1
  clear hp hg hnp hng
  have hB0 : Below w.heap.size w ((w.alloc (.cells #[.slice A0 n0 c0, .int .i64 p.fMus, .slice B2 m2 d2, .slice A3 n3 c3] 38)).alloc (.cells #[.int .i64 pr, .int .i64 pc, .slice A2 n2 c2, .int .i64 st, .slice A4 n4 c4] 65)) := ((Below.refl _ _).alloc (Nat.le_refl _) _).alloc (by simp) _
  have hP0 := box_keep (box_new w #[.slice A0 n0 c0, .int .i64 p.fMus, .slice B2 m2 d2, .slice A3 n3 c3] 38) ((Below.refl _ _).alloc (Nat.le_refl _) (.cells #[.int .i64 pr, .int .i64 pc, .slice A2 n2 c2, .int .i64 st, .slice A4 n4 c4] 65)) (by simp)
  have hG0 := box_new (w.alloc (.cells #[.slice A0 n0 c0, .int .i64 p.fMus, .slice B2 m2 d2, .slice A3 n3 c3] 38)) #[.int .i64 pr, .int .i64 pc, .slice A2 n2 c2, .int .i64 st, .slice A4 n4 c4] 65
  rw [World.size_alloc] at hG0
  have hz0 : w.heap.size + 2 ≤ ((w.alloc (.cells #[.slice A0 n0 c0, .int .i64 p.fMus, .slice B2 m2 d2, .slice A3 n3 c3] 38)).alloc (.cells #[.int .i64 pr, .int .i64 pc, .slice A2 n2 c2, .int .i64 st, .slice A4 n4 c4] 65)).heap.size := by simp
  obtain ⟨R, hR⟩ : ∃ R, R = gorB (instrsZ p pr) ⟨pr, pc, regs, st, tr⟩ := ⟨_, rfl⟩
  rw [← hR]
  unfold gorB at hR
  simp only at hR
  have HR := Lib.hid hR
  clear hR
  go_enter Tryz.func89, Tryz.ntmps89
  go_upto_region 1 with (fail)
  generalize ((w.alloc (.cells #[.slice A0 n0 c0, .int .i64 p.fMus, .slice B2 m2 d2, .slice A3 n3 c3] 38)).alloc (.cells #[.int .i64 pr, .int .i64 pc, .slice A2 n2 c2, .int .i64 st, .slice A4 n4 c4] 65)) = W0 at *
  have y0 := box_cell (j := 0) hP0 rfl
  have y1 := box_cell (j := 1) hP0 rfl
  have y2 := box_cell (j := 2) hP0 rfl
  have y3 := box_cell (j := 3) hP0 rfl
  have g0 := box_cell (j := 0) hG0 rfl
  have HG0 := Lib.hid hG0
  have HB0 := Lib.hid hB0
  clear hG0 hP0 hB0
  go_wp2_with fail
  refine (HI.out _ HB0.out _).mono ?_
  rintro e w1 ⟨rfl, hb1⟩
  have hz1 := hb1.size
  have hG1 := box_keep HG0.out hb1 (by omega)
  have HB1 := Lib.hid (HB0.out.trans (hb1.mono (by have := HB0.out.size; omega)))
  clear hb1 y0 y1 y2 y3 g0 HI HG0 HB0
  generalize hN : instrsZ p pr = N at *
  clear hN
  have g1 := box_cell (j := 1) hG1 rfl
  have g2 := box_cell (j := 2) hG1 rfl
  have g3 := box_cell (j := 3) hG1 rfl
  have HG1 := Lib.hid hG1
  clear hG1
  have hs2 := s2.below HB1.out hhi
  clear s2
  have HS2 := Lib.hid hs2
  clear hs2
  by_cases q1 : pc < 0
  · go_wp2_with fail
    go_ret
    exact ⟨by rw [HR.out, show decide (0 ≤ pc ∧ pc < N) = false from decide_eq_false (by omega)]; rfl, HB1.out⟩
  have b1 : decide (pc < 0) = false := decide_eq_false q1
  by_cases q2 : pc ≥ N
  · go_wp2_with fail
    go_ret
    exact ⟨by rw [HR.out, show decide (0 ≤ pc ∧ pc < N) = false from decide_eq_false (by omega)]; rfl, HB1.out⟩
  have b2 : decide (pc ≥ N) = false := decide_eq_false q2
  replace HR := Lib.hid (HR.out.trans (by rw [show decide (0 ≤ pc ∧ pc < N) = true from decide_eq_true (by omega)]))
  clear q1 q2
  by_cases q3 : n2 = 6
  · by_cases q4 : st < 1
    · go_wp2_with fail
      go_ret
      exact ⟨by rw [HR.out, show decide (1 ≤ st ∧ st ≤ 4) = false from decide_eq_false (by omega)]; simp, HB1.out⟩
    have b4 : decide (st < 1) = false := decide_eq_false q4
    by_cases q5 : st > 4
    · go_wp2_with fail
      go_ret
      exact ⟨by rw [HR.out, show decide (1 ≤ st ∧ st ≤ 4) = false from decide_eq_false (by omega)]; simp, HB1.out⟩
    have b5 : decide (st > 4) = false := decide_eq_false q5
    have HR2 := Lib.hid (show R = (regs.all okV && trSpec tr st) by rw [HR.out, HL.out, q3, show decide (1 ≤ st ∧ st ≤ 4) = true from decide_eq_true (by omega)]; simp)
    clear q4 q5 HR
    have hn2i : ((n2 : Nat) : Int) = 6 := by omega
    have b6 : ((n2 : Int) != 6) = false := by simp [hn2i]
    clear hn2i q3
    go_wp2_with fail
    clear g1 g2 g3
    go_loopw [40] (fun i wr => ∃ k : Nat, k ≤ n2 ∧ i = .int .i64 k ∧ RowKit.Hid ((regs.take k).all okV = true) ∧ wr = w1) (fun i _ => n2 - (intOf i).toNat)
    case atStart => exact ⟨0, Nat.zero_le _, rfl, Lib.hid (by simp), rfl⟩
    case round =>
      obtain ⟨k, hk, rfl, hm, rfl⟩ := hrel
      by_cases hlt : k < n2
      · obtain ⟨hx, g, o, vs, rfl, hg, ⟨rfl, hw⟩, hcell⟩ := HS2.out.at_ hlt
        have HD := Lib.hid (List.getElem?_eq_getElem hx)
        generalize regs[k] = d at *
        have cc0 := hcell 0 _ rfl
        simp only [show Lay.int.size = 1 from rfl, ← Nat.add_assoc, Nat.add_zero, Nat.mul_one] at cc0
        clear hcell hw
        have hgw : g < wr.heap.size := by omega
        go_wp2_with fail
        refine (l03ValT_any d _).mono ?_
        rintro e w5 ⟨rfl, rfl⟩
        cases hq : okV d
        · have HF := Lib.hid (show R = false by rw [HR2.out, show regs.all okV = false from List.all_eq_false.2 ⟨d, List.mem_of_getElem? HD.out, by simp [hq]⟩]; rfl)
          go_wp2_with fail
          go_ret
          exact ⟨by rw [HF.out]; rfl, HB1.out⟩
        · have HN := Lib.hid (show (regs.take (k + 1)).all okV = true by rw [List.take_add_one, HD.out]; simp only [Option.toList_some, List.all_append, hm.out, List.all_cons, List.all_nil, hq]; rfl)
          go_wp2_with fail
          go_roundw
          case rel => exact ⟨k + 1, by omega, by go_num, HN, trivial⟩
          case measure => simp [intOf]; omega
      · obtain rfl : k = n2 := by omega
        have HF := Lib.hid (show R = trSpec tr st by rw [HR2.out, show regs.all okV = true by (have := hm.out; rwa [List.take_of_length_le (by rw [HL.out]; exact Nat.le_refl _)] at this)]; rfl)
        have x0 := box_cell (j := 0) HG1.out rfl
        have x1 := box_cell (j := 1) HG1.out rfl
        have x2 := box_cell (j := 2) HG1.out rfl
        have x3 := box_cell (j := 3) HG1.out rfl
        have x4 := box_cell (j := 4) HG1.out rfl
        go_wp2_with fail
        refine (HT.out _ HB1.out).mono ?_
        rintro e w6 ⟨rfl, hb6⟩
        have HB6 := Lib.hid (HB1.out.trans (hb6.mono HB1.out.size))
        clear hb6 x0 x1 x2 x3 x4
        go_wp2_with fail
        go_ret
        exact ⟨by rw [HF.out]; rfl, HB6.out⟩
  · have b3 : ((n2 : Int) != 6) = true := by simp; omega
    have HF := Lib.hid (show R = false by rw [HR.out, show decide (regs.length = 6) = false from decide_eq_false (by rw [HL.out]; exact q3)]; simp)
    clear HR
    go_wp2_with fail
    go_ret
    exact ⟨by rw [HF.out]; rfl, HB1.out⟩

end Go.Proofs.YtghkdkagnibkgaaGreatDoor
