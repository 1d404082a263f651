
/- l08Trace: the model's. -/

import Derived.Test.YtgfkadhojlddpaaGreatDoorTraceM

import Derived.Test.YtgfkadhojlddpaaGreatDoorItemS

import Derived.Deep.Cut

namespace Go.Proofs.YtgfkadhojlddpaaGreatDoor
set_option linter.unusedSimpArgs false
set_option linter.unusedVariables false
open Go.RowKit

set_option maxRecDepth 100000 in
set_option maxHeartbeats 4000000 in
theorem l08Trace_any {w : World} {hi : Nat} {x : DGor} {vs : List Value} (h : layGor.see w hi x vs) (hhi : hi ≤ w.heap.size) (hn : szGor x ≤ 1048576) :
    Calls Tryz.prog 117 #[.agg vs.toArray] w fun e w' => e = .returned (.bool (trSpec x.fTrace x.fState)) ∧ Below w.heap.size w w' := by
  obtain ⟨A2, n2, c2, A4, n, c4, rfl, -, -, ⟨hc2, hm2, s2⟩, -, ⟨hc4, hm4, s4⟩⟩ := seeGor h
  obtain ⟨pr, pc, regs, st, tr⟩ := x
  have l4 := s4.1
  simp only at l4 s4
  have hn4 : n ≤ 1048576 := by unfold szGor at hn; simp at hn; omega
  have HL := Lib.hid l4
  clear s2 h hn l4
  simp only
  obtain ⟨AL, hAL⟩ : ∃ AL, AL = allFrom n 0 tr := ⟨_, rfl⟩
  obtain ⟨LK, hLK⟩ : ∃ LK, LK = lastK tr := ⟨_, rfl⟩
  have HR := Lib.hid (show trSpec tr st = (AL && ((decide (LK = 9) == decide (st = 3)) && (decide (LK = 10) == decide (st = 4)))) by rw [hAL, hLK]; unfold trSpec; rw [HL.out])
  obtain ⟨R, hR⟩ : ∃ R, R = trSpec tr st := ⟨_, rfl⟩
  rw [← hR]
  have HRR := Lib.hid (hR.trans HR.out)
  have HAL := Lib.hid hAL
  have HLK := Lib.hid hLK
  clear hAL hLK HR hR
  have hbx := box_new w #[.int .i64 pr, .int .i64 pc, .slice A2 n2 c2, .int .i64 st, .slice A4 n c4] 44
  have HX := Lib.hid hbx
  have HB0 := Lib.hid ((Below.refl w.heap.size w).alloc (Nat.le_refl _) (.cells #[.int .i64 pr, .int .i64 pc, .slice A2 n2 c2, .int .i64 st, .slice A4 n c4] 44))
  have HX0 := Lib.hid (show Below (w.heap.size + 1) (w.alloc (.cells #[.int .i64 pr, .int .i64 pc, .slice A2 n2 c2, .int .i64 st, .slice A4 n c4] 44)) (w.alloc (.cells #[.int .i64 pr, .int .i64 pc, .slice A2 n2 c2, .int .i64 st, .slice A4 n c4] 44)) from Below.refl _ _)
  have hz0 : w.heap.size + 1 ≤ (w.alloc (.cells #[.int .i64 pr, .int .i64 pc, .slice A2 n2 c2, .int .i64 st, .slice A4 n c4] 44)).heap.size := by simp
  have p4 := box_cell (j := 4) hbx rfl
  clear hbx
  go_enter Tryz.func117, Tryz.ntmps117
  go_upto_region 1 with (fail)
  generalize (w.alloc (.cells #[.int .i64 pr, .int .i64 pc, .slice A2 n2 c2, .int .i64 st, .slice A4 n c4] 44)) = W0 at *
  go_wp2_with fail
  clear p4
  go_loopw [10] (fun i wr => ∃ (k : Nat), k ≤ n ∧ i = .int .i64 k ∧ RowKit.Hid (AL = allFrom n k (tr.drop k)) ∧ Below (w.heap.size + 1) W0 wr) (fun i _ => n - (intOf i).toNat)
  case atStart => exact ⟨0, Nat.zero_le _, rfl, Lib.hid (by rw [HAL.out]; rfl), HX0.out⟩
  case round =>
    obtain ⟨k, hk, rfl, hm, hb⟩ := hrel
    have hzr := hb.size
    have hbX := box_keep HX.out hb (by omega)
    by_cases hlt : k < n
    · obtain ⟨hx, g, o, vs, rfl, hg, ⟨rfl, hw⟩, hcell⟩ := (s4.below (HB0.out.trans (hb.mono (by omega))) hhi).at_ hlt
      have HD := Lib.hid (show tr.drop k = tr[k] :: tr.drop (k + 1) from List.drop_eq_getElem_cons hx)
      generalize tr[k] = d at *
      obtain ⟨kd, od, vd, okd⟩ := d
      have HM := Lib.hid (show AL = (okAt n k ⟨kd, od, vd, okd⟩ && allFrom n (k + 1) (tr.drop (k + 1))) by rw [hm.out, HD.out]; rfl)
      have cc0 := hcell 0 _ rfl
      have cc1 := hcell 1 _ rfl
      have cc2 := hcell 2 _ rfl
      have cc3 := hcell 3 _ rfl
      simp only [show layItem.size = 4 from rfl, ← Nat.add_assoc, Nat.add_zero, Nat.mul_one] at cc0 cc1 cc2 cc3
      clear hcell hw hm HD s4
      have HBA := Lib.hid (hb.alloc (by omega) (.cells #[.int .i64 kd, .int .i64 od, .int .i64 vd, .bool okd] 151))
      have hgw : g < wr.heap.size := by omega
      have hxw : w.heap.size < wr.heap.size := by omega
      have px4 := box_cell (j := 4) hbX rfl
      clear hbX
      by_cases h9 : kd = 9
      · subst h9
        go_wp2_with fail
        refine (specItemOk_any (x := ⟨9, od, vd, okd⟩)).mono ?_
        rintro e w1 ⟨rfl, hb1⟩
        have hz1 := hb1.size
        simp only [World.size_alloc] at hz1
        have hbi := box_keep (box_new wr #[.int .i64 9, .int .i64 od, .int .i64 vd, .bool okd] 151) hb1 (by simp)
        have e0 := box_cell (j := 0) hbi rfl
        have HB1 := Lib.hid (HBA.out.trans (hb1.mono (by simp; omega)))
        have px4a := box_cell (j := 4) (box_keep HX.out HB1.out (by omega)) rfl
        have HBW := Lib.hid (HB0.out.trans (HB1.out.mono (by omega)))
        clear hb1 hbi cc0 cc1 cc2 cc3 hb px4
        cases hq : itemOkB ⟨9, od, vd, okd⟩
        · have HN := Lib.hid (show AL = false by rw [HM.out]; simp [okAt, hq])
          clear HM hq
          go_wp2_with fail
          go_ret
          exact ⟨by rw [HRR.out, HN.out]; rfl, HBW.out⟩
        · by_cases hl : (k : Int) < (n : Int) - 1
          · have HN := Lib.hid (show AL = false by rw [HM.out]; simp [okAt, hq, isEndB, hl])
            clear HM hq
            go_wp2_with fail
            go_ret
            exact ⟨by rw [HRR.out, HN.out]; rfl, HBW.out⟩
          · have HN := Lib.hid (show AL = allFrom n (k + 1) (tr.drop (k + 1)) by rw [HM.out]; simp [okAt, hq, isEndB, hl])
            clear HM hq
            go_wp2_with fail
            go_roundw
            case rel => exact ⟨k + 1, by omega, by go_num, HN, HB1.out⟩
            case measure => simp [intOf]; omega
      · have b9 : (kd == 9) = false := by simpa using h9
        by_cases h10 : kd = 10
        · subst h10
          go_wp2_with fail
          refine (specItemOk_any (x := ⟨10, od, vd, okd⟩)).mono ?_
          rintro e w1 ⟨rfl, hb1⟩
          have hz1 := hb1.size
          simp only [World.size_alloc] at hz1
          have hbi := box_keep (box_new wr #[.int .i64 10, .int .i64 od, .int .i64 vd, .bool okd] 151) hb1 (by simp)
          have e0 := box_cell (j := 0) hbi rfl
          have HB1 := Lib.hid (HBA.out.trans (hb1.mono (by simp; omega)))
          have px4a := box_cell (j := 4) (box_keep HX.out HB1.out (by omega)) rfl
          have HBW := Lib.hid (HB0.out.trans (HB1.out.mono (by omega)))
          clear hb1 hbi cc0 cc1 cc2 cc3 hb px4
          cases hq : itemOkB ⟨10, od, vd, okd⟩
          · have HN := Lib.hid (show AL = false by rw [HM.out]; simp [okAt, hq])
            clear HM hq
            go_wp2_with fail
            go_ret
            exact ⟨by rw [HRR.out, HN.out]; rfl, HBW.out⟩
          · by_cases hl : (k : Int) < (n : Int) - 1
            · have HN := Lib.hid (show AL = false by rw [HM.out]; simp [okAt, hq, isEndB, hl])
              clear HM hq
              go_wp2_with fail
              go_ret
              exact ⟨by rw [HRR.out, HN.out]; rfl, HBW.out⟩
            · have HN := Lib.hid (show AL = allFrom n (k + 1) (tr.drop (k + 1)) by rw [HM.out]; simp [okAt, hq, isEndB, hl])
              clear HM hq
              go_wp2_with fail
              go_roundw
              case rel => exact ⟨k + 1, by omega, by go_num, HN, HB1.out⟩
              case measure => simp [intOf]; omega
        · have b10 : (kd == 10) = false := by simpa using h10
          go_wp2_with fail
          refine (specItemOk_any (x := ⟨kd, od, vd, okd⟩)).mono ?_
          rintro e w1 ⟨rfl, hb1⟩
          have hz1 := hb1.size
          simp only [World.size_alloc] at hz1
          have hbi := box_keep (box_new wr #[.int .i64 kd, .int .i64 od, .int .i64 vd, .bool okd] 151) hb1 (by simp)
          have e0 := box_cell (j := 0) hbi rfl
          have HB1 := Lib.hid (HBA.out.trans (hb1.mono (by simp; omega)))
          have px4a := box_cell (j := 4) (box_keep HX.out HB1.out (by omega)) rfl
          have HBW := Lib.hid (HB0.out.trans (HB1.out.mono (by omega)))
          clear hb1 hbi cc0 cc1 cc2 cc3 hb px4
          cases hq : itemOkB ⟨kd, od, vd, okd⟩
          · have HN := Lib.hid (show AL = false by rw [HM.out]; simp [okAt, hq])
            clear HM hq
            go_wp2_with fail
            go_ret
            exact ⟨by rw [HRR.out, HN.out]; rfl, HBW.out⟩
          · have HN := Lib.hid (show AL = allFrom n (k + 1) (tr.drop (k + 1)) by rw [HM.out]; simp [okAt, hq, isEndB, h9, h10])
            clear HM hq
            go_wp2_with fail
            go_roundw
            case rel => exact ⟨k + 1, by omega, by go_num, HN, HB1.out⟩
            case measure => simp [intOf]; omega
    · obtain rfl : k = n := by omega
      have HA := Lib.hid (show AL = true by rw [hm.out, List.drop_of_length_le (by rw [HL.out]; exact Nat.le_refl _)]; rfl)
      have p3 := box_cell (j := 3) hbX rfl
      have p4 := box_cell (j := 4) hbX rfl
      have HBW := Lib.hid (HB0.out.trans (hb.mono (by omega)))
      rcases Nat.eq_zero_or_pos k with h0 | h0
      · subst h0
        have HK := Lib.hid (show LK = 0 by rw [HLK.out, List.length_eq_zero_iff.1 HL.out]; rfl)
        have HF := Lib.hid (show R = (((0 : Int) == 9) == (st == 3) && ((0 : Int) == 10) == (st == 4)) by rw [HRR.out, HA.out, HK.out]; rfl)
        clear HRR HA HK HAL HLK
        by_cases h3 : st = 3
        · subst h3
          go_wp2_with fail
          go_ret
          exact ⟨by rw [HF.out]; simp [*], HBW.out⟩
        · have b3 : (st == 3) = false := by simpa using h3
          by_cases h4 : st = 4
          · subst h4
            go_wp2_with fail
            go_ret
            exact ⟨by rw [HF.out]; simp [*], HBW.out⟩
          · have b4 : (st == 4) = false := by simpa using h4
            go_wp2_with fail
            go_ret
            exact ⟨by rw [HF.out]; simp [*], HBW.out⟩
      · obtain ⟨hx, g, o, vs, rfl, hg, ⟨rfl, hw⟩, hcell⟩ := (s4.below HBW.out hhi).at_ (i := k - 1) (by omega)
        have HK := Lib.hid (show LK = tr[k - 1].fKind by rw [HLK.out, lastK_get tr (by rw [HL.out]; exact h0)]; simp only [HL.out])
        generalize tr[k - 1] = d at *
        obtain ⟨kd, od, vd, okd⟩ := d
        obtain ⟨q, rfl⟩ : ∃ q, k = q + 1 := ⟨k - 1, by omega⟩
        have cc0 := hcell 0 _ rfl
        simp only [show layItem.size = 4 from rfl, ← Nat.add_assoc, Nat.add_zero, Nat.mul_one, Nat.add_sub_cancel] at cc0
        have hgw : g < wr.heap.size := by omega
        clear hcell hw s4
        have HF := Lib.hid (show R = ((kd == 9) == (st == 3) && (kd == 10) == (st == 4)) by rw [HRR.out, HA.out, HK.out]; rfl)
        clear HRR HA HK HAL HLK
        by_cases h3 : st = 3
        · subst h3
          by_cases k9 : kd = 9
          · subst k9
            go_wp2_with fail
            go_ret
            exact ⟨by rw [HF.out]; simp [*], HBW.out⟩
          · have c9 : (kd == 9) = false := by simpa using k9
            by_cases k10 : kd = 10
            · subst k10
              go_wp2_with fail
              go_ret
              exact ⟨by rw [HF.out]; simp [*], HBW.out⟩
            · have c10 : (kd == 10) = false := by simpa using k10
              go_wp2_with fail
              go_ret
              exact ⟨by rw [HF.out]; simp [*], HBW.out⟩
        · have b3 : (st == 3) = false := by simpa using h3
          by_cases h4 : st = 4
          · subst h4
            by_cases k9 : kd = 9
            · subst k9
              go_wp2_with fail
              go_ret
              exact ⟨by rw [HF.out]; simp [*], HBW.out⟩
            · have c9 : (kd == 9) = false := by simpa using k9
              by_cases k10 : kd = 10
              · subst k10
                go_wp2_with fail
                go_ret
                exact ⟨by rw [HF.out]; simp [*], HBW.out⟩
              · have c10 : (kd == 10) = false := by simpa using k10
                go_wp2_with fail
                go_ret
                exact ⟨by rw [HF.out]; simp [*], HBW.out⟩
          · have b4 : (st == 4) = false := by simpa using h4
            by_cases k9 : kd = 9
            · subst k9
              go_wp2_with fail
              go_ret
              exact ⟨by rw [HF.out]; simp [*], HBW.out⟩
            · have c9 : (kd == 9) = false := by simpa using k9
              by_cases k10 : kd = 10
              · subst k10
                go_wp2_with fail
                go_ret
                exact ⟨by rw [HF.out]; simp [*], HBW.out⟩
              · have c10 : (kd == 10) = false := by simpa using k10
                go_wp2_with fail
                go_ret
                exact ⟨by rw [HF.out]; simp [*], HBW.out⟩
end Go.Proofs.YtgfkadhojlddpaaGreatDoor
