
/- traceOk, endKind, isState: the program's. -/

import Derived.Test.YtgfkadhojlddpaaGreatDoorTraceM

import Derived.Test.YtgfkadhojlddpaaGreatDoorItemI

namespace Go.Proofs.YtgfkadhojlddpaaGreatDoor
set_option linter.unusedSimpArgs false
set_option linter.unusedVariables false
open Go.RowKit

theorem isState_any (v : Int) (w : World) : Calls Tryz.prog 161 #[.int .i64 v] w fun e w' => e = .returned (.bool (decide (1 ≤ v ∧ v ≤ 4))) ∧ w = w' := by
  by_cases h0 : 1 ≤ v
  · by_cases h1 : v ≤ 4
    · rw [show decide (1 ≤ v ∧ v ≤ 4) = true from decide_eq_true ⟨h0, h1⟩]
      go_enter Tryz.func161, Tryz.ntmps161
      go_wp2
      go_ret
      exact ⟨rfl, rfl⟩
    · rw [show decide (1 ≤ v ∧ v ≤ 4) = false from decide_eq_false (fun h => h1 h.2)]
      have h2 : decide (v ≤ 4) = false := decide_eq_false h1
      clear h1
      go_enter Tryz.func161, Tryz.ntmps161
      go_wp2
      go_ret
      exact ⟨rfl, rfl⟩
  · rw [show decide (1 ≤ v ∧ v ≤ 4) = false from decide_eq_false (fun h => h0 h.1)]
    have h2 : decide (1 ≤ v) = false := decide_eq_false h0
    clear h0
    go_enter Tryz.func161, Tryz.ntmps161
    go_wp2
    go_ret
    exact ⟨rfl, rfl⟩
theorem endKind_any (v : Int) (w : World) : Calls Tryz.prog 163 #[.int .i64 v] w fun e w' => e = .returned (.int .i64 (endK v)) ∧ w = w' := by
  by_cases h3 : v = 3
  · subst h3
    go_enter Tryz.func163, Tryz.ntmps163
    go_wp2
    go_ret
    exact ⟨rfl, rfl⟩
  · by_cases h4 : v = 4
    · subst h4
      go_enter Tryz.func163, Tryz.ntmps163
      go_wp2
      go_ret
      exact ⟨rfl, rfl⟩
    · rw [show endK v = 0 by simp [endK, h3, h4]]
      go_enter Tryz.func163, Tryz.ntmps163
      go_wp2
      go_ret
      exact ⟨rfl, rfl⟩

set_option maxRecDepth 100000 in
set_option maxHeartbeats 4000000 in
theorem traceOk_any {w : World} {hi n c : Nat} {A : Option Addr} {tr : List DItem} {en : Int} (h : SeenR layItem w hi A n tr) (hhi : hi ≤ w.heap.size) (hn : n ≤ 1048576) (hC : ItemCells w) :
    Calls Tryz.prog 162 #[.slice A n c, .int .i64 en] w fun e w' => e = .returned (.bool (trRes (trGo 0 tr) en)) ∧ Below w.heap.size w w' := by
  have HL := Lib.hid h.1
  have HC := Lib.hid hC
  clear hC
  obtain ⟨R, hR⟩ : ∃ R, R = trGo 0 tr := ⟨_, rfl⟩
  rw [← hR]
  have HR := Lib.hid hR
  clear hR
  go_enter Tryz.func162, Tryz.ntmps162
  go_wp2_with fail
  go_loopw [5, 10] (fun q i wr => ∃ (k : Nat) (m : Int), k ≤ n ∧ i = .int .i64 k ∧ q = .int .i64 m ∧ RowKit.Hid (R = trGo m (tr.drop k)) ∧ Below w.heap.size w wr) (fun _ i _ => n - (intOf i).toNat)
  case atStart => exact ⟨0, 0, Nat.zero_le _, rfl, rfl, Lib.hid (by rw [HR.out]; rfl), Below.refl _ _⟩
  case round =>
    obtain ⟨k, m, hk, rfl, rfl, hm, hb⟩ := hrel
    by_cases hlt : k < n
    · obtain ⟨hx, g, o, vs, rfl, hg, ⟨rfl, hw⟩, hcell⟩ := (h.below hb hhi).at_ hlt
      have HD := Lib.hid (show tr.drop k = tr[k] :: tr.drop (k + 1) from List.drop_eq_getElem_cons hx)
      have hz := hb.size
      generalize tr[k] = d at *
      obtain ⟨kd, od, vd, okd⟩ := d
      have HM := Lib.hid (show R = if decide (m ≠ 0) || !itemOkB ⟨kd, od, vd, okd⟩ then none else trGo (if isEndB ⟨kd, od, vd, okd⟩ then kd else m) (tr.drop (k + 1)) by rw [hm.out, HD.out]; rfl)
      have HWV := Lib.hid hw.2.2
      have cc0 := hcell 0 _ rfl
      have cc1 := hcell 1 _ rfl
      have cc2 := hcell 2 _ rfl
      have cc3 := hcell 3 _ rfl
      simp only [show layItem.size = 4 from rfl, ← Nat.add_assoc, Nat.add_zero, Nat.mul_one] at cc0 cc1 cc2 cc3
      clear hcell hw h hm HD
      have HBA := Lib.hid (hb.alloc (by omega) (.cells #[.int .i64 kd, .int .i64 od, .int .i64 vd, .bool okd] 151))
      have hgw : g < wr.heap.size := by omega
      by_cases hm0 : m = 0
      · subst hm0
        go_wp2_with fail
        refine (implItemOk_any (x := ⟨kd, od, vd, okd⟩) (itemCells_below HC.out HBA.out (Nat.le_refl _)) HWV.out).mono ?_
        rintro e w1 ⟨rfl, hb1⟩
        have hbx := box_keep (box_new wr #[.int .i64 kd, .int .i64 od, .int .i64 vd, .bool okd] 151) hb1 (by simp)
        have e0 := box_cell (j := 0) hbx rfl
        have HB1 := Lib.hid (HBA.out.trans (hb1.mono (by simp; omega)))
        clear hb1 hbx cc0 cc1 cc2 cc3 hb
        cases hq : itemOkB ⟨kd, od, vd, okd⟩
        · rw [hq] at HM
          go_wp2_with fail
          go_ret
          exact ⟨by rw [HM.out]; rfl, HB1.out⟩
        · rw [hq] at HM
          by_cases h9 : kd = 9
          · subst h9
            have HN := Lib.hid (show R = trGo 9 (tr.drop (k + 1)) by rw [HM.out]; rfl)
            clear HM hq
            go_wp2_with fail
            go_roundw
            case rel => exact ⟨k + 1, 9, by omega, by go_num, rfl, HN, HB1.out⟩
            case measure => simp [intOf]; omega
          · by_cases h10 : kd = 10
            · subst h10
              have HN := Lib.hid (show R = trGo 10 (tr.drop (k + 1)) by rw [HM.out]; rfl)
              clear HM hq
              go_wp2_with fail
              go_roundw
              case rel => exact ⟨k + 1, 10, by omega, by go_num, rfl, HN, HB1.out⟩
              case measure => simp [intOf]; omega
            · have HN := Lib.hid (show R = trGo 0 (tr.drop (k + 1)) by rw [HM.out]; simp [isEndB, h9, h10])
              have b9 : (kd == 9) = false := by simpa using h9
              have b10 : (kd == 10) = false := by simpa using h10
              clear HM hq
              go_wp2_with fail
              go_roundw
              case rel => exact ⟨k + 1, 0, by omega, by go_num, rfl, HN, HB1.out⟩
              case measure => simp [intOf]; omega
      · have hmb : (m != 0) = true := by simpa using hm0
        have HN := Lib.hid (show R = none by rw [HM.out]; simp [hm0])
        clear HM
        go_wp2_with fail
        go_ret
        exact ⟨by rw [HN.out]; rfl, HBA.out⟩
    · go_wp2_with fail
      go_ret
      obtain rfl : k = n := by omega
      refine ⟨?_, hb⟩
      rw [hm.out, List.drop_of_length_le (by rw [HL.out]; exact Nat.le_refl _)]
      rfl
end Go.Proofs.YtgfkadhojlddpaaGreatDoor
