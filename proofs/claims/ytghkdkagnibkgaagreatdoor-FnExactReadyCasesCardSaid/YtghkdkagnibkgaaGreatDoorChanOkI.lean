
/- The program's count over a queue (with any function of one element), all, ChanOk, CanSend, CanRecv, Waits. -/

import Derived.Test.YtghkdkagnibkgaaGreatDoorGQueue

import Derived.Test.YtghkdkagnibkgaaGreatDoorGChanI

namespace Go.Proofs.YtghkdkagnibkgaaGreatDoor
set_option linter.unusedSimpArgs false
set_option linter.unusedVariables false
open Go.RowKit

theorem enters_wt : Enters 161 := enters_of Tryz.func161 (by kernel_rfl) (by kernel_rfl)
theorem enters_rc : Enters 162 := enters_of Tryz.func162 (by kernel_rfl) (by kernel_rfl)
theorem enters_val : Enters 155 := enters_of Tryz.func155 (by kernel_rfl) (by kernel_rfl)
set_option maxRecDepth 100000 in
set_option maxHeartbeats 2000000 in
theorem countW_any {f : Nat} (hf : Enters f) {cap : Array Value} {p : DWaiter → Bool} {w : World} {hi n c : Nat} {A : Option Addr} {ds : List DWaiter} (h : SeenR layWaiter w hi A n ds) (hhi : hi ≤ w.heap.size) (hn : n ≤ maxLen)
    (hp : ∀ W d, Below w.heap.size w W → Calls Tryz.prog f (#[.agg #[.int .i64 d.fG, .int .i64 d.fCase, .int .i64 d.fVal]] ++ cap) W fun e W' => e = .returned (.bool (p d)) ∧ Below W.heap.size W W') :
    Calls Tryz.prog 174 #[.slice A n c, .func (.func f) #[] cap] w fun e w' => e = .returned (.int .i64 (ds.countP p : Int)) ∧ Below w.heap.size w w' := by
  have HL := Lib.hid h.1
  unfold maxLen at hn
  go_enter Tryz.func174, Tryz.ntmps174
  go_wp2_with fail
  go_loopw [5, 10] (fun q i wr => ∃ k : Nat, k ≤ n ∧ i = .int .i64 k ∧ q = .int .i64 ((ds.take k).countP p : Int) ∧ Below w.heap.size w wr) (fun _ i _ => n - (intOf i).toNat)
  case atStart => exact ⟨0, Nat.zero_le _, rfl, by simp, Below.refl _ _⟩
  case round =>
    obtain ⟨k, hk, rfl, rfl, hb⟩ := hrel
    by_cases hlt : k < n
    · obtain ⟨hx, g, o, vs, rfl, hg, ⟨rfl, hw⟩, hcell⟩ := (h.below hb hhi).at_ hlt
      have HD := Lib.hid (List.getElem?_eq_getElem hx)
      have HC := Lib.hid (List.countP_le_length (p := p) (l := ds.take k))
      have HCn : (ds.take k).countP p ≤ k := by have := HC.out; rw [List.length_take] at this; omega
      have hz := hb.size
      have HP := Lib.hid hp
      generalize ds[k] = d at *
      have HT := Lib.hid (show (ds.take (k + 1)).countP p = (ds.take k).countP p + if p d then 1 else 0 by rw [List.take_add_one, HD.out, List.countP_append]; simp [List.countP_cons])
      generalize (ds.take k).countP p = m at *
      have cc0 := hcell 0 _ rfl
      have cc1 := hcell 1 _ rfl
      have cc2 := hcell 2 _ rfl
      simp only [show layWaiter.size = 3 from rfl, ← Nat.add_assoc, Nat.add_zero, Nat.mul_one] at cc0 cc1 cc2
      clear hcell hw hp h
      have HB := Lib.hid (hb.alloc (by omega) (.cells #[.int .i64 d.fG, .int .i64 d.fCase, .int .i64 d.fVal] 166))
      go_wp2_with fail
      rw [hf, Oper.upon_enter]
      refine (HP.out _ d HB.out).mono ?_
      rintro e w1 ⟨rfl, hb1⟩
      have HB1 := Lib.hid (HB.out.trans (hb1.mono (by simp; omega)))
      clear hb1 cc0 cc1 cc2
      cases hq : p d
      · rw [hq] at HT
        go_wp2_with fail
        go_roundw
        case rel => exact ⟨k + 1, by omega, by go_num, by rw [HT.out]; simp, HB1.out⟩
        case measure => simp [intOf]; omega
      · rw [hq] at HT
        go_wp2_with fail
        go_roundw
        case rel => exact ⟨k + 1, by omega, by go_num, by rw [HT.out]; simp, HB1.out⟩
        case measure => simp [intOf]; omega
    · go_wp2_with fail
      go_ret
      obtain rfl : k = n := by omega
      rw [List.take_of_length_le (by rw [HL.out]; exact Nat.le_refl _)]
      exact ⟨rfl, hb⟩
set_option maxRecDepth 100000 in
set_option maxHeartbeats 1000000 in
theorem allW_any {f : Nat} (hf : Enters f) {cap : Array Value} {p : DWaiter → Bool} {w : World} {hi n c : Nat} {A : Option Addr} {ds : List DWaiter} (h : SeenR layWaiter w hi A n ds) (hhi : hi ≤ w.heap.size) (hn : n ≤ maxLen)
    (hp : ∀ W d, Below w.heap.size w W → Calls Tryz.prog f (#[.agg #[.int .i64 d.fG, .int .i64 d.fCase, .int .i64 d.fVal]] ++ cap) W fun e W' => e = .returned (.bool (p d)) ∧ Below W.heap.size W W') :
    Calls Tryz.prog 160 #[.slice A n c, .func (.func f) #[] cap] w fun e w' => e = .returned (.bool (ds.all p)) ∧ Below w.heap.size w w' := by
  have HC := Lib.hid (countW_any (c := c) hf h hhi hn hp)
  have hl := h.1
  have hq : ds.all p = decide (ds.countP p = n) := by
    rw [← hl, Bool.eq_iff_iff, List.all_eq_true, decide_eq_true_eq, List.countP_eq_length]
  have HQ := Lib.hid hq
  generalize ds.countP p = m at *
  clear hq h hl hp
  go_enter Tryz.func160, Tryz.ntmps160
  go_wp2_with fail
  refine HC.out.mono ?_
  rintro e w1 ⟨rfl, hb⟩
  by_cases he : m = n
  · subst he
    go_wp2_with fail
    go_ret
    exact ⟨by rw [HQ.out]; simp, hb⟩
  · have he2 : ¬ (m : Int) = (n : Int) := by omega
    go_wp2_with fail
    go_ret
    exact ⟨by rw [HQ.out]; simp [he]; try omega, hb⟩

theorem hpVal (w W : World) (d : Int) (h : Below w.heap.size w W) : Calls Tryz.prog 155 (#[.int .i64 d] ++ #[]) W fun e W' => e = .returned (.bool (okV d)) ∧ Below W.heap.size W W' := by
  rw [Array.append_empty]
  exact (isValC_any d W).mono fun e W' h => ⟨h.1, by rw [← h.2]; exact Below.refl _ _⟩
theorem hpWt (w W : World) (d : DWaiter) (h : Below w.heap.size w W) : Calls Tryz.prog 161 (#[.agg #[.int .i64 d.fG, .int .i64 d.fCase, .int .i64 d.fVal]] ++ #[]) W fun e W' => e = .returned (.bool (okW d)) ∧ Below W.heap.size W W' := by
  rw [Array.append_empty]
  exact waiterOk_any d W
theorem hpRc (w W : World) (d : DWaiter) (h : Below w.heap.size w W) : Calls Tryz.prog 162 (#[.agg #[.int .i64 d.fG, .int .i64 d.fCase, .int .i64 d.fVal]] ++ #[]) W fun e W' => e = .returned (.bool (okR d)) ∧ Below W.heap.size W W' := by
  rw [Array.append_empty]
  exact receiverOk_any d W

set_option maxRecDepth 100000 in
set_option maxHeartbeats 2000000 in
theorem implChanOk_any {w : World} {hi : Nat} {x : DChan} {vs : List Value} (h : layChan.see w hi x vs) (hhi : hi ≤ w.heap.size) :
    Calls Tryz.prog 131 #[.agg vs.toArray] w fun e w' => e = .returned (.bool (chanOkB x)) ∧ Below w.heap.size w w' := by
  obtain ⟨A1, n1, c1, A2, n2, c2, A3, n3, c3, rfl, hw0, ⟨hc1, hm1, s1⟩, ⟨hc2, hm2, s2⟩, ⟨hc3, hm3, s3⟩⟩ := seeChan h
  obtain ⟨cap, buf, sends, recvs, cl⟩ := x
  have l1 := s1.1
  have l2 := s2.1
  have l3 := s3.1
  simp only at l1 l2 l3 s1 s2 s3 hw0
  subst l1 l2 l3
  show Calls Tryz.prog 131 #[.agg #[.int .i64 cap, .slice A1 buf.length c1, .slice A2 sends.length c2, .slice A3 recvs.length c3, .bool cl]] w fun e w' => e = .returned (.bool (rangeB buf.length cap && (!vainB buf.length sends.length recvs.length cap cl && (buf.all okV && (sends.all okW && recvs.all okR))))) ∧ Below w.heap.size w w'
  have HVN := Lib.hid (fun W => waitsInVain_any (A1 := A1) (A2 := A2) (A3 := A3) (n1 := buf.length) (c1 := c1) (n2 := sends.length) (c2 := c2) (n3 := recvs.length) (c3 := c3) (cap := cap) (cl := cl) W)
  have HB := Lib.hid ((Below.refl w.heap.size w).alloc (Nat.le_refl _) (.cells #[.int .i64 cap, .slice A1 buf.length c1, .slice A2 sends.length c2, .slice A3 recvs.length c3, .bool cl] 124))
  have HX := Lib.hid (box_new w #[.int .i64 cap, .slice A1 buf.length c1, .slice A2 sends.length c2, .slice A3 recvs.length c3, .bool cl] 124)
  have H1 := Lib.hid (fun (W : World) (hW : Below w.heap.size w W) => allV_any (c := c1) enters_val (s1.below hW hhi) (hi := hi) (by have := hW.size; omega) (Nat.le_trans hc1 hm1) (hpVal W))
  have H2 := Lib.hid (fun (W : World) (hW : Below w.heap.size w W) => allW_any (c := c2) enters_wt (s2.below hW hhi) (hi := hi) (by have := hW.size; omega) (Nat.le_trans hc2 hm2) (hpWt W))
  have H3 := Lib.hid (fun (W : World) (hW : Below w.heap.size w W) => allW_any (c := c3) enters_rc (s3.below hW hhi) (hi := hi) (by have := hW.size; omega) (Nat.le_trans hc3 hm3) (hpRc W))
  clear s1 s2 s3 h hw0
  generalize buf.all okV = b1 at *
  generalize sends.all okW = b2 at *
  generalize recvs.all okR = b3 at *
  generalize vainB buf.length sends.length recvs.length cap cl = vn at *
  generalize buf.length = n1 at *
  generalize sends.length = n2 at *
  generalize recvs.length = n3 at *
  by_cases h0 : 0 ≤ cap
  · by_cases h4 : cap ≤ 4
    · by_cases h5 : (n1 : Int) ≤ cap
      · have hr : rangeB n1 cap = true := decide_eq_true ⟨h0, h4, h5⟩
        rw [hr, Bool.true_and]
        go_enter Tryz.func131, Tryz.ntmps131
        go_wp2_with fail
        refine (HVN.out _).mono ?_
        rintro e w1 ⟨rfl, hb1⟩
        have HB1 := Lib.hid (HB.out.trans (hb1.mono (by simp)))
        have HX1 := Lib.hid (box_keep HX.out hb1 (by simp))
        have q1 := box_cell (j := 1) HX1.out rfl
        have q2 := box_cell (j := 2) HX1.out rfl
        have q3 := box_cell (j := 3) HX1.out rfl
        have z1 : w.heap.size < w1.heap.size := by have := hb1.size; simp at this; omega
        clear hb1
        cases vn
        · go_wp2_with fail
          refine (H1.out _ HB1.out).mono ?_
          rintro e w2 ⟨rfl, hb2⟩
          have HB2 := Lib.hid (HB1.out.trans (hb2.mono (by omega)))
          have HX2 := Lib.hid (box_keep HX1.out hb2 z1)
          have q2 := box_cell (j := 2) HX2.out rfl
          have q3 := box_cell (j := 3) HX2.out rfl
          have z2 : w.heap.size < w2.heap.size := by have := hb2.size; omega
          clear hb2
          cases b1
          · go_wp2_with fail
            go_ret
            exact ⟨rfl, HB2.out⟩
          · go_wp2_with fail
            refine (H2.out _ HB2.out).mono ?_
            rintro e w3 ⟨rfl, hb3⟩
            have HB3 := Lib.hid (HB2.out.trans (hb3.mono (by omega)))
            have HX3 := Lib.hid (box_keep HX2.out hb3 z2)
            have q3 := box_cell (j := 3) HX3.out rfl
            have z3 : w.heap.size < w3.heap.size := by have := hb3.size; omega
            clear hb3
            cases b2
            · go_wp2_with fail
              go_ret
              exact ⟨rfl, HB3.out⟩
            · go_wp2_with fail
              refine (H3.out _ HB3.out).mono ?_
              rintro e w4 ⟨rfl, hb4⟩
              have HB4 := Lib.hid (HB3.out.trans (hb4.mono (by omega)))
              clear hb4
              cases b3 <;>
              · go_wp2_with fail
                go_ret
                exact ⟨rfl, HB4.out⟩
        · go_wp2_with fail
          go_ret
          exact ⟨rfl, HB1.out⟩
      · have hr : rangeB n1 cap = false := decide_eq_false (fun h => h5 h.2.2)
        rw [hr, Bool.false_and]
        go_enter Tryz.func131, Tryz.ntmps131
        go_wp2_with fail
        go_ret
        exact ⟨rfl, HB.out⟩
    · have hr : rangeB n1 cap = false := decide_eq_false (fun h => h4 h.2.1)
      rw [hr, Bool.false_and]
      go_enter Tryz.func131, Tryz.ntmps131
      go_wp2_with fail
      go_ret
      exact ⟨rfl, HB.out⟩
  · have hr : rangeB n1 cap = false := decide_eq_false (fun h => h0 h.1)
    rw [hr, Bool.false_and]
    go_enter Tryz.func131, Tryz.ntmps131
    go_wp2_with fail
    go_ret
    exact ⟨rfl, HB.out⟩
end Go.Proofs.YtghkdkagnibkgaaGreatDoor
