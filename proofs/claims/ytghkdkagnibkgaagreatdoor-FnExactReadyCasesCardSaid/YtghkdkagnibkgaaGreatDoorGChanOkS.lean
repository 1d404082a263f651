
/- ChanWtS, ChanOkS, merged for claims. -/

import Derived.Test.YtghkdkagnibkgaaGreatDoorGChanI

namespace Go.Proofs.YtghkdkagnibkgaaGreatDoor
set_option linter.unusedSimpArgs false
set_option linter.unusedVariables false
open Go.RowKit

theorem specVal_any (v : Int) (w : World) : Calls Tryz.prog 117 #[.int .i64 v] w fun e w' => e = .returned (.bool (okV v)) ∧ w = w' := by
  by_cases h0 : 0 ≤ v
  · by_cases h1 : v ≤ 999
    · rw [okV_yes (by omega)]
      go_enter Tryz.func117, Tryz.ntmps117
      go_wp2
      go_ret
      exact ⟨rfl, rfl⟩
    · rw [okV_no (by omega)]
      have h2 : decide (v ≤ 999) = false := decide_eq_false h1
      clear h1
      go_enter Tryz.func117, Tryz.ntmps117
      go_wp2
      go_ret
      exact ⟨rfl, rfl⟩
  · rw [okV_no (by omega)]
    have h2 : decide (0 ≤ v) = false := decide_eq_false h0
    clear h0
    go_enter Tryz.func117, Tryz.ntmps117
    go_wp2
    go_ret
    exact ⟨rfl, rfl⟩

def okS (send : Bool) (d : DWaiter) : Bool := okW d && (send || decide (d.fVal = 0))
theorem okS_true : okS true = okW := by funext d; simp [okS]
theorem okS_false : okS false = okR := by funext d; simp [okS, okR]
theorem all_upto {α : Type} {p : α → Bool} {l : List α} {k : Nat} {x : α} (h : l[k]? = some x) : (l.take (k + 1)).all p = ((l.take k).all p && p x) := by
  rw [List.take_add_one, h]
  simp
theorem all_not {α : Type} {p : α → Bool} {l : List α} {k : Nat} {x : α} (h : l[k]? = some x) (hx : p x = false) : l.all p = false := by
  rw [List.all_eq_false]
  exact ⟨x, List.mem_of_getElem? h, by simp [hx]⟩

set_option maxRecDepth 100000 in
set_option maxHeartbeats 2000000 in
theorem l06Waiters_any {w : World} {hi n c : Nat} {A : Option Addr} {ds : List DWaiter} {send : Bool} (h : SeenR layWaiter w hi A n ds) (hhi : hi ≤ w.heap.size) (hn : n ≤ maxLen) :
    Calls Tryz.prog 144 #[.slice A n c, .bool send] w fun e w' => e = .returned (.bool (ds.all (okS send))) ∧ Below w.heap.size w w' := by
  have HL := Lib.hid h.1
  unfold maxLen at hn
  go_enter Tryz.func144, Tryz.ntmps144
  go_wp2_with fail
  go_loopw [9] (fun i wr => ∃ k : Nat, k ≤ n ∧ i = .int .i64 k ∧ (ds.take k).all (okS send) = true ∧ Below w.heap.size w wr) (fun i _ => n - (intOf i).toNat)
  case atStart => exact ⟨0, Nat.zero_le _, rfl, by simp, Below.refl _ _⟩
  case round =>
    obtain ⟨k, hk, rfl, hall, hb⟩ := hrel
    by_cases hlt : k < n
    · obtain ⟨hx, g, o, vs, rfl, hg, ⟨rfl, hw⟩, hcell⟩ := (h.below hb hhi).at_ hlt
      have HD := Lib.hid (List.getElem?_eq_getElem hx)
      have hz := hb.size
      generalize ds[k] = d at *
      have HT := Lib.hid (all_upto (p := okS send) HD.out)
      have HN := Lib.hid (fun hx => all_not (p := okS send) HD.out hx)
      have HA := Lib.hid hall
      have cc0 := hcell 0 _ rfl
      have cc1 := hcell 1 _ rfl
      have cc2 := hcell 2 _ rfl
      simp only [show layWaiter.size = 3 from rfl, ← Nat.add_assoc, Nat.add_zero, Nat.mul_one] at cc0 cc1 cc2
      clear hcell hw h hall
      have HB := Lib.hid (hb.alloc (by omega) (.cells #[.int .i64 d.fG, .int .i64 d.fCase, .int .i64 d.fVal] 166))
      have HV := Lib.hid (fun W => specVal_any d.fVal W)
      have HE : okS send d = (decide (0 ≤ d.fG ∧ -1 ≤ d.fCase) && okV d.fVal && (send || decide (d.fVal = 0))) := rfl
      obtain ⟨g1, q1, v1⟩ := d
      simp only at *
      by_cases h0 : 0 ≤ g1
      · by_cases h1 : -1 ≤ q1
        · rw [decide_eq_true (show 0 ≤ g1 ∧ -1 ≤ q1 from ⟨h0, h1⟩), Bool.true_and] at HE
          go_wp2_with fail
          refine (HV.out _).mono ?_
          rintro e w1 ⟨rfl, rfl⟩
          cases hv : okV v1
          · rw [hv, Bool.false_and] at HE
            go_wp2_with fail
            go_ret
            exact ⟨by rw [HN.out HE]; rfl, HB.out⟩
          · rw [hv, Bool.true_and] at HE
            cases send
            · by_cases hz1 : v1 = 0
              · subst hz1
                go_wp2_with fail
                go_roundw
                case rel => exact ⟨k + 1, by omega, by go_num, by rw [HT.out, HA.out, HE]; rfl, HB.out⟩
                case measure => simp [intOf]; omega
              · rw [decide_eq_false hz1] at HE
                have hz3 : (v1 != 0) = true := by simpa using hz1
                go_wp2_with fail
                go_ret
                exact ⟨by rw [HN.out HE]; rfl, HB.out⟩
            · go_wp2_with fail
              go_roundw
              case rel => exact ⟨k + 1, by omega, by go_num, by rw [HT.out, HA.out, HE]; rfl, HB.out⟩
              case measure => simp [intOf]; omega
        · rw [decide_eq_false (show ¬ (0 ≤ g1 ∧ -1 ≤ q1) from fun h => h1 h.2), Bool.false_and, Bool.false_and] at HE
          have h2 : q1 < -1 := by omega
          go_wp2_with fail
          go_ret
          exact ⟨by rw [HN.out HE]; rfl, HB.out⟩
      · rw [decide_eq_false (show ¬ (0 ≤ g1 ∧ -1 ≤ q1) from fun h => h0 h.1), Bool.false_and, Bool.false_and] at HE
        have h2 : g1 < 0 := by omega
        go_wp2_with fail
        go_ret
        exact ⟨by rw [HN.out HE]; rfl, HB.out⟩
    · go_wp2_with fail
      go_ret
      obtain rfl : k = n := by omega
      rw [List.take_of_length_le (by rw [HL.out]; exact Nat.le_refl _)] at hall
      exact ⟨by rw [hall]; rfl, hb⟩
end Go.Proofs.YtghkdkagnibkgaaGreatDoor

namespace Go.Proofs.YtghkdkagnibkgaaGreatDoor
set_option linter.unusedSimpArgs false
set_option linter.unusedVariables false
open Go.RowKit

def lastB (n1 n2 n3 : Nat) (cap : Int) (cl : Bool) : Bool := !(decide (0 < n2) && (decide ((n1 : Int) < cap ∨ 0 < n3) || cl)) && (decide (n3 = 0) || (decide (n1 = 0) && !cl))

set_option maxRecDepth 100000 in
set_option maxHeartbeats 4000000 in
theorem specChanOk_any {w : World} {hi : Nat} {x : DChan} {vs : List Value} (h : layChan.see w hi x vs) (hhi : hi ≤ w.heap.size) :
    Calls Tryz.prog 110 #[.agg vs.toArray] w fun e w' => e = .returned (.bool (chanOkB x)) ∧ Below w.heap.size w w' := by
  rw [chanOkB_eq]
  obtain ⟨A1, n1, c1, A2, n2, c2, A3, n3, c3, rfl, hw0, ⟨hc1, hm1, s1⟩, ⟨hc2, hm2, s2⟩, ⟨hc3, hm3, s3⟩⟩ := seeChan h
  obtain ⟨cap, buf, sends, recvs, cl⟩ := x
  have l1 := s1.1
  have l2 := s2.1
  have l3 := s3.1
  simp only at l1 l2 l3 s1 s2 s3 hw0
  subst l1 l2 l3
  show Calls Tryz.prog 110 #[.agg #[.int .i64 cap, .slice A1 buf.length c1, .slice A2 sends.length c2, .slice A3 recvs.length c3, .bool cl]] w fun e w' => e = .returned (.bool (rangeB buf.length cap && (sends.all okW && (recvs.all okR && (buf.all okV && lastB buf.length sends.length recvs.length cap cl))))) ∧ Below w.heap.size w w'
  have HB := Lib.hid ((Below.refl w.heap.size w).alloc (Nat.le_refl _) (.cells #[.int .i64 cap, .slice A1 buf.length c1, .slice A2 sends.length c2, .slice A3 recvs.length c3, .bool cl] 124))
  have HX := Lib.hid (box_new w #[.int .i64 cap, .slice A1 buf.length c1, .slice A2 sends.length c2, .slice A3 recvs.length c3, .bool cl] 124)
  have H2 := Lib.hid (fun (W : World) (hW : Below w.heap.size w W) => show Calls Tryz.prog 144 #[.slice A2 sends.length c2, .bool true] W fun e w' => e = .returned (.bool (sends.all okW)) ∧ Below W.heap.size W w' from by have := l06Waiters_any (c := c2) (send := true) (s2.below hW hhi) (by have := hW.size; omega) (Nat.le_trans hc2 hm2); rwa [okS_true] at this)
  have H3 := Lib.hid (fun (W : World) (hW : Below w.heap.size w W) => show Calls Tryz.prog 144 #[.slice A3 recvs.length c3, .bool false] W fun e w' => e = .returned (.bool (recvs.all okR)) ∧ Below W.heap.size W w' from by have := l06Waiters_any (c := c3) (send := false) (s3.below hW hhi) (by have := hW.size; omega) (Nat.le_trans hc3 hm3); rwa [okS_false] at this)
  have HS1 := Lib.hid (fun (W : World) (hW : Below w.heap.size w W) => s1.below hW hhi)
  have hm1' := Nat.le_trans hc1 hm1
  clear s1 s2 s3 h hw0
  generalize sends.all okW = b2 at *
  generalize recvs.all okR = b3 at *
  generalize sends.length = n2 at *
  generalize recvs.length = n3 at *
  generalize hN : buf.length = n1 at *
  unfold maxLen at hm1'
  by_cases h0 : 0 ≤ cap
  · by_cases h4 : cap ≤ 4
    · by_cases h5 : (n1 : Int) ≤ cap
      · have hr : rangeB n1 cap = true := decide_eq_true ⟨h0, h4, h5⟩
        rw [hr, Bool.true_and]
        go_enter Tryz.func110, Tryz.ntmps110
        go_wp2_with fail
        refine (H2.out _ HB.out).mono ?_
        rintro e w1 ⟨rfl, hb1⟩
        have HB1 := Lib.hid (HB.out.trans (hb1.mono (by simp)))
        have HX1 := Lib.hid (box_keep HX.out hb1 (by simp))
        have p3 := box_cell (j := 3) HX1.out rfl
        have z1 : w.heap.size < w1.heap.size := by have := hb1.size; simp at this; omega
        clear hb1
        cases b2
        · go_wp2_with fail
          go_ret
          exact ⟨rfl, HB1.out⟩
        · go_wp2_with fail
          refine (H3.out _ HB1.out).mono ?_
          rintro e w2 ⟨rfl, hb2⟩
          have HB2 := Lib.hid (HB1.out.trans (hb2.mono (by omega)))
          have HX2 := Lib.hid (box_keep HX1.out hb2 z1)
          have q0 := box_cell (j := 0) HX2.out rfl
          have q1 := box_cell (j := 1) HX2.out rfl
          have q2 := box_cell (j := 2) HX2.out rfl
          have q3 := box_cell (j := 3) HX2.out rfl
          have q4 := box_cell (j := 4) HX2.out rfl
          have z2 : w.heap.size < w2.heap.size := by have := hb2.size; omega
          have s1 := HS1.out _ HB2.out
          clear hb2
          cases b3
          · go_wp2_with fail
            go_ret
            exact ⟨rfl, HB2.out⟩
          · go_wp2_with fail
            go_loop [36] (fun i => ∃ k : Nat, k ≤ n1 ∧ i = .int .i64 k ∧ (buf.take k).all okV = true) (fun i => n1 - (intOf i).toNat)
            case atStart => exact ⟨0, Nat.zero_le _, rfl, by simp⟩
            case round =>
              obtain ⟨k, hk, rfl, hall⟩ := hrel
              by_cases hlt : k < n1
              · obtain ⟨hx, g, o, vs, rfl, hg, ⟨rfl, hw⟩, hcell⟩ := s1.at_ hlt
                have HD := Lib.hid (List.getElem?_eq_getElem hx)
                generalize buf[k] = d at *
                have HT := Lib.hid (all_upto (p := okV) HD.out)
                have HN := Lib.hid (fun hx => all_not (p := okV) HD.out hx)
                have HA := Lib.hid hall
                have cc0 := hcell 0 _ rfl
                simp only [show Lay.int.size = 1 from rfl, ← Nat.add_assoc, Nat.add_zero, Nat.mul_one] at cc0
                clear hcell hw hall s1
                have HV := Lib.hid (fun W => specVal_any d W)
                go_wp2_with fail
                refine (HV.out _).mono ?_
                rintro e w3 ⟨rfl, rfl⟩
                cases hv : okV d
                · go_wp2_with fail
                  go_ret
                  exact ⟨by rw [HN.out hv]; rfl, HB2.out⟩
                · go_wp2_with fail
                  go_round
                  case rel => exact ⟨k + 1, by omega, by go_num, by rw [HT.out, HA.out, hv]; rfl⟩
                  case measure => simp [intOf]; omega
              · obtain rfl : k = n1 := by omega
                rw [List.take_of_length_le (by omega)] at hall
                have HALL := Lib.hid hall
                clear s1 hall hN
                rcases Nat.eq_zero_or_pos n2 with h2 | h2
                · subst h2
                  rcases Nat.eq_zero_or_pos n3 with h3 | h3
                  · subst h3
                    go_wp2_with fail
                    go_ret
                    exact ⟨by simp [HALL.out, lastB], HB2.out⟩
                  · have h3' : ¬ n3 = 0 := by omega
                    have h3'' : ¬ (n3 : Int) = 0 := by omega
                    rcases Nat.eq_zero_or_pos k with h1 | h1
                    · subst h1
                      cases cl <;>
                      · go_wp2_with fail
                        go_ret
                        exact ⟨by simp [HALL.out, lastB, h3'], HB2.out⟩
                    · have h1' : ¬ k = 0 := by omega
                      have h1'' : ¬ (k : Int) = 0 := by omega
                      go_wp2_with fail
                      go_ret
                      exact ⟨by simp [HALL.out, lastB, h3', h1'], HB2.out⟩
                · by_cases h6 : (k : Int) < cap
                  · go_wp2_with fail
                    go_ret
                    exact ⟨by simp [HALL.out, lastB, h2, h6], HB2.out⟩
                  · have h6' : decide ((k : Int) < cap) = false := decide_eq_false h6
                    rcases Nat.eq_zero_or_pos n3 with h3 | h3
                    · subst h3
                      cases cl
                      · go_wp2_with fail
                        go_ret
                        exact ⟨by simp [HALL.out, lastB, h6]; try omega, HB2.out⟩
                      · go_wp2_with fail
                        go_ret
                        exact ⟨by simp [HALL.out, lastB, h2], HB2.out⟩
                    · go_wp2_with fail
                      go_ret
                      exact ⟨by simp [HALL.out, lastB, h2, h3], HB2.out⟩
      · have hr : rangeB n1 cap = false := decide_eq_false (fun h => h5 h.2.2)
        rw [hr, Bool.false_and]
        go_enter Tryz.func110, Tryz.ntmps110
        go_wp2_with fail
        go_ret
        exact ⟨rfl, HB.out⟩
    · have hr : rangeB n1 cap = false := decide_eq_false (fun h => h4 h.2.1)
      rw [hr, Bool.false_and]
      go_enter Tryz.func110, Tryz.ntmps110
      go_wp2_with fail
      go_ret
      exact ⟨rfl, HB.out⟩
  · have hr : rangeB n1 cap = false := decide_eq_false (fun h => h0 h.1)
    rw [hr, Bool.false_and]
    go_enter Tryz.func110, Tryz.ntmps110
    go_wp2_with fail
    go_ret
    exact ⟨rfl, HB.out⟩

set_option maxRecDepth 100000 in
set_option maxHeartbeats 2000000 in
theorem specCanSend_any {w : World} {hi : Nat} {x : DChan} {vs : List Value} (h : layChan.see w hi x vs) (hhi : hi ≤ w.heap.size) :
    Calls Tryz.prog 77 #[.agg vs.toArray] w fun e w' => e = .returned (.bool (canSendB x)) ∧ Below w.heap.size w w' := by
  obtain ⟨A1, n1, c1, A2, n2, c2, A3, n3, c3, rfl, hw0, ⟨hc1, hm1, s1⟩, ⟨hc2, hm2, s2⟩, ⟨hc3, hm3, s3⟩⟩ := seeChan h
  have HOK := Lib.hid (fun (W : World) (hW : Below w.heap.size w W) => specChanOk_any (layChan.keep h (w' := W) fun k hk => hW.block k (by omega)) (by have := hW.size; omega))
  have l1 := s1.1
  have l2 := s2.1
  have l3 := s3.1
  clear s1 s2 s3 h hw0
  have hg : canSendB x = (chanOkB x && takesB n1 n3 x.fCap x.fClosed) := by unfold canSendB; rw [l1, l3]
  rw [hg]
  obtain ⟨cap, buf, sends, recvs, cl⟩ := x
  generalize chanOkB ⟨cap, buf, sends, recvs, cl⟩ = ok at *
  simp only at HOK ⊢
  clear hg l1 l2 l3
  have HB := Lib.hid ((Below.refl w.heap.size w).alloc (Nat.le_refl _) (.cells #[.int .i64 cap, .slice A1 n1 c1, .slice A2 n2 c2, .slice A3 n3 c3, .bool cl] 124))
  have HX := Lib.hid (box_new w #[.int .i64 cap, .slice A1 n1 c1, .slice A2 n2 c2, .slice A3 n3 c3, .bool cl] 124)
  show Calls Tryz.prog 77 #[.agg #[.int .i64 cap, .slice A1 n1 c1, .slice A2 n2 c2, .slice A3 n3 c3, .bool cl]] w _
  go_enter Tryz.func77, Tryz.ntmps77
  go_wp2_with fail
  refine (HOK.out _ HB.out).mono ?_
  rintro e w1 ⟨rfl, hb1⟩
  have HB1 := Lib.hid (HB.out.trans (hb1.mono (by simp)))
  have HX1 := Lib.hid (box_keep HX.out hb1 (by simp))
  have q0 := box_cell (j := 0) HX1.out rfl
  have q1 := box_cell (j := 1) HX1.out rfl
  have q2 := box_cell (j := 2) HX1.out rfl
  have q3 := box_cell (j := 3) HX1.out rfl
  have q4 := box_cell (j := 4) HX1.out rfl
  have z1 : w.heap.size < w1.heap.size := by have := hb1.size; simp at this; omega
  clear hb1
  cases ok
  · go_wp2_with fail
    go_ret
    exact ⟨rfl, HB1.out⟩
  · cases cl
    · rcases Nat.eq_zero_or_pos n3 with h3 | h3
      · subst h3
        by_cases h6 : (n1 : Int) < cap
        · go_wp2_with fail
          go_ret
          exact ⟨by simp [takesB, h6], HB1.out⟩
        · have h6' : decide ((n1 : Int) < cap) = false := decide_eq_false h6
          go_wp2_with fail
          go_ret
          exact ⟨by simp [takesB, h6], HB1.out⟩
      · go_wp2_with fail
        go_ret
        exact ⟨by simp [takesB, h3], HB1.out⟩
    · go_wp2_with fail
      go_ret
      exact ⟨by simp [takesB], HB1.out⟩

set_option maxRecDepth 100000 in
set_option maxHeartbeats 2000000 in
theorem specCanRecv_any {w : World} {hi : Nat} {x : DChan} {vs : List Value} (h : layChan.see w hi x vs) (hhi : hi ≤ w.heap.size) :
    Calls Tryz.prog 78 #[.agg vs.toArray] w fun e w' => e = .returned (.bool (canRecvB x)) ∧ Below w.heap.size w w' := by
  obtain ⟨A1, n1, c1, A2, n2, c2, A3, n3, c3, rfl, hw0, ⟨hc1, hm1, s1⟩, ⟨hc2, hm2, s2⟩, ⟨hc3, hm3, s3⟩⟩ := seeChan h
  have HOK := Lib.hid (fun (W : World) (hW : Below w.heap.size w W) => specChanOk_any (layChan.keep h (w' := W) fun k hk => hW.block k (by omega)) (by have := hW.size; omega))
  have l1 := s1.1
  have l2 := s2.1
  have l3 := s3.1
  clear s1 s2 s3 h hw0
  have hg : canRecvB x = (chanOkB x && givesB n1 n2 x.fClosed) := by unfold canRecvB; rw [l1, l2]
  rw [hg]
  obtain ⟨cap, buf, sends, recvs, cl⟩ := x
  generalize chanOkB ⟨cap, buf, sends, recvs, cl⟩ = ok at *
  simp only at HOK ⊢
  clear hg l1 l2 l3
  have HB := Lib.hid ((Below.refl w.heap.size w).alloc (Nat.le_refl _) (.cells #[.int .i64 cap, .slice A1 n1 c1, .slice A2 n2 c2, .slice A3 n3 c3, .bool cl] 124))
  have HX := Lib.hid (box_new w #[.int .i64 cap, .slice A1 n1 c1, .slice A2 n2 c2, .slice A3 n3 c3, .bool cl] 124)
  show Calls Tryz.prog 78 #[.agg #[.int .i64 cap, .slice A1 n1 c1, .slice A2 n2 c2, .slice A3 n3 c3, .bool cl]] w _
  go_enter Tryz.func78, Tryz.ntmps78
  go_wp2_with fail
  refine (HOK.out _ HB.out).mono ?_
  rintro e w1 ⟨rfl, hb1⟩
  have HB1 := Lib.hid (HB.out.trans (hb1.mono (by simp)))
  have HX1 := Lib.hid (box_keep HX.out hb1 (by simp))
  have q0 := box_cell (j := 0) HX1.out rfl
  have q1 := box_cell (j := 1) HX1.out rfl
  have q2 := box_cell (j := 2) HX1.out rfl
  have q3 := box_cell (j := 3) HX1.out rfl
  have q4 := box_cell (j := 4) HX1.out rfl
  have z1 : w.heap.size < w1.heap.size := by have := hb1.size; simp at this; omega
  clear hb1
  cases ok
  · go_wp2_with fail
    go_ret
    exact ⟨rfl, HB1.out⟩
  · rcases Nat.eq_zero_or_pos n1 with h1 | h1
    · subst h1
      rcases Nat.eq_zero_or_pos n2 with h2 | h2
      · subst h2
        cases cl <;>
        · go_wp2_with fail
          go_ret
          exact ⟨by simp [givesB], HB1.out⟩
      · go_wp2_with fail
        go_ret
        exact ⟨by simp [givesB, h2], HB1.out⟩
    · go_wp2_with fail
      go_ret
      exact ⟨by simp [givesB, h1], HB1.out⟩
end Go.Proofs.YtghkdkagnibkgaaGreatDoor
