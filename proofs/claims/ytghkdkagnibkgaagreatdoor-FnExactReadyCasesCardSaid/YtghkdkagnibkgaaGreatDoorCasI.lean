
/- The program's ReadyCases, Blocks, Choices. Laid by wip/gen11/casI.py. -/

import Derived.Test.YtghkdkagnibkgaaGreatDoorGCasM

import Derived.Test.YtghkdkagnibkgaaGreatDoorCaseI

import Derived.Test.YtghkdkagnibkgaaGreatDoorGEngM

import Derived.Test.YtghkdkagnibkgaaGreatDoorGEngI

import Derived.Test.YtghkdkagnibkgaaGreatDoorGCas

import Derived.Test.YtghkdkagnibkgaaGreatDoorPlaceI

import Derived.Deep.Cut

namespace Go.Proofs.YtghkdkagnibkgaaGreatDoor
set_option linter.unusedSimpArgs false
set_option linter.unusedVariables false
open Go.RowKit


set_option maxRecDepth 100000 in
set_option maxHeartbeats 4000000 in
theorem readyOf_any {w : World} {hi : Nat} {x : DEng} {vs : List Value} (he : layEng.see w hi x vs) (hhi : hi ≤ w.heap.size) (hne : szEng x ≤ 1048576) {hj l0 cc : Nat} {A : Option Addr} {cs : List DCase} (hs : SeenR layCase w hj A l0 cs) (hhj : hj ≤ w.heap.size) (hl0 : l0 ≤ 1048576) :
    Calls Tryz.prog 39 #[.agg vs.toArray, .slice A l0 cc] w (MadeRow Lay.int 3 w (rdyL x cs)) := by
  obtain ⟨i0, hi0, iz0, iz1, iz2⟩ := info_parts int_info
  have HEE := Lib.hid (fun (W : World) (hW : Below w.heap.size w W) => layEng.keep he (w' := W) fun k hk => hW.block k (by omega))
  obtain ⟨A0, n0, c0, A1, n1, c1, A2, n2, c2, rfl, -⟩ := seeEng he
  have hE0 := box_new w #[.slice A0 n0 c0, .slice A1 n1 c1, .slice A2 n2 c2] 44
  have hB0 : Below w.heap.size w (w.alloc (.cells #[.slice A0 n0 c0, .slice A1 n1 c1, .slice A2 n2 c2] 44)) := (Below.refl _ _).alloc (Nat.le_refl _) _
  have hz0 : w.heap.size + 1 ≤ (w.alloc (.cells #[.slice A0 n0 c0, .slice A1 n1 c1, .slice A2 n2 c2] 44)).heap.size := by simp only [World.size_alloc]; omega
  have HE0 := Lib.hid hE0
  have HB0 := Lib.hid hB0
  have HS := Lib.hid hs
  have HL := Lib.hid hs.1
  have HN := Lib.hid hne
  clear he hE0 hB0 hs hne
  go_enter Tryz.func39, Tryz.ntmps39
  go_upto_region 1 with (fail)
  generalize (w.alloc (.cells #[.slice A0 n0 c0, .slice A1 n1 c1, .slice A2 n2 c2] 44)) = W0 at *
  go_wp2_with fail
  go_loopw [5, 10] (fun q i wr => ∃ (k : Nat) (B : Option Addr) (c' : Nat) (done : List Int), k ≤ l0 ∧ i = .int .i64 k ∧ q = .slice B done.length c' ∧ Hid (done = rdyTo x cs k) ∧ Own wr W0.heap.size wr.heap.size 3 1 B done.length c' (done.map (Value.int .i64)) ∧ Below W0.heap.size W0 wr) (fun _ i _ => l0 - (intOf i).toNat)
  case atStart => exact ⟨0, none, 0, [], Nat.zero_le _, rfl, rfl, Lib.hid rfl, Own.nil_ _ _ _ _ _, Below.refl _ _⟩
  case round =>
    obtain ⟨k, B, c', done, hk, rfl, rfl, HDN, hown, hb⟩ := hrel
    have hzb := hb.size
    by_cases hlt : k < l0
    · obtain ⟨hx2, g2, o2, ts, rfl, hg2, ⟨rfl, -⟩, hcell⟩ := (HS.out.below (HB0.out.trans (hb.mono (by omega))) hhj).at_ hlt
      have HD := Lib.hid (List.getElem?_eq_getElem hx2)
      have hdl : done.length ≤ k := by rw [HDN.out]; exact rdyTo_len _ _ _
      generalize cs[k] = d at *
      have HT := Lib.hid (rdyTo_step (e := x) HD.out)
      obtain ⟨ds, dc, dr, dk, dt⟩ := d
      have qc0 := hcell 0 _ rfl
      have qc1 := hcell 1 _ rfl
      have qc2 := hcell 2 _ rfl
      have qc3 := hcell 3 _ rfl
      have qc4 := hcell 4 _ rfl
      simp only [show layCase.size = 5 from rfl, ← Nat.add_assoc, Nat.add_zero, Nat.mul_one] at qc0 qc1 qc2 qc3 qc4
      have hbA : Below wr.heap.size wr (wr.alloc (.cells #[.bool ds, .int .i64 dc, .int .i64 dr, .int .i64 dk, .int .i64 dt] 89)) := (Below.refl _ _).alloc (Nat.le_refl _) _
      have hxA := box_new wr #[.bool ds, .int .i64 dc, .int .i64 dr, .int .i64 dk, .int .i64 dt] 89
      have hzA : wr.heap.size + 1 ≤ (wr.alloc (.cells #[.bool ds, .int .i64 dc, .int .i64 dr, .int .i64 dk, .int .i64 dt] 89)).heap.size := by simp only [World.size_alloc]; omega
      have HO := Lib.hid (hown.alloc (.cells #[.bool ds, .int .i64 dc, .int .i64 dr, .int .i64 dk, .int .i64 dt] 89))
      have hltg : g2 < wr.heap.size := by omega
      go_upto_region 5 with (fail)
      clear qc0
      clear qc1
      clear qc2
      clear qc3
      clear qc4
      generalize (wr.alloc (.cells #[.bool ds, .int .i64 dc, .int .i64 dr, .int .i64 dk, .int .i64 dt] 89)) = wq at *
      have HB := Lib.hid (hb.trans (hbA.mono hzb))
      have HXA := Lib.hid hxA
      have HOC := Lib.hid (fun (W : World) => ofCase_any W ds dc dr dk dt)
      have hrv : ∃ rb, rb = canB x ⟨ds, dc, dr, dk, dt⟩ := ⟨_, rfl⟩
      obtain ⟨rb, hrb⟩ := hrv
      have HCV := Lib.hid (fun (W : World) (hW : Below w.heap.size w W) (f : Nat) (cp : Array Value) (h : RdyV (fun _ => True) (fun x => canB x ⟨ds, dc, dr, dk, dt⟩) W f cp) => show Calls Tryz.prog f (#[.agg #[.slice A0 n0 c0, .slice A1 n1 c1, .slice A2 n2 c2]] ++ cp) W fun e W' => e = .returned (.bool rb) ∧ Below W.heap.size W W' from by rw [hrb]; exact h.2 W (Below.refl _ _) hi x _ (HEE.out W hW) (Nat.le_trans hhi hW.size) HN.out trivial)
      rw [← hrb] at HT
      clear hcell HD hrb hxA hbA hb hown
      have hz9 := HB.out.size
      refine wp_region_inv (fun AC0 L a W => ∃ sl15 sl16 sl17 sl18 : Value, a = ((((AC0.put (some 15) sl15).put (some 16) sl16).put (some 17) sl17).put (some 18) sl18) ∧ Below wq.heap.size wq W ∧ ((L 0 → sl15 = (.agg #[.bool ds, .int .i64 dc, .int .i64 dr, .int .i64 dk, .int .i64 dt])) ∧ (L 1 → RdyAt (fun _ => True) (fun x => canB x ⟨ds, dc, dr, dk, dt⟩) W sl16) ∧ (L 2 → sl17 = (.agg #[.slice A0 n0 c0, .slice A1 n1 c1, .slice A2 n2 c2])) ∧ (L 3 → sl18 = (.bool rb)))) (by kernel_rfl) (by kernel_rfl) ?_ ?_ ?_
      · exact ⟨u15, u16, u17, u18, by kernel_rfl, Below.drew (Below.refl _ _), fun h => absurd h id, fun h => absurd h id, fun h => absurd h id, fun h => absurd h id⟩
      · intro Q9; refine InvFrom.cons (fun L a W hI hN hD K hK => ?_) ?_
        · obtain ⟨sl15, sl16, sl17, sl18, ha, hB, f0, f1, f2, f3⟩ := hI
          subst ha
          have hz := hB.size
          have pc0 := box_cell (j := 0) (box_keep HXA.out hB (by omega)) rfl
          have pc1 := box_cell (j := 1) (box_keep HXA.out hB (by omega)) rfl
          have pc2 := box_cell (j := 2) (box_keep HXA.out hB (by omega)) rfl
          have pc3 := box_cell (j := 3) (box_keep HXA.out hB (by omega)) rfl
          have pc4 := box_cell (j := 4) (box_keep HXA.out hB (by omega)) rfl
          refine Kept.mk ?_
          simp only [Act.put, pA, pZ, pS]
          go_simp
          refine hK.out _ _ ?_
          exact ⟨(.agg #[.bool ds, .int .i64 dc, .int .i64 dr, .int .i64 dk, .int .i64 dt]), sl16, sl17, sl18, by kernel_rfl, hB, fun _ => rfl, nf f1, nf f2, nf f3⟩
        refine InvFrom.cons (fun L a W hI hN hD K hK => ?_) ?_
        · obtain ⟨sl15, sl16, sl17, sl18, ha, hB, f0, f1, f2, f3⟩ := hI
          subst ha
          have hz := hB.size
          have d0 := f0 (hD 0 (by kernel_rfl))
          subst d0
          refine kept_c1 rfl 67 _ _ rfl (fenters_of' Tryz.func67 (by kernel_rfl) (by kernel_rfl)) (.agg #[.bool ds, .int .i64 dc, .int .i64 dr, .int .i64 dk, .int .i64 dt]) (by kernel_rfl) (HOC.out W) ?_
          rintro e W1 ⟨f9, cp9, rfl, hr9, hb1⟩
          refine ⟨_, rfl, hK.out _ _ ?_⟩
          exact ⟨(.agg #[.bool ds, .int .i64 dc, .int .i64 dr, .int .i64 dk, .int .i64 dt]), (.func (.func f9) #[] cp9), sl17, sl18, by kernel_rfl, hB.trans (hb1.mono hz), nf f0, fun _ => ⟨f9, cp9, rfl, hr9⟩, nf f2, nf f3⟩
        refine InvFrom.cons (fun L a W hI hN hD K hK => ?_) ?_
        · obtain ⟨sl15, sl16, sl17, sl18, ha, hB, f0, f1, f2, f3⟩ := hI
          subst ha
          have hz := hB.size
          have pe0 := box_cell (j := 0) (box_keep (box_keep HE0.out HB.out (by omega)) hB (by omega)) rfl
          have pe1 := box_cell (j := 1) (box_keep (box_keep HE0.out HB.out (by omega)) hB (by omega)) rfl
          have pe2 := box_cell (j := 2) (box_keep (box_keep HE0.out HB.out (by omega)) hB (by omega)) rfl
          refine Kept.mk ?_
          simp only [Act.put, pA, pZ, pS]
          go_simp
          refine hK.out _ _ ?_
          exact ⟨sl15, sl16, (.agg #[.slice A0 n0 c0, .slice A1 n1 c1, .slice A2 n2 c2]), sl18, by kernel_rfl, hB, nf f0, nf f1, fun _ => rfl, nf f3⟩
        refine InvFrom.cons (fun L a W hI hN hD K hK => ?_) ?_
        · obtain ⟨sl15, sl16, sl17, sl18, ha, hB, f0, f1, f2, f3⟩ := hI
          subst ha
          have hz := hB.size
          have d1 := f1 (hD 1 (by kernel_rfl))
          obtain ⟨f8, cp8, rfl, hr8⟩ := d1
          have d2 := f2 (hD 2 (by kernel_rfl))
          subst d2
          refine kept_vc1 rfl f8 cp8 _ _ _ rfl hr8.1 (by kernel_rfl) (.agg #[.slice A0 n0 c0, .slice A1 n1 c1, .slice A2 n2 c2]) (by kernel_rfl) (HCV.out W (HB0.out.trans ((HB.out.trans (hB.mono HB.out.size)).mono (by omega))) _ _ hr8) ?_
          rintro e W1 ⟨rfl, hb1⟩
          refine ⟨_, rfl, hK.out _ _ ?_⟩
          exact ⟨sl15, (.func (.func f8) #[] cp8), (.agg #[.slice A0 n0 c0, .slice A1 n1 c1, .slice A2 n2 c2]), (.bool rb), by kernel_rfl, hB.trans (hb1.mono hz), nf f0, fun h => (f1 (nx h)).up hb1, nf f2, fun _ => rfl⟩
        exact InvFrom.nil
      intro L a w5 hL hI
      obtain ⟨sl15, sl16, sl17, sl18, ha, hbw5, hI⟩ := hI
      subst ha
      have hfin := hI.2.2.2 (hL 3 (by decide))
      subst hfin
      clear hL hI
      refine Kept.mk ?_
      simp only [Act.put, pA, pZ, pS]
      have hz5 := hbw5.size
      have HB5 := Lib.hid (HB.out.trans (hbw5.mono HB.out.size))
      have HO5 := Lib.hid ((HO.out.below hbw5 (by omega)).wider (Nat.le_refl _) (by omega) : Own w5 W0.heap.size w5.heap.size 3 1 B done.length c' (done.map (Value.int .i64)))
      clear HCV hbw5 HO HB HOC HXA
      cases rb
      · simp only [Bool.false_eq_true, if_false] at HT
        go_wp2_with fail
        go_roundw
        case rel => exact ⟨k + 1, B, c', done, by omega, by go_num, rfl, Lib.hid (by rw [HT.out, ← HDN.out]; simp), HO5.out, HB5.out⟩
        case measure => simp [intOf]; omega
      · simp only [if_true] at HT
        have hs1 := Seen.one w5 (.int .i64 (k : Int)) 3
        have hownA := HO5.out.alloc (.cells #[.int .i64 (k : Int)] 3)
        have hdm : done.length ≤ 1048576 := by omega
        go_wp2_with (at_builtin; refine wpList_append_seen rfl (.tmp 19) (.tmp 21) _ rfl W0.heap.size _ 3 i0 _ 1 8 Tryz.underlying22 hi0 iz0 iz1 iz2 rfl (by omega) B done.length c' _ rfl hownA _ _ 1 1 _ rfl hs1 (by simp [Value.oneCell']) (by simp only [maxLen]; omega) (by omega) (by simp; omega) ?_; intro B4 c4 w6 own6 hb6)
        go_roundw
        case rel =>
          refine ⟨k + 1, B4, c4, done ++ [(k : Int)], by omega, by go_num, by simp, Lib.hid ?_, ?_, ?_⟩
          · rw [HT.out, ← HDN.out]
          · rw [List.map_append, List.length_append]; exact own6
          · exact HB5.out.trans (((Below.refl _ _).alloc (by omega) _).trans hb6)
        case measure => simp [intOf]; omega
    · obtain rfl : k = l0 := by omega
      have h9 := HDN.out
      go_wp2_with fail
      go_ret
      rw [show rdyL x cs = rdyTo x cs k by unfold rdyL; rw [HL.out], ← h9]
      exact ⟨B, c', rfl, (own_rowI hown (fun z hz => by rw [h9] at hz; have := rdyTo_mem hz; exact WalkArith.wf_i64 (by omega))).wide (fun b hb => ⟨by omega, hb.2⟩), HB0.out.trans (hb.mono (by omega))⟩

set_option maxRecDepth 100000 in
set_option maxHeartbeats 4000000 in
theorem ofSelect1_any {w : World} {hi : Nat} {x : DEng} {vs : List Value} (he : layEng.see w hi x vs) (hhi : hi ≤ w.heap.size) (hne : szEng x ≤ 1048576) {hj l0 cc b1 : Nat} {el : Int} {A : Option Addr} {cs : List DCase} (hs : SeenR layCase w hj A l0 cs) (hhj : hj ≤ w.heap.size) (hl0 : l0 ≤ 1048576) (h1 : w.heap[b1]? = some (.cells #[.slice A l0 cc, .int .i64 el] 93 (0, 0))) :
    Calls Tryz.prog 111 #[.agg vs.toArray, .pointer (some ⟨b1, 0, none⟩)] w fun e w' => e = .returned (.bool (decide (el ≠ -1) || decide (0 < (rdyL x cs).length))) ∧ Below w.heap.size w w' := by
  have hl1 := lt_of_block h1
  have HRO := Lib.hid (fun (W : World) (hW : Below w.heap.size w W) => readyOf_any (cc := cc) (layEng.keep he (w' := W) fun k hk => hW.block k (by omega)) (Nat.le_trans hhi hW.size) hne (hs.below hW hhj) (Nat.le_trans hhj hW.size) hl0)
  have hrl : (rdyL x cs).length ≤ 1048576 := Nat.le_trans (rdyTo_len _ _ _) (by rw [hs.1]; exact hl0)
  generalize rdyL x cs = r at *
  obtain ⟨A0, n0, c0, A1, n1, c1, A2, n2, c2, rfl, -⟩ := seeEng he
  have hE0 := box_new w #[.slice A0 n0 c0, .slice A1 n1 c1, .slice A2 n2 c2] 44
  have hB0 : Below w.heap.size w (w.alloc (.cells #[.slice A0 n0 c0, .slice A1 n1 c1, .slice A2 n2 c2] 44)) := (Below.refl _ _).alloc (Nat.le_refl _) _
  have hz0 : w.heap.size + 1 ≤ (w.alloc (.cells #[.slice A0 n0 c0, .slice A1 n1 c1, .slice A2 n2 c2] 44)).heap.size := by simp only [World.size_alloc]; omega
  have hX1 := box_keep h1 hB0 hl1
  have pe0 := box_cell (j := 0) hE0 rfl
  have pe1 := box_cell (j := 1) hE0 rfl
  have pe2 := box_cell (j := 2) hE0 rfl
  have px0 := box_cell (j := 0) hX1 rfl
  have px1 := box_cell (j := 1) hX1 rfl
  have HB0 := Lib.hid hB0
  clear he hE0 hB0 hs hne h1 hX1
  by_cases hel : el = -1
  · subst hel
    go_enter Tryz.func111, Tryz.ntmps111
    go_wp2_with fail
    refine (HRO.out _ HB0.out).mono ?_
    rintro e w1 ⟨B, c, rfl, -, hb1⟩
    have HB1 := Lib.hid (HB0.out.trans (hb1.mono (by omega)))
    clear hb1 pe0 pe1 pe2 px0 px1
    have HRX := Lib.hid (show (decide ((-1 : Int) ≠ -1) || decide (0 < r.length)) = decide (0 < r.length) by simp)
    go_wp2_with fail
    go_ret
    exact ⟨by rw [HRX.out] <;> rfl, HB1.out⟩
  · have HRX := Lib.hid (show (decide (el ≠ -1) || decide (0 < r.length)) = true by rw [decide_eq_true hel]; rfl)
    have hee : (el != -1) = true := by simp [hel]
    clear hel HRO
    go_enter Tryz.func111, Tryz.ntmps111
    go_wp2_with fail
    go_ret
    exact ⟨by rw [HRX.out] <;> rfl, HB0.out⟩
theorem enters_ofSelect1 : Enters 111 := enters_of Tryz.func111 (by kernel_rfl) (by kernel_rfl)

set_option maxRecDepth 100000 in
set_option maxHeartbeats 4000000 in
theorem ofSelect_any {w : World} {hj l0 cc : Nat} {el : Int} {A : Option Addr} {cs : List DCase} (hs : SeenR layCase w hj A l0 cs) (hhj : hj ≤ w.heap.size) (hl0 : l0 ≤ 1048576) :
    Calls Tryz.prog 80 #[.agg #[.slice A l0 cc, .int .i64 el]] w (RdyE (fun _ => True) (fun x => decide (el ≠ -1) || decide (0 < (rdyL x cs).length)) w) := by
  have hC0 := box_new w #[.slice A l0 cc, .int .i64 el] 93
  have hB0 : Below w.heap.size w (w.alloc (.cells #[.slice A l0 cc, .int .i64 el] 93)) := (Below.refl _ _).alloc (Nat.le_refl _) _
  have hz0 : w.heap.size + 1 ≤ (w.alloc (.cells #[.slice A l0 cc, .int .i64 el] 93)).heap.size := by simp only [World.size_alloc]; omega
  have HB0 := Lib.hid hB0
  have HC0 := Lib.hid hC0
  have HS := Lib.hid hs
  clear hB0 hC0 hs
  go_enter Tryz.func80, Tryz.ntmps80
  go_wp2_with fail
  go_ret
  refine ⟨111, #[.pointer (some ⟨w.heap.size, 0, none⟩)], by simp, ⟨enters_ofSelect1, fun W hW hi x vs h hhi hn _ => ?_⟩, HB0.out⟩
  have hwW := HB0.out.trans (hW.mono (by omega))
  exact ofSelect1_any h hhi hn (HS.out.below hwW hhj) (Nat.le_trans hhj hwW.size) hl0 (box_keep HC0.out hW (by omega))

set_option maxRecDepth 100000 in
set_option maxHeartbeats 4000000 in
theorem ofLock1_any {w : World} {hi : Nat} {x : DEng} {vs : List Value} (he : layEng.see w hi x vs) (hhi : hi ≤ w.heap.size) {b1 b2 q : Nat} {n : Int} (hq : q < x.fMus.length) (h1 : w.heap[b1]? = some (.cells #[.int .i64 (q : Int)] 3 (0, 0))) (h2 : w.heap[b2]? = some (.cells #[.int .i64 n] 3 (0, 0))) :
    Calls Tryz.prog 112 #[.agg vs.toArray, .pointer (some ⟨b1, 0, none⟩), .pointer (some ⟨b2, 0, none⟩)] w fun e w' => e = .returned (.bool (decide (ownerAt x (q : Int) = -1) || decide (ownerAt x (q : Int) = n))) ∧ Below w.heap.size w w' := by
  have hl1 := lt_of_block h1
  have hl2 := lt_of_block h2
  have how : ownerAt x (q : Int) = (x.fMus[q]).fOwner := by unfold ownerAt; rw [Int.toNat_natCast, List.getElem?_eq_getElem hq, Option.getD_some]
  rw [how]
  obtain ⟨A0, n0, c0, A1, n1, c1, A2, n2, c2, rfl, -, -, ⟨hc2, hm2, s2⟩⟩ := seeEng he
  have hE0 := box_new w #[.slice A0 n0 c0, .slice A1 n1 c1, .slice A2 n2 c2] 44
  have hB0 : Below w.heap.size w (w.alloc (.cells #[.slice A0 n0 c0, .slice A1 n1 c1, .slice A2 n2 c2] 44)) := (Below.refl _ _).alloc (Nat.le_refl _) _
  have hz0 : w.heap.size + 1 ≤ (w.alloc (.cells #[.slice A0 n0 c0, .slice A1 n1 c1, .slice A2 n2 c2] 44)).heap.size := by simp only [World.size_alloc]; omega
  have hX1 := box_keep h1 hB0 hl1
  have hX2 := box_keep h2 hB0 hl2
  have hqn : q < n2 := by have := s2.1; omega
  obtain ⟨hx2, g2, o2, ts, rfl, hg2, hsee2, hcell2⟩ := (s2.below hB0 hhi).at_ hqn
  generalize x.fMus[q] = mu at *
  obtain ⟨D1, j1, e1, rfl, -⟩ := seeMutex hsee2
  have mc0 := hcell2 0 _ rfl
  simp only [show layMutex.size = 2 from rfl, ← Nat.add_assoc, Nat.add_zero, Nat.mul_one] at mc0
  have hi2 : (0 : Int) ≤ (q : Int) := by omega
  have hi3 : (q : Int) < (n2 : Int) := by omega
  obtain ⟨mo, mw⟩ := mu
  simp only at mc0 ⊢
  have pe0 := box_cell (j := 0) hE0 rfl
  have pe1 := box_cell (j := 1) hE0 rfl
  have pe2 := box_cell (j := 2) hE0 rfl
  have px0 := box_cell (j := 0) hX1 rfl
  have py0 := box_cell (j := 0) hX2 rfl
  have HB0 := Lib.hid hB0
  clear he hE0 hB0 s2 h1 h2 hX1 hX2 hcell2 hsee2 how hq
  by_cases hm : mo = -1
  · subst hm
    go_enter Tryz.func112, Tryz.ntmps112
    go_wp2_with fail
    go_ret
    exact ⟨by simp, HB0.out⟩
  have hm1 : (mo == -1) = false := by simp [hm]
  by_cases hmq : mo = n
  · subst hmq
    clear hm
    go_enter Tryz.func112, Tryz.ntmps112
    go_wp2_with fail
    go_ret
    exact ⟨by simp, HB0.out⟩
  have hm2 : (mo == n) = false := by simp [hmq]
  have HRX := Lib.hid (show (decide (mo = -1) || decide (mo = n)) = false by rw [decide_eq_false hm, decide_eq_false hmq]; rfl)
  clear hm hmq
  go_enter Tryz.func112, Tryz.ntmps112
  go_wp2_with fail
  go_ret
  exact ⟨by rw [HRX.out] <;> rfl, HB0.out⟩
theorem enters_ofLock1 : Enters 112 := enters_of Tryz.func112 (by kernel_rfl) (by kernel_rfl)

set_option maxRecDepth 100000 in
set_option maxHeartbeats 4000000 in
theorem ofLock_any (w : World) (q : Nat) (n : Int) :
    Calls Tryz.prog 81 #[.int .i64 (q : Int), .int .i64 n] w (RdyE (fun x => q < x.fMus.length) (fun x => decide (ownerAt x (q : Int) = -1) || decide (ownerAt x (q : Int) = n)) w) := by
  have hC0 := box_new w #[.int .i64 (q : Int)] 3
  have hC0 := box_keep hC0 ((Below.refl _ _).alloc (Nat.le_refl _) (.cells #[.int .i64 n] 3)) (by simp only [World.size_alloc]; omega)
  have hD0 := box_new (w.alloc (.cells #[.int .i64 (q : Int)] 3)) #[.int .i64 n] 3
  simp only [World.size_alloc, Nat.add_assoc, Nat.reduceAdd] at hD0
  have hB0 : Below w.heap.size w ((w.alloc (.cells #[.int .i64 (q : Int)] 3)).alloc (.cells #[.int .i64 n] 3)) := ((Below.refl _ _).alloc (Nat.le_refl _) _).alloc (by simp only [World.size_alloc]; omega) _
  have hz0 : w.heap.size + 2 ≤ ((w.alloc (.cells #[.int .i64 (q : Int)] 3)).alloc (.cells #[.int .i64 n] 3)).heap.size := by simp only [World.size_alloc]; omega
  have HB0 := Lib.hid hB0
  have HC0 := Lib.hid hC0
  have HD0 := Lib.hid hD0
  clear hB0 hC0 hD0
  go_enter Tryz.func81, Tryz.ntmps81
  go_wp2_with fail
  go_ret
  refine ⟨112, #[.pointer (some ⟨w.heap.size, 0, none⟩), .pointer (some ⟨w.heap.size + 1, 0, none⟩)], by simp, ⟨enters_ofLock1, fun W hW hi x vs h hhi hn hgd => ?_⟩, HB0.out⟩
  exact ofLock1_any h hhi hgd (box_keep HC0.out hW (by omega)) (box_keep HD0.out hW (by omega))

set_option maxRecDepth 100000 in
set_option maxHeartbeats 4000000 in
theorem ofInstr1_any {w : World} {hi : Nat} {x : DEng} {vs : List Value} (he : layEng.see w hi x vs) (hhi : hi ≤ w.heap.size) :
    Calls Tryz.prog 82 #[.agg vs.toArray] w fun e w' => e = .returned (.bool true) ∧ Below w.heap.size w w' := by
  obtain ⟨A0, n0, c0, A1, n1, c1, A2, n2, c2, rfl, -⟩ := seeEng he
  have hE0 := box_new w #[.slice A0 n0 c0, .slice A1 n1 c1, .slice A2 n2 c2] 44
  have hB0 : Below w.heap.size w (w.alloc (.cells #[.slice A0 n0 c0, .slice A1 n1 c1, .slice A2 n2 c2] 44)) := (Below.refl _ _).alloc (Nat.le_refl _) _
  have hz0 : w.heap.size + 1 ≤ (w.alloc (.cells #[.slice A0 n0 c0, .slice A1 n1 c1, .slice A2 n2 c2] 44)).heap.size := by simp only [World.size_alloc]; omega
  have HB0 := Lib.hid hB0
  clear he hE0 hB0
  go_enter Tryz.func82, Tryz.ntmps82
  go_wp2_with fail
  go_ret
  exact ⟨rfl, HB0.out⟩
theorem enters_ofInstr1 : Enters 82 := enters_of Tryz.func82 (by kernel_rfl) (by kernel_rfl)
/-- What an instruction of a right program asks of the engine. -/
def GoodI (i : DInstr) (x : DEng) : Prop := i.fOp = 12 → 0 ≤ i.fA ∧ i.fA < x.fMus.length
theorem RdyE.is {good good' : DEng → Prop} {q q' : DEng → Bool} {w w' : World} {e : Ending} (h : RdyE good q w e w') (hg : ∀ x, good' x → good x) (hq : ∀ x, q x = q' x) : RdyE good' q' w e w' := by
  obtain ⟨f, caps, h1, ⟨h2, h3⟩, h4⟩ := h
  refine ⟨f, caps, h1, ⟨h2, fun W hW hi x vs hs hhi hn hx => ?_⟩, h4⟩
  rw [← hq x]
  exact h3 W hW hi x vs hs hhi hn (hg x hx)
theorem RdyE.over {good : DEng → Prop} {q : DEng → Bool} {w w0 w' : World} {e : Ending} (h : RdyE good q w0 e w') (hb : Below w.heap.size w w0) : RdyE good q w e w' := by
  obtain ⟨f, caps, h1, h2, h3⟩ := h
  exact ⟨f, caps, h1, h2, hb.trans (h3.mono hb.size)⟩

set_option maxRecDepth 100000 in
set_option maxHeartbeats 4000000 in
theorem ofInstr_any {w : World} {hi : Nat} {p : DProg} {vs : List Value} (hp : layProg.see w hi p vs) (hhi : hi ≤ w.heap.size) (hnp : szProg p ≤ 1048576) {io ia ib ic n : Int} (h11 : io = 11 → 0 ≤ ia ∧ ia < p.fSels.length) (h12 : io = 12 → 0 ≤ ia) :
    Calls Tryz.prog 52 #[.agg vs.toArray, .agg #[.int .i64 io, .int .i64 ia, .int .i64 ib, .int .i64 ic], .int .i64 n] w (RdyE (GoodI ⟨io, ia, ib, ic⟩) (fun x => goB p x ⟨io, ia, ib, ic⟩ n) w) := by
  obtain ⟨B0, m0, d0, B2, m2, d2, B3, m3, d3, rfl, -, -, ⟨hc2, hm2, s2⟩, -⟩ := seeProg hp
  by_cases h8 : io = 8
  · subst h8
    have hP0 := box_new w #[.slice B0 m0 d0, .int .i64 p.fMus, .slice B2 m2 d2, .slice B3 m3 d3] 38
    have hP0 := box_keep hP0 ((Below.refl _ _).alloc (Nat.le_refl _) (.cells #[.int .i64 8, .int .i64 ia, .int .i64 ib, .int .i64 ic] 61)) (by simp only [World.size_alloc]; omega)
    have hI0 := box_new (w.alloc (.cells #[.slice B0 m0 d0, .int .i64 p.fMus, .slice B2 m2 d2, .slice B3 m3 d3] 38)) #[.int .i64 8, .int .i64 ia, .int .i64 ib, .int .i64 ic] 61
    simp only [World.size_alloc, Nat.add_assoc, Nat.reduceAdd] at hI0
    have hB0 : Below w.heap.size w ((w.alloc (.cells #[.slice B0 m0 d0, .int .i64 p.fMus, .slice B2 m2 d2, .slice B3 m3 d3] 38)).alloc (.cells #[.int .i64 8, .int .i64 ia, .int .i64 ib, .int .i64 ic] 61)) := ((Below.refl _ _).alloc (Nat.le_refl _) _).alloc (by simp only [World.size_alloc]; omega) _
    have hz0 : w.heap.size + 2 ≤ ((w.alloc (.cells #[.slice B0 m0 d0, .int .i64 p.fMus, .slice B2 m2 d2, .slice B3 m3 d3] 38)).alloc (.cells #[.int .i64 8, .int .i64 ia, .int .i64 ib, .int .i64 ic] 61)).heap.size := by simp only [World.size_alloc]; omega
    have zi0 := box_cell (j := 0) hI0 rfl
    have zi1 := box_cell (j := 1) hI0 rfl
    have zi2 := box_cell (j := 2) hI0 rfl
    have zi3 := box_cell (j := 3) hI0 rfl
    have HB0 := Lib.hid hB0
    clear hp s2 hP0 hI0 hB0 h11 h12
    go_enter Tryz.func52, Tryz.ntmps52
    go_wp2_with fail
    refine (likeCase8_any ia ib ic _).mono ?_
    rintro e w1 ⟨rfl, hb1⟩
    have HB1 := Lib.hid (HB0.out.trans (hb1.mono (by omega)))
    clear hb1 zi0 zi1 zi2 zi3
    go_wp2_with fail
    refine (ofCase_any _ true ia ib 0 0).mono ?_
    rintro e w2 ⟨f, cp, rfl, hr, hb2⟩
    go_wp2_with fail
    go_ret
    exact RdyE.over (RdyE.is ⟨f, cp, rfl, hr, hb2⟩ (fun _ _ => trivial) (fun x => by unfold goB; rw [if_pos (.inl rfl)]; rfl)) HB1.out
  by_cases h9 : io = 9
  · subst h9
    have hP0 := box_new w #[.slice B0 m0 d0, .int .i64 p.fMus, .slice B2 m2 d2, .slice B3 m3 d3] 38
    have hP0 := box_keep hP0 ((Below.refl _ _).alloc (Nat.le_refl _) (.cells #[.int .i64 9, .int .i64 ia, .int .i64 ib, .int .i64 ic] 61)) (by simp only [World.size_alloc]; omega)
    have hI0 := box_new (w.alloc (.cells #[.slice B0 m0 d0, .int .i64 p.fMus, .slice B2 m2 d2, .slice B3 m3 d3] 38)) #[.int .i64 9, .int .i64 ia, .int .i64 ib, .int .i64 ic] 61
    simp only [World.size_alloc, Nat.add_assoc, Nat.reduceAdd] at hI0
    have hB0 : Below w.heap.size w ((w.alloc (.cells #[.slice B0 m0 d0, .int .i64 p.fMus, .slice B2 m2 d2, .slice B3 m3 d3] 38)).alloc (.cells #[.int .i64 9, .int .i64 ia, .int .i64 ib, .int .i64 ic] 61)) := ((Below.refl _ _).alloc (Nat.le_refl _) _).alloc (by simp only [World.size_alloc]; omega) _
    have hz0 : w.heap.size + 2 ≤ ((w.alloc (.cells #[.slice B0 m0 d0, .int .i64 p.fMus, .slice B2 m2 d2, .slice B3 m3 d3] 38)).alloc (.cells #[.int .i64 9, .int .i64 ia, .int .i64 ib, .int .i64 ic] 61)).heap.size := by simp only [World.size_alloc]; omega
    have zi0 := box_cell (j := 0) hI0 rfl
    have zi1 := box_cell (j := 1) hI0 rfl
    have zi2 := box_cell (j := 2) hI0 rfl
    have zi3 := box_cell (j := 3) hI0 rfl
    have HB0 := Lib.hid hB0
    clear hp s2 hP0 hI0 hB0 h11 h12
    go_enter Tryz.func52, Tryz.ntmps52
    go_wp2_with fail
    refine (likeCase9_any ia ib ic _).mono ?_
    rintro e w1 ⟨rfl, hb1⟩
    have HB1 := Lib.hid (HB0.out.trans (hb1.mono (by omega)))
    clear hb1 zi0 zi1 zi2 zi3
    go_wp2_with fail
    refine (ofCase_any _ false ia ib ic 0).mono ?_
    rintro e w2 ⟨f, cp, rfl, hr, hb2⟩
    go_wp2_with fail
    go_ret
    exact RdyE.over (RdyE.is ⟨f, cp, rfl, hr, hb2⟩ (fun _ _ => trivial) (fun x => by unfold goB; rw [if_pos (.inr rfl)]; rfl)) HB1.out
  by_cases hz11 : io = 11
  · subst hz11
    obtain ⟨ha0, ha1⟩ := h11 rfl
    obtain ⟨q, rfl⟩ := Int.eq_ofNat_of_zero_le ha0
    have hq : q < p.fSels.length := by omega
    have hqm : q < m2 := by have := s2.1; omega
    have hsl : selI p ⟨11, (q : Int), ib, ic⟩ = p.fSels[q] := by unfold selI; simp only [Int.toNat_natCast]; rw [List.getElem?_eq_getElem hq, Option.getD_some]
    have hln : (p.fSels[q]).fCases.length ≤ 1048576 := by have h1 := sum_mem_le szSelect (List.getElem_mem hq); unfold szProg at hnp; unfold szSelect at h1 hnp; omega
    have hP0 := box_new w #[.slice B0 m0 d0, .int .i64 p.fMus, .slice B2 m2 d2, .slice B3 m3 d3] 38
    have hP0 := box_keep hP0 ((Below.refl _ _).alloc (Nat.le_refl _) (.cells #[.int .i64 11, .int .i64 (q : Int), .int .i64 ib, .int .i64 ic] 61)) (by simp only [World.size_alloc]; omega)
    have hI0 := box_new (w.alloc (.cells #[.slice B0 m0 d0, .int .i64 p.fMus, .slice B2 m2 d2, .slice B3 m3 d3] 38)) #[.int .i64 11, .int .i64 (q : Int), .int .i64 ib, .int .i64 ic] 61
    simp only [World.size_alloc, Nat.add_assoc, Nat.reduceAdd] at hI0
    have hB0 : Below w.heap.size w ((w.alloc (.cells #[.slice B0 m0 d0, .int .i64 p.fMus, .slice B2 m2 d2, .slice B3 m3 d3] 38)).alloc (.cells #[.int .i64 11, .int .i64 (q : Int), .int .i64 ib, .int .i64 ic] 61)) := ((Below.refl _ _).alloc (Nat.le_refl _) _).alloc (by simp only [World.size_alloc]; omega) _
    have hz0 : w.heap.size + 2 ≤ ((w.alloc (.cells #[.slice B0 m0 d0, .int .i64 p.fMus, .slice B2 m2 d2, .slice B3 m3 d3] 38)).alloc (.cells #[.int .i64 11, .int .i64 (q : Int), .int .i64 ib, .int .i64 ic] 61)).heap.size := by simp only [World.size_alloc]; omega
    obtain ⟨hx2, g2, o2, ts, rfl, hg2, hsee2, hcell2⟩ := (s2.below hB0 hhi).at_ hqm
    generalize p.fSels[q] = s at *
    obtain ⟨C0, l0, f0, rfl, ⟨hcc, hmm, sC⟩, -⟩ := seeSelect hsee2
    have cc0 := hcell2 0 _ rfl
    have cc1 := hcell2 1 _ rfl
    simp only [show laySelect.size = 2 from rfl, ← Nat.add_assoc, Nat.add_zero, Nat.mul_one] at cc0 cc1
    have hl0 : l0 ≤ 1048576 := by rw [← sC.1]; exact hln
    have hi2 : (0 : Int) ≤ (q : Int) := by omega
    have hi3 : (q : Int) < (m2 : Int) := by omega
    have pp0 := box_cell (j := 0) hP0 rfl
    have pp1 := box_cell (j := 1) hP0 rfl
    have pp2 := box_cell (j := 2) hP0 rfl
    have pp3 := box_cell (j := 3) hP0 rfl
    have zi0 := box_cell (j := 0) hI0 rfl
    have zi1 := box_cell (j := 1) hI0 rfl
    have zi2 := box_cell (j := 2) hI0 rfl
    have zi3 := box_cell (j := 3) hI0 rfl
    have HB0 := Lib.hid hB0
    have HSC := Lib.hid sC
    have HSL := Lib.hid hsl
    have hhi2 := Nat.le_trans hhi hB0.size
    have hwf : s.fElse = s.fElse := rfl
    obtain ⟨scs, sel⟩ := s
    simp only at cc1 HSC HSL
    clear hp s2 hP0 hI0 hB0 h11 h12 hsee2 hcell2 hsl hln sC ha0 ha1 hq hwf
    go_enter Tryz.func52, Tryz.ntmps52
    go_wp2_with fail
    refine (ofSelect_any (cc := f0) (el := sel) HSC.out hhi2 hl0).mono ?_
    rintro e w2 ⟨f, cp, rfl, hr, hb2⟩
    go_wp2_with fail
    go_ret
    exact RdyE.over (RdyE.is ⟨f, cp, rfl, hr, hb2⟩ (fun _ _ => trivial) (fun x => by unfold goB; rw [if_neg (show ¬((11 : Int) = 8 ∨ (11 : Int) = 9) by decide), if_pos rfl, HSL.out])) HB0.out
  by_cases hz12 : io = 12
  · subst hz12
    obtain ⟨q, rfl⟩ := Int.eq_ofNat_of_zero_le (h12 rfl)
    have hP0 := box_new w #[.slice B0 m0 d0, .int .i64 p.fMus, .slice B2 m2 d2, .slice B3 m3 d3] 38
    have hP0 := box_keep hP0 ((Below.refl _ _).alloc (Nat.le_refl _) (.cells #[.int .i64 12, .int .i64 (q : Int), .int .i64 ib, .int .i64 ic] 61)) (by simp only [World.size_alloc]; omega)
    have hI0 := box_new (w.alloc (.cells #[.slice B0 m0 d0, .int .i64 p.fMus, .slice B2 m2 d2, .slice B3 m3 d3] 38)) #[.int .i64 12, .int .i64 (q : Int), .int .i64 ib, .int .i64 ic] 61
    simp only [World.size_alloc, Nat.add_assoc, Nat.reduceAdd] at hI0
    have hB0 : Below w.heap.size w ((w.alloc (.cells #[.slice B0 m0 d0, .int .i64 p.fMus, .slice B2 m2 d2, .slice B3 m3 d3] 38)).alloc (.cells #[.int .i64 12, .int .i64 (q : Int), .int .i64 ib, .int .i64 ic] 61)) := ((Below.refl _ _).alloc (Nat.le_refl _) _).alloc (by simp only [World.size_alloc]; omega) _
    have hz0 : w.heap.size + 2 ≤ ((w.alloc (.cells #[.slice B0 m0 d0, .int .i64 p.fMus, .slice B2 m2 d2, .slice B3 m3 d3] 38)).alloc (.cells #[.int .i64 12, .int .i64 (q : Int), .int .i64 ib, .int .i64 ic] 61)).heap.size := by simp only [World.size_alloc]; omega
    have zi0 := box_cell (j := 0) hI0 rfl
    have zi1 := box_cell (j := 1) hI0 rfl
    have zi2 := box_cell (j := 2) hI0 rfl
    have zi3 := box_cell (j := 3) hI0 rfl
    have HB0 := Lib.hid hB0
    clear hp s2 hP0 hI0 hB0 h11 h12
    go_enter Tryz.func52, Tryz.ntmps52
    go_wp2_with fail
    refine (ofLock_any _ q n).mono ?_
    rintro e w2 ⟨f, cp, rfl, hr, hb2⟩
    go_wp2_with fail
    go_ret
    exact RdyE.over (RdyE.is ⟨f, cp, rfl, hr, hb2⟩ (fun x hx => by have := (hx rfl).2; simp only at this; omega) (fun x => by unfold goB; rw [if_neg (show ¬((12 : Int) = 8 ∨ (12 : Int) = 9) by decide), if_neg (show ¬ (12 : Int) = 11 by decide), if_pos rfl])) HB0.out
  have hP0 := box_new w #[.slice B0 m0 d0, .int .i64 p.fMus, .slice B2 m2 d2, .slice B3 m3 d3] 38
  have hP0 := box_keep hP0 ((Below.refl _ _).alloc (Nat.le_refl _) (.cells #[.int .i64 io, .int .i64 ia, .int .i64 ib, .int .i64 ic] 61)) (by simp only [World.size_alloc]; omega)
  have hI0 := box_new (w.alloc (.cells #[.slice B0 m0 d0, .int .i64 p.fMus, .slice B2 m2 d2, .slice B3 m3 d3] 38)) #[.int .i64 io, .int .i64 ia, .int .i64 ib, .int .i64 ic] 61
  simp only [World.size_alloc, Nat.add_assoc, Nat.reduceAdd] at hI0
  have hB0 : Below w.heap.size w ((w.alloc (.cells #[.slice B0 m0 d0, .int .i64 p.fMus, .slice B2 m2 d2, .slice B3 m3 d3] 38)).alloc (.cells #[.int .i64 io, .int .i64 ia, .int .i64 ib, .int .i64 ic] 61)) := ((Below.refl _ _).alloc (Nat.le_refl _) _).alloc (by simp only [World.size_alloc]; omega) _
  have hz0 : w.heap.size + 2 ≤ ((w.alloc (.cells #[.slice B0 m0 d0, .int .i64 p.fMus, .slice B2 m2 d2, .slice B3 m3 d3] 38)).alloc (.cells #[.int .i64 io, .int .i64 ia, .int .i64 ib, .int .i64 ic] 61)).heap.size := by simp only [World.size_alloc]; omega
  have zi0 := box_cell (j := 0) hI0 rfl
  have zi1 := box_cell (j := 1) hI0 rfl
  have zi2 := box_cell (j := 2) hI0 rfl
  have zi3 := box_cell (j := 3) hI0 rfl
  have q8 : (io == 8) = false := by simp [h8]
  have q9 : (io == 9) = false := by simp [h9]
  have q11 : (io == 11) = false := by simp [hz11]
  have q12 : (io == 12) = false := by simp [hz12]
  have HQ := Lib.hid (fun (x : DEng) => show true = goB p x ⟨io, ia, ib, ic⟩ n from by unfold goB; rw [if_neg (fun h => h.elim h8 h9), if_neg hz11, if_neg hz12])
  have HB0 := Lib.hid hB0
  clear hp s2 hP0 hI0 hB0 h11 h12 h8 h9 hz11 hz12
  go_enter Tryz.func52, Tryz.ntmps52
  go_wp2_with fail
  go_ret
  exact ⟨82, #[], rfl, ⟨enters_ofInstr1, fun W hW hi x vs hs hhi hn hx => by show Calls _ _ _ W fun e W' => e = .returned (.bool (goB p x ⟨io, ia, ib, ic⟩ n)) ∧ _; rw [← HQ.out x, Array.append_empty]; exact ofInstr1_any hs hhi⟩, HB0.out⟩
/-- The cases of an instruction, in a slot. -/
def CasesAt (cs : List DCase) (w : World) (v : Value) : Prop := ∃ (A : Option Addr) (l c : Nat), v = .slice A l c ∧ SeenR layCase w w.heap.size A l cs ∧ l ≤ 1048576
theorem CasesAt.up {cs : List DCase} {w w' : World} {v : Value} (h : CasesAt cs w v) (hb : Below w.heap.size w w') : CasesAt cs w' v := by
  obtain ⟨A, l, c, h1, h2, h3⟩ := h
  exact ⟨A, l, c, h1, (h2.below hb (Nat.le_refl _)).more hb.size, h3⟩

set_option maxRecDepth 100000 in
set_option maxHeartbeats 4000000 in
theorem casesOf_any {w : World} {hi : Nat} {p : DProg} {vs : List Value} (hp : layProg.see w hi p vs) (hhi : hi ≤ w.heap.size) (hnp : szProg p ≤ 1048576) {io ia ib ic : Int} (h11 : io = 11 → 0 ≤ ia ∧ ia < p.fSels.length) :
    Calls Tryz.prog 40 #[.agg vs.toArray, .agg #[.int .i64 io, .int .i64 ia, .int .i64 ib, .int .i64 ic]] w fun e w' => ∃ v, e = .returned v ∧ CasesAt (csAt p ⟨io, ia, ib, ic⟩) w' v ∧ Below w.heap.size w w' := by
  obtain ⟨B0, m0, d0, B2, m2, d2, B3, m3, d3, rfl, -, -, ⟨hc2, hm2, s2⟩, -⟩ := seeProg hp
  by_cases hz11 : io = 11
  · subst hz11
    obtain ⟨ha0, ha1⟩ := h11 rfl
    obtain ⟨q, rfl⟩ := Int.eq_ofNat_of_zero_le ha0
    have hq : q < p.fSels.length := by omega
    have hqm : q < m2 := by have := s2.1; omega
    have hcs : csAt p ⟨11, (q : Int), ib, ic⟩ = (p.fSels[q]).fCases := by unfold csAt selI; simp only [if_pos, Int.toNat_natCast]; rw [List.getElem?_eq_getElem hq, Option.getD_some]
    rw [hcs]
    have hln : (p.fSels[q]).fCases.length ≤ 1048576 := by have h1 := sum_mem_le szSelect (List.getElem_mem hq); unfold szProg at hnp; unfold szSelect at h1 hnp; omega
    have hP0 := box_new w #[.slice B0 m0 d0, .int .i64 p.fMus, .slice B2 m2 d2, .slice B3 m3 d3] 38
    have hP0 := box_keep hP0 ((Below.refl _ _).alloc (Nat.le_refl _) (.cells #[.int .i64 11, .int .i64 (q : Int), .int .i64 ib, .int .i64 ic] 61)) (by simp only [World.size_alloc]; omega)
    have hI0 := box_new (w.alloc (.cells #[.slice B0 m0 d0, .int .i64 p.fMus, .slice B2 m2 d2, .slice B3 m3 d3] 38)) #[.int .i64 11, .int .i64 (q : Int), .int .i64 ib, .int .i64 ic] 61
    simp only [World.size_alloc, Nat.add_assoc, Nat.reduceAdd] at hI0
    have hB0 : Below w.heap.size w ((w.alloc (.cells #[.slice B0 m0 d0, .int .i64 p.fMus, .slice B2 m2 d2, .slice B3 m3 d3] 38)).alloc (.cells #[.int .i64 11, .int .i64 (q : Int), .int .i64 ib, .int .i64 ic] 61)) := ((Below.refl _ _).alloc (Nat.le_refl _) _).alloc (by simp only [World.size_alloc]; omega) _
    have hz0 : w.heap.size + 2 ≤ ((w.alloc (.cells #[.slice B0 m0 d0, .int .i64 p.fMus, .slice B2 m2 d2, .slice B3 m3 d3] 38)).alloc (.cells #[.int .i64 11, .int .i64 (q : Int), .int .i64 ib, .int .i64 ic] 61)).heap.size := by simp only [World.size_alloc]; omega
    obtain ⟨hx2, g2, o2, ts, rfl, hg2, hsee2, hcell2⟩ := (s2.below hB0 hhi).at_ hqm
    generalize p.fSels[q] = s at *
    obtain ⟨C0, l0, f0, rfl, ⟨hcc, hmm, sC⟩, -⟩ := seeSelect hsee2
    have cc0 := hcell2 0 _ rfl
    have cc1 := hcell2 1 _ rfl
    simp only [show laySelect.size = 2 from rfl, ← Nat.add_assoc, Nat.add_zero, Nat.mul_one] at cc0 cc1
    have hl0 : l0 ≤ 1048576 := by rw [← sC.1]; exact hln
    have hi2 : (0 : Int) ≤ (q : Int) := by omega
    have hi3 : (q : Int) < (m2 : Int) := by omega
    have pp0 := box_cell (j := 0) hP0 rfl
    have pp1 := box_cell (j := 1) hP0 rfl
    have pp2 := box_cell (j := 2) hP0 rfl
    have pp3 := box_cell (j := 3) hP0 rfl
    have zi0 := box_cell (j := 0) hI0 rfl
    have zi1 := box_cell (j := 1) hI0 rfl
    have zi2 := box_cell (j := 2) hI0 rfl
    have zi3 := box_cell (j := 3) hI0 rfl
    have HB0 := Lib.hid hB0
    have HSC := Lib.hid sC
    have HH := Lib.hid (Nat.le_trans hhi hB0.size)
    clear hp s2 hP0 hI0 hB0 h11 hsee2 hcell2 hcs hln sC ha0 ha1 hq
    go_enter Tryz.func40, Tryz.ntmps40
    go_wp2_with fail
    go_ret
    exact ⟨_, rfl, ⟨C0, l0, f0, rfl, HSC.out.more HH.out, hl0⟩, HB0.out⟩
  have hP0 := box_new w #[.slice B0 m0 d0, .int .i64 p.fMus, .slice B2 m2 d2, .slice B3 m3 d3] 38
  have hP0 := box_keep hP0 ((Below.refl _ _).alloc (Nat.le_refl _) (.cells #[.int .i64 io, .int .i64 ia, .int .i64 ib, .int .i64 ic] 61)) (by simp only [World.size_alloc]; omega)
  have hI0 := box_new (w.alloc (.cells #[.slice B0 m0 d0, .int .i64 p.fMus, .slice B2 m2 d2, .slice B3 m3 d3] 38)) #[.int .i64 io, .int .i64 ia, .int .i64 ib, .int .i64 ic] 61
  simp only [World.size_alloc, Nat.add_assoc, Nat.reduceAdd] at hI0
  have hB0 : Below w.heap.size w ((w.alloc (.cells #[.slice B0 m0 d0, .int .i64 p.fMus, .slice B2 m2 d2, .slice B3 m3 d3] 38)).alloc (.cells #[.int .i64 io, .int .i64 ia, .int .i64 ib, .int .i64 ic] 61)) := ((Below.refl _ _).alloc (Nat.le_refl _) _).alloc (by simp only [World.size_alloc]; omega) _
  have hz0 : w.heap.size + 2 ≤ ((w.alloc (.cells #[.slice B0 m0 d0, .int .i64 p.fMus, .slice B2 m2 d2, .slice B3 m3 d3] 38)).alloc (.cells #[.int .i64 io, .int .i64 ia, .int .i64 ib, .int .i64 ic] 61)).heap.size := by simp only [World.size_alloc]; omega
  have zi0 := box_cell (j := 0) hI0 rfl
  have zi1 := box_cell (j := 1) hI0 rfl
  have zi2 := box_cell (j := 2) hI0 rfl
  have zi3 := box_cell (j := 3) hI0 rfl
  have q11 : (io != 11) = true := by simp [hz11]
  rw [show csAt p ⟨io, ia, ib, ic⟩ = [] by unfold csAt; rw [if_neg hz11]]
  have HB0 := Lib.hid hB0
  clear hp s2 hP0 hI0 hB0 h11 hz11
  go_enter Tryz.func40, Tryz.ntmps40
  go_wp2_with fail
  go_ret
  exact ⟨_, rfl, ⟨none, 0, 0, rfl, ⟨rfl, .inl rfl⟩, Nat.zero_le _⟩, HB0.out⟩
def insR (p : DProg) (x : DEng) (n : Int) : DInstr := if askB p x n = true then insAt p x n else ⟨0, 0, 0, 0⟩

set_option maxRecDepth 100000 in
set_option maxHeartbeats 4000000 in
theorem readyAt_any {w : World} {hi : Nat} {p : DProg} {x : DEng} {vs us : List Value} (hp : layProg.see w hi p vs) (he : layEng.see w hi x us) (hhi : hi ≤ w.heap.size) (hOC : OpCells w) (hIC : ItemCells w) (hnp : szProg p ≤ 1048576) (hne : szEng x ≤ 1048576) (n : Int) :
    Calls Tryz.prog 38 #[.agg vs.toArray, .agg us.toArray, .int .i64 n] w fun e w' => e = .returned (.tuple #[.agg #[.int .i64 (insR p x n).fOp, .int .i64 (insR p x n).fA, .int .i64 (insR p x n).fB, .int .i64 (insR p x n).fC], .bool (askB p x n)]) ∧ Below w.heap.size w w' := by
  have HK := Lib.hid (fun (W : World) (hW : Below w.heap.size w W) => implEngOk_any (layProg.keep hp fun k hk => hW.block k (by omega)) (layEng.keep he fun k hk => hW.block k (by omega)) (Nat.le_trans hhi hW.size) (opCells_below hOC hW) (itemCells_below hIC hW (Nat.le_refl _)) hnp hne)
  have HI9 := Lib.hid (fun (hat : 0 ≤ (gorAt x n).fPc ∧ (gorAt x n).fPc < instrsZ p (gorAt x n).fProc) (d : DGor) (hd : gorAt x n = d) (W : World) (hW : Below w.heap.size w W) (gs : List Value) (hi9 : Nat) (hg : layGor.see W hi9 d gs) (h9 : hi9 ≤ W.heap.size) => implAt_any (layProg.more (layProg.keep hp fun k hk => hW.block k (by omega)) (Nat.le_trans hhi hW.size)) (layGor.more hg h9) (Nat.le_refl _) hnp (by rw [← hd]; exact hat))
  have HASK := Lib.hid (fun (h : askB p x n = true) => ask_parts h)
  obtain ⟨B0, m0, d0, B2, m2, d2, B3, m3, d3, rfl, -⟩ := seeProg hp
  obtain ⟨A0, n0, c0, A1, n1, c1, A2, n2, c2, rfl, ⟨hc0, hm0, s0⟩, -⟩ := seeEng he
  have HS0 := Lib.hid s0
  have HL0 := Lib.hid s0.1
  have HIP := fun W => isPl_any n n0 W
  have hP0 := box_new w #[.slice B0 m0 d0, .int .i64 p.fMus, .slice B2 m2 d2, .slice B3 m3 d3] 38
  have hP0 := box_keep hP0 ((Below.refl _ _).alloc (Nat.le_refl _) (.cells #[.slice A0 n0 c0, .slice A1 n1 c1, .slice A2 n2 c2] 44)) (by simp only [World.size_alloc]; omega)
  have hP0 := box_keep hP0 ((Below.refl _ _).alloc (Nat.le_refl _) (.cells #[.int .i64 0, .int .i64 0, .int .i64 0, .int .i64 0] 61)) (by simp only [World.size_alloc]; omega)
  have hE0 := box_new (w.alloc (.cells #[.slice B0 m0 d0, .int .i64 p.fMus, .slice B2 m2 d2, .slice B3 m3 d3] 38)) #[.slice A0 n0 c0, .slice A1 n1 c1, .slice A2 n2 c2] 44
  have hE0 := box_keep hE0 ((Below.refl _ _).alloc (Nat.le_refl _) (.cells #[.int .i64 0, .int .i64 0, .int .i64 0, .int .i64 0] 61)) (by simp only [World.size_alloc]; omega)
  simp only [World.size_alloc, Nat.add_assoc, Nat.reduceAdd] at hE0
  have hR0 := box_new ((w.alloc (.cells #[.slice B0 m0 d0, .int .i64 p.fMus, .slice B2 m2 d2, .slice B3 m3 d3] 38)).alloc (.cells #[.slice A0 n0 c0, .slice A1 n1 c1, .slice A2 n2 c2] 44)) #[.int .i64 0, .int .i64 0, .int .i64 0, .int .i64 0] 61
  simp only [World.size_alloc, Nat.add_assoc, Nat.reduceAdd] at hR0
  have hB0 : Below w.heap.size w (((w.alloc (.cells #[.slice B0 m0 d0, .int .i64 p.fMus, .slice B2 m2 d2, .slice B3 m3 d3] 38)).alloc (.cells #[.slice A0 n0 c0, .slice A1 n1 c1, .slice A2 n2 c2] 44)).alloc (.cells #[.int .i64 0, .int .i64 0, .int .i64 0, .int .i64 0] 61)) := (((Below.refl _ _).alloc (Nat.le_refl _) _).alloc (by simp only [World.size_alloc]; omega) _).alloc (by simp only [World.size_alloc]; omega) _
  have hz0 : w.heap.size + 3 ≤ (((w.alloc (.cells #[.slice B0 m0 d0, .int .i64 p.fMus, .slice B2 m2 d2, .slice B3 m3 d3] 38)).alloc (.cells #[.slice A0 n0 c0, .slice A1 n1 c1, .slice A2 n2 c2] 44)).alloc (.cells #[.int .i64 0, .int .i64 0, .int .i64 0, .int .i64 0] 61)).heap.size := by simp only [World.size_alloc]; omega
  have pe0 := box_cell (j := 0) hE0 rfl
  have pe1 := box_cell (j := 1) hE0 rfl
  have pe2 := box_cell (j := 2) hE0 rfl
  have pp0 := box_cell (j := 0) hP0 rfl
  have pp1 := box_cell (j := 1) hP0 rfl
  have pp2 := box_cell (j := 2) hP0 rfl
  have pp3 := box_cell (j := 3) hP0 rfl
  have HE0 := Lib.hid hE0
  have HP0 := Lib.hid hP0
  have HR0 := Lib.hid hR0
  have HB0 := Lib.hid hB0
  have hask : askB p x n = (engB p x && (decide (0 ≤ n ∧ n < x.fGs.length) && decide ((gorAt x n).fState = 1))) := rfl
  have HAK := Lib.hid hask
  generalize hb1 : engB p x = b1 at *
  clear hp he s0 hP0 hE0 hR0 hB0 hask hb1 hOC hIC
  go_enter Tryz.func38, Tryz.ntmps38
  go_upto_region 1 with (fail)
  generalize (((w.alloc (.cells #[.slice B0 m0 d0, .int .i64 p.fMus, .slice B2 m2 d2, .slice B3 m3 d3] 38)).alloc (.cells #[.slice A0 n0 c0, .slice A1 n1 c1, .slice A2 n2 c2] 44)).alloc (.cells #[.int .i64 0, .int .i64 0, .int .i64 0, .int .i64 0] 61)) = W0 at *
  go_wp2_with fail
  refine (HK.out _ HB0.out).mono ?_
  rintro e w1 ⟨rfl, hb1⟩
  have hz1 := hb1.size
  have HB1 := Lib.hid (HB0.out.trans (hb1.mono (by omega)))
  have HP1 := Lib.hid (box_keep HP0.out hb1 (by omega))
  have HE1 := Lib.hid (box_keep HE0.out hb1 (by omega))
  have HR1 := Lib.hid (box_keep HR0.out hb1 (by omega))
  clear pe0 pe1 pe2 pp0 pp1 pp2 pp3 hb1 HK HP0 HE0 HR0 HB0
  have pe0 := box_cell (j := 0) HE1.out rfl
  have pe1 := box_cell (j := 1) HE1.out rfl
  have pe2 := box_cell (j := 2) HE1.out rfl
  cases b1
  · skip
    have HF := Lib.hid (show askB p x n = false from by rw [HAK.out]; rfl)
    have HZ := Lib.hid (show insR p x n = ⟨0, 0, 0, 0⟩ from by unfold insR; rw [if_neg (by rw [HF.out]; simp)])
    have pr0 := box_cell (j := 0) HR1.out rfl
    have pr1 := box_cell (j := 1) HR1.out rfl
    have pr2 := box_cell (j := 2) HR1.out rfl
    have pr3 := box_cell (j := 3) HR1.out rfl
    have pf0 := box_free HR1.out 0
    have pf1 := box_free HR1.out 1
    have pf2 := box_free HR1.out 2
    have pf3 := box_free HR1.out 3
    have hrw : w.heap.size + 2 < w1.heap.size := by omega
    clear HIP HI9 HASK HS0
    go_wp2_with fail
    have y9 := putC4 (u0 := .int .i64 0) (u1 := .int .i64 0) (u2 := .int .i64 0) (u3 := .int .i64 0) HR1.out
    have y0 := box_cell (j := 0) y9 rfl
    have y1 := box_cell (j := 1) y9 rfl
    have y2 := box_cell (j := 2) y9 rfl
    have y3 := box_cell (j := 3) y9 rfl
    refine bodyPost_ret (v := .tuple #[.agg #[.int .i64 0, .int .i64 0, .int .i64 0, .int .i64 0], .bool false]) (by simp [results, Tryz.results38, go_sem, y0, y1, y2, y3, pr0, pr1, pr2, pr3]) rfl ?_
    exact ⟨by rw [HF.out, HZ.out], by first | exact HB1.out | exact below_set4 HB1.out (by omega)⟩
  by_cases hin : 0 ≤ n ∧ n < (n0 : Int)
  · simp only [decide_eq_true hin] at HIP
    obtain ⟨q, rfl⟩ := Int.eq_ofNat_of_zero_le hin.1
    have hq : q < n0 := by have := hin.2; omega
    obtain ⟨hx, g, o, ws, rfl, hg, hsee, hcell⟩ := (HS0.out.below HB1.out hhi).at_ hq
    have hga : gorAt x (q : Int) = x.fGs[q] := gorAt_get hx
    have hsw := fun (W : World) (hW : Below w1.heap.size w1 W) => layGor.keep hsee (w' := W) fun k hk => hW.block k (by have := HB1.out.size; omega)
    generalize x.fGs[q] = d at *
    obtain ⟨E2, k2, e2, E4, k4, e4, rfl, -⟩ := seeGor hsee
    have cc0 := hcell 0 _ rfl
    have cc1 := hcell 1 _ rfl
    have cc2 := hcell 2 _ rfl
    have cc3 := hcell 3 _ rfl
    have cc4 := hcell 4 _ rfl
    simp only [show layGor.size = 5 from rfl, ← Nat.add_assoc, Nat.add_zero, Nat.mul_one] at cc0 cc1 cc2 cc3 cc4
    have hi0 : (0 : Int) ≤ (q : Int) := by omega
    have hi1 : (q : Int) < (n0 : Int) := by omega
    have HGA := Lib.hid hga
    have HSW := Lib.hid hsw
    have HDI := Lib.hid (show decide (0 ≤ (q : Int) ∧ (q : Int) < x.fGs.length) = true from decide_eq_true ⟨hin.1, by rw [HL0.out]; exact hin.2⟩)
    clear hcell hsee hsw hga HS0 hin
    by_cases hs : d.fState = 1
    · have hqe : (d.fState != 1) = false := by simp [hs]
      have HF := Lib.hid (show askB p x (q : Int) = true from by rw [HAK.out, HDI.out, HGA.out, decide_eq_true hs]; rfl)
      clear hs
      have HZ := Lib.hid (show insR p x (q : Int) = atI p d from by unfold insR; rw [if_pos HF.out]; unfold insAt; rw [HGA.out])
      have HI7 := Lib.hid (fun (W : World) (hW : Below w1.heap.size w1 W) => HI9.out (HASK.out HF.out).at_ d HGA.out W (HB1.out.trans (hW.mono HB1.out.size)) _ hi (HSW.out W hW) (by have := HB1.out.size; have := hW.size; omega))
      have HI := HI7
      clear HI7 HI9 HASK HSW HAK
      generalize atI p d = ins at *
      obtain ⟨io, ia, ib, ic⟩ := ins
      simp only at HI
      go_wp2_with fail
      refine (HIP _).mono ?_
      rintro e w9 ⟨rfl, rfl⟩
      have HCC0 := Lib.hid cc0
      have HCC1 := Lib.hid cc1
      have HCC2 := Lib.hid cc2
      have HCC3 := Lib.hid cc3
      have HCC4 := Lib.hid cc4
      go_upto_region 3 with (fail)
      clear cc0
      clear cc1
      clear cc2
      clear cc3
      clear cc4
      clear pe0 pe1 pe2 HIP
      refine wp_region_inv (fun AC0 L a W => ∃ sl30 sl31 sl32 sl33 sl34 sl35 sl36 sl7 : Value, a = ((((((((AC0.put (some 30) sl30).put (some 31) sl31).put (some 32) sl32).put (some 33) sl33).put (some 34) sl34).put (some 35) sl35).put (some 36) sl36).put (some 7) sl7) ∧ (((∀ j, 7 ≤ j → ¬ L j) ∧ Below w1.heap.size w1 W ∧ (L 0 → sl30 = (.agg #[.slice B0 m0 d0, .int .i64 p.fMus, .slice B2 m2 d2, .slice B3 m3 d3])) ∧ (L 1 → sl31 = (.pointer (some ⟨w.heap.size + 1, 0, none⟩))) ∧ (L 2 → sl32 = (.slice (some ⟨g, o, none⟩) n0 c0)) ∧ (L 3 → sl33 = (.int .i64 (q : Int))) ∧ (L 4 → sl34 = (.pointer (some ⟨g, o + q * 5, none⟩))) ∧ (L 5 → sl35 = (.agg #[.int .i64 d.fProc, .int .i64 d.fPc, .slice E2 k2 e2, .int .i64 d.fState, .slice E4 k4 e4])) ∧ (L 6 → sl36 = (.agg #[.int .i64 io, .int .i64 ia, .int .i64 ib, .int .i64 ic]))) ∨ ((∀ j, j < 8 → L j) ∧ (∀ j, 8 ≤ j → ¬ L j) ∧ ∃ (w5 : World), W = ((((w5.setCell ⟨w.heap.size + 2, 0, none⟩ (.int .i64 io)).setCell ⟨w.heap.size + 2, 1, none⟩ (.int .i64 ia)).setCell ⟨w.heap.size + 2, 2, none⟩ (.int .i64 ib)).setCell ⟨w.heap.size + 2, 3, none⟩ (.int .i64 ic)) ∧ Below w1.heap.size w1 w5) ∨ ((∀ j, j < 9 → L j) ∧ (∀ j, 9 ≤ j → ¬ L j) ∧ ∃ (w5 : World), W = ((((w5.setCell ⟨w.heap.size + 2, 0, none⟩ (.int .i64 io)).setCell ⟨w.heap.size + 2, 1, none⟩ (.int .i64 ia)).setCell ⟨w.heap.size + 2, 2, none⟩ (.int .i64 ib)).setCell ⟨w.heap.size + 2, 3, none⟩ (.int .i64 ic)) ∧ Below w1.heap.size w1 w5 ∧ sl7 = .bool true))) (by kernel_rfl) (by kernel_rfl) ?_ ?_ ?_
      · exact ⟨undef, undef, undef, undef, undef, undef, undef, (.bool false), by kernel_rfl, .inl ⟨fun _ _ h => h, Below.drew (Below.refl _ _), fun h => absurd h id, fun h => absurd h id, fun h => absurd h id, fun h => absurd h id, fun h => absurd h id, fun h => absurd h id, fun h => absurd h id⟩⟩
      · intro Q9; refine InvFrom.cons (fun L a W hI hN hD K hK => ?_) ?_
        · obtain ⟨sl30, sl31, sl32, sl33, sl34, sl35, sl36, sl7, ha, hI⟩ := hI
          subst ha
          rcases hI with hI | h9 | h9
          rotate_left
          · exact absurd (h9.1 0 (by decide)) hN
          · exact absurd (h9.1 0 (by decide)) hN
          obtain ⟨hn, hB, f0, f1, f2, f3, f4, f5, f6⟩ := hI
          have hz := hB.size
          have pp0 := box_cell (j := 0) (box_keep HP1.out hB (by omega)) rfl
          have pp1 := box_cell (j := 1) (box_keep HP1.out hB (by omega)) rfl
          have pp2 := box_cell (j := 2) (box_keep HP1.out hB (by omega)) rfl
          have pp3 := box_cell (j := 3) (box_keep HP1.out hB (by omega)) rfl
          refine Kept.mk ?_
          simp only [Act.put, pA, pZ, pS]
          go_simp
          refine hK.out _ _ ?_
          exact ⟨(.agg #[.slice B0 m0 d0, .int .i64 p.fMus, .slice B2 m2 d2, .slice B3 m3 d3]), sl31, sl32, sl33, sl34, sl35, sl36, sl7, by kernel_rfl, .inl ⟨fun j hj h => h.elim (hn j hj) (by omega), hB, fun _ => rfl, nf f1, nf f2, nf f3, nf f4, nf f5, nf f6⟩⟩
        refine InvFrom.cons (fun L a W hI hN hD K hK => ?_) ?_
        · obtain ⟨sl30, sl31, sl32, sl33, sl34, sl35, sl36, sl7, ha, hI⟩ := hI
          subst ha
          rcases hI with hI | h9 | h9
          rotate_left
          · exact absurd (h9.1 1 (by decide)) hN
          · exact absurd (h9.1 1 (by decide)) hN
          obtain ⟨hn, hB, f0, f1, f2, f3, f4, f5, f6⟩ := hI
          have hz := hB.size
          refine Kept.mk ?_
          simp only [Act.put, pA, pZ, pS]
          go_simp
          refine hK.out _ _ ?_
          exact ⟨sl30, (.pointer (some ⟨w.heap.size + 1, 0, none⟩)), sl32, sl33, sl34, sl35, sl36, sl7, by kernel_rfl, .inl ⟨fun j hj h => h.elim (hn j hj) (by omega), hB, nf f0, fun _ => rfl, nf f2, nf f3, nf f4, nf f5, nf f6⟩⟩
        refine InvFrom.cons (fun L a W hI hN hD K hK => ?_) ?_
        · obtain ⟨sl30, sl31, sl32, sl33, sl34, sl35, sl36, sl7, ha, hI⟩ := hI
          subst ha
          rcases hI with hI | h9 | h9
          rotate_left
          · exact absurd (h9.1 2 (by decide)) hN
          · exact absurd (h9.1 2 (by decide)) hN
          obtain ⟨hn, hB, f0, f1, f2, f3, f4, f5, f6⟩ := hI
          have hz := hB.size
          have d1 := f1 (hD 1 (by kernel_rfl))
          subst d1
          have pe0 := box_cell (j := 0) (box_keep HE1.out hB (by omega)) rfl
          refine Kept.mk ?_
          simp only [Act.put, pA, pZ, pS]
          go_simp
          refine hK.out _ _ ?_
          exact ⟨sl30, (.pointer (some ⟨w.heap.size + 1, 0, none⟩)), (.slice (some ⟨g, o, none⟩) n0 c0), sl33, sl34, sl35, sl36, sl7, by kernel_rfl, .inl ⟨fun j hj h => h.elim (hn j hj) (by omega), hB, nf f0, nf f1, fun _ => rfl, nf f3, nf f4, nf f5, nf f6⟩⟩
        refine InvFrom.cons (fun L a W hI hN hD K hK => ?_) ?_
        · obtain ⟨sl30, sl31, sl32, sl33, sl34, sl35, sl36, sl7, ha, hI⟩ := hI
          subst ha
          rcases hI with hI | h9 | h9
          rotate_left
          · exact absurd (h9.1 3 (by decide)) hN
          · exact absurd (h9.1 3 (by decide)) hN
          obtain ⟨hn, hB, f0, f1, f2, f3, f4, f5, f6⟩ := hI
          have hz := hB.size
          refine Kept.mk ?_
          simp only [Act.put, pA, pZ, pS]
          go_simp
          refine hK.out _ _ ?_
          exact ⟨sl30, sl31, sl32, (.int .i64 (q : Int)), sl34, sl35, sl36, sl7, by kernel_rfl, .inl ⟨fun j hj h => h.elim (hn j hj) (by omega), hB, nf f0, nf f1, nf f2, fun _ => rfl, nf f4, nf f5, nf f6⟩⟩
        refine InvFrom.cons (fun L a W hI hN hD K hK => ?_) ?_
        · obtain ⟨sl30, sl31, sl32, sl33, sl34, sl35, sl36, sl7, ha, hI⟩ := hI
          subst ha
          rcases hI with hI | h9 | h9
          rotate_left
          · exact absurd (h9.1 4 (by decide)) hN
          · exact absurd (h9.1 4 (by decide)) hN
          obtain ⟨hn, hB, f0, f1, f2, f3, f4, f5, f6⟩ := hI
          have hz := hB.size
          have d2 := f2 (hD 2 (by kernel_rfl))
          subst d2
          have d3 := f3 (hD 3 (by kernel_rfl))
          subst d3
          refine Kept.mk ?_
          simp only [Act.put, pA, pZ, pS]
          go_simp
          refine hK.out _ _ ?_
          exact ⟨sl30, sl31, (.slice (some ⟨g, o, none⟩) n0 c0), (.int .i64 (q : Int)), (.pointer (some ⟨g, o + q * 5, none⟩)), sl35, sl36, sl7, by kernel_rfl, .inl ⟨fun j hj h => h.elim (hn j hj) (by omega), hB, nf f0, nf f1, nf f2, nf f3, fun _ => rfl, nf f5, nf f6⟩⟩
        refine InvFrom.cons (fun L a W hI hN hD K hK => ?_) ?_
        · obtain ⟨sl30, sl31, sl32, sl33, sl34, sl35, sl36, sl7, ha, hI⟩ := hI
          subst ha
          rcases hI with hI | h9 | h9
          rotate_left
          · exact absurd (h9.1 5 (by decide)) hN
          · exact absurd (h9.1 5 (by decide)) hN
          obtain ⟨hn, hB, f0, f1, f2, f3, f4, f5, f6⟩ := hI
          have hz := hB.size
          have d4 := f4 (hD 4 (by kernel_rfl))
          subst d4
          have cw0 := cell_up HCC0.out hB
          have cw1 := cell_up HCC1.out hB
          have cw2 := cell_up HCC2.out hB
          have cw3 := cell_up HCC3.out hB
          have cw4 := cell_up HCC4.out hB
          refine Kept.mk ?_
          simp only [Act.put, pA, pZ, pS]
          go_simp
          refine hK.out _ _ ?_
          exact ⟨sl30, sl31, sl32, sl33, (.pointer (some ⟨g, o + q * 5, none⟩)), (.agg #[.int .i64 d.fProc, .int .i64 d.fPc, .slice E2 k2 e2, .int .i64 d.fState, .slice E4 k4 e4]), sl36, sl7, by kernel_rfl, .inl ⟨fun j hj h => h.elim (hn j hj) (by omega), hB, nf f0, nf f1, nf f2, nf f3, nf f4, fun _ => rfl, nf f6⟩⟩
        refine InvFrom.cons (fun L a W hI hN hD K hK => ?_) ?_
        · obtain ⟨sl30, sl31, sl32, sl33, sl34, sl35, sl36, sl7, ha, hI⟩ := hI
          subst ha
          rcases hI with hI | h9 | h9
          rotate_left
          · exact absurd (h9.1 6 (by decide)) hN
          · exact absurd (h9.1 6 (by decide)) hN
          obtain ⟨hn, hB, f0, f1, f2, f3, f4, f5, f6⟩ := hI
          have hz := hB.size
          have d0 := f0 (hD 0 (by kernel_rfl))
          subst d0
          have d5 := f5 (hD 5 (by kernel_rfl))
          subst d5
          refine kept_c2 rfl 66 _ _ _ rfl (fenters_of' Tryz.func66 (by kernel_rfl) (by kernel_rfl)) (.agg #[.slice B0 m0 d0, .int .i64 p.fMus, .slice B2 m2 d2, .slice B3 m3 d3]) (.agg #[.int .i64 d.fProc, .int .i64 d.fPc, .slice E2 k2 e2, .int .i64 d.fState, .slice E4 k4 e4]) (by kernel_rfl) (by kernel_rfl) (HI.out W hB) ?_
          rintro e W1 ⟨rfl, hb1⟩
          refine ⟨_, rfl, hK.out _ _ ?_⟩
          exact ⟨(.agg #[.slice B0 m0 d0, .int .i64 p.fMus, .slice B2 m2 d2, .slice B3 m3 d3]), sl31, sl32, sl33, sl34, (.agg #[.int .i64 d.fProc, .int .i64 d.fPc, .slice E2 k2 e2, .int .i64 d.fState, .slice E4 k4 e4]), (.agg #[.int .i64 io, .int .i64 ia, .int .i64 ib, .int .i64 ic]), sl7, by kernel_rfl, .inl ⟨fun j hj h => h.elim (hn j hj) (by omega), hB.trans ((hb1.mono (Nat.le_refl _)).mono hz), nf f0, nf f1, nf f2, nf f3, nf f4, nf f5, fun _ => rfl⟩⟩
        refine InvFrom.cons (fun L a W hI hN hD K hK => ?_) ?_
        · obtain ⟨sl30, sl31, sl32, sl33, sl34, sl35, sl36, sl7, ha, hI⟩ := hI
          subst ha
          rcases hI with hI | h9 | h9
          rotate_left
          · exact absurd (h9.1 7 (by decide)) hN
          · exact absurd (h9.1 7 (by decide)) hN
          obtain ⟨hn, hB, f0, f1, f2, f3, f4, f5, f6⟩ := hI
          have hz := hB.size
          have d6 := f6 (hD 6 (by kernel_rfl))
          subst d6
          have hpr := box_keep HR1.out hB (by omega)
          have pr0 := box_cell (j := 0) hpr rfl
          have pr1 := box_cell (j := 1) hpr rfl
          have pr2 := box_cell (j := 2) hpr rfl
          have pr3 := box_cell (j := 3) hpr rfl
          have pf0 := box_free hpr 0
          have pf1 := box_free hpr 1
          have pf2 := box_free hpr 2
          have pf3 := box_free hpr 3
          refine Kept.mk ?_
          simp only [Act.put, pA, pZ, pS]
          go_simp
          refine hK.out _ _ ?_
          have hall : ∀ j, j < 8 → (L j ∨ j = 7) := by
            intro j hj
            have hj2 : j = 0 ∨ j = 1 ∨ j = 2 ∨ j = 3 ∨ j = 4 ∨ j = 5 ∨ j = 6 ∨ j = 7 := by omega
            rcases hj2 with rfl | rfl | rfl | rfl | rfl | rfl | rfl | rfl
            · exact .inl (hD 0 (by kernel_rfl))
            · exact .inl (hD 1 (by kernel_rfl))
            · exact .inl (hD 2 (by kernel_rfl))
            · exact .inl (hD 3 (by kernel_rfl))
            · exact .inl (hD 4 (by kernel_rfl))
            · exact .inl (hD 5 (by kernel_rfl))
            · exact .inl (hD 6 (by kernel_rfl))
            · exact .inr rfl
          exact ⟨sl30, sl31, sl32, sl33, sl34, sl35, (.agg #[.int .i64 io, .int .i64 ia, .int .i64 ib, .int .i64 ic]), sl7, by kernel_rfl, .inr (.inl ⟨hall, fun j hj h => h.elim (hn j (by omega)) (by omega), ⟨W, rfl, hB⟩⟩)⟩
        refine InvFrom.cons (fun L a W hI hN hD K hK => ?_) ?_
        · obtain ⟨sl30, sl31, sl32, sl33, sl34, sl35, sl36, sl7, ha, hI⟩ := hI
          subst ha
          rcases hI with h9 | hI | h9
          · exact absurd (hD 7 (by kernel_rfl)) (h9.1 7 (by decide))
          rotate_left
          · exact absurd (h9.1 8 (by decide)) hN
          obtain ⟨hu, hn, hI⟩ := hI
          obtain ⟨w5, rfl, hB5⟩ := hI
          refine Kept.mk ?_
          simp only [Act.put, pA, pZ, pS]
          go_simp
          refine hK.out _ _ ?_
          have hall : ∀ j, j < 9 → (L j ∨ j = 8) := by
            intro j hj
            have hj2 : j = 0 ∨ j = 1 ∨ j = 2 ∨ j = 3 ∨ j = 4 ∨ j = 5 ∨ j = 6 ∨ j = 7 ∨ j = 8 := by omega
            rcases hj2 with rfl | rfl | rfl | rfl | rfl | rfl | rfl | rfl | rfl
            · exact .inl (hD 0 (by kernel_rfl))
            · exact .inl (hD 1 (by kernel_rfl))
            · exact .inl (hD 2 (by kernel_rfl))
            · exact .inl (hD 3 (by kernel_rfl))
            · exact .inl (hD 4 (by kernel_rfl))
            · exact .inl (hD 5 (by kernel_rfl))
            · exact .inl (hD 6 (by kernel_rfl))
            · exact .inl (hD 7 (by kernel_rfl))
            · exact .inr rfl
          exact ⟨sl30, sl31, sl32, sl33, sl34, sl35, sl36, (.bool true), by kernel_rfl, .inr (.inr (⟨hall, fun j hj h => h.elim (hn j (by omega)) (by omega), ⟨w5, rfl, hB5, rfl⟩⟩))⟩
        exact InvFrom.nil
      intro L a w8 hL hI
      obtain ⟨sl30, sl31, sl32, sl33, sl34, sl35, sl36, sl7, ha, hI⟩ := hI
      subst ha
      rcases hI with h9 | h9 | hI
      · exact absurd (hL 7 (by decide)) (h9.1 7 (by decide))
      · exact absurd (hL 8 (by decide)) (h9.2.1 8 (by decide))
      have hfin := hI.2.2
      obtain ⟨w5, rfl, hb5, rfl⟩ := hfin
      clear hL hI
      refine Kept.mk ?_
      simp only [Act.put, pA, pZ, pS]
      have HB5 := Lib.hid (HB1.out.trans (hb5.mono HB1.out.size))
      have y9 := putC4 (u0 := .int .i64 io) (u1 := .int .i64 ia) (u2 := .int .i64 ib) (u3 := .int .i64 ic) (box_keep HR1.out hb5 (by omega))
      have y0 := box_cell (j := 0) y9 rfl
      have y1 := box_cell (j := 1) y9 rfl
      have y2 := box_cell (j := 2) y9 rfl
      have y3 := box_cell (j := 3) y9 rfl
      go_wp2_with fail
      refine bodyPost_ret (v := .tuple #[.agg #[.int .i64 io, .int .i64 ia, .int .i64 ib, .int .i64 ic], .bool true]) (by simp [results, Tryz.results38, go_sem, Nat.add_assoc, y0, y1, y2, y3]) rfl ?_
      exact ⟨by rw [HF.out, HZ.out], below_set4 HB5.out (by omega)⟩
    · have hqe : (d.fState != 1) = true := by simp [hs]
      have HF := Lib.hid (show askB p x (q : Int) = false from by rw [HAK.out, HGA.out, decide_eq_false hs]; simp)
      have HZ := Lib.hid (show insR p x (q : Int) = ⟨0, 0, 0, 0⟩ from by unfold insR; rw [if_neg (by rw [HF.out]; simp)])
      have pr0 := box_cell (j := 0) HR1.out rfl
      have pr1 := box_cell (j := 1) HR1.out rfl
      have pr2 := box_cell (j := 2) HR1.out rfl
      have pr3 := box_cell (j := 3) HR1.out rfl
      have pf0 := box_free HR1.out 0
      have pf1 := box_free HR1.out 1
      have pf2 := box_free HR1.out 2
      have pf3 := box_free HR1.out 3
      have hrw : w.heap.size + 2 < w1.heap.size := by omega
      clear hs HI9 HASK HSW HAK
      go_wp2_with fail
      refine (HIP _).mono ?_
      rintro e w9 ⟨rfl, rfl⟩
      go_wp2_with fail
      have y9 := putC4 (u0 := .int .i64 0) (u1 := .int .i64 0) (u2 := .int .i64 0) (u3 := .int .i64 0) HR1.out
      have y0 := box_cell (j := 0) y9 rfl
      have y1 := box_cell (j := 1) y9 rfl
      have y2 := box_cell (j := 2) y9 rfl
      have y3 := box_cell (j := 3) y9 rfl
      refine bodyPost_ret (v := .tuple #[.agg #[.int .i64 0, .int .i64 0, .int .i64 0, .int .i64 0], .bool false]) (by simp [results, Tryz.results38, go_sem, y0, y1, y2, y3, pr0, pr1, pr2, pr3]) rfl ?_
      exact ⟨by rw [HF.out, HZ.out], by first | exact HB1.out | exact below_set4 HB1.out (by omega)⟩
  · simp only [decide_eq_false hin] at HIP
    have HF := Lib.hid (show askB p x n = false from by rw [HAK.out, decide_eq_false (fun h => hin ⟨h.1, by rw [← HL0.out]; exact h.2⟩)]; rfl)
    have HZ := Lib.hid (show insR p x n = ⟨0, 0, 0, 0⟩ from by unfold insR; rw [if_neg (by rw [HF.out]; simp)])
    have pr0 := box_cell (j := 0) HR1.out rfl
    have pr1 := box_cell (j := 1) HR1.out rfl
    have pr2 := box_cell (j := 2) HR1.out rfl
    have pr3 := box_cell (j := 3) HR1.out rfl
    have pf0 := box_free HR1.out 0
    have pf1 := box_free HR1.out 1
    have pf2 := box_free HR1.out 2
    have pf3 := box_free HR1.out 3
    have hrw : w.heap.size + 2 < w1.heap.size := by omega
    clear hin HI9 HASK HS0 HAK
    go_wp2_with fail
    refine (HIP _).mono ?_
    rintro e w9 ⟨rfl, rfl⟩
    go_wp2_with fail
    have y9 := putC4 (u0 := .int .i64 0) (u1 := .int .i64 0) (u2 := .int .i64 0) (u3 := .int .i64 0) HR1.out
    have y0 := box_cell (j := 0) y9 rfl
    have y1 := box_cell (j := 1) y9 rfl
    have y2 := box_cell (j := 2) y9 rfl
    have y3 := box_cell (j := 3) y9 rfl
    refine bodyPost_ret (v := .tuple #[.agg #[.int .i64 0, .int .i64 0, .int .i64 0, .int .i64 0], .bool false]) (by simp [results, Tryz.results38, go_sem, y0, y1, y2, y3, pr0, pr1, pr2, pr3]) rfl ?_
    exact ⟨by rw [HF.out, HZ.out], by first | exact HB1.out | exact below_set4 HB1.out (by omega)⟩
end Go.Proofs.YtghkdkagnibkgaaGreatDoor
