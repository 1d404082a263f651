
/- AllS, SameS, EngS, merged for claims. -/

import Derived.Test.YtghkdkagnibkgaaGreatDoorPlaceS

import Derived.Test.YtghkdkagnibkgaaGreatDoorGWaits

import Derived.Deep.Cut

import Derived.Test.YtghkdkagnibkgaaGreatDoorGCasM

import Derived.Laws.StructEq

import Derived.Test.YtghkdkagnibkgaaGreatDoorGEngI

import Derived.Test.YtghkdkagnibkgaaGreatDoorGMutOk

import Derived.Test.YtghkdkagnibkgaaGreatDoorGChanOkS

import Derived.Test.YtghkdkagnibkgaaGreatDoorGorOkS

namespace Go.Proofs.YtghkdkagnibkgaaGreatDoor
set_option linter.unusedSimpArgs false
set_option linter.unusedVariables false
open Go.RowKit

theorem map_take_step {α β : Type} {l : List α} {j : Nat} {y : α} (f : α → β) (h : l[j]? = some y) : (l.take (j + 1)).map f = (l.take j).map f ++ [f y] := by
  rw [List.take_add_one, h, Option.toList_some, List.map_append]
  rfl
theorem map_take_le {α β : Type} (l : List α) (f : α → β) (j : Nat) : ((l.take j).map f).length ≤ l.length := by
  rw [List.length_map, List.length_take]
  omega
theorem map_take_all {α β : Type} {l : List α} {j : Nat} (f : α → β) (h : l.length = j) : (l.take j).map f = l.map f := by
  rw [List.take_of_length_le (by omega)]
theorem own_ne {w : World} {lo hi size n c : Nat} {e : TypeId} {A : Option Addr} {xs : List Value} (h : Own w lo hi e size A n c xs) : blkA A ≠ some hi := by
  cases A with
  | none => simp [blkA]
  | some a =>
    have hlt := h.2 a rfl
    intro h2
    have h3 : some a.block = some hi := h2
    injection h3 with h3
    omega
theorem new_row {A B : Option Addr} {b s : Nat} (h : blkA A ≠ some b) (h2 : blkA B = blkA A ∨ blkA B = some s) (hs : b < s) : blkA B ≠ some b := by
  rcases h2 with h2 | h2
  · rw [h2]; exact h
  · rw [h2]
    intro h3
    injection h3 with h3
    omega

set_option maxRecDepth 100000 in
set_option maxHeartbeats 16000000 in
theorem specAll_any {w : World} {hi : Nat} {x : DEng} {us : List Value} (he : layEng.see w hi x us) (hhi : hi ≤ w.heap.size) (hne : szEng x ≤ 1048576) :
    Calls Tryz.prog 93 #[.agg us.toArray] w (MoreP w w.heap.size (foundL x)) := by
  obtain ⟨i0, hi0, iz0, iz1, iz2⟩ := info_parts infoPlaceE
  obtain ⟨A4, n4, c4, A5, n5, c5, A6, n6, c6, rfl, -, ⟨-, -, s5⟩, ⟨-, -, s6⟩⟩ := seeEng he
  have HHI := Lib.hid hhi
  have HS5 := Lib.hid (fun (W : World) (hW : Below w.heap.size w W) => s5.below hW hhi)
  have HS6 := Lib.hid (fun (W : World) (hW : Below w.heap.size w W) => s6.below hW hhi)
  obtain ⟨gs, cs, ms⟩ := x
  have HL5 := Lib.hid (show cs.length = n5 from s5.1)
  have HL6 := Lib.hid (show ms.length = n6 from s6.1)
  have HZ := Lib.hid (show (cs.map szChan).sum + (ms.map szMutex).sum ≤ 1048576 by unfold szEng at hne; simp only at hne; omega)
  have hm5 : n5 ≤ 1048576 := by have := HL5.out; unfold szEng at hne; simp only at hne; omega
  have hm6 : n6 ≤ 1048576 := by have := HL6.out; unfold szEng at hne; simp only at hne; omega
  simp only at HS5 HS6
  clear he hhi hne s5 s6
  have hb0 : Below w.heap.size w (w.alloc (.cells #[.slice A4 n4 c4, .slice A5 n5 c5, .slice A6 n6 c6] 44)) := (Below.refl _ _).alloc (Nat.le_refl _) _
  have hE0 := box_new w #[.slice A4 n4 c4, .slice A5 n5 c5, .slice A6 n6 c6] 44
  have hz0 : (w.alloc (.cells #[.slice A4 n4 c4, .slice A5 n5 c5, .slice A6 n6 c6] 44)).heap.size = w.heap.size + 1 := by simp
  go_enter Tryz.func93, Tryz.ntmps93
  go_upto_region 1 with (fail)
  generalize (w.alloc (.cells #[.slice A4 n4 c4, .slice A5 n5 c5, .slice A6 n6 c6] 44)) = W0 at *
  have HE0 := Lib.hid hE0
  have HB0 := Lib.hid hb0
  have s1 := box_cell (j := 1) (box_keep hE0 ((Below.refl _ _).alloc (Nat.le_refl _) (.cells #[] 174)) (by omega)) rfl
  clear hE0 hb0
  go_wp2_with fail
  clear s1
  go_loopw [3, 18] (fun l i wr => ∃ (k : Nat) (B : Option Addr) (c' : Nat) (ps : List DPlace), k ≤ n5 ∧ i = .int .i64 k ∧ l = .slice B ps.length c' ∧ Hid (ps = foundC cs k) ∧ Own wr (w.heap.size + 1) wr.heap.size 174 6 B ps.length c' ((ps.map plC).flatten) ∧ Below (w.heap.size + 1) W0 wr) (fun _ i _ => n5 - (intOf i).toNat)
  case atStart =>
    have h9 := made_none W0 6 174
    exact ⟨0, _, 0, [], Nat.zero_le _, rfl, rfl, Lib.hid rfl, by rw [hz0] at h9; simpa [hz0] using h9, (Below.refl _ _).alloc (by omega) _⟩
  case round =>
    rename World => wr
    obtain ⟨k, B, c', ps, hk, rfl, rfl, HPS, hown, hbr⟩ := hrel
    have hzr := hbr.size
    by_cases hlt : k < n5
    · obtain ⟨hx, gC, oC, ws, rfl, hgC, hsee, hcell⟩ := (HS5.out wr (HB0.out.trans (hbr.mono (by omega)))).at_ hlt
      have HDK := Lib.hid (List.getElem?_eq_getElem hx)
      generalize cs[k] = d at *
      obtain ⟨E1, k1, v1, E2, k2, v2, E3, k3, v3, rfl, -, -, ⟨-, -, s2⟩, ⟨-, -, s3⟩⟩ := seeChan hsee
      have HW2 := Lib.hid (fun (W : World) (hW : Below (w.heap.size + 1) W0 W) => s2.keep (w' := W) fun q hq => (hW.block q (by have := HHI.out; omega)).trans (hbr.block q (by have := HHI.out; omega)).symm)
      have HW3 := Lib.hid (fun (W : World) (hW : Below (w.heap.size + 1) W0 W) => s3.keep (w' := W) fun q hq => (hW.block q (by have := HHI.out; omega)).trans (hbr.block q (by have := HHI.out; omega)).symm)
      have HL2 := Lib.hid s2.1
      have HL3 := Lib.hid s3.1
      have HBD := Lib.hid (show (foundC cs k).length + d.fSends.length + d.fRecvs.length ≤ 1048576 by
        have h1 := foundC_len (cs := cs) (k + 1) (by rw [HL5.out]; omega)
        have h2 := sum_take_le szChan cs (k + 1)
        have h3 := HZ.out
        rw [foundC_step HDK.out] at h1
        unfold atChan at h1
        simp only [List.length_append, List.length_map] at h1
        omega)
      clear s2 s3
      have cc0 := hcell 0 _ rfl
      have cc1 := hcell 1 _ rfl
      have cc2 := hcell 2 _ rfl
      have cc3 := hcell 3 _ rfl
      have cc4 := hcell 4 _ rfl
      simp only [show layChan.size = 5 from rfl, ← Nat.add_assoc, Nat.add_zero] at cc0 cc1 cc2 cc3 cc4
      have hbA : Below wr.heap.size wr (wr.alloc (.cells #[.int .i64 d.fCap, .slice E1 k1 v1, .slice E2 k2 v2, .slice E3 k3 v3, .bool d.fClosed] 124)) := (Below.refl _ _).alloc (Nat.le_refl _) _
      have hxA := box_new wr #[.int .i64 d.fCap, .slice E1 k1 v1, .slice E2 k2 v2, .slice E3 k3 v3, .bool d.fClosed] 124
      have HOA := Lib.hid (hown.alloc (.cells #[.int .i64 d.fCap, .slice E1 k1 v1, .slice E2 k2 v2, .slice E3 k3 v3, .bool d.fClosed] 124))
      have HBA := Lib.hid (hbr.trans (hbA.mono (by omega)))
      have HNA := Lib.hid (own_ne hown)
      have hzA : (wr.alloc (.cells #[.int .i64 d.fCap, .slice E1 k1 v1, .slice E2 k2 v2, .slice E3 k3 v3, .bool d.fClosed] 124)).heap.size = wr.heap.size + 1 := by simp
      replace HOA := Lib.hid (HOA.out.wider (Nat.le_refl _) (show wr.heap.size ≤ (wr.alloc (.cells #[.int .i64 d.fCap, .slice E1 k1 v1, .slice E2 k2 v2, .slice E3 k3 v3, .bool d.fClosed] 124)).heap.size by omega))
      go_upto_region 5 with (fail)
      generalize (wr.alloc (.cells #[.int .i64 d.fCap, .slice E1 k1 v1, .slice E2 k2 v2, .slice E3 k3 v3, .bool d.fClosed] 124)) = WA at *
      clear cc0 cc1 cc2 cc3 cc4 hcell hsee hbA hown hbr
      have HXA := Lib.hid hxA
      have x2 := box_cell (j := 2) hxA rfl
      clear hxA
      go_wp2_with fail
      clear x2
      have HBD2 := Lib.hid (show (foundC cs k).length + d.fSends.length ≤ 1048576 by have := HBD.out; omega)
      have HBD3 := Lib.hid (show (foundC cs k ++ d.fSends.map (plW k true)).length + d.fRecvs.length ≤ 1048576 by have := HBD.out; simp only [List.length_append, List.length_map]; omega)
      have hkb : k2 ≤ 1048576 := by have h1 := HL2.out; have h2 := HBD2.out; omega
      go_loopw [3, 26] (fun l i wq => ∃ (j : Nat) (B : Option Addr) (c' : Nat) (ps : List DPlace), j ≤ k2 ∧ i = .int .i64 j ∧ l = .slice B ps.length c' ∧ Hid (ps = foundC cs k ++ (d.fSends.take j).map (plW k true)) ∧ Own wq (w.heap.size + 1) wq.heap.size 174 6 B ps.length c' ((ps.map plC).flatten) ∧ Below (w.heap.size + 1) W0 wq ∧ blkA B ≠ some wr.heap.size ∧ wq.heap[wr.heap.size]? = some (.cells #[.int .i64 d.fCap, .slice E1 k1 v1, .slice E2 k2 v2, .slice E3 k3 v3, .bool d.fClosed] 124 (0, 0))) (fun _ i _ => k2 - (intOf i).toNat)
      case atStart => exact ⟨0, B, c', ps, Nat.zero_le _, rfl, rfl, Lib.hid (by rw [HPS.out]; simp), HOA.out, HBA.out, HNA.out, HXA.out⟩
      case round =>
        rename World => wq
        clear HPS HOA HBA HNA HXA
        obtain ⟨j, B, c', ps, hj, rfl, rfl, HPS, hown, hbj, hnb, hbx⟩ := hrel
        have hzj := hbj.size
        have hlb := lt_of_block hbx
        by_cases hlj : j < k2
        · obtain ⟨hy, gY, oY, wy, rfl, hgY, ⟨rfl, -⟩, ycell⟩ := (HW2.out _ hbj).at_ hlj
          have HST := Lib.hid (map_take_step (plW k true) (List.getElem?_eq_getElem hy))
          have hln := map_take_le d.fSends (plW k true) j
          have hpl : ps.length ≤ 1048576 := by
            have hbd := HBD2.out
            rw [HPS.out]
            simp only [List.length_append] at hbd ⊢
            omega
          generalize d.fSends[j] = y at *
          have yc0 := ycell 0 _ rfl
          have yc1 := ycell 1 _ rfl
          have yc2 := ycell 2 _ rfl
          simp only [show layWaiter.size = 3 from rfl, ← Nat.add_assoc, Nat.add_zero] at yc0 yc1 yc2
          have hbY : Below wq.heap.size wq (wq.alloc (.cells #[.int .i64 y.fG, .int .i64 y.fCase, .int .i64 y.fVal] 166)) := (Below.refl _ _).alloc (Nat.le_refl _) _
          have hYB := box_new wq #[.int .i64 y.fG, .int .i64 y.fCase, .int .i64 y.fVal] 166
          have hOY := hown.alloc (.cells #[.int .i64 y.fG, .int .i64 y.fCase, .int .i64 y.fVal] 166)
          have HBY := Lib.hid (hbj.trans (hbY.mono (by omega)))
          have hXY := box_keep hbx hbY hlb
          have hzY : (wq.alloc (.cells #[.int .i64 y.fG, .int .i64 y.fCase, .int .i64 y.fVal] 166)).heap.size = wq.heap.size + 1 := by simp
          go_upto_region 8 with (fail)
          generalize (wq.alloc (.cells #[.int .i64 y.fG, .int .i64 y.fCase, .int .i64 y.fVal] 166)) = WB at *
          clear yc0 yc1 yc2 ycell hown hbj hbx hbY
          have y0 := box_cell (j := 0) hYB rfl
          have y1 := box_cell (j := 1) hYB rfl
          have y2 := box_cell (j := 2) hYB rfl
          have hsb := seen_block WB [.bool false, .int .i64 (k : Int), .bool true, .int .i64 y.fG, .int .i64 y.fCase, .int .i64 y.fVal] 174
          rw [hzY] at hsb
          have hownA := hOY.alloc (.cells ([.bool false, .int .i64 (k : Int), .bool true, .int .i64 y.fG, .int .i64 y.fCase, .int .i64 y.fVal]).toArray 174)
          have HBC := Lib.hid (HBY.out.trans (((Below.refl WB.heap.size WB).alloc (Nat.le_refl _) (.cells ([.bool false, .int .i64 (k : Int), .bool true, .int .i64 y.fG, .int .i64 y.fCase, .int .i64 y.fVal]).toArray 174)).mono (by omega)))
          have HXC := Lib.hid (box_keep hXY ((Below.refl WB.heap.size WB).alloc (Nat.le_refl _) (.cells ([.bool false, .int .i64 (k : Int), .bool true, .int .i64 y.fG, .int .i64 y.fCase, .int .i64 y.fVal]).toArray 174)) (by omega))
          have HNB := Lib.hid hnb
          clear hXY hnb
          go_wp2_with (at_builtin; refine wpList_append_kin rfl (.tmp 30) (.tmp 34) _ rfl (w.heap.size + 1) _ 174 i0 _ 6 48 Tryz.underlying147 hi0 iz0 iz1 iz2 rfl (by omega) B ps.length c' _ rfl hownA _ _ 1 1 _ rfl hsb (by simp [Value.oneCell']) (by simp only [maxLen]; omega) (by omega) (by simp; omega) ?_; intro B4 c4' w6 own6 hb6 hk6 hn6)
          go_roundw
          case rel => exact ⟨j + 1, B4, c4', ps ++ [plW k true y], by omega, by go_num, by simp, Lib.hid (by rw [HST.out, HPS.out]; simp only [List.append_assoc]), by rw [List.map_append, List.flatten_append, List.length_append]; exact own6, HBC.out.trans hb6, new_row HNB.out hn6 (by simp only [World.size_alloc]; omega), by rw [hk6 _ (by simp only [World.size_alloc]; omega) HNB.out]; exact HXC.out⟩
          case measure => simp [intOf]; omega
        · obtain rfl : k2 = j := by omega
          replace HPS := Lib.hid (show ps = foundC cs k ++ d.fSends.map (plW k true) from HPS.out.trans (by rw [map_take_all (plW k true) HL2.out]))
          have HOA := Lib.hid hown
          have HBA := Lib.hid hbj
          have HNA := Lib.hid hnb
          have HXA := Lib.hid hbx
          clear hown hnb
          have x3 := box_cell (j := 3) hbx rfl
          clear hbx
          go_wp2_with fail
          clear x3 hbj
          have hkb : k3 ≤ 1048576 := by have h1 := HL3.out; have h2 := HBD3.out; omega
          go_loopw [3, 40] (fun l i wq => ∃ (j : Nat) (B : Option Addr) (c' : Nat) (ps : List DPlace), j ≤ k3 ∧ i = .int .i64 j ∧ l = .slice B ps.length c' ∧ Hid (ps = (foundC cs k ++ d.fSends.map (plW k true)) ++ (d.fRecvs.take j).map (plW k false)) ∧ Own wq (w.heap.size + 1) wq.heap.size 174 6 B ps.length c' ((ps.map plC).flatten) ∧ Below (w.heap.size + 1) W0 wq ∧ blkA B ≠ some wr.heap.size ∧ wq.heap[wr.heap.size]? = some (.cells #[.int .i64 d.fCap, .slice E1 k1 v1, .slice E2 k2 v2, .slice E3 k3 v3, .bool d.fClosed] 124 (0, 0))) (fun _ i _ => k3 - (intOf i).toNat)
          case atStart => exact ⟨0, B, c', ps, Nat.zero_le _, rfl, rfl, Lib.hid (by rw [HPS.out]; simp), HOA.out, HBA.out, HNA.out, HXA.out⟩
          case round =>
            rename World => wq
            clear HPS HOA HBA HNA HXA
            obtain ⟨j, B, c', ps, hj, rfl, rfl, HPS, hown, hbj, hnb, hbx⟩ := hrel
            have hzj := hbj.size
            have hlb := lt_of_block hbx
            by_cases hlj : j < k3
            · obtain ⟨hy, gY, oY, wy, rfl, hgY, ⟨rfl, -⟩, ycell⟩ := (HW3.out _ hbj).at_ hlj
              have HST := Lib.hid (map_take_step (plW k false) (List.getElem?_eq_getElem hy))
              have hln := map_take_le d.fRecvs (plW k false) j
              have hpl : ps.length ≤ 1048576 := by
                have hbd := HBD3.out
                rw [HPS.out]
                simp only [List.length_append] at hbd ⊢
                omega
              generalize d.fRecvs[j] = y at *
              have yc0 := ycell 0 _ rfl
              have yc1 := ycell 1 _ rfl
              have yc2 := ycell 2 _ rfl
              simp only [show layWaiter.size = 3 from rfl, ← Nat.add_assoc, Nat.add_zero] at yc0 yc1 yc2
              have hbY : Below wq.heap.size wq (wq.alloc (.cells #[.int .i64 y.fG, .int .i64 y.fCase, .int .i64 y.fVal] 166)) := (Below.refl _ _).alloc (Nat.le_refl _) _
              have hYB := box_new wq #[.int .i64 y.fG, .int .i64 y.fCase, .int .i64 y.fVal] 166
              have hOY := hown.alloc (.cells #[.int .i64 y.fG, .int .i64 y.fCase, .int .i64 y.fVal] 166)
              have HBY := Lib.hid (hbj.trans (hbY.mono (by omega)))
              have hXY := box_keep hbx hbY hlb
              have hzY : (wq.alloc (.cells #[.int .i64 y.fG, .int .i64 y.fCase, .int .i64 y.fVal] 166)).heap.size = wq.heap.size + 1 := by simp
              go_upto_region 13 with (fail)
              generalize (wq.alloc (.cells #[.int .i64 y.fG, .int .i64 y.fCase, .int .i64 y.fVal] 166)) = WB at *
              clear yc0 yc1 yc2 ycell hown hbj hbx hbY
              have y0 := box_cell (j := 0) hYB rfl
              have y1 := box_cell (j := 1) hYB rfl
              have y2 := box_cell (j := 2) hYB rfl
              have hsb := seen_block WB [.bool false, .int .i64 (k : Int), .bool false, .int .i64 y.fG, .int .i64 y.fCase, .int .i64 y.fVal] 174
              rw [hzY] at hsb
              have hownA := hOY.alloc (.cells ([.bool false, .int .i64 (k : Int), .bool false, .int .i64 y.fG, .int .i64 y.fCase, .int .i64 y.fVal]).toArray 174)
              have HBC := Lib.hid (HBY.out.trans (((Below.refl WB.heap.size WB).alloc (Nat.le_refl _) (.cells ([.bool false, .int .i64 (k : Int), .bool false, .int .i64 y.fG, .int .i64 y.fCase, .int .i64 y.fVal]).toArray 174)).mono (by omega)))
              have HXC := Lib.hid (box_keep hXY ((Below.refl WB.heap.size WB).alloc (Nat.le_refl _) (.cells ([.bool false, .int .i64 (k : Int), .bool false, .int .i64 y.fG, .int .i64 y.fCase, .int .i64 y.fVal]).toArray 174)) (by omega))
              have HNB := Lib.hid hnb
              clear hXY hnb
              go_wp2_with (at_builtin; refine wpList_append_kin rfl (.tmp 44) (.tmp 48) _ rfl (w.heap.size + 1) _ 174 i0 _ 6 48 Tryz.underlying147 hi0 iz0 iz1 iz2 rfl (by omega) B ps.length c' _ rfl hownA _ _ 1 1 _ rfl hsb (by simp [Value.oneCell']) (by simp only [maxLen]; omega) (by omega) (by simp; omega) ?_; intro B4 c4' w6 own6 hb6 hk6 hn6)
              go_roundw
              case rel => exact ⟨j + 1, B4, c4', ps ++ [plW k false y], by omega, by go_num, by simp, Lib.hid (by rw [HST.out, HPS.out]; simp only [List.append_assoc]), by rw [List.map_append, List.flatten_append, List.length_append]; exact own6, HBC.out.trans hb6, new_row HNB.out hn6 (by simp only [World.size_alloc]; omega), by rw [hk6 _ (by simp only [World.size_alloc]; omega) HNB.out]; exact HXC.out⟩
              case measure => simp [intOf]; omega
            · obtain rfl : k3 = j := by omega
              replace HPS := Lib.hid (show ps = (foundC cs k ++ d.fSends.map (plW k true)) ++ d.fRecvs.map (plW k false) from HPS.out.trans (by rw [map_take_all (plW k false) HL3.out]))
              have HOA := Lib.hid hown
              have HBA := Lib.hid hbj
              have HNA := Lib.hid hnb
              have HXA := Lib.hid hbx
              clear hown hnb
              clear hbx hbj
              go_wp2_with fail
              go_roundw
              case rel => exact ⟨k + 1, B, c', ps, by omega, by go_num, rfl, Lib.hid (by rw [HPS.out, foundC_step HDK.out]; unfold atChan; simp only [List.append_assoc]), HOA.out, HBA.out⟩
              case measure => simp [intOf]; omega
    · obtain rfl : k = n5 := by omega
      have HO5 := Lib.hid hown
      have HBB := Lib.hid hbr
      have s2 := box_cell (j := 2) (box_keep HE0.out hbr (by omega)) rfl
      have HF5 := Lib.hid (show ps = foundC cs cs.length from HPS.out.trans (by rw [HL5.out]))
      clear hown hbr HPS
      go_wp2_with fail
      clear s2
      go_loopw [3, 55] (fun l i wr => ∃ (k : Nat) (B : Option Addr) (c' : Nat) (ps : List DPlace), k ≤ n6 ∧ i = .int .i64 k ∧ l = .slice B ps.length c' ∧ Hid (ps = foundC cs cs.length ++ foundM ms k) ∧ Own wr (w.heap.size + 1) wr.heap.size 174 6 B ps.length c' ((ps.map plC).flatten) ∧ Below (w.heap.size + 1) W0 wr) (fun _ i _ => n6 - (intOf i).toNat)
      case atStart =>
        exact ⟨0, B, c', ps, Nat.zero_le _, rfl, rfl, Lib.hid (by rw [HF5.out]; simp [foundM]), HO5.out, HBB.out⟩

      case round =>
        rename World => wr
        obtain ⟨k, B, c', ps, hk, rfl, rfl, HPS, hown, hbr⟩ := hrel
        have hzr := hbr.size
        by_cases hlt : k < n6
        · obtain ⟨hx, gC, oC, ws, rfl, hgC, hsee, hcell⟩ := (HS6.out wr (HB0.out.trans (hbr.mono (by omega)))).at_ hlt
          have HDK := Lib.hid (List.getElem?_eq_getElem hx)
          generalize ms[k] = d at *
          obtain ⟨E1, k1, v1, rfl, -, ⟨-, -, s2⟩⟩ := seeMutex hsee
          have HW2 := Lib.hid (fun (W : World) (hW : Below (w.heap.size + 1) W0 W) => s2.keep (w' := W) fun q hq => (hW.block q (by have := HHI.out; omega)).trans (hbr.block q (by have := HHI.out; omega)).symm)
          have HL2 := Lib.hid s2.1
          have HBD := Lib.hid (show (foundC cs cs.length ++ foundM ms k).length + d.fWait.length ≤ 1048576 by
            have h0 := foundC_len (cs := cs) cs.length (Nat.le_refl _)
            rw [List.take_length] at h0
            have h1 := foundM_len (ms := ms) (k + 1) (by rw [HL6.out]; omega)
            have h2 := sum_take_le szMutex ms (k + 1)
            have h3 := HZ.out
            rw [foundM_step HDK.out] at h1
            simp only [List.length_append, List.length_map] at h1 ⊢
            omega)
          clear s2
          have cc0 := hcell 0 _ rfl
          have cc1 := hcell 1 _ rfl
          simp only [show layMutex.size = 2 from rfl, ← Nat.add_assoc, Nat.add_zero] at cc0 cc1
          have hbA : Below wr.heap.size wr (wr.alloc (.cells #[.int .i64 d.fOwner, .slice E1 k1 v1] 91)) := (Below.refl _ _).alloc (Nat.le_refl _) _
          have hxA := box_new wr #[.int .i64 d.fOwner, .slice E1 k1 v1] 91
          have HOA := Lib.hid (hown.alloc (.cells #[.int .i64 d.fOwner, .slice E1 k1 v1] 91))
          have HBA := Lib.hid (hbr.trans (hbA.mono (by omega)))
          have HNA := Lib.hid (own_ne hown)
          have hzA : (wr.alloc (.cells #[.int .i64 d.fOwner, .slice E1 k1 v1] 91)).heap.size = wr.heap.size + 1 := by simp
          replace HOA := Lib.hid (HOA.out.wider (Nat.le_refl _) (show wr.heap.size ≤ (wr.alloc (.cells #[.int .i64 d.fOwner, .slice E1 k1 v1] 91)).heap.size by omega))
          go_upto_region 19 with (fail)
          generalize (wr.alloc (.cells #[.int .i64 d.fOwner, .slice E1 k1 v1] 91)) = WA at *
          clear cc0 cc1 hcell hsee hbA hown hbr
          have HXA := Lib.hid hxA
          have x1 := box_cell (j := 1) hxA rfl
          clear hxA
          go_wp2_with fail
          clear x1
          have hkb : k1 ≤ 1048576 := by have h1 := HL2.out; have h2 := HBD.out; omega
          go_loopw [3, 63] (fun l i wq => ∃ (j : Nat) (B : Option Addr) (c' : Nat) (ps : List DPlace), j ≤ k1 ∧ i = .int .i64 j ∧ l = .slice B ps.length c' ∧ Hid (ps = (foundC cs cs.length ++ foundM ms k) ++ (d.fWait.take j).map (plM k)) ∧ Own wq (w.heap.size + 1) wq.heap.size 174 6 B ps.length c' ((ps.map plC).flatten) ∧ Below (w.heap.size + 1) W0 wq ∧ blkA B ≠ some wr.heap.size ∧ wq.heap[wr.heap.size]? = some (.cells #[.int .i64 d.fOwner, .slice E1 k1 v1] 91 (0, 0))) (fun _ i _ => k1 - (intOf i).toNat)
          case atStart => exact ⟨0, B, c', ps, Nat.zero_le _, rfl, rfl, Lib.hid (by rw [HPS.out]; simp), HOA.out, HBA.out, HNA.out, HXA.out⟩
          case round =>
            rename World => wq
            clear HPS HOA HBA HNA HXA
            obtain ⟨j, B, c', ps, hj, rfl, rfl, HPS, hown, hbj, hnb, hbx⟩ := hrel
            have hzj := hbj.size
            have hlb := lt_of_block hbx
            by_cases hlj : j < k1
            · obtain ⟨hy, gY, oY, wy, rfl, hgY, ⟨rfl, -⟩, ycell⟩ := (HW2.out _ hbj).at_ hlj
              have HST := Lib.hid (map_take_step (plM k) (List.getElem?_eq_getElem hy))
              have hln := map_take_le d.fWait (plM k) j
              have hpl : ps.length ≤ 1048576 := by
                have hbd := HBD.out
                rw [HPS.out]
                simp only [List.length_append] at hbd ⊢
                omega
              generalize d.fWait[j] = y at *
              have yc0 := ycell 0 _ rfl
              simp only [Lay.int, Lay.flat, Nat.add_zero, Nat.mul_one] at yc0
              have hOY := hown
              have HBY := Lib.hid hbj
              have hXY := hbx
              have y0 := cell_kept ((Below.refl wq.heap.size wq).alloc (Nat.le_refl _) (.cells #[] 174)) yc0
              go_upto_region 22 with (fail)
              clear yc0 y0 ycell hown hbj hbx
              have hsb := seen_block wq [.bool true, .int .i64 (k : Int), .bool false, .int .i64 y, .int .i64 (-1), .int .i64 0] 174
              skip
              have hownA := hOY.alloc (.cells ([.bool true, .int .i64 (k : Int), .bool false, .int .i64 y, .int .i64 (-1), .int .i64 0]).toArray 174)
              have HBC := Lib.hid (HBY.out.trans (((Below.refl wq.heap.size wq).alloc (Nat.le_refl _) (.cells ([.bool true, .int .i64 (k : Int), .bool false, .int .i64 y, .int .i64 (-1), .int .i64 0]).toArray 174)).mono (by omega)))
              have HXC := Lib.hid (box_keep hXY ((Below.refl wq.heap.size wq).alloc (Nat.le_refl _) (.cells ([.bool true, .int .i64 (k : Int), .bool false, .int .i64 y, .int .i64 (-1), .int .i64 0]).toArray 174)) (by omega))
              have HNB := Lib.hid hnb
              clear hXY hnb
              go_wp2_with (at_builtin; refine wpList_append_kin rfl (.tmp 67) (.tmp 72) _ rfl (w.heap.size + 1) _ 174 i0 _ 6 48 Tryz.underlying147 hi0 iz0 iz1 iz2 rfl (by omega) B ps.length c' _ rfl hownA _ _ 1 1 _ rfl hsb (by simp [Value.oneCell']) (by simp only [maxLen]; omega) (by omega) (by simp; omega) ?_; intro B4 c4' w6 own6 hb6 hk6 hn6)
              go_roundw
              case rel => exact ⟨j + 1, B4, c4', ps ++ [plM k y], by omega, by go_num, by simp, Lib.hid (by rw [HST.out, HPS.out]; simp only [List.append_assoc]), by rw [List.map_append, List.flatten_append, List.length_append]; exact own6, HBC.out.trans hb6, new_row HNB.out hn6 (by simp only [World.size_alloc]; omega), by rw [hk6 _ (by simp only [World.size_alloc]; omega) HNB.out]; exact HXC.out⟩
              case measure => simp [intOf]; omega
            · obtain rfl : k1 = j := by omega
              replace HPS := Lib.hid (show ps = (foundC cs cs.length ++ foundM ms k) ++ d.fWait.map (plM k) from HPS.out.trans (by rw [map_take_all (plM k) HL2.out]))
              have HOA := Lib.hid hown
              have HBA := Lib.hid hbj
              have HNA := Lib.hid hnb
              have HXA := Lib.hid hbx
              clear hown hnb
              clear hbx hbj
              go_wp2_with fail
              go_roundw
              case rel => exact ⟨k + 1, B, c', ps, by omega, by go_num, rfl, Lib.hid (by rw [HPS.out, foundM_step HDK.out]; simp only [List.append_assoc]), HOA.out, HBA.out⟩
              case measure => simp [intOf]; omega
        · obtain rfl : k = n6 := by omega
          have h9 : ps = foundL ⟨gs, cs, ms⟩ := HPS.out.trans (by unfold foundL; simp only [HL6.out])
          have HOW := Lib.hid hown
          have HBB9 := Lib.hid (HB0.out.trans (hbr.mono (by omega)))
          clear hown hbr
          go_wp2_with fail
          go_ret
          rw [← h9]
          exact ⟨B, c', rfl, HOW.out.wider (by omega) (Nat.le_refl _), HBB9.out⟩
end Go.Proofs.YtghkdkagnibkgaaGreatDoor

namespace Go.Proofs.YtghkdkagnibkgaaGreatDoor
set_option linter.unusedSimpArgs false
set_option linter.unusedVariables false
open Go.RowKit

set_option maxRecDepth 100000 in
set_option maxHeartbeats 4000000 in
theorem specCount_any {w : World} {hi n c : Nat} {A : Option Addr} {ps : List DPlace} {x : DPlace} (hs : SeenR layPlace w hi A n ps) (hhi : hi ≤ w.heap.size) (hn : n ≤ 4194304) :
    Calls Tryz.prog 121 #[.slice A n c, .agg (plC x).toArray] w fun e w' => e = .returned (.int .i64 (ps.count x : Nat)) ∧ Below w.heap.size w w' := by
  have HL := Lib.hid hs.1
  have HS := Lib.hid (fun (W : World) (hW : Below w.heap.size w W) => hs.below hW hhi)
  have hB0 : Below w.heap.size w (w.alloc (.cells (plC x).toArray 174)) := (Below.refl _ _).alloc (Nat.le_refl _) _
  have hX0 := box_new w (plC x).toArray 174
  have hz0 : (w.alloc (.cells (plC x).toArray 174)).heap.size = w.heap.size + 1 := by simp
  clear hs
  go_enter Tryz.func121, Tryz.ntmps121
  go_upto_region 1 with (fail)
  generalize (w.alloc (.cells (plC x).toArray 174)) = W0 at *
  have HX0 := Lib.hid hX0
  have HB0 := Lib.hid hB0
  clear hX0 hB0
  go_wp2_with fail
  go_loopw [5, 10] (fun q i wr => ∃ k : Nat, k ≤ n ∧ i = .int .i64 k ∧ q = .int .i64 ((ps.take k).count x : Nat) ∧ Below (w.heap.size + 1) W0 wr) (fun _ i _ => n - (intOf i).toNat)
  case atStart => exact ⟨0, Nat.zero_le _, rfl, rfl, by rw [← hz0]; exact Below.refl _ _⟩
  case round =>
    obtain ⟨k, hk, rfl, rfl, hbr⟩ := hrel
    have hzr := hbr.size
    by_cases hlt : k < n
    · have hbw := HB0.out.trans (hbr.mono (by omega))
      obtain ⟨hx, g, o, ws, rfl, hg, ⟨rfl, -⟩, hcell⟩ := (HS.out wr hbw).at_ hlt
      have hdk := List.getElem?_eq_getElem hx
      have hc1 := List.count_le_length (a := x) (l := ps.take k)
      rw [List.length_take] at hc1
      have hst : (ps.take (k + 1)).count x = (ps.take k).count x + (if ps[k] = x then 1 else 0) := by rw [List.take_add_one, hdk, Option.toList_some, List.count_append]; simp [List.count_cons]
      generalize ps[k] = y at *
      generalize (ps.take k).count x = N at *
      have HST := Lib.hid hst
      clear hst
      have cc0 := hcell 0 _ rfl
      have cc1 := hcell 1 _ rfl
      have cc2 := hcell 2 _ rfl
      have cc3 := hcell 3 _ rfl
      have cc4 := hcell 4 _ rfl
      have cc5 := hcell 5 _ rfl
      simp only [show layPlace.size = 6 from rfl, ← Nat.add_assoc, Nat.add_zero] at cc0 cc1 cc2 cc3 cc4 cc5
      have hbA : Below wr.heap.size wr (wr.alloc (.cells (plC y).toArray 174)) := (Below.refl _ _).alloc (Nat.le_refl _) _
      have hY := box_new wr (plC y).toArray 174
      have hX := box_keep (box_keep HX0.out hbr (by omega)) hbA (by omega)
      have HBA := Lib.hid (hbr.trans (hbA.mono (by omega)))
      go_upto_region 5 with (fail)
      generalize (wr.alloc (.cells (plC y).toArray 174)) = WA at *
      clear cc0 cc1 cc2 cc3 cc4 cc5 hcell hbA hbr hbw hdk
      have x0 := box_cell (j := 0) hX rfl
      have x1 := box_cell (j := 1) hX rfl
      have x2 := box_cell (j := 2) hX rfl
      have x3 := box_cell (j := 3) hX rfl
      have x4 := box_cell (j := 4) hX rfl
      have x5 := box_cell (j := 5) hX rfl
      have y0 := box_cell (j := 0) hY rfl
      have y1 := box_cell (j := 1) hY rfl
      have y2 := box_cell (j := 2) hY rfl
      have y3 := box_cell (j := 3) hY rfl
      have y4 := box_cell (j := 4) hY rfl
      have y5 := box_cell (j := 5) hY rfl
      by_cases hxy : x = y
      · replace HST : Hid ((ps.take (k + 1)).count x = N + 1) := Lib.hid (by rw [HST.out, if_pos hxy.symm])
        subst hxy
        clear hX hY
        go_wp2_with fail
        go_roundw
        case rel => exact ⟨k + 1, by omega, by go_num, by rw [HST.out]; go_num, HBA.out⟩
        case measure => simp [intOf]; omega
      · replace HST : Hid ((ps.take (k + 1)).count x = N) := Lib.hid (by rw [HST.out, if_neg (fun h => hxy h.symm)]; rfl)
        have HXY := Lib.hid hxy
        clear hxy hX hY
        go_wp2_with fail
        all_goals
          refine ⟨⟨k + 1, by omega, by go_num, by first | (rw [HST.out]; done) | exact absurd (by cases x; cases y; simp_all) HXY.out, HBA.out⟩, by simp [intOf]; omega⟩
    · obtain rfl : k = n := by omega
      have HB9 := Lib.hid (HB0.out.trans (hbr.mono (by omega)))
      have HT := Lib.hid (show ps.take k = ps from List.take_of_length_le (by rw [HL.out]; exact Nat.le_refl _))
      clear hbr
      go_wp2_with fail
      go_ret
      exact ⟨by rw [HT.out]; rfl, HB9.out⟩
theorem same_yes {ps qs : List DPlace} (h : ∀ (j : Nat) (x : DPlace), j < ps.length → ps[j]? = some x → ps.count x = qs.count x) : decide (ps.Perm qs) = decide (ps.length = qs.length) := by
  rw [← same_perm]
  have h1 : ps.all (fun x => ps.count x == qs.count x) = true := by
    rw [List.all_eq_true]
    intro x hx
    obtain ⟨j, hj⟩ := List.getElem?_of_mem hx
    rw [h j x (List.getElem?_eq_some_iff.1 hj).1 hj]
    simp
  rw [h1, Bool.true_and]
  by_cases hl : ps.length = qs.length <;> simp [hl]
theorem same_no {ps qs : List DPlace} {x : DPlace} (h : ps.count x ≠ qs.count x) : decide (ps.Perm qs) = false :=
  decide_eq_false fun hp => h (List.Perm.count_eq hp x)

set_option maxRecDepth 100000 in
set_option maxHeartbeats 8000000 in
theorem specSame_any {w : World} {hi n c m cB : Nat} {A B : Option Addr} {ps qs : List DPlace} (hs : SeenR layPlace w hi A n ps) (ht : SeenR layPlace w hi B m qs) (hhi : hi ≤ w.heap.size) (hn : n ≤ 4194304) (hm : m ≤ 4194304) :
    Calls Tryz.prog 92 #[.slice A n c, .slice B m cB] w fun e w' => e = .returned (.bool (decide (ps.Perm qs))) ∧ Below w.heap.size w w' := by
  have HL := Lib.hid hs.1
  have HL2 := Lib.hid ht.1
  have HS := Lib.hid (fun (W : World) (hW : Below w.heap.size w W) => hs.below hW hhi)
  have HC1 := Lib.hid (fun (x : DPlace) (W : World) (hW : Below w.heap.size w W) => specCount_any (c := c) (x := x) (hs.below hW hhi) (Nat.le_trans hhi hW.size) hn)
  have HC2 := Lib.hid (fun (x : DPlace) (W : World) (hW : Below w.heap.size w W) => specCount_any (c := cB) (x := x) (ht.below hW hhi) (Nat.le_trans hhi hW.size) hm)
  clear hs ht
  go_enter Tryz.func92, Tryz.ntmps92
  go_wp2_with fail
  go_loopw [9] (fun i wr => ∃ k : Nat, k ≤ n ∧ i = .int .i64 k ∧ Hid (∀ (j : Nat) (x : DPlace), j < k → ps[j]? = some x → ps.count x = qs.count x) ∧ Below w.heap.size w wr) (fun i _ => n - (intOf i).toNat)
  case atStart => exact ⟨0, Nat.zero_le _, rfl, Lib.hid (fun j x hj => by omega), Below.refl _ _⟩
  case round =>
    obtain ⟨k, hk, rfl, HA, hbr⟩ := hrel
    have hzr := hbr.size
    by_cases hlt : k < n
    · obtain ⟨hx, g, o, ws, rfl, hg, ⟨rfl, -⟩, hcell⟩ := (HS.out wr hbr).at_ hlt
      have HDK := Lib.hid (List.getElem?_eq_getElem hx)
      generalize ps[k] = y at *
      have cc0 := hcell 0 _ rfl
      have cc1 := hcell 1 _ rfl
      have cc2 := hcell 2 _ rfl
      have cc3 := hcell 3 _ rfl
      have cc4 := hcell 4 _ rfl
      have cc5 := hcell 5 _ rfl
      simp only [show layPlace.size = 6 from rfl, ← Nat.add_assoc, Nat.add_zero] at cc0 cc1 cc2 cc3 cc4 cc5
      have hbA : Below wr.heap.size wr (wr.alloc (.cells #[.bool y.fMutex, .int .i64 y.fObj, .bool y.fSend, .int .i64 y.fG, .int .i64 y.fCase, .int .i64 y.fVal] 174)) := (Below.refl _ _).alloc (Nat.le_refl _) _
      have hGA := box_new wr #[.bool y.fMutex, .int .i64 y.fObj, .bool y.fSend, .int .i64 y.fG, .int .i64 y.fCase, .int .i64 y.fVal] 174
      have hzA : (wr.alloc (.cells #[.bool y.fMutex, .int .i64 y.fObj, .bool y.fSend, .int .i64 y.fG, .int .i64 y.fCase, .int .i64 y.fVal] 174)).heap.size = wr.heap.size + 1 := by simp
      go_upto_region 4 with (fail)
      generalize (wr.alloc (.cells #[.bool y.fMutex, .int .i64 y.fObj, .bool y.fSend, .int .i64 y.fG, .int .i64 y.fCase, .int .i64 y.fVal] 174)) = WA at *
      clear cc0 cc1 cc2 cc3 cc4 cc5 hcell
      have HGA := Lib.hid hGA
      have HBW := Lib.hid (hbr.trans (hbA.mono (by omega)))
      clear hGA hbA hbr
      have HK1 := Lib.hid (fun (W : World) (hW : Below WA.heap.size WA W) => HC1.out y W (HBW.out.trans (hW.mono (by have := HBW.out.size; omega))))
      have HK2 := Lib.hid (fun (W : World) (hW : Below WA.heap.size WA W) => HC2.out y W (HBW.out.trans (hW.mono (by have := HBW.out.size; omega))))
      obtain ⟨ca, hca⟩ : ∃ q : Int, q = ((ps.count y : Nat) : Int) := ⟨_, rfl⟩
      obtain ⟨cb, hcb⟩ : ∃ q : Int, q = ((qs.count y : Nat) : Int) := ⟨_, rfl⟩
      rw [← hca] at HK1
      rw [← hcb] at HK2
      have HCA := Lib.hid hca
      have HCB := Lib.hid hcb
      clear hca hcb
      obtain ⟨b2, hb2⟩ : ∃ b, b = (ca != cb) := ⟨_, rfl⟩
      have HB2 := Lib.hid hb2
      have hqb : (ca != cb) = b2 := hb2.symm
      clear hb2
      refine wp_region_inv (fun AC0 L a W => ∃ sl13 sl14 sl15 sl16 sl17 sl18 sl19 : Value, a = (((((((AC0.put (some 13) sl13).put (some 14) sl14).put (some 15) sl15).put (some 16) sl16).put (some 17) sl17).put (some 18) sl18).put (some 19) sl19) ∧ Below WA.heap.size WA W ∧ ((L 0 → sl13 = (.slice (some ⟨g, o, none⟩) n c)) ∧ (L 1 → sl14 = (.agg #[.bool y.fMutex, .int .i64 y.fObj, .bool y.fSend, .int .i64 y.fG, .int .i64 y.fCase, .int .i64 y.fVal])) ∧ (L 2 → sl15 = (.int .i64 ca)) ∧ (L 3 → sl16 = (.slice B m cB)) ∧ (L 4 → sl17 = (.agg #[.bool y.fMutex, .int .i64 y.fObj, .bool y.fSend, .int .i64 y.fG, .int .i64 y.fCase, .int .i64 y.fVal])) ∧ (L 5 → sl18 = (.int .i64 cb)) ∧ (L 6 → sl19 = (.bool b2)))) (by kernel_rfl) (by kernel_rfl) ?_ ?_ ?_
      · exact ⟨u13, u14, u15, u16, u17, u18, u19, by kernel_rfl, Below.drew (Below.refl _ _), fun h => absurd h id, fun h => absurd h id, fun h => absurd h id, fun h => absurd h id, fun h => absurd h id, fun h => absurd h id, fun h => absurd h id⟩
      · intro Q9; refine InvFrom.cons (fun L a W hI hN hD K hK => ?_) ?_
        · obtain ⟨sl13, sl14, sl15, sl16, sl17, sl18, sl19, ha, hB, f0, f1, f2, f3, f4, f5, f6⟩ := hI
          subst ha
          have hz := hB.size
          refine Kept.mk ?_
          simp only [Act.put, pA, pZ, pS]
          go_simp
          refine hK.out _ _ ?_
          exact ⟨(.slice (some ⟨g, o, none⟩) n c), sl14, sl15, sl16, sl17, sl18, sl19, by kernel_rfl, hB, fun _ => rfl, nf f1, nf f2, nf f3, nf f4, nf f5, nf f6⟩
        refine InvFrom.cons (fun L a W hI hN hD K hK => ?_) ?_
        · obtain ⟨sl13, sl14, sl15, sl16, sl17, sl18, sl19, ha, hB, f0, f1, f2, f3, f4, f5, f6⟩ := hI
          subst ha
          have hz := hB.size
          have pg0 := box_cell (j := 0) (box_keep HGA.out hB (by omega)) rfl
          have pg1 := box_cell (j := 1) (box_keep HGA.out hB (by omega)) rfl
          have pg2 := box_cell (j := 2) (box_keep HGA.out hB (by omega)) rfl
          have pg3 := box_cell (j := 3) (box_keep HGA.out hB (by omega)) rfl
          have pg4 := box_cell (j := 4) (box_keep HGA.out hB (by omega)) rfl
          have pg5 := box_cell (j := 5) (box_keep HGA.out hB (by omega)) rfl
          refine Kept.mk ?_
          simp only [Act.put, pA, pZ, pS]
          go_simp
          refine hK.out _ _ ?_
          exact ⟨sl13, (.agg #[.bool y.fMutex, .int .i64 y.fObj, .bool y.fSend, .int .i64 y.fG, .int .i64 y.fCase, .int .i64 y.fVal]), sl15, sl16, sl17, sl18, sl19, by kernel_rfl, hB, nf f0, fun _ => rfl, nf f2, nf f3, nf f4, nf f5, nf f6⟩
        refine InvFrom.cons (fun L a W hI hN hD K hK => ?_) ?_
        · obtain ⟨sl13, sl14, sl15, sl16, sl17, sl18, sl19, ha, hB, f0, f1, f2, f3, f4, f5, f6⟩ := hI
          subst ha
          have hz := hB.size
          have d0 := f0 (hD 0 (by kernel_rfl))
          subst d0
          have d1 := f1 (hD 1 (by kernel_rfl))
          subst d1
          refine kept_c2 rfl 121 _ _ _ rfl (fenters_of' Tryz.func121 (by kernel_rfl) (by kernel_rfl)) (.slice (some ⟨g, o, none⟩) n c) (.agg #[.bool y.fMutex, .int .i64 y.fObj, .bool y.fSend, .int .i64 y.fG, .int .i64 y.fCase, .int .i64 y.fVal]) (by kernel_rfl) (by kernel_rfl) (HK1.out W hB) ?_
          rintro e W1 ⟨rfl, hb1⟩
          refine ⟨_, rfl, hK.out _ _ ?_⟩
          exact ⟨(.slice (some ⟨g, o, none⟩) n c), (.agg #[.bool y.fMutex, .int .i64 y.fObj, .bool y.fSend, .int .i64 y.fG, .int .i64 y.fCase, .int .i64 y.fVal]), (.int .i64 ca), sl16, sl17, sl18, sl19, by kernel_rfl, hB.trans ((hb1.mono (Nat.le_refl _)).mono hz), nf f0, nf f1, fun _ => rfl, nf f3, nf f4, nf f5, nf f6⟩
        refine InvFrom.cons (fun L a W hI hN hD K hK => ?_) ?_
        · obtain ⟨sl13, sl14, sl15, sl16, sl17, sl18, sl19, ha, hB, f0, f1, f2, f3, f4, f5, f6⟩ := hI
          subst ha
          have hz := hB.size
          refine Kept.mk ?_
          simp only [Act.put, pA, pZ, pS]
          go_simp
          refine hK.out _ _ ?_
          exact ⟨sl13, sl14, sl15, (.slice B m cB), sl17, sl18, sl19, by kernel_rfl, hB, nf f0, nf f1, nf f2, fun _ => rfl, nf f4, nf f5, nf f6⟩
        refine InvFrom.cons (fun L a W hI hN hD K hK => ?_) ?_
        · obtain ⟨sl13, sl14, sl15, sl16, sl17, sl18, sl19, ha, hB, f0, f1, f2, f3, f4, f5, f6⟩ := hI
          subst ha
          have hz := hB.size
          have pg0 := box_cell (j := 0) (box_keep HGA.out hB (by omega)) rfl
          have pg1 := box_cell (j := 1) (box_keep HGA.out hB (by omega)) rfl
          have pg2 := box_cell (j := 2) (box_keep HGA.out hB (by omega)) rfl
          have pg3 := box_cell (j := 3) (box_keep HGA.out hB (by omega)) rfl
          have pg4 := box_cell (j := 4) (box_keep HGA.out hB (by omega)) rfl
          have pg5 := box_cell (j := 5) (box_keep HGA.out hB (by omega)) rfl
          refine Kept.mk ?_
          simp only [Act.put, pA, pZ, pS]
          go_simp
          refine hK.out _ _ ?_
          exact ⟨sl13, sl14, sl15, sl16, (.agg #[.bool y.fMutex, .int .i64 y.fObj, .bool y.fSend, .int .i64 y.fG, .int .i64 y.fCase, .int .i64 y.fVal]), sl18, sl19, by kernel_rfl, hB, nf f0, nf f1, nf f2, nf f3, fun _ => rfl, nf f5, nf f6⟩
        refine InvFrom.cons (fun L a W hI hN hD K hK => ?_) ?_
        · obtain ⟨sl13, sl14, sl15, sl16, sl17, sl18, sl19, ha, hB, f0, f1, f2, f3, f4, f5, f6⟩ := hI
          subst ha
          have hz := hB.size
          have d2 := f2 (hD 2 (by kernel_rfl))
          subst d2
          have d3 := f3 (hD 3 (by kernel_rfl))
          subst d3
          have d4 := f4 (hD 4 (by kernel_rfl))
          subst d4
          refine kept_c2 rfl 121 _ _ _ rfl (fenters_of' Tryz.func121 (by kernel_rfl) (by kernel_rfl)) (.slice B m cB) (.agg #[.bool y.fMutex, .int .i64 y.fObj, .bool y.fSend, .int .i64 y.fG, .int .i64 y.fCase, .int .i64 y.fVal]) (by kernel_rfl) (by kernel_rfl) (HK2.out W hB) ?_
          rintro e W1 ⟨rfl, hb1⟩
          refine ⟨_, rfl, hK.out _ _ ?_⟩
          exact ⟨sl13, sl14, (.int .i64 ca), (.slice B m cB), (.agg #[.bool y.fMutex, .int .i64 y.fObj, .bool y.fSend, .int .i64 y.fG, .int .i64 y.fCase, .int .i64 y.fVal]), (.int .i64 cb), sl19, by kernel_rfl, hB.trans ((hb1.mono (Nat.le_refl _)).mono hz), nf f0, nf f1, nf f2, nf f3, nf f4, fun _ => rfl, nf f6⟩
        refine InvFrom.cons (fun L a W hI hN hD K hK => ?_) ?_
        · obtain ⟨sl13, sl14, sl15, sl16, sl17, sl18, sl19, ha, hB, f0, f1, f2, f3, f4, f5, f6⟩ := hI
          subst ha
          have hz := hB.size
          have d2 := f2 (hD 2 (by kernel_rfl))
          subst d2
          have d5 := f5 (hD 5 (by kernel_rfl))
          subst d5
          refine Kept.mk ?_
          simp only [Act.put, pA, pZ, pS]
          go_simp
          refine hK.out _ _ ?_
          exact ⟨sl13, sl14, (.int .i64 ca), sl16, sl17, (.int .i64 cb), (.bool b2), by kernel_rfl, hB, nf f0, nf f1, nf f2, nf f3, nf f4, nf f5, fun _ => rfl⟩
        exact InvFrom.nil
      intro L a w9 hL hI
      obtain ⟨sl13, sl14, sl15, sl16, sl17, sl18, sl19, ha, hbw9, hI⟩ := hI
      subst ha
      have hfin := hI.2.2.2.2.2.2 (hL 6 (by decide))
      subst hfin
      clear hL hI
      refine Kept.mk ?_
      simp only [Act.put, pA, pZ, pS]
      cases b2
      · have hcc : ca = cb := by have := HB2.out; simp at this; exact this
        have HCC := Lib.hid (show ps.count y = qs.count y by have h1 := HCA.out; have h2 := HCB.out; omega)
        have HB9 := Lib.hid (HBW.out.trans (hbw9.mono (by have := HBW.out.size; omega)))
        clear hbw9 hcc
        go_wp2_with fail
        go_roundw
        case rel => exact ⟨k + 1, by omega, by go_num, Lib.hid (fun j x hj hjx => by
          by_cases hjk : j = k
          · subst hjk
            rw [HDK.out] at hjx
            injection hjx with hjx
            rw [← hjx]
            exact HCC.out
          · exact HA.out j x (by omega) hjx), HB9.out⟩
        case measure => simp [intOf]; omega
      · have hcc : ca ≠ cb := by have := HB2.out; simp at this; exact this
        have HR := Lib.hid (same_no (ps := ps) (qs := qs) (x := y) (fun h => hcc (by rw [HCA.out, HCB.out, h])))
        have HB9 := Lib.hid (HBW.out.trans (hbw9.mono (by have := HBW.out.size; omega)))
        clear hbw9 hcc
        go_wp2_with fail
        go_ret
        exact ⟨by rw [HR.out] <;> rfl, HB9.out⟩
    · obtain rfl : k = n := by omega
      have HR := Lib.hid (same_yes (ps := ps) (qs := qs) (by rw [HL.out]; exact HA.out))
      have HB9 := Lib.hid hbr
      clear hbr
      go_wp2_with fail
      go_ret
      exact ⟨by rw [HR.out, HL.out, HL2.out]; by_cases hq : k = m <;> simp [hq] <;> omega, HB9.out⟩
end Go.Proofs.YtghkdkagnibkgaaGreatDoor

namespace Go.Proofs.YtghkdkagnibkgaaGreatDoor
set_option linter.unusedSimpArgs false
set_option linter.unusedVariables false
open Go.RowKit

theorem plC_one (l : List DPlace) : ∀ u ∈ (l.map plC).flatten, u.oneCell' = true := by
  intro u hu
  obtain ⟨r, hr, hu⟩ := List.mem_flatten.1 hu
  obtain ⟨x, _, rfl⟩ := List.mem_map.1 hr
  simp only [plC, List.mem_cons, List.mem_nil_iff, or_false] at hu
  rcases hu with rfl | rfl | rfl | rfl | rfl | rfl <;> rfl
theorem gors_each' {p : DProg} {gs : List DGor} (h : gorsB p gs = true) : ∀ g ∈ gs, gorB (instrsZ p g.fProc) g = true := by
  unfold gorsB at h
  rw [Bool.and_eq_true, List.all_eq_true] at h
  intro g hg
  have := h.2 g hg
  unfold gorE at this
  rw [Bool.and_eq_true] at this
  exact this.1

set_option maxRecDepth 100000 in
set_option maxHeartbeats 16000000 in
theorem specObjects_any {w : World} {hi : Nat} {p : DProg} {x : DEng} {vs us : List Value} (hp : layProg.see w hi p vs) (he : layEng.see w hi x us) (hhi : hi ≤ w.heap.size) (hnp : szProg p ≤ 1048576) (hne : szEng x ≤ 1048576) :
    Calls Tryz.prog 88 #[.agg vs.toArray, .agg us.toArray] w fun e w' => e = .returned (.bool (chansB p x.fChans && musB p x.fGs.length x.fMus)) ∧ Below w.heap.size w w' := by
  obtain ⟨A0, n0, c0, B2, m2, d2, A3, n3, c3, rfl, ⟨hc0, hm0, s0⟩, -⟩ := seeProg hp
  obtain ⟨A4, n4, c4, A5, n5, c5, A6, n6, c6, rfl, ⟨-, -, s4⟩, ⟨-, -, s5⟩, ⟨-, -, s6⟩⟩ := seeEng he
  have HL0 := Lib.hid s0.1
  have HL4 := Lib.hid s4.1
  have HL5 := Lib.hid s5.1
  have HL6 := Lib.hid s6.1
  have HS0 := Lib.hid (fun (W : World) (hW : Below w.heap.size w W) => s0.below hW hhi)
  have HS5 := Lib.hid (fun (W : World) (hW : Below w.heap.size w W) => s5.below hW hhi)
  have HS6 := Lib.hid (fun (W : World) (hW : Below w.heap.size w W) => s6.below hW hhi)
  have HHI := Lib.hid hhi
  have hn0 : n0 ≤ 1048576 := by have := s0.1; unfold szProg at hnp; omega
  have hn4 : n4 ≤ 1048576 := by have := s4.1; unfold szEng at hne; omega
  have hn5 : n5 ≤ 1048576 := by have := s5.1; unfold szEng at hne; omega
  have hn6 : n6 ≤ 1048576 := by have := s6.1; unfold szEng at hne; omega
  rw [s4.1]
  obtain ⟨gs, cs, ms⟩ := x
  simp only at HL4 HL5 HL6 HS5 HS6 ⊢
  clear hp he s0 s4 s5 s6 hnp hne hhi

  have hB0 : Below w.heap.size w ((w.alloc (.cells #[.slice A0 n0 c0, .int .i64 p.fMus, .slice B2 m2 d2, .slice A3 n3 c3] 38)).alloc (.cells #[.slice A4 n4 c4, .slice A5 n5 c5, .slice A6 n6 c6] 44)) := ((Below.refl _ _).alloc (Nat.le_refl _) _).alloc (by simp) _
  have hP0 := box_keep (box_new w #[.slice A0 n0 c0, .int .i64 p.fMus, .slice B2 m2 d2, .slice A3 n3 c3] 38) ((Below.refl _ _).alloc (Nat.le_refl _) (.cells #[.slice A4 n4 c4, .slice A5 n5 c5, .slice A6 n6 c6] 44)) (by simp)
  have hE0 := box_new (w.alloc (.cells #[.slice A0 n0 c0, .int .i64 p.fMus, .slice B2 m2 d2, .slice A3 n3 c3] 38)) #[.slice A4 n4 c4, .slice A5 n5 c5, .slice A6 n6 c6] 44
  rw [World.size_alloc] at hE0
  have hz0 : ((w.alloc (.cells #[.slice A0 n0 c0, .int .i64 p.fMus, .slice B2 m2 d2, .slice A3 n3 c3] 38)).alloc (.cells #[.slice A4 n4 c4, .slice A5 n5 c5, .slice A6 n6 c6] 44)).heap.size = w.heap.size + 2 := by simp

  go_enter Tryz.func88, Tryz.ntmps88
  go_upto_region 1 with (fail)
  generalize ((w.alloc (.cells #[.slice A0 n0 c0, .int .i64 p.fMus, .slice B2 m2 d2, .slice A3 n3 c3] 38)).alloc (.cells #[.slice A4 n4 c4, .slice A5 n5 c5, .slice A6 n6 c6] 44)) = W0 at *
  have HP0 := Lib.hid hP0
  have HE0 := Lib.hid hE0
  have HB0 := Lib.hid hB0
  have p0 := box_cell (j := 0) hP0 rfl
  have p1 := box_cell (j := 1) hP0 rfl
  have x1 := box_cell (j := 1) hE0 rfl
  have x2 := box_cell (j := 2) hE0 rfl
  clear hP0 hE0 hB0
  by_cases hlen : n5 = n0
  rotate_left
  · have HR := Lib.hid (show chansB p cs = false by unfold chansB; rw [decide_eq_false (by rw [HL5.out, HL0.out]; exact hlen), Bool.false_and])
    have q1 : ((n5 : Int) != (n0 : Int)) = true := by simp; omega
    clear hlen
    go_wp2_with fail
    go_ret
    exact ⟨by rw [HR.out]; rfl, HB0.out⟩
  by_cases hmus : (n6 : Int) = p.fMus
  rotate_left
  · have HR := Lib.hid (show musB p n4 ms = false by unfold musB; rw [decide_eq_false (by rw [HL6.out]; exact hmus), Bool.false_and])
    have q1 : ((n5 : Int) != (n0 : Int)) = false := by simp; omega
    have q2 : ((n6 : Int) != p.fMus) = true := by simp [hmus]
    clear hlen hmus
    go_wp2_with fail
    go_ret
    exact ⟨by rw [HR.out, Bool.and_false] <;> rfl, HB0.out⟩
  have q1 : ((n5 : Int) != (n0 : Int)) = false := by simp; omega
  have q2 : ((n6 : Int) != p.fMus) = false := by simp [hmus]
  have HLEN := Lib.hid hlen
  have HMUS := Lib.hid hmus
  clear hlen hmus
  go_wp2_with fail
  clear q1 q2 p0 p1 x1 x2
  go_loopw [27] (fun i wr => ∃ k : Nat, k ≤ n5 ∧ i = .int .i64 k ∧ Hid (allTo (fun j _ => chanE p cs j) cs k) ∧ Below (w.heap.size + 2) W0 wr) (fun i _ => n5 - (intOf i).toNat)
  case atStart => exact ⟨0, Nat.zero_le _, rfl, Lib.hid (fun j x hj => by omega), by rw [← hz0]; exact Below.refl _ _⟩
  case round =>
    obtain ⟨k, hk, rfl, HA, hbr⟩ := hrel
    have hzr := hbr.size
    by_cases hlt : k < n5
    · have hbw := HB0.out.trans (hbr.mono (by omega))
      obtain ⟨hx, g, o, ws, rfl, hg, hsee, hcell⟩ := (HS5.out wr hbw).at_ hlt
      have HDK := Lib.hid (List.getElem?_eq_getElem hx)
      generalize cs[k] = d at *
      have HSE := Lib.hid (fun (W : World) (hW : Below wr.heap.size wr W) => layChan.keep hsee (w' := W) fun k hk => hW.block k (by have := HHI.out; have := hbw.size; omega))
      obtain ⟨E1, k1, v1, E2, k2, v2, E3, k3, v3, rfl, -⟩ := seeChan hsee
      have cc0 := hcell 0 _ rfl
      have cc1 := hcell 1 _ rfl
      have cc2 := hcell 2 _ rfl
      have cc3 := hcell 3 _ rfl
      have cc4 := hcell 4 _ rfl
      simp only [show layChan.size = 5 from rfl, ← Nat.add_assoc, Nat.add_zero, Nat.mul_one] at cc0 cc1 cc2 cc3 cc4
      have hbA : Below wr.heap.size wr (wr.alloc (.cells #[.int .i64 d.fCap, .slice E1 k1 v1, .slice E2 k2 v2, .slice E3 k3 v3, .bool d.fClosed] 124)) := (Below.refl _ _).alloc (Nat.le_refl _) _
      have hGA := box_new wr #[.int .i64 d.fCap, .slice E1 k1 v1, .slice E2 k2 v2, .slice E3 k3 v3, .bool d.fClosed] 124
      have hPA := box_keep (box_keep HP0.out hbr (by omega)) hbA (by omega)
      have hzA : (wr.alloc (.cells #[.int .i64 d.fCap, .slice E1 k1 v1, .slice E2 k2 v2, .slice E3 k3 v3, .bool d.fClosed] 124)).heap.size = wr.heap.size + 1 := by simp
      have hk0 : k < n0 := by have := HLEN.out; omega
      obtain ⟨hx0, gV, oV, ws0, rfl, hgV, ⟨rfl, -⟩, hcell0⟩ := (HS0.out wr hbw).at_ hk0
      have HDV := Lib.hid (List.getElem?_eq_getElem hx0)
      have hv0 := hcell0 0 _ rfl
      simp only [Lay.int, Lay.flat, Nat.add_zero, Nat.mul_one] at hv0
      generalize p.fCaps[k] = v at *
      have hi1 : (k : Int) < (n0 : Int) := by omega
      have hiq : (0 : Int) ≤ (k : Int) := by omega
      go_upto_region 6 with (fail)
      have HVA := Lib.hid (fun (W : World) (hW : Below (wr.alloc (.cells #[.int .i64 d.fCap, .slice E1 k1 v1, .slice E2 k2 v2, .slice E3 k3 v3, .bool d.fClosed] 124)).heap.size (wr.alloc (.cells #[.int .i64 d.fCap, .slice E1 k1 v1, .slice E2 k2 v2, .slice E3 k3 v3, .bool d.fClosed] 124)) W) => cell_kept (hbA.trans (hW.mono (by omega))) hv0)
      generalize (wr.alloc (.cells #[.int .i64 d.fCap, .slice E1 k1 v1, .slice E2 k2 v2, .slice E3 k3 v3, .bool d.fClosed] 124)) = WA at *
      clear cc0 cc1 cc2 cc3 cc4 hcell hsee hcell0 hv0
      have HGA := Lib.hid hGA
      have HPA := Lib.hid hPA
      have HBA := Lib.hid (hbr.trans (hbA.mono (by omega)))
      have HBW := Lib.hid (hbw.trans (hbA.mono (by have := hbw.size; omega)))
      have HOK := Lib.hid (fun (W : World) (hW : Below WA.heap.size WA W) => specChanOk_any (HSE.out W (hbA.trans (hW.mono (by omega)))) (by have := HBW.out.size; have := hW.size; have := HHI.out; omega))
      have HCE := Lib.hid (chanE_of HDK.out HDV.out)
      clear hGA hPA hbA hbr hbw HSE
      generalize chanOkB d = b1 at *
      cases b1
      · replace HCE : Hid (chanE p cs k = false) := Lib.hid (by rw [HCE.out]; rfl)
        refine wp_region_inv (fun AC0 L a W => ∃ sl32 sl33 sl34 sl35 sl36 sl37 sl38 sl39 sl40 sl41 sl42 sl43 sl44 : Value, a = (((((((((((((AC0.put (some 32) sl32).put (some 33) sl33).put (some 34) sl34).put (some 35) sl35).put (some 36) sl36).put (some 37) sl37).put (some 38) sl38).put (some 39) sl39).put (some 40) sl40).put (some 41) sl41).put (some 42) sl42).put (some 43) sl43).put (some 44) sl44) ∧ Below WA.heap.size WA W ∧ ((L 0 → sl32 = (.agg #[.int .i64 d.fCap, .slice E1 k1 v1, .slice E2 k2 v2, .slice E3 k3 v3, .bool d.fClosed])) ∧ (L 1 → sl33 = (.bool false)) ∧ (L 2 → sl34 = (.bool true)) ∧ (L 3 → sl35 = (.bool true)) ∧ (L 4 → sl36 = undef) ∧ (L 5 → sl37 = undef) ∧ (L 6 → sl38 = undef) ∧ (L 7 → sl39 = undef) ∧ (L 8 → sl40 = undef) ∧ (L 9 → sl41 = undef) ∧ (L 10 → sl42 = undef) ∧ (L 11 → sl43 = undef) ∧ (L 12 → sl44 = (.bool true)))) (by kernel_rfl) (by kernel_rfl) ?_ ?_ ?_
        · exact ⟨u32, u33, u34, u35, u36, u37, u38, u39, u40, u41, u42, u43, u44, by kernel_rfl, Below.drew (Below.refl _ _), fun h => absurd h id, fun h => absurd h id, fun h => absurd h id, fun h => absurd h id, fun h => absurd h id, fun h => absurd h id, fun h => absurd h id, fun h => absurd h id, fun h => absurd h id, fun h => absurd h id, fun h => absurd h id, fun h => absurd h id, fun h => absurd h id⟩
        · intro Q9; refine InvFrom.cons (fun L a W hI hN hD K hK => ?_) ?_
          · obtain ⟨sl32, sl33, sl34, sl35, sl36, sl37, sl38, sl39, sl40, sl41, sl42, sl43, sl44, ha, hB, f0, f1, f2, f3, f4, f5, f6, f7, f8, f9, f10, f11, f12⟩ := hI
            subst ha
            have hz := hB.size
            have pg0 := box_cell (j := 0) (box_keep HGA.out hB (by omega)) rfl
            have pg1 := box_cell (j := 1) (box_keep HGA.out hB (by omega)) rfl
            have pg2 := box_cell (j := 2) (box_keep HGA.out hB (by omega)) rfl
            have pg3 := box_cell (j := 3) (box_keep HGA.out hB (by omega)) rfl
            have pg4 := box_cell (j := 4) (box_keep HGA.out hB (by omega)) rfl
            refine Kept.mk ?_
            simp only [Act.put, pA, pZ, pS]
            go_simp
            refine hK.out _ _ ?_
            exact ⟨(.agg #[.int .i64 d.fCap, .slice E1 k1 v1, .slice E2 k2 v2, .slice E3 k3 v3, .bool d.fClosed]), sl33, sl34, sl35, sl36, sl37, sl38, sl39, sl40, sl41, sl42, sl43, sl44, by kernel_rfl, hB, fun _ => rfl, nf f1, nf f2, nf f3, nf f4, nf f5, nf f6, nf f7, nf f8, nf f9, nf f10, nf f11, nf f12⟩
          refine InvFrom.cons (fun L a W hI hN hD K hK => ?_) ?_
          · obtain ⟨sl32, sl33, sl34, sl35, sl36, sl37, sl38, sl39, sl40, sl41, sl42, sl43, sl44, ha, hB, f0, f1, f2, f3, f4, f5, f6, f7, f8, f9, f10, f11, f12⟩ := hI
            subst ha
            have hz := hB.size
            have d0 := f0 (hD 0 (by kernel_rfl))
            subst d0
            refine kept_c1 rfl 110 _ _ rfl (fenters_of' Tryz.func110 (by kernel_rfl) (by kernel_rfl)) (.agg #[.int .i64 d.fCap, .slice E1 k1 v1, .slice E2 k2 v2, .slice E3 k3 v3, .bool d.fClosed]) (by kernel_rfl) (HOK.out W hB) ?_
            rintro e W1 ⟨rfl, hb1⟩
            refine ⟨_, rfl, hK.out _ _ ?_⟩
            exact ⟨(.agg #[.int .i64 d.fCap, .slice E1 k1 v1, .slice E2 k2 v2, .slice E3 k3 v3, .bool d.fClosed]), (.bool false), sl34, sl35, sl36, sl37, sl38, sl39, sl40, sl41, sl42, sl43, sl44, by kernel_rfl, hB.trans ((hb1.mono (Nat.le_refl _)).mono hz), nf f0, fun _ => rfl, nf f2, nf f3, nf f4, nf f5, nf f6, nf f7, nf f8, nf f9, nf f10, nf f11, nf f12⟩
          refine InvFrom.cons (fun L a W hI hN hD K hK => ?_) ?_
          · obtain ⟨sl32, sl33, sl34, sl35, sl36, sl37, sl38, sl39, sl40, sl41, sl42, sl43, sl44, ha, hB, f0, f1, f2, f3, f4, f5, f6, f7, f8, f9, f10, f11, f12⟩ := hI
            subst ha
            have hz := hB.size
            have d1 := f1 (hD 1 (by kernel_rfl))
            subst d1
            refine Kept.mk ?_
            simp only [Act.put, pA, pZ, pS]
            go_simp
            refine hK.out _ _ ?_
            exact ⟨sl32, (.bool false), (.bool true), sl35, sl36, sl37, sl38, sl39, sl40, sl41, sl42, sl43, sl44, by kernel_rfl, hB, nf f0, nf f1, fun _ => rfl, nf f3, nf f4, nf f5, nf f6, nf f7, nf f8, nf f9, nf f10, nf f11, nf f12⟩
          refine InvFrom.cons (fun L a W hI hN hD K hK => ?_) ?_
          · obtain ⟨sl32, sl33, sl34, sl35, sl36, sl37, sl38, sl39, sl40, sl41, sl42, sl43, sl44, ha, hB, f0, f1, f2, f3, f4, f5, f6, f7, f8, f9, f10, f11, f12⟩ := hI
            subst ha
            have hz := hB.size
            have d1 := f1 (hD 1 (by kernel_rfl))
            subst d1
            have d2 := f2 (hD 2 (by kernel_rfl))
            subst d2
            refine Kept.mk ?_
            simp only [Act.put, pA, pZ, pS]
            go_simp
            refine hK.out _ _ ?_
            exact ⟨sl32, (.bool false), (.bool true), (.bool true), sl36, sl37, sl38, sl39, sl40, sl41, sl42, sl43, sl44, by kernel_rfl, hB, nf f0, nf f1, nf f2, fun _ => rfl, nf f4, nf f5, nf f6, nf f7, nf f8, nf f9, nf f10, nf f11, nf f12⟩
          refine InvFrom.cons (fun L a W hI hN hD K hK => ?_) ?_
          · obtain ⟨sl32, sl33, sl34, sl35, sl36, sl37, sl38, sl39, sl40, sl41, sl42, sl43, sl44, ha, hB, f0, f1, f2, f3, f4, f5, f6, f7, f8, f9, f10, f11, f12⟩ := hI
            subst ha
            have hz := hB.size
            have d3 := f3 (hD 3 (by kernel_rfl))
            subst d3
            refine Kept.mk ?_
            simp only [Act.put, pA, pZ, pS]
            go_simp
            refine hK.out _ _ ?_
            exact ⟨sl32, sl33, sl34, (.bool true), undef, sl37, sl38, sl39, sl40, sl41, sl42, sl43, sl44, by kernel_rfl, hB, nf f0, nf f1, nf f2, nf f3, fun _ => rfl, nf f5, nf f6, nf f7, nf f8, nf f9, nf f10, nf f11, nf f12⟩
          refine InvFrom.cons (fun L a W hI hN hD K hK => ?_) ?_
          · obtain ⟨sl32, sl33, sl34, sl35, sl36, sl37, sl38, sl39, sl40, sl41, sl42, sl43, sl44, ha, hB, f0, f1, f2, f3, f4, f5, f6, f7, f8, f9, f10, f11, f12⟩ := hI
            subst ha
            have hz := hB.size
            have d3 := f3 (hD 3 (by kernel_rfl))
            subst d3
            have d4 := f4 (hD 4 (by kernel_rfl))
            subst d4
            refine Kept.mk ?_
            simp only [Act.put, pA, pZ, pS]
            go_simp
            refine hK.out _ _ ?_
            exact ⟨sl32, sl33, sl34, (.bool true), undef, undef, sl38, sl39, sl40, sl41, sl42, sl43, sl44, by kernel_rfl, hB, nf f0, nf f1, nf f2, nf f3, nf f4, fun _ => rfl, nf f6, nf f7, nf f8, nf f9, nf f10, nf f11, nf f12⟩
          refine InvFrom.cons (fun L a W hI hN hD K hK => ?_) ?_
          · obtain ⟨sl32, sl33, sl34, sl35, sl36, sl37, sl38, sl39, sl40, sl41, sl42, sl43, sl44, ha, hB, f0, f1, f2, f3, f4, f5, f6, f7, f8, f9, f10, f11, f12⟩ := hI
            subst ha
            have hz := hB.size
            have d3 := f3 (hD 3 (by kernel_rfl))
            subst d3
            refine Kept.mk ?_
            simp only [Act.put, pA, pZ, pS]
            go_simp
            refine hK.out _ _ ?_
            exact ⟨sl32, sl33, sl34, (.bool true), sl36, sl37, undef, sl39, sl40, sl41, sl42, sl43, sl44, by kernel_rfl, hB, nf f0, nf f1, nf f2, nf f3, nf f4, nf f5, fun _ => rfl, nf f7, nf f8, nf f9, nf f10, nf f11, nf f12⟩
          refine InvFrom.cons (fun L a W hI hN hD K hK => ?_) ?_
          · obtain ⟨sl32, sl33, sl34, sl35, sl36, sl37, sl38, sl39, sl40, sl41, sl42, sl43, sl44, ha, hB, f0, f1, f2, f3, f4, f5, f6, f7, f8, f9, f10, f11, f12⟩ := hI
            subst ha
            have hz := hB.size
            have d3 := f3 (hD 3 (by kernel_rfl))
            subst d3
            have d6 := f6 (hD 6 (by kernel_rfl))
            subst d6
            refine Kept.mk ?_
            simp only [Act.put, pA, pZ, pS]
            go_simp
            refine hK.out _ _ ?_
            exact ⟨sl32, sl33, sl34, (.bool true), sl36, sl37, undef, undef, sl40, sl41, sl42, sl43, sl44, by kernel_rfl, hB, nf f0, nf f1, nf f2, nf f3, nf f4, nf f5, nf f6, fun _ => rfl, nf f8, nf f9, nf f10, nf f11, nf f12⟩
          refine InvFrom.cons (fun L a W hI hN hD K hK => ?_) ?_
          · obtain ⟨sl32, sl33, sl34, sl35, sl36, sl37, sl38, sl39, sl40, sl41, sl42, sl43, sl44, ha, hB, f0, f1, f2, f3, f4, f5, f6, f7, f8, f9, f10, f11, f12⟩ := hI
            subst ha
            have hz := hB.size
            have d3 := f3 (hD 3 (by kernel_rfl))
            subst d3
            refine Kept.mk ?_
            simp only [Act.put, pA, pZ, pS]
            go_simp
            refine hK.out _ _ ?_
            exact ⟨sl32, sl33, sl34, (.bool true), sl36, sl37, sl38, sl39, undef, sl41, sl42, sl43, sl44, by kernel_rfl, hB, nf f0, nf f1, nf f2, nf f3, nf f4, nf f5, nf f6, nf f7, fun _ => rfl, nf f9, nf f10, nf f11, nf f12⟩
          refine InvFrom.cons (fun L a W hI hN hD K hK => ?_) ?_
          · obtain ⟨sl32, sl33, sl34, sl35, sl36, sl37, sl38, sl39, sl40, sl41, sl42, sl43, sl44, ha, hB, f0, f1, f2, f3, f4, f5, f6, f7, f8, f9, f10, f11, f12⟩ := hI
            subst ha
            have hz := hB.size
            have d3 := f3 (hD 3 (by kernel_rfl))
            subst d3
            have d7 := f7 (hD 7 (by kernel_rfl))
            subst d7
            have d8 := f8 (hD 8 (by kernel_rfl))
            subst d8
            refine Kept.mk ?_
            simp only [Act.put, pA, pZ, pS]
            go_simp
            refine hK.out _ _ ?_
            exact ⟨sl32, sl33, sl34, (.bool true), sl36, sl37, sl38, undef, undef, undef, sl42, sl43, sl44, by kernel_rfl, hB, nf f0, nf f1, nf f2, nf f3, nf f4, nf f5, nf f6, nf f7, nf f8, fun _ => rfl, nf f10, nf f11, nf f12⟩
          refine InvFrom.cons (fun L a W hI hN hD K hK => ?_) ?_
          · obtain ⟨sl32, sl33, sl34, sl35, sl36, sl37, sl38, sl39, sl40, sl41, sl42, sl43, sl44, ha, hB, f0, f1, f2, f3, f4, f5, f6, f7, f8, f9, f10, f11, f12⟩ := hI
            subst ha
            have hz := hB.size
            have d3 := f3 (hD 3 (by kernel_rfl))
            subst d3
            have d9 := f9 (hD 9 (by kernel_rfl))
            subst d9
            refine Kept.mk ?_
            simp only [Act.put, pA, pZ, pS]
            go_simp
            refine hK.out _ _ ?_
            exact ⟨sl32, sl33, sl34, (.bool true), sl36, sl37, sl38, sl39, sl40, undef, undef, sl43, sl44, by kernel_rfl, hB, nf f0, nf f1, nf f2, nf f3, nf f4, nf f5, nf f6, nf f7, nf f8, nf f9, fun _ => rfl, nf f11, nf f12⟩
          refine InvFrom.cons (fun L a W hI hN hD K hK => ?_) ?_
          · obtain ⟨sl32, sl33, sl34, sl35, sl36, sl37, sl38, sl39, sl40, sl41, sl42, sl43, sl44, ha, hB, f0, f1, f2, f3, f4, f5, f6, f7, f8, f9, f10, f11, f12⟩ := hI
            subst ha
            have hz := hB.size
            have d3 := f3 (hD 3 (by kernel_rfl))
            subst d3
            have d5 := f5 (hD 5 (by kernel_rfl))
            subst d5
            have d10 := f10 (hD 10 (by kernel_rfl))
            subst d10
            refine Kept.mk ?_
            simp only [Act.put, pA, pZ, pS]
            go_simp
            refine hK.out _ _ ?_
            exact ⟨sl32, sl33, sl34, (.bool true), sl36, undef, sl38, sl39, sl40, sl41, undef, undef, sl44, by kernel_rfl, hB, nf f0, nf f1, nf f2, nf f3, nf f4, nf f5, nf f6, nf f7, nf f8, nf f9, nf f10, fun _ => rfl, nf f12⟩
          refine InvFrom.cons (fun L a W hI hN hD K hK => ?_) ?_
          · obtain ⟨sl32, sl33, sl34, sl35, sl36, sl37, sl38, sl39, sl40, sl41, sl42, sl43, sl44, ha, hB, f0, f1, f2, f3, f4, f5, f6, f7, f8, f9, f10, f11, f12⟩ := hI
            subst ha
            have hz := hB.size
            have d3 := f3 (hD 3 (by kernel_rfl))
            subst d3
            have d11 := f11 (hD 11 (by kernel_rfl))
            subst d11
            refine Kept.mk ?_
            simp only [Act.put, pA, pZ, pS]
            go_simp
            refine hK.out _ _ ?_
            exact ⟨sl32, sl33, sl34, (.bool true), sl36, sl37, sl38, sl39, sl40, sl41, sl42, undef, (.bool true), by kernel_rfl, hB, nf f0, nf f1, nf f2, nf f3, nf f4, nf f5, nf f6, nf f7, nf f8, nf f9, nf f10, nf f11, fun _ => rfl⟩
          exact InvFrom.nil
        intro L a w9 hL hI
        obtain ⟨sl32, sl33, sl34, sl35, sl36, sl37, sl38, sl39, sl40, sl41, sl42, sl43, sl44, ha, hbw9, hI⟩ := hI
        subst ha
        have hfin := hI.2.2.2.2.2.2.2.2.2.2.2.2 (hL 12 (by decide))
        subst hfin
        clear hL hI
        refine Kept.mk ?_
        simp only [Act.put, pA, pZ, pS]
        have HB9 := Lib.hid (HBW.out.trans (hbw9.mono (by have := HBW.out.size; omega)))
        clear hbw9
        go_wp2_with fail
        go_ret
        exact ⟨by rw [chans_no (by rw [HL5.out]; exact hlt) HCE.out]; rfl, HB9.out⟩
      obtain ⟨b2, hb2⟩ : ∃ b, b = (d.fCap != v) := ⟨_, rfl⟩
      replace HCE : Hid (chanE p cs k = !b2) := Lib.hid (by rw [HCE.out, hb2, Bool.true_and]; by_cases hq : d.fCap = v <;> simp [hq])
      have hqb : (d.fCap != v) = b2 := hb2.symm
      clear hb2
      refine wp_region_inv (fun AC0 L a W => ∃ sl32 sl33 sl34 sl35 sl36 sl37 sl38 sl39 sl40 sl41 sl42 sl43 sl44 : Value, a = (((((((((((((AC0.put (some 32) sl32).put (some 33) sl33).put (some 34) sl34).put (some 35) sl35).put (some 36) sl36).put (some 37) sl37).put (some 38) sl38).put (some 39) sl39).put (some 40) sl40).put (some 41) sl41).put (some 42) sl42).put (some 43) sl43).put (some 44) sl44) ∧ Below WA.heap.size WA W ∧ ((L 0 → sl32 = (.agg #[.int .i64 d.fCap, .slice E1 k1 v1, .slice E2 k2 v2, .slice E3 k3 v3, .bool d.fClosed])) ∧ (L 1 → sl33 = (.bool true)) ∧ (L 2 → sl34 = (.bool false)) ∧ (L 3 → sl35 = (.bool false)) ∧ (L 4 → sl36 = (.pointer (some ⟨wr.heap.size, 0, none⟩))) ∧ (L 5 → sl37 = (.int .i64 d.fCap)) ∧ (L 6 → sl38 = (.pointer (some ⟨w.heap.size, 0, none⟩))) ∧ (L 7 → sl39 = (.slice (some ⟨gV, oV, none⟩) n0 c0)) ∧ (L 8 → sl40 = (.int .i64 (k : Int))) ∧ (L 9 → sl41 = (.pointer (some ⟨gV, oV + k, none⟩))) ∧ (L 10 → sl42 = (.int .i64 v)) ∧ (L 11 → sl43 = (.bool b2)) ∧ (L 12 → sl44 = (.bool b2)))) (by kernel_rfl) (by kernel_rfl) ?_ ?_ ?_
      · exact ⟨u32, u33, u34, u35, u36, u37, u38, u39, u40, u41, u42, u43, u44, by kernel_rfl, Below.drew (Below.refl _ _), fun h => absurd h id, fun h => absurd h id, fun h => absurd h id, fun h => absurd h id, fun h => absurd h id, fun h => absurd h id, fun h => absurd h id, fun h => absurd h id, fun h => absurd h id, fun h => absurd h id, fun h => absurd h id, fun h => absurd h id, fun h => absurd h id⟩
      · intro Q9; refine InvFrom.cons (fun L a W hI hN hD K hK => ?_) ?_
        · obtain ⟨sl32, sl33, sl34, sl35, sl36, sl37, sl38, sl39, sl40, sl41, sl42, sl43, sl44, ha, hB, f0, f1, f2, f3, f4, f5, f6, f7, f8, f9, f10, f11, f12⟩ := hI
          subst ha
          have hz := hB.size
          have pg0 := box_cell (j := 0) (box_keep HGA.out hB (by omega)) rfl
          have pg1 := box_cell (j := 1) (box_keep HGA.out hB (by omega)) rfl
          have pg2 := box_cell (j := 2) (box_keep HGA.out hB (by omega)) rfl
          have pg3 := box_cell (j := 3) (box_keep HGA.out hB (by omega)) rfl
          have pg4 := box_cell (j := 4) (box_keep HGA.out hB (by omega)) rfl
          refine Kept.mk ?_
          simp only [Act.put, pA, pZ, pS]
          go_simp
          refine hK.out _ _ ?_
          exact ⟨(.agg #[.int .i64 d.fCap, .slice E1 k1 v1, .slice E2 k2 v2, .slice E3 k3 v3, .bool d.fClosed]), sl33, sl34, sl35, sl36, sl37, sl38, sl39, sl40, sl41, sl42, sl43, sl44, by kernel_rfl, hB, fun _ => rfl, nf f1, nf f2, nf f3, nf f4, nf f5, nf f6, nf f7, nf f8, nf f9, nf f10, nf f11, nf f12⟩
        refine InvFrom.cons (fun L a W hI hN hD K hK => ?_) ?_
        · obtain ⟨sl32, sl33, sl34, sl35, sl36, sl37, sl38, sl39, sl40, sl41, sl42, sl43, sl44, ha, hB, f0, f1, f2, f3, f4, f5, f6, f7, f8, f9, f10, f11, f12⟩ := hI
          subst ha
          have hz := hB.size
          have d0 := f0 (hD 0 (by kernel_rfl))
          subst d0
          refine kept_c1 rfl 110 _ _ rfl (fenters_of' Tryz.func110 (by kernel_rfl) (by kernel_rfl)) (.agg #[.int .i64 d.fCap, .slice E1 k1 v1, .slice E2 k2 v2, .slice E3 k3 v3, .bool d.fClosed]) (by kernel_rfl) (HOK.out W hB) ?_
          rintro e W1 ⟨rfl, hb1⟩
          refine ⟨_, rfl, hK.out _ _ ?_⟩
          exact ⟨(.agg #[.int .i64 d.fCap, .slice E1 k1 v1, .slice E2 k2 v2, .slice E3 k3 v3, .bool d.fClosed]), (.bool true), sl34, sl35, sl36, sl37, sl38, sl39, sl40, sl41, sl42, sl43, sl44, by kernel_rfl, hB.trans ((hb1.mono (Nat.le_refl _)).mono hz), nf f0, fun _ => rfl, nf f2, nf f3, nf f4, nf f5, nf f6, nf f7, nf f8, nf f9, nf f10, nf f11, nf f12⟩
        refine InvFrom.cons (fun L a W hI hN hD K hK => ?_) ?_
        · obtain ⟨sl32, sl33, sl34, sl35, sl36, sl37, sl38, sl39, sl40, sl41, sl42, sl43, sl44, ha, hB, f0, f1, f2, f3, f4, f5, f6, f7, f8, f9, f10, f11, f12⟩ := hI
          subst ha
          have hz := hB.size
          have d1 := f1 (hD 1 (by kernel_rfl))
          subst d1
          refine Kept.mk ?_
          simp only [Act.put, pA, pZ, pS]
          go_simp
          refine hK.out _ _ ?_
          exact ⟨sl32, (.bool true), (.bool false), sl35, sl36, sl37, sl38, sl39, sl40, sl41, sl42, sl43, sl44, by kernel_rfl, hB, nf f0, nf f1, fun _ => rfl, nf f3, nf f4, nf f5, nf f6, nf f7, nf f8, nf f9, nf f10, nf f11, nf f12⟩
        refine InvFrom.cons (fun L a W hI hN hD K hK => ?_) ?_
        · obtain ⟨sl32, sl33, sl34, sl35, sl36, sl37, sl38, sl39, sl40, sl41, sl42, sl43, sl44, ha, hB, f0, f1, f2, f3, f4, f5, f6, f7, f8, f9, f10, f11, f12⟩ := hI
          subst ha
          have hz := hB.size
          have d1 := f1 (hD 1 (by kernel_rfl))
          subst d1
          have d2 := f2 (hD 2 (by kernel_rfl))
          subst d2
          refine Kept.mk ?_
          simp only [Act.put, pA, pZ, pS]
          go_simp
          refine hK.out _ _ ?_
          exact ⟨sl32, (.bool true), (.bool false), (.bool false), sl36, sl37, sl38, sl39, sl40, sl41, sl42, sl43, sl44, by kernel_rfl, hB, nf f0, nf f1, nf f2, fun _ => rfl, nf f4, nf f5, nf f6, nf f7, nf f8, nf f9, nf f10, nf f11, nf f12⟩
        refine InvFrom.cons (fun L a W hI hN hD K hK => ?_) ?_
        · obtain ⟨sl32, sl33, sl34, sl35, sl36, sl37, sl38, sl39, sl40, sl41, sl42, sl43, sl44, ha, hB, f0, f1, f2, f3, f4, f5, f6, f7, f8, f9, f10, f11, f12⟩ := hI
          subst ha
          have hz := hB.size
          have d3 := f3 (hD 3 (by kernel_rfl))
          subst d3
          refine Kept.mk ?_
          simp only [Act.put, pA, pZ, pS]
          go_simp
          refine hK.out _ _ ?_
          exact ⟨sl32, sl33, sl34, (.bool false), (.pointer (some ⟨wr.heap.size, 0, none⟩)), sl37, sl38, sl39, sl40, sl41, sl42, sl43, sl44, by kernel_rfl, hB, nf f0, nf f1, nf f2, nf f3, fun _ => rfl, nf f5, nf f6, nf f7, nf f8, nf f9, nf f10, nf f11, nf f12⟩
        refine InvFrom.cons (fun L a W hI hN hD K hK => ?_) ?_
        · obtain ⟨sl32, sl33, sl34, sl35, sl36, sl37, sl38, sl39, sl40, sl41, sl42, sl43, sl44, ha, hB, f0, f1, f2, f3, f4, f5, f6, f7, f8, f9, f10, f11, f12⟩ := hI
          subst ha
          have hz := hB.size
          have d3 := f3 (hD 3 (by kernel_rfl))
          subst d3
          have d4 := f4 (hD 4 (by kernel_rfl))
          subst d4
          have pg := box_cell (j := 0) (box_keep HGA.out hB (by omega)) rfl
          refine Kept.mk ?_
          simp only [Act.put, pA, pZ, pS]
          go_simp
          refine hK.out _ _ ?_
          exact ⟨sl32, sl33, sl34, (.bool false), (.pointer (some ⟨wr.heap.size, 0, none⟩)), (.int .i64 d.fCap), sl38, sl39, sl40, sl41, sl42, sl43, sl44, by kernel_rfl, hB, nf f0, nf f1, nf f2, nf f3, nf f4, fun _ => rfl, nf f6, nf f7, nf f8, nf f9, nf f10, nf f11, nf f12⟩
        refine InvFrom.cons (fun L a W hI hN hD K hK => ?_) ?_
        · obtain ⟨sl32, sl33, sl34, sl35, sl36, sl37, sl38, sl39, sl40, sl41, sl42, sl43, sl44, ha, hB, f0, f1, f2, f3, f4, f5, f6, f7, f8, f9, f10, f11, f12⟩ := hI
          subst ha
          have hz := hB.size
          have d3 := f3 (hD 3 (by kernel_rfl))
          subst d3
          refine Kept.mk ?_
          simp only [Act.put, pA, pZ, pS]
          go_simp
          refine hK.out _ _ ?_
          exact ⟨sl32, sl33, sl34, (.bool false), sl36, sl37, (.pointer (some ⟨w.heap.size, 0, none⟩)), sl39, sl40, sl41, sl42, sl43, sl44, by kernel_rfl, hB, nf f0, nf f1, nf f2, nf f3, nf f4, nf f5, fun _ => rfl, nf f7, nf f8, nf f9, nf f10, nf f11, nf f12⟩
        refine InvFrom.cons (fun L a W hI hN hD K hK => ?_) ?_
        · obtain ⟨sl32, sl33, sl34, sl35, sl36, sl37, sl38, sl39, sl40, sl41, sl42, sl43, sl44, ha, hB, f0, f1, f2, f3, f4, f5, f6, f7, f8, f9, f10, f11, f12⟩ := hI
          subst ha
          have hz := hB.size
          have d3 := f3 (hD 3 (by kernel_rfl))
          subst d3
          have d6 := f6 (hD 6 (by kernel_rfl))
          subst d6
          have pp := box_cell (j := 0) (box_keep HPA.out hB (by omega)) rfl
          refine Kept.mk ?_
          simp only [Act.put, pA, pZ, pS]
          go_simp
          refine hK.out _ _ ?_
          exact ⟨sl32, sl33, sl34, (.bool false), sl36, sl37, (.pointer (some ⟨w.heap.size, 0, none⟩)), (.slice (some ⟨gV, oV, none⟩) n0 c0), sl40, sl41, sl42, sl43, sl44, by kernel_rfl, hB, nf f0, nf f1, nf f2, nf f3, nf f4, nf f5, nf f6, fun _ => rfl, nf f8, nf f9, nf f10, nf f11, nf f12⟩
        refine InvFrom.cons (fun L a W hI hN hD K hK => ?_) ?_
        · obtain ⟨sl32, sl33, sl34, sl35, sl36, sl37, sl38, sl39, sl40, sl41, sl42, sl43, sl44, ha, hB, f0, f1, f2, f3, f4, f5, f6, f7, f8, f9, f10, f11, f12⟩ := hI
          subst ha
          have hz := hB.size
          have d3 := f3 (hD 3 (by kernel_rfl))
          subst d3
          refine Kept.mk ?_
          simp only [Act.put, pA, pZ, pS]
          go_simp
          refine hK.out _ _ ?_
          exact ⟨sl32, sl33, sl34, (.bool false), sl36, sl37, sl38, sl39, (.int .i64 (k : Int)), sl41, sl42, sl43, sl44, by kernel_rfl, hB, nf f0, nf f1, nf f2, nf f3, nf f4, nf f5, nf f6, nf f7, fun _ => rfl, nf f9, nf f10, nf f11, nf f12⟩
        refine InvFrom.cons (fun L a W hI hN hD K hK => ?_) ?_
        · obtain ⟨sl32, sl33, sl34, sl35, sl36, sl37, sl38, sl39, sl40, sl41, sl42, sl43, sl44, ha, hB, f0, f1, f2, f3, f4, f5, f6, f7, f8, f9, f10, f11, f12⟩ := hI
          subst ha
          have hz := hB.size
          have d3 := f3 (hD 3 (by kernel_rfl))
          subst d3
          have d7 := f7 (hD 7 (by kernel_rfl))
          subst d7
          have d8 := f8 (hD 8 (by kernel_rfl))
          subst d8
          refine Kept.mk ?_
          simp only [Act.put, pA, pZ, pS]
          go_simp
          refine hK.out _ _ ?_
          exact ⟨sl32, sl33, sl34, (.bool false), sl36, sl37, sl38, (.slice (some ⟨gV, oV, none⟩) n0 c0), (.int .i64 (k : Int)), (.pointer (some ⟨gV, oV + k, none⟩)), sl42, sl43, sl44, by kernel_rfl, hB, nf f0, nf f1, nf f2, nf f3, nf f4, nf f5, nf f6, nf f7, nf f8, fun _ => rfl, nf f10, nf f11, nf f12⟩
        refine InvFrom.cons (fun L a W hI hN hD K hK => ?_) ?_
        · obtain ⟨sl32, sl33, sl34, sl35, sl36, sl37, sl38, sl39, sl40, sl41, sl42, sl43, sl44, ha, hB, f0, f1, f2, f3, f4, f5, f6, f7, f8, f9, f10, f11, f12⟩ := hI
          subst ha
          have hz := hB.size
          have d3 := f3 (hD 3 (by kernel_rfl))
          subst d3
          have d9 := f9 (hD 9 (by kernel_rfl))
          subst d9
          have pv := HVA.out W hB
          refine Kept.mk ?_
          simp only [Act.put, pA, pZ, pS]
          go_simp
          refine hK.out _ _ ?_
          exact ⟨sl32, sl33, sl34, (.bool false), sl36, sl37, sl38, sl39, sl40, (.pointer (some ⟨gV, oV + k, none⟩)), (.int .i64 v), sl43, sl44, by kernel_rfl, hB, nf f0, nf f1, nf f2, nf f3, nf f4, nf f5, nf f6, nf f7, nf f8, nf f9, fun _ => rfl, nf f11, nf f12⟩
        refine InvFrom.cons (fun L a W hI hN hD K hK => ?_) ?_
        · obtain ⟨sl32, sl33, sl34, sl35, sl36, sl37, sl38, sl39, sl40, sl41, sl42, sl43, sl44, ha, hB, f0, f1, f2, f3, f4, f5, f6, f7, f8, f9, f10, f11, f12⟩ := hI
          subst ha
          have hz := hB.size
          have d3 := f3 (hD 3 (by kernel_rfl))
          subst d3
          have d5 := f5 (hD 5 (by kernel_rfl))
          subst d5
          have d10 := f10 (hD 10 (by kernel_rfl))
          subst d10
          refine Kept.mk ?_
          simp only [Act.put, pA, pZ, pS]
          go_simp
          refine hK.out _ _ ?_
          exact ⟨sl32, sl33, sl34, (.bool false), sl36, (.int .i64 d.fCap), sl38, sl39, sl40, sl41, (.int .i64 v), (.bool b2), sl44, by kernel_rfl, hB, nf f0, nf f1, nf f2, nf f3, nf f4, nf f5, nf f6, nf f7, nf f8, nf f9, nf f10, fun _ => rfl, nf f12⟩
        refine InvFrom.cons (fun L a W hI hN hD K hK => ?_) ?_
        · obtain ⟨sl32, sl33, sl34, sl35, sl36, sl37, sl38, sl39, sl40, sl41, sl42, sl43, sl44, ha, hB, f0, f1, f2, f3, f4, f5, f6, f7, f8, f9, f10, f11, f12⟩ := hI
          subst ha
          have hz := hB.size
          have d3 := f3 (hD 3 (by kernel_rfl))
          subst d3
          have d11 := f11 (hD 11 (by kernel_rfl))
          subst d11
          refine Kept.mk ?_
          simp only [Act.put, pA, pZ, pS]
          go_simp
          refine hK.out _ _ ?_
          exact ⟨sl32, sl33, sl34, (.bool false), sl36, sl37, sl38, sl39, sl40, sl41, sl42, (.bool b2), (.bool b2), by kernel_rfl, hB, nf f0, nf f1, nf f2, nf f3, nf f4, nf f5, nf f6, nf f7, nf f8, nf f9, nf f10, nf f11, fun _ => rfl⟩
        exact InvFrom.nil
      intro L a w9 hL hI
      obtain ⟨sl32, sl33, sl34, sl35, sl36, sl37, sl38, sl39, sl40, sl41, sl42, sl43, sl44, ha, hbw9, hI⟩ := hI
      subst ha
      have hfin := hI.2.2.2.2.2.2.2.2.2.2.2.2 (hL 12 (by decide))
      subst hfin
      clear hL hI
      refine Kept.mk ?_
      simp only [Act.put, pA, pZ, pS]
      cases b2
      rotate_left
      · have HB9 := Lib.hid (HBW.out.trans (hbw9.mono (by have := HBW.out.size; omega)))
        clear hbw9
        go_wp2_with fail
        go_ret
        exact ⟨by rw [chans_no (by rw [HL5.out]; exact hlt) HCE.out]; rfl, HB9.out⟩
      · have HB9 := Lib.hid (HBA.out.trans (hbw9.mono (by omega)))
        clear hbw9
        go_wp2_with fail
        go_roundw
        case rel => exact ⟨k + 1, by omega, by go_num, Lib.hid (allTo_step HA.out HDK.out HCE.out), HB9.out⟩
        case measure => simp [intOf]; omega
    · obtain rfl : k = n5 := by omega
      have HRC := Lib.hid (chans_yes (p := p) (cs := cs) (by rw [HL5.out, HL0.out]; exact HLEN.out) (by rw [HL5.out]; exact HA.out))
      have x2 := box_cell (j := 2) (box_keep HE0.out hbr (by omega)) rfl
      have HBR := Lib.hid hbr
      clear hbr HA
      go_wp2_with fail
      clear x2
      go_loopw [49] (fun i wr => ∃ k : Nat, k ≤ n6 ∧ i = .int .i64 k ∧ Hid (allTo (fun _ m => musE n4 m) ms k) ∧ Below (w.heap.size + 2) W0 wr) (fun i _ => n6 - (intOf i).toNat)
      case atStart => exact ⟨0, Nat.zero_le _, rfl, Lib.hid (fun j x hj => by omega), HBR.out⟩
      case round =>
        rename World => wr
        clear HBR
        obtain ⟨k, hk, rfl, HA, hbr⟩ := hrel
        have hzr := hbr.size
        by_cases hlt : k < n6
        · have hbw := HB0.out.trans (hbr.mono (by omega))
          obtain ⟨hx, g, o, ws, rfl, hg, hsee, hcell⟩ := (HS6.out wr hbw).at_ hlt
          have HDK := Lib.hid (List.getElem?_eq_getElem hx)
          generalize ms[k] = d at *
          have HSE := Lib.hid (fun (W : World) (hW : Below wr.heap.size wr W) => layMutex.keep hsee (w' := W) fun k hk => hW.block k (by have := HHI.out; have := hbw.size; omega))
          obtain ⟨E1, k1, v1, rfl, -⟩ := seeMutex hsee
          have cc0 := hcell 0 _ rfl
          have cc1 := hcell 1 _ rfl
          simp only [show layMutex.size = 2 from rfl, ← Nat.add_assoc, Nat.add_zero, Nat.mul_one] at cc0 cc1
          have hbA : Below wr.heap.size wr (wr.alloc (.cells #[.int .i64 d.fOwner, .slice E1 k1 v1] 91)) := (Below.refl _ _).alloc (Nat.le_refl _) _
          have hGA := box_new wr #[.int .i64 d.fOwner, .slice E1 k1 v1] 91
          have hEA := box_keep (box_keep HE0.out hbr (by omega)) hbA (by omega)
          have hzA : (wr.alloc (.cells #[.int .i64 d.fOwner, .slice E1 k1 v1] 91)).heap.size = wr.heap.size + 1 := by simp
          go_upto_region 12 with (fail)
          generalize (wr.alloc (.cells #[.int .i64 d.fOwner, .slice E1 k1 v1] 91)) = WA at *
          clear cc0 cc1 hcell hsee
          have HOK := Lib.hid (specMutexOk_any (HSE.out WA hbA) (by have := HHI.out; have := hbw.size; omega))
          have HCE := Lib.hid (show musE n4 d = (mutOkB d && decide (d.fOwner < (n4 : Int))) from rfl)
          have HBA := Lib.hid (hbr.trans (hbA.mono (by omega)))
          have HBW := Lib.hid (hbw.trans (hbA.mono (by have := hbw.size; omega)))
          have g0 := box_cell (j := 0) hGA rfl
          have g1 := box_cell (j := 1) hGA rfl
          clear hbA hbr hbw HSE
          generalize mutOkB d = b1 at *
          go_wp2_with fail
          refine HOK.out.mono ?_
          rintro e w9 ⟨rfl, hb9⟩
          have hG9 := box_keep hGA hb9 (by omega)
          have hE9 := box_keep hEA hb9 (by omega)
          have HB9 := Lib.hid (HBW.out.trans (hb9.mono (by have := HBW.out.size; omega)))
          have HC9 := Lib.hid (HBA.out.trans (hb9.mono (by omega)))
          clear g0 g1 hb9 hGA hEA
          cases b1
          · replace HCE : Hid (musE n4 d = false) := Lib.hid (by rw [HCE.out]; rfl)
            go_wp2_with fail
            go_ret
            exact ⟨by rw [HRC.out, mus_no HDK.out HCE.out] <;> rfl, HB9.out⟩
          have g0 := box_cell (j := 0) hG9 rfl
          have x0 := box_cell (j := 0) hE9 rfl
          by_cases ho : d.fOwner < (n4 : Int)
          · replace HCE : Hid (musE n4 d = true) := Lib.hid (by rw [HCE.out, decide_eq_true ho]; rfl)
            have qo : decide (d.fOwner ≥ (n4 : Int)) = false := decide_eq_false (by omega)
            clear ho
            go_wp2_with fail
            go_roundw
            case rel => exact ⟨k + 1, by omega, by go_num, Lib.hid (allTo_step HA.out HDK.out HCE.out), HC9.out⟩
            case measure => simp [intOf]; omega
          · replace HCE : Hid (musE n4 d = false) := Lib.hid (by rw [HCE.out, decide_eq_false ho]; rfl)
            have qo : decide (d.fOwner ≥ (n4 : Int)) = true := decide_eq_true (by omega)
            clear ho
            go_wp2_with fail
            go_ret
            exact ⟨by rw [HRC.out, mus_no HDK.out HCE.out] <;> rfl, HB9.out⟩
        · obtain rfl : k = n6 := by omega
          have HB9 := Lib.hid (HB0.out.trans (hbr.mono (by omega)))
          clear hbr
          go_wp2_with fail
          go_ret
          exact ⟨by rw [HRC.out, mus_yes (by rw [HL6.out]; exact HMUS.out) (by rw [HL6.out]; exact HA.out)] <;> rfl, HB9.out⟩
set_option maxRecDepth 100000 in
set_option maxHeartbeats 16000000 in
theorem specEngOk_any {w : World} {hi : Nat} {p : DProg} {x : DEng} {vs us : List Value} (hp : layProg.see w hi p vs) (he : layEng.see w hi x us) (hhi : hi ≤ w.heap.size) (hnp : szProg p ≤ 1048576) (hne : szEng x ≤ 1048576) :
    Calls Tryz.prog 58 #[.agg vs.toArray, .agg us.toArray] w fun e w' => e = .returned (.bool (engB p x)) ∧ Below w.heap.size w w' := by
  obtain ⟨i0, hi0, iz0, iz1, iz2⟩ := info_parts infoPlaceE
  have HPS := Lib.hid (fun (W : World) (hW : Below w.heap.size w W) => layProg.keep hp (w' := W) fun k hk => hW.block k (by omega))
  have HES := Lib.hid (fun (W : World) (hW : Below w.heap.size w W) => layEng.keep he (w' := W) fun k hk => hW.block k (by omega))
  have HPK := Lib.hid (fun (W : World) (hW : Below w.heap.size w W) => specProgOk_any (HPS.out W hW) (Nat.le_trans hhi hW.size) hnp)
  have HOB := Lib.hid (fun (W : World) (hW : Below w.heap.size w W) => specObjects_any (HPS.out W hW) (HES.out W hW) (Nat.le_trans hhi hW.size) hnp hne)
  have HAL := Lib.hid (fun (W : World) (hW : Below w.heap.size w W) => specAll_any (HES.out W hW) (Nat.le_trans hhi hW.size) hne)
  have HHI := Lib.hid hhi
  have HNP := Lib.hid hnp
  have HR := Lib.hid (show engB p x = (progOkB p && ((chansB p x.fChans && musB p x.fGs.length x.fMus) && (gorsB p x.fGs && decide ((toldTo p x.fGs x.fGs.length).Perm (foundL x))))) from by unfold engB toldL; cases progOkB p <;> cases gorsB p x.fGs <;> cases chansB p x.fChans <;> cases musB p x.fGs.length x.fMus <;> simp)
  obtain ⟨A0, n0, c0, B2, m2, d2, A3, n3, c3, rfl, -⟩ := seeProg hp
  obtain ⟨A4, n4, c4, A5, n5, c5, A6, n6, c6, rfl, ⟨-, -, s4⟩, ⟨-, -, s5⟩, ⟨-, -, s6⟩⟩ := seeEng he
  have HL4 := Lib.hid s4.1
  have HZ := Lib.hid (show n4 + (x.fGs.map szGor).sum ≤ 1048576 by have := s4.1; unfold szEng at hne; omega)
  have HS4 := Lib.hid (fun (W : World) (hW : Below w.heap.size w W) => s4.below hW hhi)
  have HWF := Lib.hid (show ∀ y ∈ foundL x, wfP y from fun y hy => by
    have hn5 : n5 ≤ 1048576 := by have := s5.1; unfold szEng at hne; omega
    have hn6 : n6 ≤ 1048576 := by have := s6.1; unfold szEng at hne; omega
    unfold foundL at hy
    rcases List.mem_append.1 hy with hy | hy
    · exact foundC_wf s5 hn5 y hy
    · exact foundM_wf s6 hn6 y hy)
  have HFL := Lib.hid (show (foundL x).length ≤ 4194304 by
    have h1 := foundC_len (cs := x.fChans) x.fChans.length (Nat.le_refl _)
    have h2 := foundM_len (ms := x.fMus) x.fMus.length (Nat.le_refl _)
    rw [List.take_length] at h1 h2
    unfold foundL
    unfold szEng at hne
    rw [List.length_append]
    omega)
  clear hp he s4 s5 s6 hne hhi hnp HES
  generalize foundL x = fl at *
  generalize engB p x = eb at *
  generalize (chansB p x.fChans && musB p x.fGs.length x.fMus) = b3 at *
  generalize x.fGs = gs at *
  obtain ⟨b1, hpk⟩ : ∃ b, progOkB p = b := ⟨_, rfl⟩
  rw [hpk] at HPK HR
  have HPE := Lib.hid hpk
  clear hpk
  have hB0 : Below w.heap.size w ((w.alloc (.cells #[.slice A0 n0 c0, .int .i64 p.fMus, .slice B2 m2 d2, .slice A3 n3 c3] 38)).alloc (.cells #[.slice A4 n4 c4, .slice A5 n5 c5, .slice A6 n6 c6] 44)) := ((Below.refl _ _).alloc (Nat.le_refl _) _).alloc (by simp) _
  have hP0 := box_keep (box_new w #[.slice A0 n0 c0, .int .i64 p.fMus, .slice B2 m2 d2, .slice A3 n3 c3] 38) ((Below.refl _ _).alloc (Nat.le_refl _) (.cells #[.slice A4 n4 c4, .slice A5 n5 c5, .slice A6 n6 c6] 44)) (by simp)
  have hE0 := box_new (w.alloc (.cells #[.slice A0 n0 c0, .int .i64 p.fMus, .slice B2 m2 d2, .slice A3 n3 c3] 38)) #[.slice A4 n4 c4, .slice A5 n5 c5, .slice A6 n6 c6] 44
  rw [World.size_alloc] at hE0
  have hz0 : ((w.alloc (.cells #[.slice A0 n0 c0, .int .i64 p.fMus, .slice B2 m2 d2, .slice A3 n3 c3] 38)).alloc (.cells #[.slice A4 n4 c4, .slice A5 n5 c5, .slice A6 n6 c6] 44)).heap.size = w.heap.size + 2 := by simp
  go_enter Tryz.func58, Tryz.ntmps58
  go_upto_region 1 with (fail)
  generalize ((w.alloc (.cells #[.slice A0 n0 c0, .int .i64 p.fMus, .slice B2 m2 d2, .slice A3 n3 c3] 38)).alloc (.cells #[.slice A4 n4 c4, .slice A5 n5 c5, .slice A6 n6 c6] 44)) = W0 at *
  have HP0 := Lib.hid hP0
  have HE0 := Lib.hid hE0
  have HB0 := Lib.hid hB0
  clear hP0 hE0 hB0
  have p0 := box_cell (j := 0) (HP0.out) rfl
  have p1 := box_cell (j := 1) (HP0.out) rfl
  have p2 := box_cell (j := 2) (HP0.out) rfl
  have p3 := box_cell (j := 3) (HP0.out) rfl
  go_wp2_with fail
  refine (HPK.out _ HB0.out).mono ?_
  rintro e w1 ⟨rfl, hb1⟩
  clear p0 p1 p2 p3
  have hz1 := hb1.size
  have HX1 := Lib.hid (hb1.mono (show w.heap.size + 2 ≤ W0.heap.size by omega))
  have HB1 := Lib.hid (HB0.out.trans (hb1.mono (by omega)))
  clear hb1
  cases b1
  · replace HR : Hid (eb = false) := Lib.hid (by rw [HR.out]; simp)
    go_wp2_with fail
    go_ret
    exact ⟨by rw [HR.out] <;> rfl, HB1.out⟩
  have x0 := box_cell (j := 0) (box_keep HE0.out HX1.out (by omega)) rfl
  by_cases h1 : n4 < 1
  · replace HR : Hid (eb = false) := Lib.hid (by rw [HR.out, show gorsB p gs = false from by unfold gorsB; rw [decide_eq_false (by rw [HL4.out]; omega), Bool.false_and]]; simp)
    have q1 : decide ((n4 : Int) < 1) = true := decide_eq_true (by omega)
    clear h1
    go_wp2_with fail
    go_ret
    exact ⟨by rw [HR.out] <;> rfl, HB1.out⟩
  by_cases h2 : 10 < n4
  · replace HR : Hid (eb = false) := Lib.hid (by rw [HR.out, show gorsB p gs = false from by unfold gorsB; rw [decide_eq_false (by rw [HL4.out]; omega), Bool.false_and]]; simp)
    have q1 : decide ((n4 : Int) < 1) = false := decide_eq_false (by omega)
    have q2 : decide ((n4 : Int) > 10) = true := decide_eq_true (by omega)
    clear h1 h2
    go_wp2_with fail
    go_ret
    exact ⟨by rw [HR.out] <;> rfl, HB1.out⟩
  have q1 : decide ((n4 : Int) < 1) = false := decide_eq_false (by omega)
  have q2 : decide ((n4 : Int) > 10) = false := decide_eq_false (by omega)
  have HN4 := Lib.hid (show 1 ≤ n4 ∧ n4 ≤ 10 by omega)
  clear h1 h2
  have p0 := box_cell (j := 0) (box_keep HP0.out HX1.out (by omega)) rfl
  have p1 := box_cell (j := 1) (box_keep HP0.out HX1.out (by omega)) rfl
  have p2 := box_cell (j := 2) (box_keep HP0.out HX1.out (by omega)) rfl
  have p3 := box_cell (j := 3) (box_keep HP0.out HX1.out (by omega)) rfl
  have x1 := box_cell (j := 1) (box_keep HE0.out HX1.out (by omega)) rfl
  have x2 := box_cell (j := 2) (box_keep HE0.out HX1.out (by omega)) rfl
  go_wp2_with fail
  refine (HOB.out _ HB1.out).mono ?_
  rintro e w2 ⟨rfl, hb2⟩
  clear p0 p1 p2 p3 x0 x1 x2
  have hz2 := hb2.size
  have HX2 := Lib.hid (HX1.out.trans (hb2.mono (by omega)))
  have HB2 := Lib.hid (HB0.out.trans (HX2.out.mono (by omega)))
  clear hb2
  cases b3
  · replace HR : Hid (eb = false) := Lib.hid (by rw [HR.out]; simp)
    go_wp2_with fail
    go_ret
    exact ⟨by rw [HR.out] <;> rfl, HB2.out⟩
  have x0 := box_cell (j := 0) (box_keep HE0.out (HX2.out.alloc (by omega) (.cells #[] 174)) (by omega)) rfl
  go_wp2_with fail
  clear x0 q1 q2
  have hn10 := HN4.out.2
  go_loopw [5, 33] (fun l i wr => ∃ (k : Nat) (B : Option Addr) (c' : Nat) (ps : List DPlace), k ≤ n4 ∧ i = .int .i64 k ∧ l = .slice B ps.length c' ∧ Hid (ps = toldTo p gs k) ∧ Hid (allTo (fun _ g => gorE p g) gs k) ∧ ps.length ≤ 4 * k ∧ Own wr (w.heap.size + 2) wr.heap.size 174 6 B ps.length c' ((ps.map plC).flatten) ∧ Below (w.heap.size + 2) W0 wr) (fun _ i _ => n4 - (intOf i).toNat)
  case atStart =>
    have h9 := (made_none w2 6 174).wider (show w.heap.size + 2 ≤ w2.heap.size by omega) (Nat.le_refl _)
    exact ⟨0, _, 0, [], Nat.zero_le _, rfl, rfl, Lib.hid rfl, Lib.hid (fun j x hj => by omega), Nat.zero_le _, by simpa using h9, HX2.out.alloc (by omega) _⟩
  case round =>
    obtain ⟨k, B, c', ps, hk, rfl, rfl, HTS, HA, hpl, hown, hbr⟩ := hrel
    have hzr := hbr.size
    have hbw := HB0.out.trans (hbr.mono (by omega))
    by_cases hlt : k < n4
    · obtain ⟨hx, g, o, ws, rfl, hg, hsee, hcell⟩ := (HS4.out wr hbw).at_ hlt
      have HDK := Lib.hid (List.getElem?_eq_getElem hx)
      have hsz : szGor gs[k] ≤ 1048576 := Nat.le_trans (sum_mem_le szGor (List.getElem_mem hx)) (by have := HZ.out; omega)
      generalize gs[k] = d at *
      have HSE := Lib.hid (fun (W : World) (hW : Below wr.heap.size wr W) => layGor.keep hsee (w' := W) fun k hk => hW.block k (by have := HHI.out; have := hbw.size; omega))
      obtain ⟨E2, k2, v2, E4, k4, v4, rfl, -⟩ := seeGor hsee
      have cc0 := hcell 0 _ rfl
      have cc1 := hcell 1 _ rfl
      have cc2 := hcell 2 _ rfl
      have cc3 := hcell 3 _ rfl
      have cc4 := hcell 4 _ rfl
      simp only [show layGor.size = 5 from rfl, ← Nat.add_assoc, Nat.add_zero, Nat.mul_one] at cc0 cc1 cc2 cc3 cc4
      have hbA : Below wr.heap.size wr (wr.alloc (.cells #[.int .i64 d.fProc, .int .i64 d.fPc, .slice E2 k2 v2, .int .i64 d.fState, .slice E4 k4 v4] 65)) := (Below.refl _ _).alloc (Nat.le_refl _) _
      have hGA := box_new wr #[.int .i64 d.fProc, .int .i64 d.fPc, .slice E2 k2 v2, .int .i64 d.fState, .slice E4 k4 v4] 65
      have hOA := hown.alloc (.cells #[.int .i64 d.fProc, .int .i64 d.fPc, .slice E2 k2 v2, .int .i64 d.fState, .slice E4 k4 v4] 65)
      have hzA : (wr.alloc (.cells #[.int .i64 d.fProc, .int .i64 d.fPc, .slice E2 k2 v2, .int .i64 d.fState, .slice E4 k4 v4] 65)).heap.size = wr.heap.size + 1 := by simp
      go_upto_region 7 with (fail)
      generalize (wr.alloc (.cells #[.int .i64 d.fProc, .int .i64 d.fPc, .slice E2 k2 v2, .int .i64 d.fState, .slice E4 k4 v4] 65)) = WA at *
      clear cc0 cc1 cc2 cc3 cc4 hcell hsee hown
      have HGA := Lib.hid hGA
      have HOA := Lib.hid hOA
      have HXA := Lib.hid (hbr.trans (hbA.mono (by omega)))
      have HBW := Lib.hid (hbw.trans (hbA.mono (by have := hbw.size; omega)))
      have HSA := Lib.hid (fun (W : World) (hW : Below WA.heap.size WA W) => HSE.out W (hbA.trans (hW.mono (by omega))))
      have HOK := Lib.hid (l08Ok_any (HPS.out WA HBW.out) (HSA.out WA (Below.refl _ _)) (by have := HHI.out; have := HBW.out.size; omega) HNP.out hsz)
      have HSZ := Lib.hid hsz
      clear hGA hOA hbA hbr hbw HSE hsz
      obtain ⟨b4, hgb⟩ : ∃ b, gorB (instrsZ p d.fProc) d = b := ⟨_, rfl⟩
      rw [hgb] at HOK
      have HGB := Lib.hid hgb
      clear hgb
      have p0 := box_cell (j := 0) (box_keep HP0.out HXA.out (by omega)) rfl
      have p1 := box_cell (j := 1) (box_keep HP0.out HXA.out (by omega)) rfl
      have p2 := box_cell (j := 2) (box_keep HP0.out HXA.out (by omega)) rfl
      have p3 := box_cell (j := 3) (box_keep HP0.out HXA.out (by omega)) rfl
      have g0 := box_cell (j := 0) (HGA.out) rfl
      have g1 := box_cell (j := 1) (HGA.out) rfl
      have g2 := box_cell (j := 2) (HGA.out) rfl
      have g3 := box_cell (j := 3) (HGA.out) rfl
      have g4 := box_cell (j := 4) (HGA.out) rfl
      go_wp2_with fail
      refine HOK.out.mono ?_
      rintro e w5 ⟨rfl, hb5⟩
      clear p0 p1 p2 p3 g0 g1 g2 g3 g4
      have hz5 := hb5.size
      have HX5 := Lib.hid (HXA.out.trans (hb5.mono (by omega)))
      have HB5 := Lib.hid (HB0.out.trans (HX5.out.mono (by omega)))
      have HG5 := Lib.hid (box_keep HGA.out hb5 (by omega))
      have HO5 := Lib.hid (HOA.out.below hb5 (by omega))
      have HS5 := Lib.hid (HSA.out w5 hb5)
      clear hb5
      cases b4
      · have HGE := Lib.hid (show gorE p d = false by unfold gorE; rw [HGB.out]; rfl)
        replace HR : Hid (eb = false) := Lib.hid (by rw [HR.out, gors_no HDK.out HGE.out]; simp)
        go_wp2_with fail
        go_ret
        exact ⟨by rw [HR.out] <;> rfl, HB5.out⟩
      have HGM := Lib.hid (gorE_may HPE.out HGB.out)
      have g3 := box_cell (j := 3) HG5.out rfl
      by_cases hst : d.fState = 2
      rotate_left
      · have q1 : (d.fState != 2) = true := by simp [hst]
        have HGE := Lib.hid (show gorE p d = true by rw [HGM.out, decide_eq_false hst]; rfl)
        have HTD := Lib.hid (show toldOf p d k = [] from if_neg hst)
        clear hst
        go_wp2_with fail
        go_roundw
        case rel => exact ⟨k + 1, B, c', ps, by omega, by go_num, rfl, Lib.hid (by rw [HTS.out, toldTo_step HDK.out, HTD.out, List.append_nil]), Lib.hid (allTo_step HA.out HDK.out HGE.out), by omega, HO5.out.wider (Nat.le_refl _) (by omega), HX5.out⟩
        case measure => simp [intOf]; omega
      have q1 : (d.fState != 2) = false := by simp [hst]
      have HST := Lib.hid hst
      have HMY := Lib.hid (specMay_any (HPS.out w5 HB5.out) HS5.out (by have := HHI.out; have := HB5.out.size; omega) HNP.out HPE.out (gorB_parts HGB.out).1)
      clear hst g3
      obtain ⟨b5, hmy⟩ : ∃ b, mayB p d = b := ⟨_, rfl⟩
      rw [hmy] at HMY
      have HMB := Lib.hid hmy
      clear hmy
      have p0 := box_cell (j := 0) (box_keep HP0.out HX5.out (by omega)) rfl
      have p1 := box_cell (j := 1) (box_keep HP0.out HX5.out (by omega)) rfl
      have p2 := box_cell (j := 2) (box_keep HP0.out HX5.out (by omega)) rfl
      have p3 := box_cell (j := 3) (box_keep HP0.out HX5.out (by omega)) rfl
      have g0 := box_cell (j := 0) (HG5.out) rfl
      have g1 := box_cell (j := 1) (HG5.out) rfl
      have g2 := box_cell (j := 2) (HG5.out) rfl
      have g3 := box_cell (j := 3) (HG5.out) rfl
      have g4 := box_cell (j := 4) (HG5.out) rfl
      go_wp2_with fail
      refine HMY.out.mono ?_
      rintro e w6 ⟨rfl, hb6⟩
      clear p0 p1 p2 p3 g0 g1 g2 g3 g4
      have hz6 := hb6.size
      have HX6 := Lib.hid (HX5.out.trans (hb6.mono (by omega)))
      have HB6 := Lib.hid (HB0.out.trans (HX6.out.mono (by omega)))
      have HG6 := Lib.hid (box_keep HG5.out hb6 (by omega))
      have HO6 := Lib.hid (HO5.out.below hb6 (by omega))
      have HSS := Lib.hid (layGor.keep HS5.out (w' := w6) fun q hq => hb6.block q (by have := HHI.out; have := HB5.out.size; omega))
      clear hb6
      cases b5
      · have HGE := Lib.hid (show gorE p d = false by rw [HGM.out, HMB.out, decide_eq_true HST.out]; rfl)
        replace HR : Hid (eb = false) := Lib.hid (by rw [HR.out, gors_no HDK.out HGE.out]; simp)
        go_wp2_with fail
        go_ret
        exact ⟨by rw [HR.out] <;> rfl, HB6.out⟩
      have HGE := Lib.hid (show gorE p d = true by rw [HGM.out, HMB.out, Bool.or_true])
      have HTD := Lib.hid (show toldOf p d k = placesL p d k from if_pos HST.out)
      have HLN := Lib.hid (toldOf_len (n := k) HPE.out HGB.out)
      have HPL := Lib.hid (specPlacesL_any (n := (k : Int)) (HPS.out w6 HB6.out) HSS.out (by have := HHI.out; have := HB6.out.size; omega) HNP.out HSZ.out HPE.out HGB.out)
      rw [HTD.out] at HLN
      generalize placesL p d k = nl at *
      have hnl := HLN.out
      have p0 := box_cell (j := 0) (box_keep HP0.out HX6.out (by omega)) rfl
      have p1 := box_cell (j := 1) (box_keep HP0.out HX6.out (by omega)) rfl
      have p2 := box_cell (j := 2) (box_keep HP0.out HX6.out (by omega)) rfl
      have p3 := box_cell (j := 3) (box_keep HP0.out HX6.out (by omega)) rfl
      have g0 := box_cell (j := 0) (HG6.out) rfl
      have g1 := box_cell (j := 1) (HG6.out) rfl
      have g2 := box_cell (j := 2) (HG6.out) rfl
      have g3 := box_cell (j := 3) (HG6.out) rfl
      have g4 := box_cell (j := 4) (HG6.out) rfl
      go_wp2_with fail
      refine HPL.out.mono ?_
      rintro e w7 ⟨B7, c7, rfl, own7, hb7⟩
      clear p0 p1 p2 p3 g0 g1 g2 g3 g4
      have hz7 := hb7.size
      have HX7 := Lib.hid (HX6.out.trans (hb7.mono (by omega)))
      have hO7 := HO6.out.below hb7 (by omega)
      clear hb7
      go_wp2_with (at_builtin; refine wpList_append_seen rfl (.tmp 49) (.tmp 53) _ rfl (w.heap.size + 2) _ 174 i0 _ 6 48 Tryz.underlying147 hi0 iz0 iz1 iz2 rfl (by omega) B ps.length c' _ rfl hO7 _ B7 nl.length c7 _ rfl own7.seen (plC_one nl) (by simp only [maxLen]; omega) (by omega) (by omega) ?_; intro B8 c8 w8 own8 hb8)
      go_roundw
      case rel => exact ⟨k + 1, B8, c8, ps ++ nl, by omega, by go_num, by simp, Lib.hid (by rw [HTS.out, toldTo_step HDK.out, HTD.out]), Lib.hid (allTo_step HA.out HDK.out HGE.out), by rw [List.length_append]; omega, by rw [List.map_append, List.flatten_append, List.length_append]; exact own8, HX7.out.trans hb8⟩
      case measure => simp [intOf]; omega
    · obtain rfl : k = n4 := by omega
      have HGS := Lib.hid (gors_yes (p := p) (gs := gs) (by rw [HL4.out]; exact HN4.out) (by rw [HL4.out]; exact HA.out))
      have HTE := Lib.hid (show toldTo p gs gs.length = ps by rw [HTS.out, HL4.out])
      replace HR : Hid (eb = decide (ps.Perm fl)) := Lib.hid (by rw [HR.out, HGS.out, HTE.out]; simp)
      have HWT := Lib.hid (show ∀ y ∈ ps, wfP y by rw [← HTE.out]; exact toldTo_wf HPE.out (by rw [HL4.out]; have := HN4.out; omega) (gors_each' HGS.out))
      have HOW := Lib.hid hown
      have HXR := Lib.hid hbr
      have HBR := Lib.hid hbw
      have hp4 : ps.length ≤ 4194304 := by have := HN4.out; omega
      have x0 := box_cell (j := 0) (box_keep HE0.out hbr (by omega)) rfl
      have x1 := box_cell (j := 1) (box_keep HE0.out hbr (by omega)) rfl
      have x2 := box_cell (j := 2) (box_keep HE0.out hbr (by omega)) rfl
      clear hown hbr hbw
      go_wp2_with fail
      refine (HAL.out _ HBR.out).mono ?_
      rintro e w8 ⟨B8, c8, rfl, own8, hb8⟩
      clear x0 x1 x2
      have hz8 := hb8.size
      have HX8 := Lib.hid (HXR.out.trans (hb8.mono (by omega)))
      have HSM := Lib.hid (specSame_any (hi := w8.heap.size) (c := c') (cB := c8) ((rowP ((HOW.out.below hb8 (Nat.le_refl _)).wider (Nat.le_refl _) hz8) HWT.out).seen fun g hg => hg.2) ((rowP own8 HWF.out).seen fun g hg => hg.2) (Nat.le_refl _) hp4 HFL.out)
      clear hb8 own8
      go_wp2_with fail
      refine HSM.out.mono ?_
      rintro e w9 ⟨rfl, hb9⟩
      have HB9 := Lib.hid (HB0.out.trans ((HX8.out.trans (hb9.mono (by omega))).mono (by omega)))
      clear hb9
      go_wp2_with fail
      go_ret
      exact ⟨by rw [HR.out] <;> rfl, HB9.out⟩
end Go.Proofs.YtghkdkagnibkgaaGreatDoor
