
/- The contract of the program's TextSelect. -/

import Derived.Test.YtllkbikhclfgpaaDoorReadSelI

import Derived.Test.YtllkbikhclfgpaaDoorTextSelS

import Derived.Test.YtllkbikhclfgpaaDoorMSelect

namespace Go.Proofs.YtllkbikhclfgpaaDoor
set_option linter.unusedSimpArgs false
set_option linter.unusedVariables false
open Go.RowKit

set_option maxRecDepth 100000 in
set_option maxHeartbeats 2000000 in
theorem implTextSelect_any (s : ByteArray) (w : World) (hs : s.size ≤ 1048576) (hT : TabsR w) :
    Calls Tryd.prog 19 #[.string s] w (SelPost w (textSelect s.data.toList)) := by
  have hW0 : Below w.heap.size w (w.alloc (.cells #[.slice none 0 0, .int .i64 0] 39)) := (Below.refl _ _).alloc (Nat.le_refl _) _
  have HB0 := Lib.hid (box_new w #[.slice none 0 0, .int .i64 0] 39)
  have HR := Lib.hid (textSelect_read s.data.toList)
  have HC := Lib.hid (readSelect_any s _ hs (hT.below hW0 (Nat.le_refl _)))
  have HW0 := Lib.hid hW0
  have HZ := Lib.hid (show (w.alloc (.cells #[.slice none 0 0, .int .i64 0] 39)).heap.size = w.heap.size + 1 by simp)
  generalize textSelect s.data.toList = tt at *
  generalize readSel s.data.toList = R at *
  clear hT hW0
  go_enter Tryd.func19, Tryd.ntmps19
  go_wp2_with fail
  refine HC.out.mono ?_
  rintro e w1 ⟨hb1, hcase⟩
  have HB1 := Lib.hid (box_keep HB0.out hb1 (lt_of_block HB0.out))
  have hW1 : Below w.heap.size w w1 := HW0.out.trans (hb1.mono HW0.out.size)
  have hl1 := lt_of_block HB1.out
  have x0 := box_cell (j := 0) HB1.out rfl
  have x1 := box_cell (j := 1) HB1.out rfl
  have y0 := box_free HB1.out 0
  have y1 := box_free HB1.out 1
  clear hb1
  rcases hcase with ⟨hr, rfl⟩ | ⟨x, vs, hr, rfl, own⟩
  · have hfin := Lib.hid (show tt = (⟨[], 0⟩, false) by rw [HR.out, hr])
    clear hr HR
    go_wp2_with fail
    go_region
    have X := box_set (j := 1) (u := .int .i64 0) (box_set (j := 0) (u := .slice none 0 0) HB1.out)
    have HBb : Below w.heap.size w ((w1.setCell ⟨w.heap.size, 0, none⟩ (.slice none 0 0)).setCell ⟨w.heap.size, 1, none⟩ (.int .i64 0)) := below_set (below_set hW1 (Nat.le_refl _) _) (Nat.le_refl _) _
    generalize (w1.setCell ⟨w.heap.size, 0, none⟩ (.slice none 0 0)).setCell ⟨w.heap.size, 1, none⟩ (.int .i64 0) = WX at X HBb ⊢
    have Y : (WX.alloc (.cells #[.slice none 0 0, .int .i64 0] 39)).drew.heap[w.heap.size]? = some (.cells #[.slice none 0 0, .int .i64 0] 39 (0, 0)) := box_keep (w' := WX.alloc (.cells #[.slice none 0 0, .int .i64 0] 39)) X ((Below.refl _ _).alloc (Nat.le_refl _) _) (lt_of_block X)
    have HBc : Below w.heap.size w (WX.alloc (.cells #[.slice none 0 0, .int .i64 0] 39)).drew := below_drawn (HBb.alloc HBb.size _) 1
    generalize (WX.alloc (.cells #[.slice none 0 0, .int .i64 0] 39)).drew = WY at Y HBc ⊢
    clear x0 x1 y0 y1
    have d0 := box_cell (j := 0) Y rfl
    have d1 := box_cell (j := 1) Y rfl
    go_wp2_with fail
    refine bodyPost_ret (v := .tuple #[.agg #[.slice none 0 0, .int .i64 0], .bool false]) (by simp [results, Tryd.results19, go_sem, d0, d1]) rfl ?_
    exact ⟨[.slice none 0 0, .int .i64 0], by rw [hfin.out], by rw [hfin.out]; exact ownSelect (F0 := fun _ => False) (ownR_none _ _) (by decide) fun g h => h.elim, HBc⟩
  · have hfin := Lib.hid (show tt = (x, true) by rw [HR.out, hr])
    obtain ⟨A0, n0, c0, F0, rfl, ⟨o0, k0⟩, hw0⟩ := unownSelect own
    obtain ⟨cs, el⟩ := x
    simp only at hw0 o0
    have HO := Lib.hid o0
    have HK := Lib.hid k0
    have HEL := Lib.hid hw0
    clear hr HR own o0 k0 hw0
    go_wp2_with fail
    go_region
    have X := box_set (j := 1) (u := .int .i64 el) (box_set (j := 0) (u := .slice A0 n0 c0) HB1.out)
    have HBb : Below w.heap.size w ((w1.setCell ⟨w.heap.size, 0, none⟩ (.slice A0 n0 c0)).setCell ⟨w.heap.size, 1, none⟩ (.int .i64 el)) := below_set (below_set hW1 (Nat.le_refl _) _) (Nat.le_refl _) _
    have HO3 := HO.out.stay (w' := (w1.setCell ⟨w.heap.size, 0, none⟩ (.slice A0 n0 c0)).setCell ⟨w.heap.size, 1, none⟩ (.int .i64 el)) (fun g hg _ => (Below.heap_setCell _ _ _ g (by have := HK.out g hg; rw [HZ.out] at this; simp only; omega)).trans (Below.heap_setCell w1 _ _ g (by have := HK.out g hg; rw [HZ.out] at this; simp only; omega))) (by simp [World.setCell])
    have hzs : w1.heap.size ≤ ((w1.setCell ⟨w.heap.size, 0, none⟩ (.slice A0 n0 c0)).setCell ⟨w.heap.size, 1, none⟩ (.int .i64 el)).heap.size := by simp [World.setCell]
    generalize (w1.setCell ⟨w.heap.size, 0, none⟩ (.slice A0 n0 c0)).setCell ⟨w.heap.size, 1, none⟩ (.int .i64 el) = WX at X HBb HO3 hzs ⊢
    have Y : (WX.alloc (.cells #[.slice A0 n0 c0, .int .i64 el] 39)).drew.heap[w.heap.size]? = some (.cells #[.slice A0 n0 c0, .int .i64 el] 39 (0, 0)) := box_keep (w' := WX.alloc (.cells #[.slice A0 n0 c0, .int .i64 el] 39)) X ((Below.refl _ _).alloc (Nat.le_refl _) _) (lt_of_block X)
    have HBc : Below w.heap.size w (WX.alloc (.cells #[.slice A0 n0 c0, .int .i64 el] 39)).drew := below_drawn (HBb.alloc HBb.size _) 1
    have HO4 : OwnR layCase 64 (WX.alloc (.cells #[.slice A0 n0 c0, .int .i64 el] 39)).drew F0 A0 n0 c0 cs := HO3.stay (fun g hg hlt => Below.heap_alloc WX _ g hlt) (by simp)
    have hzs2 : w1.heap.size ≤ (WX.alloc (.cells #[.slice A0 n0 c0, .int .i64 el] 39)).drew.heap.size := Nat.le_trans hzs (by simp)
    generalize (WX.alloc (.cells #[.slice A0 n0 c0, .int .i64 el] 39)).drew = WY at Y HBc HO4 hzs2 ⊢
    clear x0 x1 y0 y1
    have d0 := box_cell (j := 0) Y rfl
    have d1 := box_cell (j := 1) Y rfl
    go_wp2_with fail
    refine bodyPost_ret (v := .tuple #[.agg #[.slice A0 n0 c0, .int .i64 el], .bool true]) (by simp [results, Tryd.results19, go_sem, d0, d1]) rfl ?_
    refine ⟨[.slice A0 n0 c0, .int .i64 el], by rw [hfin.out], ?_, HBc⟩
    rw [hfin.out]
    exact ownSelect (x := ⟨cs, el⟩) HO4 HEL.out fun g hg => by have := HK.out g hg; rw [HZ.out] at this; omega

theorem textSelect_sz (s : List UInt8) : szSelect (textSelect s).1 ≤ s.length := by
  have h := cutR_length 32 s []
  unfold textSelect
  split
  · simp [szSelect]
  · simp only [szSelect, candSel, List.length_map, List.length_drop]
    omega
end Go.Proofs.YtllkbikhclfgpaaDoor
