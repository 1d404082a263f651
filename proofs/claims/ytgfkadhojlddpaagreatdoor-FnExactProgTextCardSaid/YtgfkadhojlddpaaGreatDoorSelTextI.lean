
/- The contract of the program's SelectText. -/

import Derived.Test.YtgfkadhojlddpaaGreatDoorCaseTextI

namespace Go.Proofs.YtgfkadhojlddpaaGreatDoor
set_option linter.unusedSimpArgs false
set_option linter.unusedVariables false
open Go.RowKit

theorem caseTexts_len (cs : List DCase) : ∀ f ∈ cs.map caseText, f.length ≤ 48 := by
  intro f hf
  obtain ⟨x, _, rfl⟩ := List.mem_map.1 hf
  exact caseText_len x

set_option maxRecDepth 100000 in
set_option maxHeartbeats 4000000 in
theorem implSelectText_any {w : World} {hi : Nat} {s : DSelect} {vs : List Value} (h : laySelect.see w hi s vs) (hhi : hi ≤ w.heap.size) (hs : szSelect s ≤ 1048576) (hT : Tabs w) :
    Calls Tryz.prog 37 #[.agg vs.toArray] w fun e w' => e = .returned (Tx (selText s)) ∧ Below w.heap.size w w' := by
  obtain ⟨i0, hi0, hz0, hz1, hz2⟩ := info_parts str_info'
  obtain ⟨A0, n0, c0, rfl, ⟨hc0, hm0, s0⟩, hw1⟩ := seeSelect h
  have L0 := Lib.hid s0.1
  unfold szSelect at hs
  rw [L0.out] at hs
  have HS := Lib.hid (selText_words s)
  obtain ⟨cs, el⟩ := s
  simp only at HS s0 L0 hw1 ⊢
  have hle := dashNum_len el
  have HT := Lib.hid hT
  have HLEN := Lib.hid (caseTexts_len cs)
  have HB := box_new w #[.slice A0 n0 c0, .int .i64 el] 79
  have hW0 : Below w.heap.size w (w.alloc (.cells #[.slice A0 n0 c0, .int .i64 el] 79)) := (Below.refl _ _).alloc (Nat.le_refl _) _
  have HE := Lib.hid (elseText_any el _ (hT.below hW0 (Nat.le_refl _)).1)
  have HW0 := Lib.hid hW0
  have HBX := Lib.hid HB
  clear hT hW0 HB h
  generalize (numW true dashW el).1 = ew at *
  show Calls Tryz.prog 37 #[.agg #[.slice A0 n0 c0, .int .i64 el]] w _
  go_enter Tryz.func37, Tryz.ntmps37
  go_wp2_with fail
  refine HE.out.mono ?_
  rintro e w1 ⟨rfl, hb1⟩
  have HB1 := box_keep HBX.out hb1 (lt_of_block HBX.out)
  have hW1 : Below w.heap.size w w1 := HW0.out.trans (hb1.mono HW0.out.size)
  have cx := box_cell (j := 0) HB1 rfl
  have hl1 := lt_of_block HB1
  have hWa : Below w.heap.size w (w1.alloc (.cells #[Tx selW, Tx ew] 9)) := hW1.alloc hW1.size _
  have hownS : Own (w1.alloc (.cells #[Tx selW, Tx ew] 9)) w.heap.size (w1.alloc (.cells #[Tx selW, Tx ew] 9)).heap.size 9 1 (some ⟨w1.heap.size, 0, none⟩) 2 2 ([Tx selW, Tx ew]) := by
    have := (Own.made (size := 1) (e := 9) w1 #[Tx selW, Tx ew] 2 2 (by decide) rfl (Nat.le_refl _)).wider (lo' := w.heap.size) (hi' := (w1.alloc (.cells #[Tx selW, Tx ew] 9)).heap.size) hW1.size (by simp)
    simpa using this
  clear hb1 HB1
  go_wp2_with fail
  clear cx
  go_loopw [3, 13] (fun v i wr => ∃ A c j, v = .slice A (j + 2) c ∧ i = .int .i64 ((j : Nat) : Int) ∧ j ≤ n0 ∧ Own wr w.heap.size wr.heap.size 9 1 A (j + 2) c ((selW :: ew :: (cs.take j).map caseText).map Tx) ∧ Below w.heap.size w wr) (fun _ i _ => n0 - (intOf i).toNat)
  case atStart => exact ⟨_, 2, 0, rfl, rfl, Nat.zero_le _, hownS, hWa⟩
  case round =>
    obtain ⟨A, c, j, rfl, rfl, hj, hown, hb⟩ := hrel
    have z := hb.size
    by_cases hlt : j < n0
    · obtain ⟨hx, g, o, vs, rfl, hg, ⟨rfl, hw⟩, hcell⟩ := (s0.below hb hhi).at_ hlt
      have cc0 := hcell 0 _ rfl
      have cc1 := hcell 1 _ rfl
      have cc2 := hcell 2 _ rfl
      have cc3 := hcell 3 _ rfl
      have cc4 := hcell 4 _ rfl
      simp only [show (layCase).size = 5 from rfl, ← Nat.add_assoc, Nat.add_zero, Nat.mul_one] at cc0 cc1 cc2 cc3 cc4
      have hnext := Lib.hid (show (selW :: ew :: (cs.take (j + 1)).map caseText).map Tx = (selW :: ew :: (cs.take j).map caseText).map Tx ++ [Tx (caseText cs[j])] by
        rw [List.take_succ_eq_append_getElem hx]
        simp only [List.map_cons, List.map_append, List.map_nil, List.cons_append])
      clear hcell
      generalize cs[j] = x at *
      obtain ⟨xs, xc, xr, xo, xt⟩ := x
      simp only at cc0 cc1 cc2 cc3 cc4 hw
      have hWc : Below w.heap.size w (wr.alloc (.cells #[.bool xs, .int .i64 xc, .int .i64 xr, .int .i64 xo, .int .i64 xt] 141)) := hb.alloc z _
      have HC := Lib.hid (implCaseText_any xs xc xr xo xt _ (HT.out.below hWc (Nat.le_refl _)) hw)
      have hownc := hown.alloc (.cells #[.bool xs, .int .i64 xc, .int .i64 xr, .int .i64 xo, .int .i64 xt] 141)
      generalize caseText ⟨xs, xc, xr, xo, xt⟩ = y at *
      go_wp2_with fail
      refine HC.out.mono ?_
      rintro e w5 ⟨rfl, hb5⟩
      have hown1 := (hownc.below hb5 (by simp)).alloc (.cells #[Tx y] 9)
      have hW5 : Below w.heap.size w (w5.alloc (.cells #[Tx y] 9)) := (hWc.trans (hb5.mono hWc.size)).alloc (Nat.le_trans hWc.size hb5.size) _
      have z5 : w.heap.size ≤ (w5.alloc (.cells #[Tx y] 9)).heap.size := hW5.size
      clear hb5
      go_wp2_with (at_builtin; refine wpList_append_seen rfl (.tmp 17) (.tmp 20) _ rfl w.heap.size _ 9 i0 _ 1 16 Tryz.underlying74 hi0 hz0 hz1 hz2 rfl (by omega) A (j + 2) c _ rfl hown1 _ _ 1 1 _ rfl (Seen.one w5 (Tx y) 9) (by simp [Value.oneCell']) (by simp only [maxLen]; omega) (by omega) z5 ?_; intro A5 c5 w6 own5 hb6)
      go_roundw
      case rel => exact ⟨A5, c5, j + 1, rfl, by go_num, by omega, by rw [hnext.out]; exact own5, hW5.trans hb6⟩
      case measure => simp [intOf]; omega
    · obtain rfl : j = n0 := by omega
      have htake : cs.take j = cs := List.take_of_length_le (by rw [L0.out]; exact Nat.le_refl _)
      rw [htake] at hown
      have HO := Lib.hid (hown.seen)
      have hcap := hown.cap
      clear htake
      have hjl : (Lib.join (selW :: ew :: cs.map caseText) [32]).length ≤ 140737488355328 := by
        have := joinTail_len (mark := 32) (cs.map caseText) HLEN.out
        rw [List.length_map, L0.out] at this
        rw [Lib.join_cons, joinTail_cons, List.length_append, List.length_append, List.length_cons, show selW.length = 6 from rfl]
        omega
      have HJ := Lib.hid hjl
      clear hjl
      have hfin := Lib.hid (show selText ⟨cs, el⟩ = lineT (selW :: ew :: cs.map caseText) [32] by rw [HS.out]; rfl)
      go_wp2_with fail
      refine (lineOf_any HO.out (Nat.le_refl _) hcap (by omega) HJ.out).mono ?_
      rintro e w7 ⟨rfl, hb7⟩
      go_wp2_with fail
      go_ret
      exact ⟨by rw [hfin.out]; rfl, hb.trans (hb7.mono z)⟩
end Go.Proofs.YtgfkadhojlddpaaGreatDoor
