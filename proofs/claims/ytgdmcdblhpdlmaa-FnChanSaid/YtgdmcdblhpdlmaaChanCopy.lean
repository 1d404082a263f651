
/- Copies of a channel: append(nil, row...) of flat rows (the program's copied), the program's copyChan, the model's l06Copy. -/

import Derived.Test.YtgdmcdblhpdlmaaChanM

import Derived.Deep.Cut

namespace Go.Proofs.Ytgdmcdblhpdlmaa
set_option linter.unusedSimpArgs false
set_option linter.unusedVariables false
open Go.RowKit

theorem seenR_flat {α : Type} {w : World} {hi size n : Nat} {A : Option Addr} {cells : α → List Value} {wf : α → Prop} {hl : ∀ x, (cells x).length = size} {xs : List α} (h : SeenR (Lay.flat size cells wf hl) w hi A n xs) :
    Seen w hi size A n ((xs.map cells).flatten) ∧ ∀ x ∈ xs, wf x := by
  obtain ⟨hlen, rfl | ⟨g, o, rfl, hg, f, hf⟩⟩ := h
  · simp at hlen
    subst hlen
    exact ⟨⟨by simp, .inl rfl⟩, fun x hx => by simp at hx⟩
  · refine ⟨⟨by rw [flat_len_ hl, hlen], ?_⟩, fun x hx => ?_⟩
    · refine .inr ⟨g, o, rfl, hg, fun j u hu => ?_⟩
      have hj : j < n * size := by
        have := (List.getElem?_eq_some_iff.1 hu).1
        rwa [flat_len_ hl, hlen] at this
      have hs : 0 < size := by
        rcases Nat.eq_zero_or_pos size with h0 | h0
        · rw [h0] at hj; omega
        · exact h0
      have hq : j / size < n := Nat.div_lt_of_lt_mul (by rw [Nat.mul_comm]; exact hj)
      have hx : xs[j / size]? = some (xs[j / size]'(by omega)) := List.getElem?_eq_getElem _
      have h1 := hf _ _ hx
      have h2 := flat_cut hl hx
      have e1 := h1.1.1
      have h3 : (cells (xs[j / size]'(by omega)))[j % size]? = some u := by
        rw [← h2, List.getElem?_take, if_pos (Nat.mod_lt _ hs), List.getElem?_drop, show j / size * size + j % size = j by rw [Nat.mul_comm]; exact Nat.div_add_mod j size]
        exact hu
      have h4 := h1.2 (j % size) u (by rw [e1]; exact h3)
      have h5 : j / size * (Lay.flat size cells wf hl).size + j % size = j := by
        show j / size * size + j % size = j
        rw [Nat.mul_comm]; exact Nat.div_add_mod j size
      rw [h5] at h4
      exact h4
    · obtain ⟨i, hi⟩ := List.mem_iff_getElem?.1 hx
      exact (hf i x hi).1.2

theorem infoIntC : (Try.prog.info? 3).map (fun i => (i.zero, i.size, i.bytes)) = some (some (.int .i64 0), 1, 8) := by kernel_rfl
theorem cells_one (xs : List DWaiter) : ∀ u ∈ (xs.map fun x => [Value.int .i64 x.fG, .int .i64 x.fCase, .int .i64 x.fVal]).flatten, u.oneCell' = true := by
  intro u hu
  simp only [List.mem_flatten, List.mem_map] at hu
  obtain ⟨l, ⟨x, _, rfl⟩, hu⟩ := hu
  simp at hu
  rcases hu with rfl | rfl | rfl <;> rfl
theorem cells_oneI (xs : List Int) : ∀ u ∈ (xs.map fun x => [Value.int .i64 x]).flatten, u.oneCell' = true := by
  intro u hu
  simp only [List.mem_flatten, List.mem_map] at hu
  obtain ⟨l, ⟨x, _, rfl⟩, hu⟩ := hu
  simp at hu
  subst hu
  rfl

set_option maxRecDepth 100000 in
set_option maxHeartbeats 1000000 in
theorem copiedW_any {w : World} {hi n c : Nat} {A : Option Addr} {xs : List DWaiter} (h : SeenR layWaiter w hi A n xs) (hn : n ≤ 1048576) :
    Calls Try.prog 72 #[.slice A n c] w (MadeR layWaiter 29 w n xs) := by
  obtain ⟨i0, hi0, hz0, hz1, hz2⟩ := info_parts infoWaiter
  obtain ⟨hs, hw⟩ := seenR_flat h
  have hl := h.1
  have HW := Lib.hid hw
  have HL := Lib.hid hl
  clear h hw hl
  go_enter Try.func72, Try.ntmps72
  go_wp2_with (at_builtin; refine wpList_append_seen rfl (.const (.slice none 0 0)) (.tmp 3) _ rfl w.heap.size w.heap.size 29 i0 _ 3 24 Try.underlying59 hi0 hz0 hz1 hz2 rfl (by omega) none 0 0 [] rfl (Own.nil_ _ _ _ _ _) hi A n c _ rfl hs (cells_one _) (by simp only [maxLen]; omega) (by omega) (Nat.le_refl _) ?_; intro A' c' w' hown hb)
  go_ret
  rw [Nat.zero_add] at hown
  simp only [List.nil_append] at hown
  exact ⟨A', c', rfl, ownR_flat hown HL.out HW.out, hb⟩

set_option maxRecDepth 100000 in
set_option maxHeartbeats 1000000 in
theorem copiedV_any {w : World} {hi n c : Nat} {A : Option Addr} {xs : List Int} (h : SeenR Lay.int w hi A n xs) (hn : n ≤ 1048576) :
    Calls Try.prog 71 #[.slice A n c] w (MadeR Lay.int 3 w n xs) := by
  obtain ⟨i0, hi0, hz0, hz1, hz2⟩ := info_parts infoIntC
  obtain ⟨hs, hw⟩ := seenR_flat h
  have hl := h.1
  have HW := Lib.hid hw
  have HL := Lib.hid hl
  clear h hw hl
  go_enter Try.func71, Try.ntmps71
  go_wp2_with (at_builtin; refine wpList_append_seen rfl (.const (.slice none 0 0)) (.tmp 3) _ rfl w.heap.size w.heap.size 3 i0 _ 1 8 Try.underlying62 hi0 hz0 hz1 hz2 rfl (by omega) none 0 0 [] rfl (Own.nil_ _ _ _ _ _) hi A n c _ rfl hs (cells_oneI _) (by simp only [maxLen]; omega) (by omega) (Nat.le_refl _) ?_; intro A' c' w' hown hb)
  go_ret
  rw [Nat.zero_add] at hown
  simp only [List.nil_append] at hown
  exact ⟨A', c', rfl, ownR_flat hown HL.out HW.out, hb⟩

/-- A copy of a channel: the same, its slices in blocks of their own. -/
def CopiedC (x : DChan) (w : World) (e : Ending) (w' : World) : Prop :=
  Below w.heap.size w w' ∧ ∃ A1 c1 A2 c2 A3 c3 F1 F2 F3, e = .returned (.agg #[.int .i64 x.fCap, .slice A1 x.fBuf.length c1, .slice A2 x.fSends.length c2, .slice A3 x.fRecvs.length c3, .bool x.fClosed]) ∧
    OwnR Lay.int 3 w' F1 A1 x.fBuf.length c1 x.fBuf ∧ OwnR layWaiter 29 w' F2 A2 x.fSends.length c2 x.fSends ∧ OwnR layWaiter 29 w' F3 A3 x.fRecvs.length c3 x.fRecvs ∧
    (∀ g, F1 g ∨ F2 g ∨ F3 g → w.heap.size ≤ g ∧ g < w'.heap.size) ∧ (∀ g, F1 g → ¬ F2 g) ∧ (∀ g, F1 g → ¬ F3 g) ∧ ∀ g, F2 g → ¬ F3 g

set_option maxRecDepth 100000 in
set_option maxHeartbeats 4000000 in
theorem copyChan_any {w : World} {hi : Nat} {x : DChan} {vs : List Value} (h : layChan.see w hi x vs) (hhi : hi ≤ w.heap.size) (hn : szChan x ≤ 1048576) :
    Calls Try.prog 44 #[.agg vs.toArray] w (CopiedC x w) := by
  obtain ⟨A1, n1, c1, A2, n2, c2, A3, n3, c3, rfl, hw0, ⟨hc1, hm1, s1⟩, ⟨hc2, hm2, s2⟩, ⟨hc3, hm3, s3⟩⟩ := seeChan h
  have L1 := Lib.hid s1.1
  have L2 := Lib.hid s2.1
  have L3 := Lib.hid s3.1
  have hn0 := hn
  unfold szChan at hn0
  rw [L1.out] at hn0
  rw [L2.out] at hn0
  rw [L3.out] at hn0
  have HX0 := Lib.hid (show ((w.alloc (.cells #[.int .i64 x.fCap, .slice A1 n1 c1, .slice A2 n2 c2, .slice A3 n3 c3, .bool x.fClosed] 26)).alloc (.cells #[.int .i64 0, .slice none 0 0, .slice none 0 0, .slice none 0 0, .bool false] 26)).heap[w.heap.size]? = some (.cells #[.int .i64 x.fCap, .slice A1 n1 c1, .slice A2 n2 c2, .slice A3 n3 c3, .bool x.fClosed] 26 (0, 0)) from (Below.heap_alloc (w.alloc (.cells #[.int .i64 x.fCap, .slice A1 n1 c1, .slice A2 n2 c2, .slice A3 n3 c3, .bool x.fClosed] 26)) _ _ (by simp)).trans (box_new w #[.int .i64 x.fCap, .slice A1 n1 c1, .slice A2 n2 c2, .slice A3 n3 c3, .bool x.fClosed] 26))
  have HR0 := Lib.hid (show ((w.alloc (.cells #[.int .i64 x.fCap, .slice A1 n1 c1, .slice A2 n2 c2, .slice A3 n3 c3, .bool x.fClosed] 26)).alloc (.cells #[.int .i64 0, .slice none 0 0, .slice none 0 0, .slice none 0 0, .bool false] 26)).heap[w.heap.size + 1]? = some (.cells #[.int .i64 0, .slice none 0 0, .slice none 0 0, .slice none 0 0, .bool false] 26 (0, 0)) from by have := box_new (w.alloc (.cells #[.int .i64 x.fCap, .slice A1 n1 c1, .slice A2 n2 c2, .slice A3 n3 c3, .bool x.fClosed] 26)) #[.int .i64 0, .slice none 0 0, .slice none 0 0, .slice none 0 0, .bool false] 26; simpa using this)
  have HB0 := Lib.hid (show Below w.heap.size w ((w.alloc (.cells #[.int .i64 x.fCap, .slice A1 n1 c1, .slice A2 n2 c2, .slice A3 n3 c3, .bool x.fClosed] 26)).alloc (.cells #[.int .i64 0, .slice none 0 0, .slice none 0 0, .slice none 0 0, .bool false] 26)) by go_grown)
  have HS1 := Lib.hid (fun (W : World) (hW : Below w.heap.size w W) => s1.below hW hhi)
  have HS2 := Lib.hid (fun (W : World) (hW : Below w.heap.size w W) => s2.below hW hhi)
  have HS3 := Lib.hid (fun (W : World) (hW : Below w.heap.size w W) => s3.below hW hhi)
  have zz0 : w.heap.size + 2 ≤ ((w.alloc (.cells #[.int .i64 x.fCap, .slice A1 n1 c1, .slice A2 n2 c2, .slice A3 n3 c3, .bool x.fClosed] 26)).alloc (.cells #[.int .i64 0, .slice none 0 0, .slice none 0 0, .slice none 0 0, .bool false] 26)).heap.size := by simp
  clear s1 s2 s3 h
  go_enter Try.func44, Try.ntmps44
  go_wp2_with fail
  refine (copiedV_any (HS1.out _ HB0.out) (by omega)).mono ?_
  rintro e w1 ⟨B1, e1, rfl, own1, hb1⟩
  have ha1 := hb1.size
  simp only [World.size_alloc] at ha1 own1
  have zz1 : w.heap.size + 2 ≤ w1.heap.size := Nat.le_trans zz0 hb1.size
  have hx1 := box_keep HX0.out hb1 (by omega)
  have hr1 := box_keep HR0.out hb1 (by omega)
  have p1 := box_cell (j := 1) hx1 rfl
  have f1 := box_free hx1 1
  have HB1a := Lib.hid (HB0.out.trans (hb1.mono (by omega)))
  have HO1_1 := Lib.hid own1
  clear own1 hb1
  go_upto_region 2 with (fail)
  have HX1 := Lib.hid (show (w1.setCell ⟨w.heap.size, 1, none⟩ (.slice B1 n1 e1)).heap[w.heap.size]? = some (.cells #[.int .i64 x.fCap, .slice B1 n1 e1, .slice A2 n2 c2, .slice A3 n3 c3, .bool x.fClosed] 26 (0, 0)) from box_set (j := 1) (u := .slice B1 n1 e1) hx1)
  have HR1 := Lib.hid ((Below.heap_setCell w1 ⟨w.heap.size, 1, none⟩ (.slice B1 n1 e1) (w.heap.size + 1) (by simp only; omega)).trans hr1)
  have HB1 := Lib.hid (below_set (p := ⟨w.heap.size, 1, none⟩) HB1a.out (Nat.le_refl _) (.slice B1 n1 e1))
  replace HO1_1 := Lib.hid (OwnR.setCell (o := 1) HO1_1.out (g := w.heap.size) (by omega) (.slice B1 n1 e1))
  have hz1 := Lib.hid (show (w1.setCell ⟨w.heap.size, 1, none⟩ (.slice B1 n1 e1)).heap.size = w1.heap.size by simp [World.setCell])
  clear hx1 hr1 p1 f1 HB1a
  generalize w1.setCell ⟨w.heap.size, 1, none⟩ (.slice B1 n1 e1) = w1b at *
  replace zz1 : w.heap.size + 2 ≤ w1b.heap.size := by have := hz1.out; omega
  have pa2 := box_cell (j := 2) HX1.out rfl
  go_wp2_with fail
  refine (copiedW_any (HS2.out _ HB1.out) (by omega)).mono ?_
  rintro e w2 ⟨B2, e2, rfl, own2, hb2⟩
  have ha2 := hb2.size
  have zz2 : w.heap.size + 2 ≤ w2.heap.size := Nat.le_trans zz1 hb2.size
  clear pa2
  have hx2 := box_keep HX1.out hb2 (by omega)
  have hr2 := box_keep HR1.out hb2 (by omega)
  have p2 := box_cell (j := 2) hx2 rfl
  have f2 := box_free hx2 2
  have HB2a := Lib.hid (HB1.out.trans (hb2.mono (by omega)))
  have HO1_2 := Lib.hid (HO1_1.out.stay (w' := w2) (fun g hg hlt => hb2.block g hlt) hb2.size)
  have HO2_2 := Lib.hid own2
  clear own2 hb2
  go_upto_region 3 with (fail)
  have HX2 := Lib.hid (show (w2.setCell ⟨w.heap.size, 2, none⟩ (.slice B2 n2 e2)).heap[w.heap.size]? = some (.cells #[.int .i64 x.fCap, .slice B1 n1 e1, .slice B2 n2 e2, .slice A3 n3 c3, .bool x.fClosed] 26 (0, 0)) from box_set (j := 2) (u := .slice B2 n2 e2) hx2)
  have HR2 := Lib.hid ((Below.heap_setCell w2 ⟨w.heap.size, 2, none⟩ (.slice B2 n2 e2) (w.heap.size + 1) (by simp only; omega)).trans hr2)
  have HB2 := Lib.hid (below_set (p := ⟨w.heap.size, 2, none⟩) HB2a.out (Nat.le_refl _) (.slice B2 n2 e2))
  replace HO1_2 := Lib.hid (OwnR.setCell (o := 2) HO1_2.out (g := w.heap.size) (by omega) (.slice B2 n2 e2))
  replace HO2_2 := Lib.hid (OwnR.setCell (o := 2) HO2_2.out (g := w.heap.size) (by omega) (.slice B2 n2 e2))
  have hz2 := Lib.hid (show (w2.setCell ⟨w.heap.size, 2, none⟩ (.slice B2 n2 e2)).heap.size = w2.heap.size by simp [World.setCell])
  clear hx2 hr2 p2 f2 HB2a
  generalize w2.setCell ⟨w.heap.size, 2, none⟩ (.slice B2 n2 e2) = w2b at *
  replace zz2 : w.heap.size + 2 ≤ w2b.heap.size := by have := hz2.out; omega
  have pa3 := box_cell (j := 3) HX2.out rfl
  go_wp2_with fail
  refine (copiedW_any (HS3.out _ HB2.out) (by omega)).mono ?_
  rintro e w3 ⟨B3, e3, rfl, own3, hb3⟩
  have ha3 := hb3.size
  have zz3 : w.heap.size + 2 ≤ w3.heap.size := Nat.le_trans zz2 hb3.size
  clear pa3
  have hx3 := box_keep HX2.out hb3 (by omega)
  have hr3 := box_keep HR2.out hb3 (by omega)
  have p3 := box_cell (j := 3) hx3 rfl
  have f3 := box_free hx3 3
  have HB3a := Lib.hid (HB2.out.trans (hb3.mono (by omega)))
  have HO1_3 := Lib.hid (HO1_2.out.stay (w' := w3) (fun g hg hlt => hb3.block g hlt) hb3.size)
  have HO2_3 := Lib.hid (HO2_2.out.stay (w' := w3) (fun g hg hlt => hb3.block g hlt) hb3.size)
  have HO3_3 := Lib.hid own3
  clear own3 hb3
  go_upto_region 4 with (fail)
  have HX3 := Lib.hid (show (w3.setCell ⟨w.heap.size, 3, none⟩ (.slice B3 n3 e3)).heap[w.heap.size]? = some (.cells #[.int .i64 x.fCap, .slice B1 n1 e1, .slice B2 n2 e2, .slice B3 n3 e3, .bool x.fClosed] 26 (0, 0)) from box_set (j := 3) (u := .slice B3 n3 e3) hx3)
  have HR3 := Lib.hid ((Below.heap_setCell w3 ⟨w.heap.size, 3, none⟩ (.slice B3 n3 e3) (w.heap.size + 1) (by simp only; omega)).trans hr3)
  have HB3 := Lib.hid (below_set (p := ⟨w.heap.size, 3, none⟩) HB3a.out (Nat.le_refl _) (.slice B3 n3 e3))
  replace HO1_3 := Lib.hid (OwnR.setCell (o := 3) HO1_3.out (g := w.heap.size) (by omega) (.slice B3 n3 e3))
  replace HO2_3 := Lib.hid (OwnR.setCell (o := 3) HO2_3.out (g := w.heap.size) (by omega) (.slice B3 n3 e3))
  replace HO3_3 := Lib.hid (OwnR.setCell (o := 3) HO3_3.out (g := w.heap.size) (by omega) (.slice B3 n3 e3))
  have hz3 := Lib.hid (show (w3.setCell ⟨w.heap.size, 3, none⟩ (.slice B3 n3 e3)).heap.size = w3.heap.size by simp [World.setCell])
  clear hx3 hr3 p3 f3 HB3a
  generalize w3.setCell ⟨w.heap.size, 3, none⟩ (.slice B3 n3 e3) = w3b at *
  replace zz3 : w.heap.size + 2 ≤ w3b.heap.size := by have := hz3.out; omega
  have q0 := box_cell (j := 0) HX3.out rfl
  have q1 := box_cell (j := 1) HX3.out rfl
  have q2 := box_cell (j := 2) HX3.out rfl
  have q3 := box_cell (j := 3) HX3.out rfl
  have q4 := box_cell (j := 4) HX3.out rfl
  have r0 := box_cell (j := 0) HR3.out rfl
  have r1 := box_cell (j := 1) HR3.out rfl
  have r2 := box_cell (j := 2) HR3.out rfl
  have r3 := box_cell (j := 3) HR3.out rfl
  have r4 := box_cell (j := 4) HR3.out rfl
  have g0 := box_free HR3.out 0
  have g1 := box_free HR3.out 1
  have g2 := box_free HR3.out 2
  have g3 := box_free HR3.out 3
  have g4 := box_free HR3.out 4
  go_wp2_with fail
  have hzz1 := hz1.out
  have hzz2 := hz2.out
  have hzz3 := hz3.out
  have hfin := box_set (j := 4) (u := .bool x.fClosed) (box_set (j := 3) (u := .slice B3 n3 e3) (box_set (j := 2) (u := .slice B2 n2 e2) (box_set (j := 1) (u := .slice B1 n1 e1) (box_set (j := 0) (u := .int .i64 x.fCap) HR3.out))))
  have y0 := box_cell (j := 0) hfin rfl
  have y1 := box_cell (j := 1) hfin rfl
  have y2 := box_cell (j := 2) hfin rfl
  have y3 := box_cell (j := 3) hfin rfl
  have y4 := box_cell (j := 4) hfin rfl
  clear q0 q1 q2 q3 q4 r0 r1 r2 r3 r4 g0 g1 g2 g3 g4
  refine bodyPost_ret (v := .agg #[.int .i64 x.fCap, .slice B1 n1 e1, .slice B2 n2 e2, .slice B3 n3 e3, .bool x.fClosed]) (by simp [results, Try.results44, go_sem, y0, y1, y2, y3, y4]) rfl ?_
  refine ⟨below_set (below_set (below_set (below_set (below_set HB3.out (by simp only; omega) _) (by simp only; omega) _) (by simp only; omega) _) (by simp only; omega) _) (by simp only; omega) _, B1, e1, B2, e2, B3, e3, _, _, _, by rw [L1.out, L2.out, L3.out], by rw [L1.out]; exact OwnR.setCell (o := 4) (OwnR.setCell (o := 3) (OwnR.setCell (o := 2) (OwnR.setCell (o := 1) (OwnR.setCell (o := 0) HO1_3.out (g := w.heap.size + 1) (by omega) _) (by omega) _) (by omega) _) (by omega) _) (by omega) _, by rw [L2.out]; exact OwnR.setCell (o := 4) (OwnR.setCell (o := 3) (OwnR.setCell (o := 2) (OwnR.setCell (o := 1) (OwnR.setCell (o := 0) HO2_3.out (g := w.heap.size + 1) (by omega) _) (by omega) _) (by omega) _) (by omega) _) (by omega) _, by rw [L3.out]; exact OwnR.setCell (o := 4) (OwnR.setCell (o := 3) (OwnR.setCell (o := 2) (OwnR.setCell (o := 1) (OwnR.setCell (o := 0) HO3_3.out (g := w.heap.size + 1) (by omega) _) (by omega) _) (by omega) _) (by omega) _) (by omega) _, ?_, fun g hg hg' => by omega, fun g hg hg' => by omega, fun g hg hg' => by omega⟩
  rintro g (hg | hg | hg) <;> (simp only [World.size_setCell]; omega)
end Go.Proofs.Ytgdmcdblhpdlmaa
