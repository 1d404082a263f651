
/- The contract of the program's readCase. -/

import Derived.Test.YtllkbikhclfgpaaDoorReadI

import Derived.Test.YtllkbikhclfgpaaDoorPartsI

import Derived.Test.YtllkbikhclfgpaaDoorSelMath

import Derived.RegionTactic

import Derived.BigQuiet

import Derived.Deep.QuietTactic

namespace Go.Proofs.YtllkbikhclfgpaaDoor
set_option linter.unusedSimpArgs false
set_option linter.unusedVariables false
open Go.RowKit

abbrev caseV (c : DCase) : Value := .agg #[.bool c.fSend, .int .i64 c.fChan, .int .i64 c.fReg, .int .i64 c.fOk, .int .i64 c.fTo]
def CasePost (w : World) (r : Option DCase) (e : Ending) (w' : World) : Prop :=
  Below w.heap.size w w' ∧ ((r = none ∧ e = .returned (.tuple #[caseV ⟨false, 0, 0, 0, 0⟩, faultV])) ∨ ∃ c, r = some c ∧ e = .returned (.tuple #[caseV c, .nilIface]))

theorem split_made (s : ByteArray) (c : UInt8) (m : Int) (w : World) (hs : s.size ≤ 1048576) (hm : w.cell? ⟨1, 0, none⟩ = some (.int .i64 m)) :
    Calls Tryd.prog 72 #[.string s, .string ⟨#[c]⟩] w (MadeT1 w (cutR c [] s.data.toList)) := by
  have hlen := cutR_length c s.data.toList []
  rw [show s.data.toList.length = s.size from rfl] at hlen
  refine (split_any s c m w hs hm).mono ?_
  rintro e w' ⟨rfl, rfl⟩
  refine ⟨w.heap.size, rfl, ?_, (Below.refl _ _).alloc (Nat.le_refl _) _⟩
  have h := Own.made (size := 1) (e := 9) w ((cutR c [] s.data.toList).map Tx).toArray (cutR c [] s.data.toList).length (cutR c [] s.data.toList).length (by simp only [maxLen]; omega) (by simp) (Nat.le_refl _)
  have h2 := h.wider (Nat.le_refl _) (hi' := (w.alloc (.cells ((cutR c [] s.data.toList).map Tx).toArray 9)).heap.size) (by simp)
  simpa [List.take_of_length_le] using h2
theorem shapeNames_wf (send : Bool) : ∀ x ∈ shapeNames send, (Lit.int .i64 x).wf = true := by cases send <;> decide
theorem vals4 {vs : List Int} (h : vs.length = 4) : vs = [vs.getD 0 0, vs.getD 1 0, vs.getD 2 0, vs.getD 3 0] := by
  match vs, h with
  | [a, b, c, d], _ => rfl
theorem vals3 {vs : List Int} (h : vs.length = 3) : vs = [vs.getD 0 0, vs.getD 1 0, vs.getD 2 0] := by
  match vs, h with
  | [a, b, c], _ => rfl

set_option maxRecDepth 100000 in
set_option maxHeartbeats 4000000 in
theorem readCase_true (s : ByteArray) (w : World) {ps : List (List UInt8)} (hs : s.size ≤ 1048576) (hcut : cutR 58 [] s.data.toList = sendW :: ps) (hT : TabsR w) :
    Calls Tryd.prog 64 #[.string s] w (CasePost w ((fieldsR (shapeNames true) ps).map (caseOf true))) := by
  have HT := Lib.hid hT
  have hW0 : Below w.heap.size w (w.alloc (.cells #[.bool false, .int .i64 0, .int .i64 0, .int .i64 0, .int .i64 0] 64)) := (Below.refl _ _).alloc (Nat.le_refl _) _
  have HB0 := Lib.hid (box_new w #[.bool false, .int .i64 0, .int .i64 0, .int .i64 0, .int .i64 0] 64)
  have HZ := Lib.hid (show (w.alloc (.cells #[.bool false, .int .i64 0, .int .i64 0, .int .i64 0, .int .i64 0] 64)).heap.size = w.heap.size + 1 by simp)
  obtain ⟨m, hm⟩ := (hT.below hW0 (Nat.le_refl _)).2.2.2
  have HP := Lib.hid (split_made s 58 m _ hs hm)
  have HW0 := Lib.hid hW0
  have hlen := cutR_length 58 s.data.toList []
  have hmem := cutR_mem 58 s.data.toList []
  rw [show s.data.toList.length = s.size from rfl] at hlen hmem
  rw [hcut] at HP hlen hmem
  have HMEM := Lib.hid (fun p (hp : p ∈ sendW :: ps) => show p.length ≤ 1048576 by have := hmem p hp; simp only [List.length_nil] at this; omega)
  have hpl : ps.length ≤ 1048576 := by rw [List.length_cons] at hlen; omega
  have HO8 := Lib.hid (fun (W : World) (hC : OpCells W) => show Calls Tryd.prog 49 #[.int .i64 8] W fun e w' => e = .returned (Tx sendW) ∧ w' = W from (implOpWord_any 8 W hC).mono fun _ _ h => ⟨h.1, h.2.symm⟩)
  have HO9 := Lib.hid (fun (W : World) (hC : OpCells W) => show Calls Tryd.prog 49 #[.int .i64 (shapeOp true)] W fun e w' => e = .returned (Tx sendW) ∧ w' = W from (implOpWord_any (shapeOp true) W hC).mono fun _ _ h => ⟨h.1, h.2.symm⟩)
  have HCS := Lib.hid (fun (W : World) (hC : OpCells W) => caseShape_any true W hC)
  have heq : (sendW == sendW) = true := by decide
  have hne : (sendW != sendW) = false := by decide
  clear hm hW0 hT hcut hmem hlen
  generalize sendW = q8 at *
  go_enter Tryd.func64, Tryd.ntmps64
  go_wp2_with fail
  refine HP.out.mono ?_
  rintro e w1 ⟨g, rfl, own1, hb1⟩
  have HB1 := Lib.hid (box_keep HB0.out hb1 (lt_of_block HB0.out))
  have hW1 : Below w.heap.size w w1 := HW0.out.trans (hb1.mono HW0.out.size)
  have hg := own1.lt _ rfl
  have cp := own1.cell (j := 0) (u := Tx q8) rfl
  have HOWN := Lib.hid own1
  have hgl : g < w1.heap.size := hg.2.2
  have hg1 : w.heap.size + 1 ≤ g := by have := hg.1; rw [HZ.out] at this; exact this
  rw [List.length_cons] at HOWN ⊢
  obtain ⟨n, hn⟩ : ∃ n : Nat, ps.length + 1 = n := ⟨_, rfl⟩
  rw [hn] at HOWN ⊢
  have hn1 : 0 < n := by omega
  have hn2 : (0 : Int) < (n : Int) := by omega
  have hnm : n ≤ 1048577 := by omega
  have HNN := Lib.hid hn
  clear hn
  have hC1 := (HT.out.below hW1 (Nat.le_refl _)).1.2
  clear hg own1 hb1 HP
  go_wp2_with fail
  go_quiet ((go_at_call 49; exact Calls.quiet_of_same (HO8.out _ hC1)))
  go_wp2_with fail
  refine (HCS.out (w1.drewN nq) hC1).mono ?_
  rintro e w3 ⟨B, d, rfl, sr3, hb3⟩
  have hV3 : Below w1.heap.size w1 w3 := (below_drawn (Below.refl _ w1) _).trans hb3
  have HB3 := Lib.hid (box_keep HB1.out hV3 (lt_of_block HB1.out))
  have hW3 : Below w.heap.size w w3 := hW1.trans (hV3.mono hW1.size)
  have HOWN3 := Lib.hid (HOWN.out.below hV3 (Nat.le_refl _))
  have cp3 := HOWN3.out.cell (j := 0) (u := Tx q8) rfl
  have hgl3 : g < w3.heap.size := Nat.lt_of_lt_of_le hgl hV3.size
  have hC3 := (HT.out.below hW3 (Nat.le_refl _)).1.2
  have HSR := Lib.hid sr3
  have hz3 : w1.heap.size ≤ w3.heap.size := hV3.size
  clear cp hC1 hb3 sr3 hV3 hgl
  go_wp2_with fail
  go_quiet ((go_at_call 49; exact Calls.quiet_of_same (HO9.out _ hC3)))
  obtain ⟨A', hA'⟩ : ∃ A', cutA (some ⟨g, 0, none⟩) 1 n = A' := ⟨_, rfl⟩
  have HRUN : ∀ W, (Instr.slice 55 (.slice (some ⟨g, 0, none⟩) n n) (some (.int .i64 1)) none none).run Tryd.prog W = .ok (.slice A' (n - 1) (n - 1)) W := fun W => by
    have := run_cut_l Tryd.underlying55 (fun _ => by kernel_rfl) W (some ⟨g, 0, none⟩) n n 1 (by omega) (by omega)
    rw [show (1 : Int).toNat = 1 from rfl, hA'] at this
    exact this
  have HSEEN := Lib.hid (show Seen w3 w3.heap.size 1 A' (n - 1) (ps.map Tx) by
    have h0 := (HOWN3.out.seen).cut (l := 1) (m := n - 1) (c := n) (by omega) (Nat.le_refl _)
    rw [hA', List.map_cons, List.drop_succ_cons, List.drop_zero, List.take_of_length_le (by rw [List.length_map]; have := HNN.out; omega)] at h0
    exact h0.more hz3)
  have HRF := Lib.hid (fun q : Nat => readFields_any (w := w3.drewN q) (hi := w3.heap.size) (n1 := (shapeNames true).length) (n2 := n - 1) (c1 := d) (c2 := n - 1) (A1 := B) (A2 := A') (ns := shapeNames true) (ss := ps)
    (HSR.out.below (w' := w3.drewN q) (below_drawn (Below.refl _ w3) q) (Nat.le_refl _)) (HSEEN.out.below (w' := w3.drewN q) (below_drawn (Below.refl _ w3) q) (Nat.le_refl _)) (Nat.le_refl _) (by decide) (by omega) (fun p hp => HMEM.out p (List.mem_cons_of_mem _ hp)) ((HT.out.below hW3 (Nat.le_refl _)).below (below_drawn (Below.refl _ w3) q) (Nat.le_refl _)))
  clear hA' cp3 hC3
  cases hfr : fieldsR (shapeNames true) ps with
  | none =>
    rw [hfr] at HRF
    have HRG := Lib.hid (fun q : Nat => show Calls Tryd.prog 54 #[.slice B (shapeNames true).length d, .slice A' (n - 1) (n - 1)] (w3.drewN q) fun e w' => e = .returned (.tuple #[.slice none 0 0, faultV]) ∧ Below w3.heap.size w3 w' from (HRF.out q).mono fun e w' h => by
      rcases h.2 with h1 | ⟨vs, _, _, h1, _⟩
      · exact ⟨h1.2, (below_drawn (Below.refl _ w3) q).trans h.1⟩
      · cases h1)
    have hfin := Lib.hid (show (fieldsR (shapeNames true) ps).map (caseOf true) = none by rw [hfr]; rfl)
    clear HRF hfr
    go_wp2_with fail
    refine (HRG.out _).mono ?_
    rintro e w8 ⟨rfl, hV8⟩
    have HB8 := Lib.hid (box_keep HB3.out hV8 (lt_of_block HB3.out))
    have hW8 : Below w.heap.size w w8 := hW3.trans (hV8.mono hW3.size)
    have hl8 := lt_of_block HB8.out
    have x0 := box_cell (j := 0) HB8.out rfl
    have x1 := box_cell (j := 1) HB8.out rfl
    have x2 := box_cell (j := 2) HB8.out rfl
    have x3 := box_cell (j := 3) HB8.out rfl
    have x4 := box_cell (j := 4) HB8.out rfl
    have y0 := box_free HB8.out 0
    have y1 := box_free HB8.out 1
    have y2 := box_free HB8.out 2
    have y3 := box_free HB8.out 3
    have y4 := box_free HB8.out 4
    clear hV8
    go_wp2_with fail
    have X := (box_set (j := 4) (u := .int .i64 0) (box_set (j := 3) (u := .int .i64 0) (box_set (j := 2) (u := .int .i64 0) (box_set (j := 1) (u := .int .i64 0) (box_set (j := 0) (u := .bool false) HB8.out)))))
    have HBb : Below w.heap.size w (((((w8.setCell ⟨w.heap.size, 0, none⟩ (.bool false)).setCell ⟨w.heap.size, 1, none⟩ (.int .i64 0)).setCell ⟨w.heap.size, 2, none⟩ (.int .i64 0)).setCell ⟨w.heap.size, 3, none⟩ (.int .i64 0)).setCell ⟨w.heap.size, 4, none⟩ (.int .i64 0)) := (below_set (below_set (below_set (below_set (below_set hW8 (Nat.le_refl _) _) (Nat.le_refl _) _) (Nat.le_refl _) _) (Nat.le_refl _) _) (Nat.le_refl _) _)
    generalize (((((w8.setCell ⟨w.heap.size, 0, none⟩ (.bool false)).setCell ⟨w.heap.size, 1, none⟩ (.int .i64 0)).setCell ⟨w.heap.size, 2, none⟩ (.int .i64 0)).setCell ⟨w.heap.size, 3, none⟩ (.int .i64 0)).setCell ⟨w.heap.size, 4, none⟩ (.int .i64 0)) = WX at X HBb ⊢
    have d0 := box_cell (j := 0) X rfl
    have d1 := box_cell (j := 1) X rfl
    have d2 := box_cell (j := 2) X rfl
    have d3 := box_cell (j := 3) X rfl
    have d4 := box_cell (j := 4) X rfl
    refine bodyPost_ret (v := .tuple #[caseV ⟨false, 0, 0, 0, 0⟩, faultV]) (by simp [results, Tryd.results64, go_sem, d0, d1, d2, d3, d4]) rfl ?_
    exact ⟨HBb, .inl ⟨hfin.out, rfl⟩⟩
  | some vs =>
    have hvl := (fieldsR_vals hfr).1
    rw [hfr] at HRF
    have HRG := Lib.hid (fun q : Nat => show Calls Tryd.prog 54 #[.slice B (shapeNames true).length d, .slice A' (n - 1) (n - 1)] (w3.drewN q) fun e w' => ∃ A c, e = .returned (.tuple #[.slice A (List.length vs) c, .nilIface]) ∧ Own w' w3.heap.size w'.heap.size 3 1 A (List.length vs) c (vs.map (Value.int .i64)) ∧ Below w3.heap.size w3 w' from (HRF.out q).mono fun e w' h => by
      rcases h.2 with h1 | ⟨vs', A, c, h1, h2, h3⟩
      · cases h1.1
      · injection h1 with h1
        subst h1
        exact ⟨A, c, h2, h3, (below_drawn (Below.refl _ w3) q).trans h.1⟩)
    have hv := Lib.hid (vals3 (vs := vs) hvl)
    have hvk : vs.length = 3 := hvl
    rw [hvk] at HRG
    have hfin := Lib.hid (show (fieldsR (shapeNames true) ps).map (caseOf true) = some ⟨true, vs.getD 0 0, vs.getD 1 0, 0, vs.getD 2 0⟩ by rw [hfr]; rfl)
    clear HRF hfr hvl
    rw [hv.out] at HRG
    generalize vs.getD 0 0 = v0 at *
    generalize vs.getD 1 0 = v1 at *
    generalize vs.getD 2 0 = v2 at *
    clear hv hvk
    go_wp2_with fail
    refine (HRG.out _).mono ?_
    rintro e w8 ⟨A7, c7, rfl, own7, hV8⟩
    obtain ⟨g7, hA7, -, -, hg7⟩ := own7.form (by decide)
    subst hA7
    have q70 := own7.cell (j := 0) (u := .int .i64 v0) rfl
    have q71 := own7.cell (j := 1) (u := .int .i64 v1) rfl
    have q72 := own7.cell (j := 2) (u := .int .i64 v2) rfl
    have HB8 := Lib.hid (box_keep HB3.out hV8 (lt_of_block HB3.out))
    have hW8 : Below w.heap.size w w8 := hW3.trans (hV8.mono hW3.size)
    have hl8 := lt_of_block HB8.out
    have x0 := box_cell (j := 0) HB8.out rfl
    have x1 := box_cell (j := 1) HB8.out rfl
    have x2 := box_cell (j := 2) HB8.out rfl
    have x3 := box_cell (j := 3) HB8.out rfl
    have x4 := box_cell (j := 4) HB8.out rfl
    have y0 := box_free HB8.out 0
    have y1 := box_free HB8.out 1
    have y2 := box_free HB8.out 2
    have y3 := box_free HB8.out 3
    have y4 := box_free HB8.out 4
    clear hV8 own7
    go_wp2_with fail
    go_region
    all_goals
      go_wp2_with fail
      have X : ((((((w8.setCell ⟨w.heap.size, 0, none⟩ (.bool true)).setCell ⟨w.heap.size, 1, none⟩ (.int .i64 v0)).setCell ⟨w.heap.size, 2, none⟩ (.int .i64 v1)).setCell ⟨w.heap.size, 3, none⟩ (.int .i64 0)).setCell ⟨w.heap.size, 4, none⟩ (.int .i64 v2)).drew).heap[w.heap.size]? = some (.cells #[.bool true, .int .i64 v0, .int .i64 v1, .int .i64 0, .int .i64 v2] 64 (0, 0)) := (box_set (j := 4) (u := .int .i64 v2) (box_set (j := 3) (u := .int .i64 0) (box_set (j := 2) (u := .int .i64 v1) (box_set (j := 1) (u := .int .i64 v0) (box_set (j := 0) (u := .bool true) HB8.out)))))
      have HBb : Below w.heap.size w ((((((w8.setCell ⟨w.heap.size, 0, none⟩ (.bool true)).setCell ⟨w.heap.size, 1, none⟩ (.int .i64 v0)).setCell ⟨w.heap.size, 2, none⟩ (.int .i64 v1)).setCell ⟨w.heap.size, 3, none⟩ (.int .i64 0)).setCell ⟨w.heap.size, 4, none⟩ (.int .i64 v2)).drew) := below_drawn (below_set (below_set (below_set (below_set (below_set hW8 (Nat.le_refl _) _) (Nat.le_refl _) _) (Nat.le_refl _) _) (Nat.le_refl _) _) (Nat.le_refl _) _) 1
      generalize (((((w8.setCell ⟨w.heap.size, 0, none⟩ (.bool true)).setCell ⟨w.heap.size, 1, none⟩ (.int .i64 v0)).setCell ⟨w.heap.size, 2, none⟩ (.int .i64 v1)).setCell ⟨w.heap.size, 3, none⟩ (.int .i64 0)).setCell ⟨w.heap.size, 4, none⟩ (.int .i64 v2)).drew = WX at X HBb ⊢
      have d0 := box_cell (j := 0) X rfl
      have d1 := box_cell (j := 1) X rfl
      have d2 := box_cell (j := 2) X rfl
      have d3 := box_cell (j := 3) X rfl
      have d4 := box_cell (j := 4) X rfl
      refine bodyPost_ret (v := .tuple #[caseV ⟨true, v0, v1, 0, v2⟩, .nilIface]) (by simp [results, Tryd.results64, go_sem, d0, d1, d2, d3, d4]) rfl ?_
      exact ⟨HBb, .inr ⟨_, hfin.out, rfl⟩⟩

set_option maxRecDepth 100000 in
set_option maxHeartbeats 4000000 in
theorem readCase_false (s : ByteArray) (w : World) {ps : List (List UInt8)} (hs : s.size ≤ 1048576) (hcut : cutR 58 [] s.data.toList = recvW :: ps) (hT : TabsR w) :
    Calls Tryd.prog 64 #[.string s] w (CasePost w ((fieldsR (shapeNames false) ps).map (caseOf false))) := by
  have HT := Lib.hid hT
  have hW0 : Below w.heap.size w (w.alloc (.cells #[.bool false, .int .i64 0, .int .i64 0, .int .i64 0, .int .i64 0] 64)) := (Below.refl _ _).alloc (Nat.le_refl _) _
  have HB0 := Lib.hid (box_new w #[.bool false, .int .i64 0, .int .i64 0, .int .i64 0, .int .i64 0] 64)
  have HZ := Lib.hid (show (w.alloc (.cells #[.bool false, .int .i64 0, .int .i64 0, .int .i64 0, .int .i64 0] 64)).heap.size = w.heap.size + 1 by simp)
  obtain ⟨m, hm⟩ := (hT.below hW0 (Nat.le_refl _)).2.2.2
  have HP := Lib.hid (split_made s 58 m _ hs hm)
  have HW0 := Lib.hid hW0
  have hlen := cutR_length 58 s.data.toList []
  have hmem := cutR_mem 58 s.data.toList []
  rw [show s.data.toList.length = s.size from rfl] at hlen hmem
  rw [hcut] at HP hlen hmem
  have HMEM := Lib.hid (fun p (hp : p ∈ recvW :: ps) => show p.length ≤ 1048576 by have := hmem p hp; simp only [List.length_nil] at this; omega)
  have hpl : ps.length ≤ 1048576 := by rw [List.length_cons] at hlen; omega
  have HO8 := Lib.hid (fun (W : World) (hC : OpCells W) => show Calls Tryd.prog 49 #[.int .i64 8] W fun e w' => e = .returned (Tx sendW) ∧ w' = W from (implOpWord_any 8 W hC).mono fun _ _ h => ⟨h.1, h.2.symm⟩)
  have HO9 := Lib.hid (fun (W : World) (hC : OpCells W) => show Calls Tryd.prog 49 #[.int .i64 (shapeOp false)] W fun e w' => e = .returned (Tx recvW) ∧ w' = W from (implOpWord_any (shapeOp false) W hC).mono fun _ _ h => ⟨h.1, h.2.symm⟩)
  have HCS := Lib.hid (fun (W : World) (hC : OpCells W) => caseShape_any false W hC)
  have heq : (recvW == sendW) = false := by decide
  have hne : (recvW != recvW) = false := by decide
  clear hm hW0 hT hcut hmem hlen
  generalize sendW = q8 at *
  generalize recvW = q9 at *
  go_enter Tryd.func64, Tryd.ntmps64
  go_wp2_with fail
  refine HP.out.mono ?_
  rintro e w1 ⟨g, rfl, own1, hb1⟩
  have HB1 := Lib.hid (box_keep HB0.out hb1 (lt_of_block HB0.out))
  have hW1 : Below w.heap.size w w1 := HW0.out.trans (hb1.mono HW0.out.size)
  have hg := own1.lt _ rfl
  have cp := own1.cell (j := 0) (u := Tx q9) rfl
  have HOWN := Lib.hid own1
  have hgl : g < w1.heap.size := hg.2.2
  have hg1 : w.heap.size + 1 ≤ g := by have := hg.1; rw [HZ.out] at this; exact this
  rw [List.length_cons] at HOWN ⊢
  obtain ⟨n, hn⟩ : ∃ n : Nat, ps.length + 1 = n := ⟨_, rfl⟩
  rw [hn] at HOWN ⊢
  have hn1 : 0 < n := by omega
  have hn2 : (0 : Int) < (n : Int) := by omega
  have hnm : n ≤ 1048577 := by omega
  have HNN := Lib.hid hn
  clear hn
  have hC1 := (HT.out.below hW1 (Nat.le_refl _)).1.2
  clear hg own1 hb1 HP
  go_wp2_with fail
  go_quiet ((go_at_call 49; exact Calls.quiet_of_same (HO8.out _ hC1)))
  go_wp2_with fail
  refine (HCS.out (w1.drewN nq) hC1).mono ?_
  rintro e w3 ⟨B, d, rfl, sr3, hb3⟩
  have hV3 : Below w1.heap.size w1 w3 := (below_drawn (Below.refl _ w1) _).trans hb3
  have HB3 := Lib.hid (box_keep HB1.out hV3 (lt_of_block HB1.out))
  have hW3 : Below w.heap.size w w3 := hW1.trans (hV3.mono hW1.size)
  have HOWN3 := Lib.hid (HOWN.out.below hV3 (Nat.le_refl _))
  have cp3 := HOWN3.out.cell (j := 0) (u := Tx q9) rfl
  have hgl3 : g < w3.heap.size := Nat.lt_of_lt_of_le hgl hV3.size
  have hC3 := (HT.out.below hW3 (Nat.le_refl _)).1.2
  have HSR := Lib.hid sr3
  have hz3 : w1.heap.size ≤ w3.heap.size := hV3.size
  clear cp hC1 hb3 sr3 hV3 hgl
  go_wp2_with fail
  go_quiet ((go_at_call 49; exact Calls.quiet_of_same (HO9.out _ hC3)))
  obtain ⟨A', hA'⟩ : ∃ A', cutA (some ⟨g, 0, none⟩) 1 n = A' := ⟨_, rfl⟩
  have HRUN : ∀ W, (Instr.slice 55 (.slice (some ⟨g, 0, none⟩) n n) (some (.int .i64 1)) none none).run Tryd.prog W = .ok (.slice A' (n - 1) (n - 1)) W := fun W => by
    have := run_cut_l Tryd.underlying55 (fun _ => by kernel_rfl) W (some ⟨g, 0, none⟩) n n 1 (by omega) (by omega)
    rw [show (1 : Int).toNat = 1 from rfl, hA'] at this
    exact this
  have HSEEN := Lib.hid (show Seen w3 w3.heap.size 1 A' (n - 1) (ps.map Tx) by
    have h0 := (HOWN3.out.seen).cut (l := 1) (m := n - 1) (c := n) (by omega) (Nat.le_refl _)
    rw [hA', List.map_cons, List.drop_succ_cons, List.drop_zero, List.take_of_length_le (by rw [List.length_map]; have := HNN.out; omega)] at h0
    exact h0.more hz3)
  have HRF := Lib.hid (fun q : Nat => readFields_any (w := w3.drewN q) (hi := w3.heap.size) (n1 := (shapeNames false).length) (n2 := n - 1) (c1 := d) (c2 := n - 1) (A1 := B) (A2 := A') (ns := shapeNames false) (ss := ps)
    (HSR.out.below (w' := w3.drewN q) (below_drawn (Below.refl _ w3) q) (Nat.le_refl _)) (HSEEN.out.below (w' := w3.drewN q) (below_drawn (Below.refl _ w3) q) (Nat.le_refl _)) (Nat.le_refl _) (by decide) (by omega) (fun p hp => HMEM.out p (List.mem_cons_of_mem _ hp)) ((HT.out.below hW3 (Nat.le_refl _)).below (below_drawn (Below.refl _ w3) q) (Nat.le_refl _)))
  clear hA' cp3 hC3
  cases hfr : fieldsR (shapeNames false) ps with
  | none =>
    rw [hfr] at HRF
    have HRG := Lib.hid (fun q : Nat => show Calls Tryd.prog 54 #[.slice B (shapeNames false).length d, .slice A' (n - 1) (n - 1)] (w3.drewN q) fun e w' => e = .returned (.tuple #[.slice none 0 0, faultV]) ∧ Below w3.heap.size w3 w' from (HRF.out q).mono fun e w' h => by
      rcases h.2 with h1 | ⟨vs, _, _, h1, _⟩
      · exact ⟨h1.2, (below_drawn (Below.refl _ w3) q).trans h.1⟩
      · cases h1)
    have hfin := Lib.hid (show (fieldsR (shapeNames false) ps).map (caseOf false) = none by rw [hfr]; rfl)
    clear HRF hfr
    go_wp2_with fail
    refine (HRG.out _).mono ?_
    rintro e w8 ⟨rfl, hV8⟩
    have HB8 := Lib.hid (box_keep HB3.out hV8 (lt_of_block HB3.out))
    have hW8 : Below w.heap.size w w8 := hW3.trans (hV8.mono hW3.size)
    have hl8 := lt_of_block HB8.out
    have x0 := box_cell (j := 0) HB8.out rfl
    have x1 := box_cell (j := 1) HB8.out rfl
    have x2 := box_cell (j := 2) HB8.out rfl
    have x3 := box_cell (j := 3) HB8.out rfl
    have x4 := box_cell (j := 4) HB8.out rfl
    have y0 := box_free HB8.out 0
    have y1 := box_free HB8.out 1
    have y2 := box_free HB8.out 2
    have y3 := box_free HB8.out 3
    have y4 := box_free HB8.out 4
    clear hV8
    go_wp2_with fail
    have X := (box_set (j := 4) (u := .int .i64 0) (box_set (j := 3) (u := .int .i64 0) (box_set (j := 2) (u := .int .i64 0) (box_set (j := 1) (u := .int .i64 0) (box_set (j := 0) (u := .bool false) HB8.out)))))
    have HBb : Below w.heap.size w (((((w8.setCell ⟨w.heap.size, 0, none⟩ (.bool false)).setCell ⟨w.heap.size, 1, none⟩ (.int .i64 0)).setCell ⟨w.heap.size, 2, none⟩ (.int .i64 0)).setCell ⟨w.heap.size, 3, none⟩ (.int .i64 0)).setCell ⟨w.heap.size, 4, none⟩ (.int .i64 0)) := (below_set (below_set (below_set (below_set (below_set hW8 (Nat.le_refl _) _) (Nat.le_refl _) _) (Nat.le_refl _) _) (Nat.le_refl _) _) (Nat.le_refl _) _)
    generalize (((((w8.setCell ⟨w.heap.size, 0, none⟩ (.bool false)).setCell ⟨w.heap.size, 1, none⟩ (.int .i64 0)).setCell ⟨w.heap.size, 2, none⟩ (.int .i64 0)).setCell ⟨w.heap.size, 3, none⟩ (.int .i64 0)).setCell ⟨w.heap.size, 4, none⟩ (.int .i64 0)) = WX at X HBb ⊢
    have d0 := box_cell (j := 0) X rfl
    have d1 := box_cell (j := 1) X rfl
    have d2 := box_cell (j := 2) X rfl
    have d3 := box_cell (j := 3) X rfl
    have d4 := box_cell (j := 4) X rfl
    refine bodyPost_ret (v := .tuple #[caseV ⟨false, 0, 0, 0, 0⟩, faultV]) (by simp [results, Tryd.results64, go_sem, d0, d1, d2, d3, d4]) rfl ?_
    exact ⟨HBb, .inl ⟨hfin.out, rfl⟩⟩
  | some vs =>
    have hvl := (fieldsR_vals hfr).1
    rw [hfr] at HRF
    have HRG := Lib.hid (fun q : Nat => show Calls Tryd.prog 54 #[.slice B (shapeNames false).length d, .slice A' (n - 1) (n - 1)] (w3.drewN q) fun e w' => ∃ A c, e = .returned (.tuple #[.slice A (List.length vs) c, .nilIface]) ∧ Own w' w3.heap.size w'.heap.size 3 1 A (List.length vs) c (vs.map (Value.int .i64)) ∧ Below w3.heap.size w3 w' from (HRF.out q).mono fun e w' h => by
      rcases h.2 with h1 | ⟨vs', A, c, h1, h2, h3⟩
      · cases h1.1
      · injection h1 with h1
        subst h1
        exact ⟨A, c, h2, h3, (below_drawn (Below.refl _ w3) q).trans h.1⟩)
    have hv := Lib.hid (vals4 (vs := vs) hvl)
    have hvk : vs.length = 4 := hvl
    rw [hvk] at HRG
    have hfin := Lib.hid (show (fieldsR (shapeNames false) ps).map (caseOf false) = some ⟨false, vs.getD 0 0, vs.getD 1 0, vs.getD 2 0, vs.getD 3 0⟩ by rw [hfr]; rfl)
    clear HRF hfr hvl
    rw [hv.out] at HRG
    generalize vs.getD 0 0 = v0 at *
    generalize vs.getD 1 0 = v1 at *
    generalize vs.getD 2 0 = v2 at *
    generalize vs.getD 3 0 = v3 at *
    clear hv hvk
    go_wp2_with fail
    refine (HRG.out _).mono ?_
    rintro e w8 ⟨A7, c7, rfl, own7, hV8⟩
    obtain ⟨g7, hA7, -, -, hg7⟩ := own7.form (by decide)
    subst hA7
    have q70 := own7.cell (j := 0) (u := .int .i64 v0) rfl
    have q71 := own7.cell (j := 1) (u := .int .i64 v1) rfl
    have q72 := own7.cell (j := 2) (u := .int .i64 v2) rfl
    have q73 := own7.cell (j := 3) (u := .int .i64 v3) rfl
    have HB8 := Lib.hid (box_keep HB3.out hV8 (lt_of_block HB3.out))
    have hW8 : Below w.heap.size w w8 := hW3.trans (hV8.mono hW3.size)
    have hl8 := lt_of_block HB8.out
    have x0 := box_cell (j := 0) HB8.out rfl
    have x1 := box_cell (j := 1) HB8.out rfl
    have x2 := box_cell (j := 2) HB8.out rfl
    have x3 := box_cell (j := 3) HB8.out rfl
    have x4 := box_cell (j := 4) HB8.out rfl
    have y0 := box_free HB8.out 0
    have y1 := box_free HB8.out 1
    have y2 := box_free HB8.out 2
    have y3 := box_free HB8.out 3
    have y4 := box_free HB8.out 4
    clear hV8 own7
    go_wp2_with fail
    go_region
    all_goals
      go_wp2_with fail
      have X : ((((((w8.setCell ⟨w.heap.size, 0, none⟩ (.bool false)).setCell ⟨w.heap.size, 1, none⟩ (.int .i64 v0)).setCell ⟨w.heap.size, 2, none⟩ (.int .i64 v1)).setCell ⟨w.heap.size, 3, none⟩ (.int .i64 v2)).setCell ⟨w.heap.size, 4, none⟩ (.int .i64 v3)).drew).heap[w.heap.size]? = some (.cells #[.bool false, .int .i64 v0, .int .i64 v1, .int .i64 v2, .int .i64 v3] 64 (0, 0)) := (box_set (j := 4) (u := .int .i64 v3) (box_set (j := 3) (u := .int .i64 v2) (box_set (j := 2) (u := .int .i64 v1) (box_set (j := 1) (u := .int .i64 v0) (box_set (j := 0) (u := .bool false) HB8.out)))))
      have HBb : Below w.heap.size w ((((((w8.setCell ⟨w.heap.size, 0, none⟩ (.bool false)).setCell ⟨w.heap.size, 1, none⟩ (.int .i64 v0)).setCell ⟨w.heap.size, 2, none⟩ (.int .i64 v1)).setCell ⟨w.heap.size, 3, none⟩ (.int .i64 v2)).setCell ⟨w.heap.size, 4, none⟩ (.int .i64 v3)).drew) := below_drawn (below_set (below_set (below_set (below_set (below_set hW8 (Nat.le_refl _) _) (Nat.le_refl _) _) (Nat.le_refl _) _) (Nat.le_refl _) _) (Nat.le_refl _) _) 1
      generalize (((((w8.setCell ⟨w.heap.size, 0, none⟩ (.bool false)).setCell ⟨w.heap.size, 1, none⟩ (.int .i64 v0)).setCell ⟨w.heap.size, 2, none⟩ (.int .i64 v1)).setCell ⟨w.heap.size, 3, none⟩ (.int .i64 v2)).setCell ⟨w.heap.size, 4, none⟩ (.int .i64 v3)).drew = WX at X HBb ⊢
      have d0 := box_cell (j := 0) X rfl
      have d1 := box_cell (j := 1) X rfl
      have d2 := box_cell (j := 2) X rfl
      have d3 := box_cell (j := 3) X rfl
      have d4 := box_cell (j := 4) X rfl
      refine bodyPost_ret (v := .tuple #[caseV ⟨false, v0, v1, v2, v3⟩, .nilIface]) (by simp [results, Tryd.results64, go_sem, d0, d1, d2, d3, d4]) rfl ?_
      exact ⟨HBb, .inr ⟨_, hfin.out, rfl⟩⟩

set_option maxRecDepth 100000 in
set_option maxHeartbeats 4000000 in
theorem readCase_none (s : ByteArray) (w : World) {p0 : List UInt8} {ps : List (List UInt8)} (h8 : p0 ≠ sendW) (h9 : p0 ≠ recvW) (hs : s.size ≤ 1048576) (hcut : cutR 58 [] s.data.toList = p0 :: ps) (hT : TabsR w) :
    Calls Tryd.prog 64 #[.string s] w (CasePost w none) := by
  have HT := Lib.hid hT
  have hW0 : Below w.heap.size w (w.alloc (.cells #[.bool false, .int .i64 0, .int .i64 0, .int .i64 0, .int .i64 0] 64)) := (Below.refl _ _).alloc (Nat.le_refl _) _
  have HB0 := Lib.hid (box_new w #[.bool false, .int .i64 0, .int .i64 0, .int .i64 0, .int .i64 0] 64)
  have HZ := Lib.hid (show (w.alloc (.cells #[.bool false, .int .i64 0, .int .i64 0, .int .i64 0, .int .i64 0] 64)).heap.size = w.heap.size + 1 by simp)
  obtain ⟨m, hm⟩ := (hT.below hW0 (Nat.le_refl _)).2.2.2
  have HP := Lib.hid (split_made s 58 m _ hs hm)
  have HW0 := Lib.hid hW0
  have hlen := cutR_length 58 s.data.toList []
  have hmem := cutR_mem 58 s.data.toList []
  rw [show s.data.toList.length = s.size from rfl] at hlen hmem
  rw [hcut] at HP hlen hmem
  have HMEM := Lib.hid (fun p (hp : p ∈ p0 :: ps) => show p.length ≤ 1048576 by have := hmem p hp; simp only [List.length_nil] at this; omega)
  have hpl : ps.length ≤ 1048576 := by rw [List.length_cons] at hlen; omega
  have HO8 := Lib.hid (fun (W : World) (hC : OpCells W) => show Calls Tryd.prog 49 #[.int .i64 8] W fun e w' => e = .returned (Tx sendW) ∧ w' = W from (implOpWord_any 8 W hC).mono fun _ _ h => ⟨h.1, h.2.symm⟩)
  have HO9 := Lib.hid (fun (W : World) (hC : OpCells W) => show Calls Tryd.prog 49 #[.int .i64 (shapeOp false)] W fun e w' => e = .returned (Tx recvW) ∧ w' = W from (implOpWord_any (shapeOp false) W hC).mono fun _ _ h => ⟨h.1, h.2.symm⟩)
  have HCS := Lib.hid (fun (W : World) (hC : OpCells W) => caseShape_any false W hC)
  have heq : (p0 == sendW) = false := by simpa using h8
  have hne : (p0 != recvW) = true := by simpa using h9
  have hne2 : (p0 == recvW) = false := by simpa using h9
  clear hm hW0 hT hcut hmem hlen h8 h9
  generalize sendW = q8 at *
  generalize recvW = q9 at *
  go_enter Tryd.func64, Tryd.ntmps64
  go_wp2_with fail
  refine HP.out.mono ?_
  rintro e w1 ⟨g, rfl, own1, hb1⟩
  have HB1 := Lib.hid (box_keep HB0.out hb1 (lt_of_block HB0.out))
  have hW1 : Below w.heap.size w w1 := HW0.out.trans (hb1.mono HW0.out.size)
  have hg := own1.lt _ rfl
  have cp := own1.cell (j := 0) (u := Tx p0) rfl
  have HOWN := Lib.hid own1
  have hgl : g < w1.heap.size := hg.2.2
  have hg1 : w.heap.size + 1 ≤ g := by have := hg.1; rw [HZ.out] at this; exact this
  rw [List.length_cons] at HOWN ⊢
  obtain ⟨n, hn⟩ : ∃ n : Nat, ps.length + 1 = n := ⟨_, rfl⟩
  rw [hn] at HOWN ⊢
  have hn1 : 0 < n := by omega
  have hn2 : (0 : Int) < (n : Int) := by omega
  have hnm : n ≤ 1048577 := by omega
  have HNN := Lib.hid hn
  clear hn
  have hC1 := (HT.out.below hW1 (Nat.le_refl _)).1.2
  clear hg own1 hb1 HP
  go_wp2_with fail
  go_quiet ((go_at_call 49; exact Calls.quiet_of_same (HO8.out _ hC1)))
  go_wp2_with fail
  refine (HCS.out (w1.drewN nq) hC1).mono ?_
  rintro e w3 ⟨B, d, rfl, sr3, hb3⟩
  have hV3 : Below w1.heap.size w1 w3 := (below_drawn (Below.refl _ w1) _).trans hb3
  have HB3 := Lib.hid (box_keep HB1.out hV3 (lt_of_block HB1.out))
  have hW3 : Below w.heap.size w w3 := hW1.trans (hV3.mono hW1.size)
  have HOWN3 := Lib.hid (HOWN.out.below hV3 (Nat.le_refl _))
  have cp3 := HOWN3.out.cell (j := 0) (u := Tx p0) rfl
  have hgl3 : g < w3.heap.size := Nat.lt_of_lt_of_le hgl hV3.size
  have hC3 := (HT.out.below hW3 (Nat.le_refl _)).1.2
  clear cp hC1 hb3 sr3 hV3 hgl
  go_wp2_with fail
  go_quiet ((go_at_call 49; exact Calls.quiet_of_same (HO9.out _ hC3)))
  have HB8 := Lib.hid (show (w3.drewN nq).heap[w.heap.size]? = _ from HB3.out)
  have hW8 : Below w.heap.size w (w3.drewN nq) := below_drawn hW3 nq
  clear cp3 hC3
  generalize w3.drewN nq = w8 at HB8 hW8 ⊢
  have hl8 := lt_of_block HB8.out
  have x0 := box_cell (j := 0) HB8.out rfl
  have x1 := box_cell (j := 1) HB8.out rfl
  have x2 := box_cell (j := 2) HB8.out rfl
  have x3 := box_cell (j := 3) HB8.out rfl
  have x4 := box_cell (j := 4) HB8.out rfl
  have y0 := box_free HB8.out 0
  have y1 := box_free HB8.out 1
  have y2 := box_free HB8.out 2
  have y3 := box_free HB8.out 3
  have y4 := box_free HB8.out 4
  go_wp2_with fail
  have X := (box_set (j := 4) (u := .int .i64 0) (box_set (j := 3) (u := .int .i64 0) (box_set (j := 2) (u := .int .i64 0) (box_set (j := 1) (u := .int .i64 0) (box_set (j := 0) (u := .bool false) HB8.out)))))
  have HBb : Below w.heap.size w (((((w8.setCell ⟨w.heap.size, 0, none⟩ (.bool false)).setCell ⟨w.heap.size, 1, none⟩ (.int .i64 0)).setCell ⟨w.heap.size, 2, none⟩ (.int .i64 0)).setCell ⟨w.heap.size, 3, none⟩ (.int .i64 0)).setCell ⟨w.heap.size, 4, none⟩ (.int .i64 0)) := (below_set (below_set (below_set (below_set (below_set hW8 (Nat.le_refl _) _) (Nat.le_refl _) _) (Nat.le_refl _) _) (Nat.le_refl _) _) (Nat.le_refl _) _)
  generalize (((((w8.setCell ⟨w.heap.size, 0, none⟩ (.bool false)).setCell ⟨w.heap.size, 1, none⟩ (.int .i64 0)).setCell ⟨w.heap.size, 2, none⟩ (.int .i64 0)).setCell ⟨w.heap.size, 3, none⟩ (.int .i64 0)).setCell ⟨w.heap.size, 4, none⟩ (.int .i64 0)) = WX at X HBb ⊢
  have d0 := box_cell (j := 0) X rfl
  have d1 := box_cell (j := 1) X rfl
  have d2 := box_cell (j := 2) X rfl
  have d3 := box_cell (j := 3) X rfl
  have d4 := box_cell (j := 4) X rfl
  refine bodyPost_ret (v := .tuple #[caseV ⟨false, 0, 0, 0, 0⟩, faultV]) (by simp [results, Tryd.results64, go_sem, d0, d1, d2, d3, d4]) rfl ?_
  exact ⟨HBb, .inl ⟨rfl, rfl⟩⟩

theorem readCase_any (s : ByteArray) (w : World) (hs : s.size ≤ 1048576) (hT : TabsR w) : Calls Tryd.prog 64 #[.string s] w (CasePost w (readC s.data.toList)) := by
  obtain ⟨p0, ps, hcut⟩ : ∃ p0 ps, cutR 58 [] s.data.toList = p0 :: ps := by
    cases h : cutR 58 [] s.data.toList with
    | nil => exact absurd h (cutR_ne 58 s.data.toList [])
    | cons x r => exact ⟨x, r, rfl⟩
  unfold readC
  rw [hcut, List.getD_cons_zero, List.drop_succ_cons, List.drop_zero]
  by_cases h8 : p0 = sendW
  · rw [if_pos h8]
    exact readCase_true s w hs (by rw [hcut, h8]) hT
  · rw [if_neg h8]
    by_cases h9 : p0 = recvW
    · rw [if_pos h9]
      exact readCase_false s w hs (by rw [hcut, h9]) hT
    · rw [if_neg h9]
      exact readCase_none s w h8 h9 hs hcut hT
end Go.Proofs.YtllkbikhclfgpaaDoor
