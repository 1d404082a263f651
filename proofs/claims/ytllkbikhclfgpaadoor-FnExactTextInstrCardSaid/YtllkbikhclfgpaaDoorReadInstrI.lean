
/- The contracts of the program's readInstr and TextInstr. -/

import Derived.Test.YtllkbikhclfgpaaDoorReadI

import Derived.Test.YtllkbikhclfgpaaDoorPartsI

import Derived.Laws.CopyOwn

namespace Go.Proofs.YtllkbikhclfgpaaDoor
set_option linter.unusedSimpArgs false
set_option linter.unusedVariables false
open Go.RowKit

abbrev instrV (i : Int × Int × Int × Int) : Value := .agg #[.int .i64 i.1, .int .i64 i.2.1, .int .i64 i.2.2.1, .int .i64 i.2.2.2]
def InstrPost (w : World) (r : Option (Int × Int × Int × Int)) (e : Ending) (w' : World) : Prop :=
  Below w.heap.size w w' ∧ ((r = none ∧ e = .returned (.tuple #[instrV (0, 0, 0, 0), faultV])) ∨ ∃ i, r = some i ∧ e = .returned (.tuple #[instrV i, .nilIface]))

theorem splice_fill {vs : List Int} (h : vs.length ≤ 3) : splice [.int .i64 0, .int .i64 0, .int .i64 0] 0 (vs.map (Value.int .i64)) = [.int .i64 (fillR vs).1, .int .i64 (fillR vs).2.1, .int .i64 (fillR vs).2.2] := by
  match vs, h with
  | [], _ => rfl
  | [a], _ => rfl
  | [a, b], _ => rfl
  | [a, b, c], _ => rfl
  | a :: b :: c :: d :: r, h => simp at h

theorem readI_none0 {s p0 : List UInt8} {ps : List (List UInt8)} (h : cutR 32 [] s = p0 :: ps) (h0 : opOf p0 = 0) : readI s = none := by
  rw [readI, h, List.getD_cons_zero, if_pos h0]
theorem readI_fields {s p0 : List UInt8} {ps : List (List UInt8)} (h : cutR 32 [] s = p0 :: ps) (h0 : opOf p0 ≠ 0) : readI s = (fieldsR (namesL (opOf p0)) ps).map fun vs => (opOf p0, fillR vs) := by
  rw [readI, h, List.getD_cons_zero, if_neg h0]
  rfl
theorem namesL_wf {op : Int} (h : 1 ≤ op ∧ op ≤ 15) : ∀ x ∈ namesL op, (Lit.int .i64 x).wf = true := by
  intro x hx
  have := List.mem_of_mem_take hx
  have hw := namesA_wf h
  simp at this
  rcases this with rfl | rfl | rfl
  · exact hw.1
  · exact hw.2.1
  · exact hw.2.2

set_option maxRecDepth 100000 in
set_option maxHeartbeats 4000000 in
theorem readInstr_any (s : ByteArray) (w : World) (hs : s.size ≤ 1048576) (hT : TabsR w) : Calls Tryd.prog 33 #[.string s] w (InstrPost w (readI s.data.toList)) := by
  have HT := Lib.hid hT
  have hW0 : Below w.heap.size w (w.alloc (.cells #[.int .i64 0, .int .i64 0, .int .i64 0, .int .i64 0] 25)) := (Below.refl _ _).alloc (Nat.le_refl _) _
  have HB0 := Lib.hid (box_new w #[.int .i64 0, .int .i64 0, .int .i64 0, .int .i64 0] 25)
  have zal : (w.alloc (.cells #[.int .i64 0, .int .i64 0, .int .i64 0, .int .i64 0] 25)).heap.size = w.heap.size + 1 := by simp
  have HZ := Lib.hid zal
  obtain ⟨m, hm⟩ := (hT.below hW0 (Nat.le_refl _)).2.2.2
  have HP := Lib.hid (implParts_any s m _ hs hm)
  have HW0 := Lib.hid hW0
  have hlen := cutR_length 32 s.data.toList []
  have hmem := cutR_mem 32 s.data.toList []
  rw [show s.data.toList.length = s.size from rfl] at hlen hmem
  obtain ⟨p0, ps, hcut⟩ : ∃ p0 ps, cutR 32 [] s.data.toList = p0 :: ps := by
    cases h : cutR 32 [] s.data.toList with
    | nil => exact absurd h (cutR_ne 32 s.data.toList [])
    | cons x r => exact ⟨x, r, rfl⟩
  have HN0 := Lib.hid (readI_none0 hcut)
  have HF0 := Lib.hid (readI_fields hcut)
  rw [hcut] at HP hlen hmem
  have HMEM := Lib.hid (fun p (hp : p ∈ p0 :: ps) => show p.length ≤ 1048576 by have := hmem p hp; simp only [List.length_nil] at this; omega)
  have hpl : ps.length ≤ 1048576 := by rw [List.length_cons] at hlen; omega
  generalize readI s.data.toList = R at *
  clear hm hW0 zal hT hcut hmem hlen
  go_enter Tryd.func33, Tryd.ntmps33
  go_wp2_with fail
  refine HP.out.mono ?_
  rintro e w1 ⟨A, n, c, rfl, own1, hb1⟩
  have HB1 := Lib.hid (box_keep HB0.out hb1 (lt_of_block HB0.out))
  have hW1 : Below w.heap.size w w1 := HW0.out.trans (hb1.mono HW0.out.size)
  have hn : (p0 :: ps).length = n := by have := own1.len; simpa using this
  have hn0 : n = ps.length + 1 := by rw [← hn]; rfl
  have hcap := own1.cap
  obtain ⟨g, rfl, hg1, hg2, hg3⟩ := own1.form (by omega)
  have cp := own1.cell (j := 0) (u := Tx p0) rfl
  have HOWN := Lib.hid own1
  have HNN := Lib.hid hn0
  have hn1 : 0 < n := by omega
  rw [HZ.out] at hg1
  clear hn hn0 own1 hb1 HP
  go_wp2_with fail
  refine (readOp_any ⟨p0.toArray⟩ _ (HT.out.below hW1 (Nat.le_refl _)).1.2).mono ?_
  rw [show (⟨p0.toArray⟩ : ByteArray).data.toList = p0 from rfl]
  rintro e w2 ⟨hcase, hb2⟩
  have HB2 := Lib.hid (box_keep HB1.out hb2 (lt_of_block HB1.out))
  have hW2 : Below w.heap.size w w2 := hW1.trans (hb2.mono hW1.size)
  have HOWN2 := Lib.hid (HOWN.out.below hb2 (Nat.le_refl _))
  have hl2 := lt_of_block HB2.out
  have z12 := hb2.size
  have x0 := box_cell (j := 0) HB2.out rfl
  have x1 := box_cell (j := 1) HB2.out rfl
  have x2 := box_cell (j := 2) HB2.out rfl
  have x3 := box_cell (j := 3) HB2.out rfl
  have y0 := box_free HB2.out 0
  have y1 := box_free HB2.out 1
  have y2 := box_free HB2.out 2
  have y3 := box_free HB2.out 3
  clear cp HB1
  by_cases hq : opOf p0 = 0
  · rw [if_pos hq] at hcase
    subst hcase
    have hfin := Lib.hid (HN0.out hq)
    clear hq hb2
    go_wp2_with fail
    have X := box_set (j := 3) (u := .int .i64 0) (box_set (j := 2) (u := .int .i64 0) (box_set (j := 1) (u := .int .i64 0) (box_set (j := 0) (u := .int .i64 0) HB2.out)))
    have HBb : Below w.heap.size w ((((w2.setCell ⟨w.heap.size, 0, none⟩ (.int .i64 0)).setCell ⟨w.heap.size, 1, none⟩ (.int .i64 0)).setCell ⟨w.heap.size, 2, none⟩ (.int .i64 0)).setCell ⟨w.heap.size, 3, none⟩ (.int .i64 0)) := below_set (below_set (below_set (below_set hW2 (Nat.le_refl _) _) (Nat.le_refl _) _) (Nat.le_refl _) _) (Nat.le_refl _) _
    generalize ((((w2.setCell ⟨w.heap.size, 0, none⟩ (.int .i64 0)).setCell ⟨w.heap.size, 1, none⟩ (.int .i64 0)).setCell ⟨w.heap.size, 2, none⟩ (.int .i64 0)).setCell ⟨w.heap.size, 3, none⟩ (.int .i64 0)) = WX at X HBb ⊢
    have d0 := box_cell (j := 0) X rfl
    have d1 := box_cell (j := 1) X rfl
    have d2 := box_cell (j := 2) X rfl
    have d3 := box_cell (j := 3) X rfl
    refine bodyPost_ret (v := .tuple #[instrV (0, 0, 0, 0), faultV]) (by simp [results, Tryd.results33, go_sem, d0, d1, d2, d3]) rfl ?_
    exact ⟨HBb, .inl ⟨hfin.out, rfl⟩⟩
  · rw [if_neg hq] at hcase
    subst hcase
    have HF := Lib.hid (HF0.out hq)
    have hop := opOf_op hq
    generalize opOf p0 = op at *
    have HOP := Lib.hid hop
    obtain ⟨_, _, _, _, hk0, hk3⟩ := opWord_words hop
    obtain ⟨q, hqm⟩ : ∃ q : Nat, opField op = q := ⟨(opField op).toNat, by omega⟩
    have hq3 : q ≤ 3 := by omega
    have HQ := Lib.hid hqm
    clear hop hk0 hk3 hqm hq HN0 HF0 hb2
    obtain ⟨A', hA'⟩ : ∃ A', cutA (some ⟨g, 0, none⟩) 1 c = A' := ⟨_, rfl⟩
    have HRUN : ∀ W, (Instr.slice 55 (.slice (some ⟨g, 0, none⟩) n c) (some (.int .i64 1)) none none).run Tryd.prog W = .ok (.slice A' (n - 1) (c - 1)) W := fun W => by
      have := run_cut_l Tryd.underlying55 (fun _ => by kernel_rfl) W (some ⟨g, 0, none⟩) n c 1 (by omega) (by omega)
      rw [show (1 : Int).toNat = 1 from rfl, hA'] at this
      exact this
    have HSEEN := Lib.hid (show Seen w2 w2.heap.size 1 A' (n - 1) (ps.map Tx) by
      have h0 := (HOWN2.out.seen).cut (l := 1) (m := n - 1) (c := c) (by omega) hcap
      rw [hA', List.map_cons, List.drop_succ_cons, List.drop_zero, List.take_of_length_le (by rw [List.length_map]; have := HNN.out; omega)] at h0
      exact h0.more z12)
    have hTd : TabsR w2.drew := HT.out.below (below_drawn hW2 1) (Nat.le_refl _)
    have HN := Lib.hid (show Calls Tryd.prog 30 #[.int .i64 op] w2.drew fun e w' => e = .returned (.slice (some ⟨w2.drew.heap.size, 0, none⟩) q 3) ∧
      w'.heap[w2.drew.heap.size]? = some (.cells #[.int .i64 (namesA op).1, .int .i64 (namesA op).2.1, .int .i64 (namesA op).2.2] 75 (0, 0)) ∧ Below w2.drew.heap.size w2.drew w' by
        have := namesOf_any op HOP.out w2.drew hTd.1.2
        rw [HQ.out, Int.toNat_natCast] at this
        exact this)
    have HRF := Lib.hid (fun (W : World) (hb : Below w2.drew.heap.size w2.drew W) (hx : W.heap[w2.drew.heap.size]? = some (.cells #[.int .i64 (namesA op).1, .int .i64 (namesA op).2.1, .int .i64 (namesA op).2.2] 75 (0, 0))) =>
      readFields_any (w := W) (hi := W.heap.size) (n1 := q) (n2 := n - 1) (c1 := 3) (c2 := c - 1) (A1 := some ⟨w2.drew.heap.size, 0, none⟩) (A2 := A') (ns := namesL op) (ss := ps)
        (seenR_box hx (by rw [namesL_len HOP.out, HQ.out, Int.toNat_natCast]) (lt_of_block hx) (fun i x h => by
          rw [namesL, List.getElem?_take] at h
          split at h
          · match i, h with
            | 0, h => simp at h; subst h; rfl
            | 1, h => simp at h; subst h; rfl
            | 2, h => simp at h; subst h; rfl
            | i + 3, h => simp at h
          · cases h) (namesL_wf HOP.out))
        (((HSEEN.out.below (w' := W) (B := w2.heap.size) ((below_drawn (Below.refl _ w2) 1).trans hb) (Nat.le_refl _))).more hb.size) (Nat.le_refl _) (by omega) (by have := HNN.out; omega) (fun p hp => HMEM.out p (List.mem_cons_of_mem _ hp)) (hTd.below hb (Nat.le_refl _)))
    clear hTd HSEEN x0 x1 x2 x3 y0 y1 y2 y3
    cases hfr : fieldsR (namesL op) ps with
    | none =>
      have hfin := Lib.hid (show R = none by rw [HF.out, hfr]; rfl)
      rw [hfr] at HRF
      have HRG := Lib.hid (fun (W : World) (hb : Below w2.drew.heap.size w2.drew W) (hx : W.heap[w2.drew.heap.size]? = some (.cells #[.int .i64 (namesA op).1, .int .i64 (namesA op).2.1, .int .i64 (namesA op).2.2] 75 (0, 0))) => show Calls Tryd.prog 54 #[.slice (some ⟨w2.drew.heap.size, 0, none⟩) q 3, .slice A' (n - 1) (c - 1)] W fun e w' => e = .returned (.tuple #[.slice none 0 0, faultV]) ∧ Below W.heap.size W w' from (HRF.out W hb hx).mono fun e w' h => by
        rcases h.2 with h1 | ⟨vs, _, _, h1, _⟩
        · exact ⟨h1.2, h.1⟩
        · cases h1)
      clear HRF hfr HF
      go_wp2_with fail
      go_region_with (first
        | (go_at_call 30; refine HN.out.mono ?_; rintro e w9 ⟨rfl, hx9, hb9⟩)
        | (go_at_call 54; refine (HRG.out _ hb9 hx9).mono ?_; rintro e w8 ⟨rfl, hb8⟩))
      all_goals
        have hV8 : Below w2.heap.size w2 w8 := ((below_drawn (Below.refl _ w2) 1).trans hb9).trans (hb8.mono hb9.size)
        have HB8 := Lib.hid (box_keep HB2.out hV8 hl2)
        have hW8 : Below w.heap.size w w8 := hW2.trans (hV8.mono hW2.size)
        have hl8 := lt_of_block HB8.out
        have x0 := box_cell (j := 0) HB8.out rfl
        have x1 := box_cell (j := 1) HB8.out rfl
        have x2 := box_cell (j := 2) HB8.out rfl
        have x3 := box_cell (j := 3) HB8.out rfl
        have y0 := box_free HB8.out 0
        have y1 := box_free HB8.out 1
        have y2 := box_free HB8.out 2
        have y3 := box_free HB8.out 3
        clear hb9 hx9 hb8
        go_wp2_with fail
        have X := (box_set (j := 3) (u := .int .i64 0) (box_set (j := 2) (u := .int .i64 0) (box_set (j := 1) (u := .int .i64 0) (box_set (j := 0) (u := .int .i64 0) HB8.out))))
        have HBb : Below w.heap.size w ((((w8.setCell ⟨w.heap.size, 0, none⟩ (.int .i64 0)).setCell ⟨w.heap.size, 1, none⟩ (.int .i64 0)).setCell ⟨w.heap.size, 2, none⟩ (.int .i64 0)).setCell ⟨w.heap.size, 3, none⟩ (.int .i64 0)) := (below_set (below_set (below_set (below_set hW8 (Nat.le_refl _) _) (Nat.le_refl _) _) (Nat.le_refl _) _) (Nat.le_refl _) _)
        generalize ((((w8.setCell ⟨w.heap.size, 0, none⟩ (.int .i64 0)).setCell ⟨w.heap.size, 1, none⟩ (.int .i64 0)).setCell ⟨w.heap.size, 2, none⟩ (.int .i64 0)).setCell ⟨w.heap.size, 3, none⟩ (.int .i64 0)) = WX at X HBb ⊢
        have d0 := box_cell (j := 0) X rfl
        have d1 := box_cell (j := 1) X rfl
        have d2 := box_cell (j := 2) X rfl
        have d3 := box_cell (j := 3) X rfl
        refine bodyPost_ret (v := .tuple #[instrV (0, 0, 0, 0), faultV]) (by simp [results, Tryd.results33, go_sem, d0, d1, d2, d3]) rfl ?_
        exact ⟨HBb, .inl ⟨hfin.out, rfl⟩⟩
    | some vs =>
      have hvl := (fieldsR_vals hfr).1
      rw [namesL_len HOP.out, HQ.out, Int.toNat_natCast] at hvl
      have hfin := Lib.hid (show R = some (op, fillR vs) by rw [HF.out, hfr]; rfl)
      have hsp := Lib.hid (splice_fill (vs := vs) (by omega))
      rw [hfr] at HRF
      have HRG := Lib.hid (fun (W : World) (hb : Below w2.drew.heap.size w2.drew W) (hx : W.heap[w2.drew.heap.size]? = some (.cells #[.int .i64 (namesA op).1, .int .i64 (namesA op).2.1, .int .i64 (namesA op).2.2] 75 (0, 0))) => show Calls Tryd.prog 54 #[.slice (some ⟨w2.drew.heap.size, 0, none⟩) q 3, .slice A' (n - 1) (c - 1)] W fun e w' => ∃ A c, e = .returned (.tuple #[.slice A (List.length vs) c, .nilIface]) ∧ Own w' W.heap.size w'.heap.size 3 1 A (List.length vs) c (vs.map (Value.int .i64)) ∧ Below W.heap.size W w' from (HRF.out W hb hx).mono fun e w' h => by
        rcases h.2 with h1 | ⟨vs', A, c, h1, h2, h3⟩
        · cases h1.1
        · injection h1 with h1
          subst h1
          exact ⟨A, c, h2, h3, h.1⟩)
      have hv3 : vs.length ≤ 3 := by omega
      clear HRF hfr HF hvl
      go_wp2_with fail
      go_region_with (first
        | (go_at_call 30; refine HN.out.mono ?_; rintro e w9 ⟨rfl, hx9, hb9⟩)
        | (go_at_call 54; refine (HRG.out _ hb9 hx9).mono ?_; rintro e w8 ⟨A7, c7, rfl, own7, hb8⟩))
      all_goals
        have hV8 : Below w2.heap.size w2 w8 := ((below_drawn (Below.refl _ w2) 1).trans hb9).trans (hb8.mono hb9.size)
        have HBx := Lib.hid (box_keep HB2.out hV8 hl2)
        have hWx : Below w.heap.size w w8 := hW2.trans (hV8.mono hW2.size)
        have HX8 := Lib.hid (box_new w8 #[.int .i64 0, .int .i64 0, .int .i64 0] 74)
        have hlx := lt_of_block HBx.out
        have HOW := Lib.hid (own7.alloc (.cells #[.int .i64 0, .int .i64 0, .int .i64 0] 74))
        clear hb9 hx9 hb8 own7
        go_wp2_with (with_reducible refine wpList_copy_splice rfl (.tmp 34) (.tmp 35) 49 49 rfl 3 Tryd.underlying49 (by kernel_rfl) (some ⟨w8.heap.size, 0, none⟩) A7 3 3 vs.length c7 rfl rfl w8.heap.size 0 [.int .i64 0, .int .i64 0, .int .i64 0] 74 HX8.out (vs.map (Value.int .i64)) ?_ ?_ ?_ ?_ w8.heap.size (w8.alloc (.cells #[.int .i64 0, .int .i64 0, .int .i64 0] 74)) (Below.refl _ _) (Nat.le_refl _) ?_)
        · rw [List.length_map]
          exact (Nat.min_eq_left hv3).symm
        · intro hpos
          obtain ⟨g7, hA7, -⟩ := HOW.out.form hpos
          subst hA7
          exact ⟨_, rfl, fun j a h => by rw [add_plain, Nat.zero_add]; exact HOW.out.cell (by rw [List.getElem?_map, h]; rfl)⟩
        · simp
          omega
        · intro v hv
          obtain ⟨x, _, rfl⟩ := List.mem_map.1 hv
          rfl
        · intro w9 HG hB9
          have HX := Lib.hid (show w9.heap[w8.heap.size]? = some (.cells #[.int .i64 (fillR vs).1, .int .i64 (fillR vs).2.1, .int .i64 (fillR vs).2.2] 74 (0, 0)) by have h9 := HG.out; rw [hsp.out] at h9; exact h9)
          have HB9 := Lib.hid (box_keep HBx.out (((Below.refl _ _).alloc (Nat.le_refl _) _).trans hB9) hlx)
          have hW9 : Below w.heap.size w w9 := (hWx.alloc hWx.size _).trans (hB9.mono hWx.size)
          have q0 := box_cell (j := 0) HX.out rfl
          have q1 := box_cell (j := 1) HX.out rfl
          have q2 := box_cell (j := 2) HX.out rfl
          have x0 := box_cell (j := 0) HB9.out rfl
          have x1 := box_cell (j := 1) HB9.out rfl
          have x2 := box_cell (j := 2) HB9.out rfl
          have x3 := box_cell (j := 3) HB9.out rfl
          have y0 := box_free HB9.out 0
          have y1 := box_free HB9.out 1
          have y2 := box_free HB9.out 2
          have y3 := box_free HB9.out 3
          clear HG hB9 hsp
          generalize fillR vs = fv at *
          obtain ⟨f0, f1, f2⟩ := fv
          simp only at q0 q1 q2
          go_wp2_with fail
          have X := (box_set (j := 3) (u := .int .i64 f2) (box_set (j := 2) (u := .int .i64 f1) (box_set (j := 1) (u := .int .i64 f0) (box_set (j := 0) (u := .int .i64 op) HB9.out))))
          have HBb : Below w.heap.size w ((((w9.setCell ⟨w.heap.size, 0, none⟩ (.int .i64 op)).setCell ⟨w.heap.size, 1, none⟩ (.int .i64 f0)).setCell ⟨w.heap.size, 2, none⟩ (.int .i64 f1)).setCell ⟨w.heap.size, 3, none⟩ (.int .i64 f2)) := (below_set (below_set (below_set (below_set hW9 (Nat.le_refl _) _) (Nat.le_refl _) _) (Nat.le_refl _) _) (Nat.le_refl _) _)
          generalize ((((w9.setCell ⟨w.heap.size, 0, none⟩ (.int .i64 op)).setCell ⟨w.heap.size, 1, none⟩ (.int .i64 f0)).setCell ⟨w.heap.size, 2, none⟩ (.int .i64 f1)).setCell ⟨w.heap.size, 3, none⟩ (.int .i64 f2)) = WX at X HBb ⊢
          have d0 := box_cell (j := 0) X rfl
          have d1 := box_cell (j := 1) X rfl
          have d2 := box_cell (j := 2) X rfl
          have d3 := box_cell (j := 3) X rfl
          refine bodyPost_ret (v := .tuple #[instrV (op, f0, f1, f2), .nilIface]) (by simp [results, Tryd.results33, go_sem, d0, d1, d2, d3]) rfl ?_
          exact ⟨HBb, .inr ⟨(op, f0, f1, f2), hfin.out, rfl⟩⟩

set_option maxRecDepth 100000 in
set_option maxHeartbeats 2000000 in
theorem implTextInstr_any (s : ByteArray) (w : World) (hs : s.size ≤ 1048576) (hT : TabsR w) :
    Calls Tryd.prog 11 #[.string s] w fun e w' => e = instrBool (textInstr s.data.toList) ∧ Below w.heap.size w w' := by
  have hW0 : Below w.heap.size w (w.alloc (.cells #[.int .i64 0, .int .i64 0, .int .i64 0, .int .i64 0] 25)) := (Below.refl _ _).alloc (Nat.le_refl _) _
  have HB0 := Lib.hid (box_new w #[.int .i64 0, .int .i64 0, .int .i64 0, .int .i64 0] 25)
  have HR := Lib.hid (textInstr_read s.data.toList)
  have HC := Lib.hid (readInstr_any s _ hs (hT.below hW0 (Nat.le_refl _)))
  have HW0 := Lib.hid hW0
  generalize textInstr s.data.toList = tt at *
  generalize readI s.data.toList = R at *
  clear hT hW0
  go_enter Tryd.func11, Tryd.ntmps11
  go_wp2_with fail
  refine HC.out.mono ?_
  rintro e w1 ⟨hb1, hcase⟩
  rcases hcase with ⟨hr, rfl⟩ | ⟨⟨op, a, b, c⟩, hr, rfl⟩
  · have hfin := Lib.hid (show tt = ((0, 0, 0, 0), false) by rw [HR.out, hr])
    clear hr HR
    have HB1 := Lib.hid (box_keep HB0.out hb1 (lt_of_block HB0.out))
    have hW1 : Below w.heap.size w w1 := HW0.out.trans (hb1.mono HW0.out.size)
    have HW2 : Below w.heap.size w (w1.alloc (.cells #[.int .i64 0, .int .i64 0, .int .i64 0, .int .i64 0] 25)) := hW1.alloc hW1.size _
    have HB2 := Lib.hid (box_keep (w' := w1.alloc (.cells #[.int .i64 0, .int .i64 0, .int .i64 0, .int .i64 0] 25)) HB1.out ((Below.refl _ _).alloc (Nat.le_refl _) _) (lt_of_block HB1.out))
    have hl1 := lt_of_block HB1.out
    have x0 := box_cell (j := 0) HB1.out rfl
    have x1 := box_cell (j := 1) HB1.out rfl
    have x2 := box_cell (j := 2) HB1.out rfl
    have x3 := box_cell (j := 3) HB1.out rfl
    have y0 := box_free HB1.out 0
    have y1 := box_free HB1.out 1
    have y2 := box_free HB1.out 2
    have y3 := box_free HB1.out 3
    clear hb1
    go_wp2_with fail
    go_region
    have X := (box_set (j := 3) (u := .int .i64 0) (box_set (j := 2) (u := .int .i64 0) (box_set (j := 1) (u := .int .i64 0) (box_set (j := 0) (u := .int .i64 0) HB1.out))))
    have HBb : Below w.heap.size w ((((w1.setCell ⟨w.heap.size, 0, none⟩ (.int .i64 0)).setCell ⟨w.heap.size, 1, none⟩ (.int .i64 0)).setCell ⟨w.heap.size, 2, none⟩ (.int .i64 0)).setCell ⟨w.heap.size, 3, none⟩ (.int .i64 0)) := (below_set (below_set (below_set (below_set hW1 (Nat.le_refl _) _) (Nat.le_refl _) _) (Nat.le_refl _) _) (Nat.le_refl _) _)
    generalize ((((w1.setCell ⟨w.heap.size, 0, none⟩ (.int .i64 0)).setCell ⟨w.heap.size, 1, none⟩ (.int .i64 0)).setCell ⟨w.heap.size, 2, none⟩ (.int .i64 0)).setCell ⟨w.heap.size, 3, none⟩ (.int .i64 0)) = WX at X HBb ⊢
    have hlx := lt_of_block X
    have Y : (WX.alloc (.cells #[.int .i64 0, .int .i64 0, .int .i64 0, .int .i64 0] 25)).drew.heap[w.heap.size]? = some (.cells #[.int .i64 0, .int .i64 0, .int .i64 0, .int .i64 0] 25 (0, 0)) := box_keep (w' := WX.alloc (.cells #[.int .i64 0, .int .i64 0, .int .i64 0, .int .i64 0] 25)) X ((Below.refl _ _).alloc (Nat.le_refl _) _) hlx
    have HBc : Below w.heap.size w (WX.alloc (.cells #[.int .i64 0, .int .i64 0, .int .i64 0, .int .i64 0] 25)).drew := below_drawn (HBb.alloc HBb.size _) 1
    generalize (WX.alloc (.cells #[.int .i64 0, .int .i64 0, .int .i64 0, .int .i64 0] 25)).drew = WY at Y HBc ⊢
    clear x0 x1 x2 x3 y0 y1 y2 y3
    have d0 := box_cell (j := 0) Y rfl
    have d1 := box_cell (j := 1) Y rfl
    have d2 := box_cell (j := 2) Y rfl
    have d3 := box_cell (j := 3) Y rfl
    go_wp2_with fail
    refine bodyPost_ret (v := .tuple #[instrV (0, 0, 0, 0), .bool false]) (by simp [results, Tryd.results11, go_sem, d0, d1, d2, d3]) rfl ?_
    exact ⟨by rw [hfin.out], HBc⟩
  · have hfin := Lib.hid (show tt = ((op, a, b, c), true) by rw [HR.out, hr])
    clear hr HR
    have HB1 := Lib.hid (box_keep HB0.out hb1 (lt_of_block HB0.out))
    have hW1 : Below w.heap.size w w1 := HW0.out.trans (hb1.mono HW0.out.size)
    have HW2 : Below w.heap.size w (w1.alloc (.cells #[.int .i64 op, .int .i64 a, .int .i64 b, .int .i64 c] 25)) := hW1.alloc hW1.size _
    have HB2 := Lib.hid (box_keep (w' := w1.alloc (.cells #[.int .i64 op, .int .i64 a, .int .i64 b, .int .i64 c] 25)) HB1.out ((Below.refl _ _).alloc (Nat.le_refl _) _) (lt_of_block HB1.out))
    have hl1 := lt_of_block HB1.out
    have x0 := box_cell (j := 0) HB1.out rfl
    have x1 := box_cell (j := 1) HB1.out rfl
    have x2 := box_cell (j := 2) HB1.out rfl
    have x3 := box_cell (j := 3) HB1.out rfl
    have y0 := box_free HB1.out 0
    have y1 := box_free HB1.out 1
    have y2 := box_free HB1.out 2
    have y3 := box_free HB1.out 3
    clear hb1
    go_wp2_with fail
    go_region
    have X := (box_set (j := 3) (u := .int .i64 c) (box_set (j := 2) (u := .int .i64 b) (box_set (j := 1) (u := .int .i64 a) (box_set (j := 0) (u := .int .i64 op) HB1.out))))
    have HBb : Below w.heap.size w ((((w1.setCell ⟨w.heap.size, 0, none⟩ (.int .i64 op)).setCell ⟨w.heap.size, 1, none⟩ (.int .i64 a)).setCell ⟨w.heap.size, 2, none⟩ (.int .i64 b)).setCell ⟨w.heap.size, 3, none⟩ (.int .i64 c)) := (below_set (below_set (below_set (below_set hW1 (Nat.le_refl _) _) (Nat.le_refl _) _) (Nat.le_refl _) _) (Nat.le_refl _) _)
    generalize ((((w1.setCell ⟨w.heap.size, 0, none⟩ (.int .i64 op)).setCell ⟨w.heap.size, 1, none⟩ (.int .i64 a)).setCell ⟨w.heap.size, 2, none⟩ (.int .i64 b)).setCell ⟨w.heap.size, 3, none⟩ (.int .i64 c)) = WX at X HBb ⊢
    have hlx := lt_of_block X
    have Y : (WX.alloc (.cells #[.int .i64 op, .int .i64 a, .int .i64 b, .int .i64 c] 25)).drew.heap[w.heap.size]? = some (.cells #[.int .i64 op, .int .i64 a, .int .i64 b, .int .i64 c] 25 (0, 0)) := box_keep (w' := WX.alloc (.cells #[.int .i64 op, .int .i64 a, .int .i64 b, .int .i64 c] 25)) X ((Below.refl _ _).alloc (Nat.le_refl _) _) hlx
    have HBc : Below w.heap.size w (WX.alloc (.cells #[.int .i64 op, .int .i64 a, .int .i64 b, .int .i64 c] 25)).drew := below_drawn (HBb.alloc HBb.size _) 1
    generalize (WX.alloc (.cells #[.int .i64 op, .int .i64 a, .int .i64 b, .int .i64 c] 25)).drew = WY at Y HBc ⊢
    clear x0 x1 x2 x3 y0 y1 y2 y3
    have d0 := box_cell (j := 0) Y rfl
    have d1 := box_cell (j := 1) Y rfl
    have d2 := box_cell (j := 2) Y rfl
    have d3 := box_cell (j := 3) Y rfl
    go_wp2_with fail
    refine bodyPost_ret (v := .tuple #[instrV (op, a, b, c), .bool true]) (by simp [results, Tryd.results11, go_sem, d0, d1, d2, d3]) rfl ?_
    exact ⟨by rw [hfin.out], HBc⟩
end Go.Proofs.YtllkbikhclfgpaaDoor
