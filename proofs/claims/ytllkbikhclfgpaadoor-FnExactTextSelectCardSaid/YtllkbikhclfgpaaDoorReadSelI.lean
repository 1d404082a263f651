
/- The contracts of the program's readElse, readSelect and TextSelect. -/

import Derived.Test.YtllkbikhclfgpaaDoorReadCaseI

import Derived.Test.YtllkbikhclfgpaaDoorSelOwn

namespace Go.Proofs.YtllkbikhclfgpaaDoor
set_option linter.unusedSimpArgs false
set_option linter.unusedVariables false
open Go.RowKit

set_option maxHeartbeats 1000000 in
theorem readElse_any (s : ByteArray) (w : World) (hs : s.size ≤ 1048576) (hT : TabsR w) :
    Calls Tryd.prog 63 #[.string s] w (NumPost w (readE s.data.toList)) := by
  cases hb : (s.data.toList == dashW)
  · rw [show readE s.data.toList = textNum s.data.toList by rw [readE, if_neg (by rw [hb]; simp)]]
    have hn : (s.toList == [45]) = false := by rw [toList_data]; exact hb
    have HY := Lib.hid (fun h => readNum_yes s w hs hT h)
    have HN := Lib.hid (fun h => readNum_no s w hs hT h)
    unfold NumPost
    generalize textNum s.data.toList = r at *
    obtain ⟨z, ok⟩ := r
    clear hT hb
    cases ok
    · have HX := Lib.hid (HN.out rfl)
      clear HY HN
      go_enter Tryd.func63, Tryd.ntmps63
      go_wp2_with fail
      refine HX.out.mono ?_
      rintro e w1 ⟨rfl, hb1⟩
      go_wp2_with fail
      go_ret2
      exact ⟨rfl, hb1⟩
    · have HX := Lib.hid (HY.out rfl)
      clear HY HN
      go_enter Tryd.func63, Tryd.ntmps63
      go_wp2_with fail
      refine HX.out.mono ?_
      rintro e w1 ⟨rfl, hb1⟩
      go_wp2_with fail
      go_ret2
      exact ⟨rfl, hb1⟩
  · rw [show readE s.data.toList = (-1, true) by rw [readE, if_pos hb]]
    have hn : (s.toList == [45]) = true := by rw [toList_data]; exact hb
    unfold NumPost
    clear hb hT
    go_enter Tryd.func63, Tryd.ntmps63
    go_wp2_with fail
    go_ret2
    exact ⟨rfl, Below.refl _ _⟩

def SelIPost (w : World) (r : Option DSelect) (e : Ending) (w' : World) : Prop :=
  Below w.heap.size w w' ∧ ((r = none ∧ e = .returned (.tuple #[.agg #[.slice none 0 0, .int .i64 0], faultV])) ∨ ∃ x vs, r = some x ∧ e = .returned (.tuple #[.agg vs.toArray, .nilIface]) ∧ laySelect.own w' (fun g => w.heap.size ≤ g ∧ g < w'.heap.size) x vs)

set_option maxRecDepth 100000 in
set_option maxHeartbeats 4000000 in
theorem readSelect_any (s : ByteArray) (w : World) (hs : s.size ≤ 1048576) (hT : TabsR w) :
    Calls Tryd.prog 43 #[.string s] w (SelIPost w (readSel s.data.toList)) := by
  obtain ⟨k0, hk0, hkz0, hkz1, hkz2⟩ := info_parts infoCase
  have HT := Lib.hid hT
  have hW0 : Below w.heap.size w (w.alloc (.cells #[.slice none 0 0, .int .i64 0] 39)) := (Below.refl _ _).alloc (Nat.le_refl _) _
  have HB0 := Lib.hid (box_new w #[.slice none 0 0, .int .i64 0] 39)
  have HZ := Lib.hid (show (w.alloc (.cells #[.slice none 0 0, .int .i64 0] 39)).heap.size = w.heap.size + 1 by simp)
  obtain ⟨m, hm⟩ := (hT.below hW0 (Nat.le_refl _)).2.2.2
  have HP := Lib.hid (implParts_any s m _ hs hm)
  have HW0 := Lib.hid hW0
  have hlen := cutR_length 32 s.data.toList []
  have hmem := cutR_mem 32 s.data.toList []
  rw [show s.data.toList.length = s.size from rfl] at hlen hmem
  have HRS := Lib.hid (show readSel s.data.toList = match cutR 32 [] s.data.toList with | w0 :: e :: r => if w0 = selW then (if (readE e).2 then (allC r).map fun cs => ⟨cs, (readE e).1⟩ else none) else none | _ => none from rfl)
  generalize cutR 32 [] s.data.toList = P at *
  generalize readSel s.data.toList = R at *
  have HMEM := Lib.hid (fun p (hp : p ∈ P) => show p.length ≤ 1048576 by have := hmem p hp; simp only [List.length_nil] at this; omega)
  clear hm hW0 hT hmem
  go_enter Tryd.func43, Tryd.ntmps43
  go_wp2_with fail
  refine HP.out.mono ?_
  rintro e w1 ⟨A, n, c, rfl, own1, hb1⟩
  have HB1 := Lib.hid (box_keep HB0.out hb1 (lt_of_block HB0.out))
  have hW1 : Below w.heap.size w w1 := HW0.out.trans (hb1.mono HW0.out.size)
  have hn := own1.len
  rw [List.length_map] at hn
  have HN := Lib.hid hn
  have hnl : n ≤ 1048577 := by omega
  have hl1 := lt_of_block HB1.out
  have hcap := own1.cap
  have x0 := box_cell (j := 0) HB1.out rfl
  have x1 := box_cell (j := 1) HB1.out rfl
  have y0 := box_free HB1.out 0
  have y1 := box_free HB1.out 1
  by_cases h2 : n < 2
  · have hfin := Lib.hid (show R = none by
      rw [HRS.out]
      match P, hn with
      | [], _ => rfl
      | [x], _ => rfl
      | x :: y :: r, hn => exact absurd hn (by simp only [List.length_cons]; omega))
    have hd2 : decide ((n : Int) < 2) = true := decide_eq_true (by omega)
    clear hn hb1 own1 HP hlen HRS
    go_wp2_with fail
    have X := (box_set (j := 1) (u := .int .i64 0) (box_set (j := 0) (u := .slice none 0 0) HB1.out))
    have HBb : Below w.heap.size w ((w1.setCell ⟨w.heap.size, 0, none⟩ (.slice none 0 0)).setCell ⟨w.heap.size, 1, none⟩ (.int .i64 0)) := (below_set (below_set hW1 (Nat.le_refl _) _) (Nat.le_refl _) _)
    generalize ((w1.setCell ⟨w.heap.size, 0, none⟩ (.slice none 0 0)).setCell ⟨w.heap.size, 1, none⟩ (.int .i64 0)) = WX at X HBb ⊢
    have d0 := box_cell (j := 0) X rfl
    have d1 := box_cell (j := 1) X rfl
    refine bodyPost_ret (v := .tuple #[.agg #[.slice none 0 0, .int .i64 0], faultV]) (by simp [results, Tryd.results43, go_sem, d0, d1]) rfl ?_
    exact ⟨HBb, .inl ⟨hfin.out, rfl⟩⟩
  · obtain ⟨g, rfl, hg1, hg2, hg3⟩ := own1.form (by omega)
    obtain ⟨p0, p1, ps, rfl⟩ : ∃ p0 p1 ps, P = p0 :: p1 :: ps := by
      match P, hn with
      | [], hn => exact absurd hn (by simp only [List.length_nil]; omega)
      | [x], hn => exact absurd hn (by simp only [List.length_cons, List.length_nil]; omega)
      | x :: y :: r, hn => exact ⟨x, y, r, rfl⟩
    have cp0 := own1.cell (j := 0) (u := Tx p0) rfl
    have cp1 := own1.cell (j := 1) (u := Tx p1) rfl
    have HPL := Lib.hid (show ps.length = n - 2 by simp at hn; omega)
    rw [HZ.out] at hg1
    have hn2 : 2 ≤ n := by omega
    have hn1 : 0 < n := by omega
    have hd2 : decide ((n : Int) < 2) = false := decide_eq_false (by omega)
    have HRS2 := Lib.hid (show R = if p0 = selW then (if (readE p1).2 then (allC ps).map fun cs => (⟨cs, (readE p1).1⟩ : DSelect) else none) else none from HRS.out)
    clear hn HP HRS hb1 hlen
    by_cases hh : p0 = selW
    · have hsel : (p0 == [115, 101, 108, 101, 99, 116]) = true := by rw [hh]; decide
      have hsel2 : (p0 != [115, 101, 108, 101, 99, 116]) = false := by rw [hh]; decide
      have HRS3 := Lib.hid (show R = if (readE p1).2 then (allC ps).map fun cs => (⟨cs, (readE p1).1⟩ : DSelect) else none by rw [HRS2.out, if_pos hh])
      have HE := Lib.hid (show Calls Tryd.prog 63 #[Tx p1] w1 (NumPost w1 (readE p1)) from readElse_any ⟨p1.toArray⟩ w1 (by rw [size_list]; exact HMEM.out p1 (by simp)) (HT.out.below hW1 (Nat.le_refl _)))
      have HEW := Lib.hid (readE_wf p1)
      generalize readE p1 = rr at *
      obtain ⟨el, ok⟩ := rr
      clear hh HRS2
      cases ok
      · have hfin := Lib.hid (show R = none by rw [HRS3.out]; rfl)
        have HEX := Lib.hid (show Calls Tryd.prog 63 #[Tx p1] w1 fun e w' => e = .returned (.tuple #[.int .i64 0, faultV]) ∧ Below w1.heap.size w1 w' from HE.out)
        clear HE HRS3 own1
        go_wp2_with fail
        refine HEX.out.mono ?_
        rintro e w2 ⟨rfl, hb2⟩
        have HB2 := Lib.hid (box_keep HB1.out hb2 hl1)
        have hW2 : Below w.heap.size w w2 := hW1.trans (hb2.mono hW1.size)
        have hl2 := lt_of_block HB2.out
        clear hb2 x0 x1 y0 y1 cp0 cp1
        have x0 := box_cell (j := 0) HB2.out rfl
        have x1 := box_cell (j := 1) HB2.out rfl
        have y0 := box_free HB2.out 0
        have y1 := box_free HB2.out 1
        go_wp2_with fail
        have X := (box_set (j := 1) (u := .int .i64 0) (box_set (j := 0) (u := .slice none 0 0) HB2.out))
        have HBb : Below w.heap.size w ((w2.setCell ⟨w.heap.size, 0, none⟩ (.slice none 0 0)).setCell ⟨w.heap.size, 1, none⟩ (.int .i64 0)) := (below_set (below_set hW2 (Nat.le_refl _) _) (Nat.le_refl _) _)
        generalize ((w2.setCell ⟨w.heap.size, 0, none⟩ (.slice none 0 0)).setCell ⟨w.heap.size, 1, none⟩ (.int .i64 0)) = WX at X HBb ⊢
        have d0 := box_cell (j := 0) X rfl
        have d1 := box_cell (j := 1) X rfl
        refine bodyPost_ret (v := .tuple #[.agg #[.slice none 0 0, .int .i64 0], faultV]) (by simp [results, Tryd.results43, go_sem, d0, d1]) rfl ?_
        exact ⟨HBb, .inl ⟨hfin.out, rfl⟩⟩
      · have HRS4 := Lib.hid (show R = (allC ps).map fun cs => (⟨cs, el⟩ : DSelect) by rw [HRS3.out]; rfl)
        have HEX := Lib.hid (show Calls Tryd.prog 63 #[Tx p1] w1 fun e w' => e = .returned (.tuple #[.int .i64 el, .nilIface]) ∧ Below w1.heap.size w1 w' from HE.out)
        have HOWN := Lib.hid own1
        obtain ⟨A', hA'⟩ : ∃ A', cutA (some ⟨g, 0, none⟩) 2 c = A' := ⟨_, rfl⟩
        have HRUN : ∀ W, (Instr.slice 55 (.slice (some ⟨g, 0, none⟩) n c) (some (.int .i64 2)) none none).run Tryd.prog W = .ok (.slice A' (n - 2) (c - 2)) W := fun W => by
          have := run_cut_l Tryd.underlying55 (fun _ => by kernel_rfl) W (some ⟨g, 0, none⟩) n c 2 (by omega) (by omega)
          rw [show (2 : Int).toNat = 2 from rfl, hA'] at this
          exact this
        have HSEEN := Lib.hid (show Seen w1 w1.heap.size 1 A' (n - 2) (ps.map Tx) by
          have h0 := (HOWN.out.seen).cut (l := 2) (m := n - 2) (c := c) (by omega) hcap
          rw [hA', List.map_cons, List.map_cons, List.drop_succ_cons, List.drop_succ_cons, List.drop_zero, List.take_of_length_le (by rw [List.length_map]; have := HPL.out; omega)] at h0
          exact h0)
        clear HE HRS3 own1 hA'
        go_wp2_with fail
        refine HEX.out.mono ?_
        rintro e w2 ⟨rfl, hb2⟩
        have hbx := Lib.hid (box_new w2 #[.slice none 0 0, .int .i64 el] 39)
        have HW2 := Lib.hid (show Below w1.heap.size w1 (w2.alloc (.cells #[.slice none 0 0, .int .i64 el] 39)) from hb2.alloc hb2.size _)
        have hzz : w1.heap.size ≤ w2.heap.size := hb2.size
        clear hb2 x0 x1 y0 y1 cp0 cp1
        go_wp2_with fail
        go_loopw [42] (fun i wr => ∃ (j : Nat) (A7 : Option Addr) (c7 : Nat) (done : List DCase), j ≤ n - 2 ∧ i = .int .i64 (j : Int) ∧ Hid (allC (ps.take j) = some done) ∧ Hid (done.length = j) ∧ Hid (∀ x ∈ done, caseWf x) ∧ Hid (wr.heap[w2.heap.size]? = some (.cells #[.slice A7 j c7, .int .i64 el] 39 (0, 0))) ∧
          Own wr (w2.heap.size + 1) wr.heap.size 64 5 A7 j c7 ((done.map caseCells).flatten) ∧ Below w2.heap.size (w2.alloc (.cells #[.slice none 0 0, .int .i64 el] 39)) wr) (fun i _ => n - 2 - (intOf i).toNat)
        case atStart => exact ⟨0, none, 0, [], Nat.zero_le _, rfl, Lib.hid rfl, Lib.hid rfl, Lib.hid (fun x h => by cases h), hbx, Own.nil_ _ _ _ _ _, Below.refl _ _⟩
        case round =>
          obtain ⟨j, A7, c7, done, hj, rfl, HD, HDL, HDW, HX, hown, hb⟩ := hrel
          have hBB : Below w1.heap.size w1 wr := HW2.out.trans (hb.mono hzz)
          have hxl := lt_of_block HX.out
          have hWr : Below w.heap.size w wr := hW1.trans (hBB.mono hW1.size)
          have HBr := Lib.hid (box_keep HB1.out hBB hl1)
          have hlr := lt_of_block HBr.out
          by_cases hlt : j < n - 2
          · obtain ⟨g2, o2, u, rfl, hg2, hu, cc2⟩ := (HSEEN.out.below hBB (Nat.le_refl _)).at_ (j := j) (by rw [Nat.mul_one]; exact hlt)
            rw [List.getElem?_map] at hu
            obtain ⟨t, ht, rfl⟩ := Option.map_eq_some_iff.1 hu
            have HTJ := Lib.hid (show ps.take (j + 1) = ps.take j ++ [t] by rw [List.take_add_one, ht]; rfl)
            have HBAD := Lib.hid (fun h => allC_bad ps j t ht h)
            have HC := Lib.hid (show Calls Tryd.prog 64 #[Tx t] wr (CasePost wr (readC t)) from readCase_any ⟨t.toArray⟩ wr (by rw [size_list]; exact HMEM.out t (List.mem_cons_of_mem _ (List.mem_cons_of_mem _ (List.mem_of_getElem? ht)))) (HT.out.below hWr (Nat.le_refl _)))
            have HSN := Lib.hid (fun (c : DCase) (h : readC t = some c) => allC_snoc t (ps.take j) done c HD.out h)
            have HWF := Lib.hid (fun (c : DCase) (h : readC t = some c) => readC_wf h)
            generalize readC t = rc at *
            clear hu ht
            cases rc with
            | none =>
              have hfin := Lib.hid (show R = none by rw [HRS4.out, HBAD.out rfl]; rfl)
              have HCX := Lib.hid (show Calls Tryd.prog 64 #[Tx t] wr fun e w' => e = .returned (.tuple #[.agg #[.bool false, .int .i64 0, .int .i64 0, .int .i64 0, .int .i64 0], faultV]) ∧ Below wr.heap.size wr w' from HC.out.mono fun e w' h => by
                rcases h.2 with h1 | ⟨c, h1, _⟩
                · exact ⟨h1.2, h.1⟩
                · cases h1)
              clear HC HSN HWF HBAD hown
              go_wp2_with fail
              refine HCX.out.mono ?_
              rintro e w5 ⟨rfl, hb5⟩
              have HB5 := Lib.hid (box_keep (w' := w5.alloc (.cells #[.bool false, .int .i64 0, .int .i64 0, .int .i64 0, .int .i64 0] 64)) HBr.out (hb5.alloc hb5.size _) hlr)
              have hW5 : Below w.heap.size w (w5.alloc (.cells #[.bool false, .int .i64 0, .int .i64 0, .int .i64 0, .int .i64 0] 64)) := hWr.trans ((hb5.alloc hb5.size _).mono hWr.size)
              have hl5 : w.heap.size < w5.heap.size := Nat.lt_of_lt_of_le hlr hb5.size
              have HQ5 := Lib.hid (box_keep HBr.out hb5 hlr)
              have x0 := box_cell (j := 0) HQ5.out rfl
              have x1 := box_cell (j := 1) HQ5.out rfl
              have y0 := box_free HQ5.out 0
              have y1 := box_free HQ5.out 1
              have hWq : Below w.heap.size w w5 := hWr.trans (hb5.mono hWr.size)
              clear hb5 cc2
              go_wp2_with fail
              have X0 := box_set (j := 1) (u := .int .i64 0) (box_set (j := 0) (u := .slice none 0 0) HQ5.out)
              have HBb : Below w.heap.size w ((w5.setCell ⟨w.heap.size, 0, none⟩ (.slice none 0 0)).setCell ⟨w.heap.size, 1, none⟩ (.int .i64 0)) := below_set (below_set hWq (Nat.le_refl _) _) (Nat.le_refl _) _
              generalize ((w5.setCell ⟨w.heap.size, 0, none⟩ (.slice none 0 0)).setCell ⟨w.heap.size, 1, none⟩ (.int .i64 0)) = WX at X0 HBb ⊢
              have X := box_keep (w' := WX.alloc (.cells #[.bool false, .int .i64 0, .int .i64 0, .int .i64 0, .int .i64 0] 64)) X0 ((Below.refl _ _).alloc (Nat.le_refl _) _) (lt_of_block X0)
              have HBc : Below w.heap.size w (WX.alloc (.cells #[.bool false, .int .i64 0, .int .i64 0, .int .i64 0, .int .i64 0] 64)) := HBb.alloc HBb.size _
              generalize WX.alloc (.cells #[.bool false, .int .i64 0, .int .i64 0, .int .i64 0, .int .i64 0] 64) = WY at X HBc ⊢
              have d0 := box_cell (j := 0) X rfl
              have d1 := box_cell (j := 1) X rfl
              refine bodyPost_ret (v := .tuple #[.agg #[.slice none 0 0, .int .i64 0], faultV]) (by simp [results, Tryd.results43, go_sem, d0, d1]) rfl ?_
              exact ⟨HBc, .inl ⟨hfin.out, rfl⟩⟩
            | some cv =>
              obtain ⟨cs, cc, cr, co, ct⟩ := cv
              have HCX := Lib.hid (show Calls Tryd.prog 64 #[Tx t] wr fun e w' => e = .returned (.tuple #[.agg #[.bool cs, .int .i64 cc, .int .i64 cr, .int .i64 co, .int .i64 ct], .nilIface]) ∧ Below wr.heap.size wr w' from HC.out.mono fun e w' h => by
                rcases h.2 with h1 | ⟨c, h1, h2⟩
                · cases h1.1
                · injection h1 with h1
                  subst h1
                  exact ⟨h2, h.1⟩)
              have HS1 := Lib.hid (HSN.out _ rfl)
              have HW1 := Lib.hid (HWF.out _ rfl)
              clear HC HSN HWF HBAD
              go_wp2_with fail
              refine HCX.out.mono ?_
              rintro e w5 ⟨rfl, hb5⟩
              have hQ5 := box_keep HX.out hb5 hxl
              have hl5 := lt_of_block hQ5
              have q0 := box_cell (j := 0) hQ5 rfl
              have f0 := box_free hQ5 0
              have hown5 := ((hown.below hb5 (Nat.le_refl _)).alloc (.cells #[.bool cs, .int .i64 cc, .int .i64 cr, .int .i64 co, .int .i64 ct] 64)).alloc (.cells #[.bool cs, .int .i64 cc, .int .i64 cr, .int .i64 co, .int .i64 ct] 64)
              have HV5 := Lib.hid (show Below wr.heap.size wr ((w5.alloc (.cells #[.bool cs, .int .i64 cc, .int .i64 cr, .int .i64 co, .int .i64 ct] 64)).alloc (.cells #[.bool cs, .int .i64 cc, .int .i64 cr, .int .i64 co, .int .i64 ct] 64)) from (hb5.alloc hb5.size _).alloc (Nat.le_trans hb5.size (by simp)) _)
              have zb : w2.heap.size + 1 ≤ ((w5.alloc (.cells #[.bool cs, .int .i64 cc, .int .i64 cr, .int .i64 co, .int .i64 ct] 64)).alloc (.cells #[.bool cs, .int .i64 cc, .int .i64 cr, .int .i64 co, .int .i64 ct] 64)).heap.size := by simp; omega
              have hx5 := box_keep (w' := (w5.alloc (.cells #[.bool cs, .int .i64 cc, .int .i64 cr, .int .i64 co, .int .i64 ct] 64)).alloc (.cells #[.bool cs, .int .i64 cc, .int .i64 cr, .int .i64 co, .int .i64 ct] 64)) hQ5 (((Below.refl _ _).alloc (Nat.le_refl _) _).alloc (by simp) _) hl5
              have hs5 : Seen ((w5.alloc (.cells #[.bool cs, .int .i64 cc, .int .i64 cr, .int .i64 co, .int .i64 ct] 64)).alloc (.cells #[.bool cs, .int .i64 cc, .int .i64 cr, .int .i64 co, .int .i64 ct] 64)) (w5.heap.size + 2) 5 (some ⟨w5.heap.size + 1, 0, none⟩) 1 [.bool cs, .int .i64 cc, .int .i64 cr, .int .i64 co, .int .i64 ct] := by
                have h0 := seen_five (w5.alloc (.cells #[.bool cs, .int .i64 cc, .int .i64 cr, .int .i64 co, .int .i64 ct] 64)) (.bool cs) (.int .i64 cc) (.int .i64 cr) (.int .i64 co) (.int .i64 ct) 64
                rw [show (w5.alloc (.cells #[.bool cs, .int .i64 cc, .int .i64 cr, .int .i64 co, .int .i64 ct] 64)).heap.size = w5.heap.size + 1 by simp] at h0
                exact h0
              clear hb5 cc2 hown
              go_wp2_with (at_builtin; refine wpList_append_seen rfl (.tmp 56) (.tmp 58) _ rfl (w2.heap.size + 1) _ 64 k0 _ 5 40 Tryd.underlying37 hk0 hkz0 hkz1 hkz2 rfl (by omega) A7 j c7 _ rfl hown5 _ _ 1 1 _ rfl hs5 (by simp [Value.oneCell']) (by simp only [maxLen]; omega) (by omega) zb ?_; intro A8 c8 w13 own8 hb8; have hx13 := box_keep hx5 hb8 (Nat.lt_succ_self _); have xr0 := box_cell (j := 0) hx13 rfl; have xf0 := box_free hx13 0)
              have hV13 : Below w2.heap.size (w2.alloc (.cells #[.slice none 0 0, .int .i64 el] 39)) w13 := hb.trans ((HV5.out.mono (Nat.le_of_lt hxl)).trans (hb8.mono (Nat.le_succ _)))
              go_roundw
              case rel =>
                refine ⟨j + 1, A8, c8, done ++ [⟨cs, cc, cr, co, ct⟩], by omega, by go_num, Lib.hid (by rw [HTJ.out]; exact HS1.out), Lib.hid (by rw [List.length_append, HDL.out]; rfl), Lib.hid ?_, Lib.hid (box_set (j := 0) (u := .slice A8 (j + 1) c8) hx13), ?_, ?_⟩
                · intro x hx
                  rcases List.mem_append.1 hx with h | h
                  · exact HDW.out x h
                  · simp at h
                    subst h
                    exact HW1.out
                · rw [flat_snoc_]
                  exact (own8.keep (w' := w13.setCell ⟨w2.heap.size, 0, none⟩ (.slice A8 (j + 1) c8)) fun k h1 _ _ => Below.heap_setCell w13 _ _ k (by simp only; omega)).wider (Nat.le_refl _) (by simp [World.setCell])
                · exact below_set hV13 (Nat.le_refl _) _
              case measure => simp [intOf]; omega
          · obtain rfl : j = n - 2 := by omega
            have htk : ps.take (n - 2) = ps := List.take_of_length_le (by rw [HPL.out]; exact Nat.le_refl _)
            have hfin := Lib.hid (show R = some ⟨done, el⟩ by rw [HRS4.out, ← htk, HD.out]; rfl)
            have HOR := Lib.hid (ownR_cases hown HDL.out HDW.out)
            have z0 := box_cell (j := 0) HX.out rfl
            have z1 := box_cell (j := 1) HX.out rfl
            have hwz : w.heap.size ≤ w1.heap.size := hW1.size
            clear htk hlt hown
            have r0 := box_cell (j := 0) HBr.out rfl
            have r1 := box_cell (j := 1) HBr.out rfl
            have t0 := box_free HBr.out 0
            have t1 := box_free HBr.out 1
            go_wp2_with fail
            have X := box_set (j := 1) (u := .int .i64 el) (box_set (j := 0) (u := .slice A7 (n - 2) c7) HBr.out)
            have HBb : Below w.heap.size w ((wr.setCell ⟨w.heap.size, 0, none⟩ (.slice A7 (n - 2) c7)).setCell ⟨w.heap.size, 1, none⟩ (.int .i64 el)) := below_set (below_set hWr (Nat.le_refl _) _) (Nat.le_refl _) _
            have HOR3 := HOR.out.stay (w' := (wr.setCell ⟨w.heap.size, 0, none⟩ (.slice A7 (n - 2) c7)).setCell ⟨w.heap.size, 1, none⟩ (.int .i64 el)) (fun g hg _ => (Below.heap_setCell _ _ _ g (by simp only; omega)).trans (Below.heap_setCell wr _ _ g (by simp only; omega))) (by simp [World.setCell])
            have hzs : wr.heap.size ≤ ((wr.setCell ⟨w.heap.size, 0, none⟩ (.slice A7 (n - 2) c7)).setCell ⟨w.heap.size, 1, none⟩ (.int .i64 el)).heap.size := by simp [World.setCell]
            generalize (wr.setCell ⟨w.heap.size, 0, none⟩ (.slice A7 (n - 2) c7)).setCell ⟨w.heap.size, 1, none⟩ (.int .i64 el) = WX at X HBb HOR3 hzs ⊢
            have d0 := box_cell (j := 0) X rfl
            have d1 := box_cell (j := 1) X rfl
            refine bodyPost_ret (v := .tuple #[.agg #[.slice A7 (n - 2) c7, .int .i64 el], .nilIface]) (by simp [results, Tryd.results43, go_sem, d0, d1]) rfl ?_
            refine ⟨HBb, .inr ⟨⟨done, el⟩, [.slice A7 (n - 2) c7, .int .i64 el], hfin.out, rfl, ?_⟩⟩
            exact ownSelect (x := ⟨done, el⟩) HOR3 HEW.out fun g hg => by omega
    · have hsel : (p0 == [115, 101, 108, 101, 99, 116]) = false := by
        rw [beq_eq_false_iff_ne]
        exact hh
      have hsel2 : (p0 != [115, 101, 108, 101, 99, 116]) = true := by
        rw [bne, hsel]; rfl
      have hfin := Lib.hid (show R = none by rw [HRS2.out, if_neg hh])
      clear hh HRS2 own1
      go_wp2_with fail
      have X := (box_set (j := 1) (u := .int .i64 0) (box_set (j := 0) (u := .slice none 0 0) HB1.out))
      have HBb : Below w.heap.size w ((w1.setCell ⟨w.heap.size, 0, none⟩ (.slice none 0 0)).setCell ⟨w.heap.size, 1, none⟩ (.int .i64 0)) := (below_set (below_set hW1 (Nat.le_refl _) _) (Nat.le_refl _) _)
      generalize ((w1.setCell ⟨w.heap.size, 0, none⟩ (.slice none 0 0)).setCell ⟨w.heap.size, 1, none⟩ (.int .i64 0)) = WX at X HBb ⊢
      have d0 := box_cell (j := 0) X rfl
      have d1 := box_cell (j := 1) X rfl
      refine bodyPost_ret (v := .tuple #[.agg #[.slice none 0 0, .int .i64 0], faultV]) (by simp [results, Tryd.results43, go_sem, d0, d1]) rfl ?_
      exact ⟨HBb, .inl ⟨hfin.out, rfl⟩⟩
end Go.Proofs.YtllkbikhclfgpaaDoor
