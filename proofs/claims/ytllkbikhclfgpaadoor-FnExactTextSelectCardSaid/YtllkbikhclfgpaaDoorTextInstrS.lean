
/- The contract of the model's TextInstr. -/

import Derived.Test.YtllkbikhclfgpaaDoorReadS

import Derived.Test.YtllkbikhclfgpaaDoorPartsS

import Derived.Test.YtllkbikhclfgpaaDoorInstrTextS

import Derived.Test.YtllkbikhclfgpaaDoorBase

import Derived.Deep.RegionHeld3

namespace Go.Proofs.YtllkbikhclfgpaaDoor
set_option linter.unusedSimpArgs false
set_option linter.unusedVariables false
open Go.RowKit

/-- The field that the word behind the first ones names; 0 where there is none. -/
def fldR (P : List (List UInt8)) (j : Nat) : Int := if j + 1 < P.length then readW nilW (P.getD (j + 1) []) else 0
/-- What the first k words behind the first have filled. -/
def fldTo (P : List (List UInt8)) (k j : Nat) : Int := if j < k then fldR P j else 0
theorem candI_fld (s : List UInt8) : candI s = (opOf ((cutR 32 [] s).getD 0 []), fldR (cutR 32 [] s) 0, fldR (cutR 32 [] s) 1, fldR (cutR 32 [] s) 2) := rfl
theorem fldTo_end {P : List (List UInt8)} {k : Nat} (h : k = 3 ∨ P.length ≤ k + 1) {j : Nat} (hj : j < 3) : fldTo P k j = fldR P j := by
  unfold fldTo
  split
  · rfl
  · rw [fldR, if_neg (by omega)]
theorem opOf_range (w : List UInt8) : 0 ≤ opOf w ∧ opOf w ≤ 15 := by
  unfold opOf
  split
  · rename_i h
    have := List.idxOf_lt_length_of_mem h
    have h15 : opWords.length = 15 := rfl
    omega
  · omega
theorem opWord_opOf {w : List UInt8} (h : opOf w ≠ 0) : opWord (opOf w) = w := by
  have hr := opOf_range w
  unfold opOf at h hr ⊢
  split at h
  · rename_i hm
    rw [if_pos hm] at hr
    rw [if_pos hm, opWord, if_pos (by omega)]
    have hlt := List.idxOf_lt_length_of_mem hm
    rw [show (((List.idxOf w opWords : Nat) : Int) + 1).toNat - 1 = List.idxOf w opWords by omega]
    rw [List.getD_eq_getElem?_getD, List.getElem?_eq_getElem hlt, Option.getD_some]
    exact List.getElem_idxOf hlt
  · exact absurd rfl h
/-- The instruction that has been found among the first k. -/
def opTo (w : List UInt8) (k : Nat) : Int := if opOf w ≤ k then opOf w else 0
theorem opTo_zero (w : List UInt8) : opTo w 0 = 0 := by
  have := opOf_range w
  unfold opTo
  split <;> omega
theorem opTo_hit {w : List UInt8} {k : Nat} (hk : k < 15) (h : opWord ((k : Int) + 1) = w) : opTo w (k + 1) = (k : Int) + 1 := by
  have := (opWord_words (op := (k : Int) + 1) (by omega)).2.1
  rw [h] at this
  rw [opTo, this, if_pos (by omega)]
theorem opTo_miss {w : List UInt8} {k : Nat} (hk : k < 15) (h : opWord ((k : Int) + 1) ≠ w) : opTo w (k + 1) = opTo w k := by
  have hne : opOf w ≠ (k : Int) + 1 := fun e => h (by rw [← e]; exact opWord_opOf (by omega))
  unfold opTo
  split
  · rw [if_pos (by omega)]
  · rw [if_neg (by omega)]
theorem opTo_end (w : List UInt8) : opTo w 15 = opOf w := by
  have := opOf_range w
  rw [opTo, if_pos (by omega)]

abbrev instrBool (r : (Int × Int × Int × Int) × Bool) : Ending := .returned (.tuple #[.agg #[.int .i64 r.1.1, .int .i64 r.1.2.1, .int .i64 r.1.2.2.1, .int .i64 r.1.2.2.2], .bool r.2])

set_option maxRecDepth 100000 in
set_option maxHeartbeats 4000000 in
theorem specTextInstr_any (s : ByteArray) (w : World) (hl : s.size ≤ 1048576) :
    Calls Tryd.prog 10 #[.string s] w fun e w' => e = instrBool (textInstr s.data.toList) ∧ Below w.heap.size w w' := by
  go_enter Tryd.func10, Tryd.ntmps10
  go_wp2_with fail
  refine (specParts_any s _ hl).mono ?_
  rintro e w1 ⟨A, n, c, rfl, hown, hb1⟩
  have hn := hown.len
  rw [List.length_map] at hn
  have hne := cutR_ne 32 s.data.toList []
  have hlen := cutR_length 32 s.data.toList []
  have hmem := Lib.hid (cutR_mem 32 s.data.toList [])
  have HE := Lib.hid (candI_fld s.data.toList)
  generalize cutR 32 [] s.data.toList = P at *
  have hn0 : 0 < n := by
    rcases Nat.eq_zero_or_pos n with h | h
    · exact absurd (List.length_eq_zero_iff.1 (by omega)) hne
    · exact h
  obtain ⟨g, rfl, hg1, hg2, hg3⟩ := hown.form hn0
  have hB1 : Below (w.heap.size + 1) (w.alloc (.cells #[.int .i64 0, .int .i64 0, .int .i64 0, .int .i64 0] 25)) w1 := hb1.mono (by simp)
  have hx1 := box_keep (box_new w _ _) hB1 (by omega)
  have z1 := hB1.size
  simp only [World.size_alloc] at z1 hg1 hown
  go_wp2_with fail
  have hl1 : w.heap.size < w1.heap.size := by omega
  have hW1 : Below w.heap.size w w1 := ((Below.refl w.heap.size w).alloc (Nat.le_refl _) _).trans (hB1.mono (by omega))
  have HR := Lib.hid (fun (l : List UInt8) (W : World) (h : l.length ≤ 1048576) => show Calls Tryd.prog 32 #[Tx l, .string ⟨#[110, 105, 108]⟩] W fun e w' => e = .returned (.int .i64 (readW nilW l)) ∧ Below W.heap.size W w' from l05Read_any ⟨l.toArray⟩ ⟨#[110, 105, 108]⟩ W h)
  have hPs : ∀ p ∈ P, p.length ≤ 1048576 := fun p hp => by
    have h1 := hmem.out p hp
    have h2 : s.data.toList.length = s.size := rfl
    simp only [List.length_nil] at h1
    omega
  have HPS := Lib.hid hPs
  have HN := Lib.hid hn
  have hnl : n ≤ 1048577 := by
    have h2 : s.data.toList.length = s.size := rfl
    omega
  clear hb1 hPs hmem hne hlen hn
  go_loopw [6] (fun i wr => ∃ (k : Nat) (z v0 v1 v2 : Int), k ≤ 3 ∧ k + 1 ≤ n ∧ z = (k : Int) + 1 ∧ i = .int .i64 z ∧ wr.heap[w1.heap.size]? = some (.cells #[.int .i64 v0, .int .i64 v1, .int .i64 v2] 3 (0, 0)) ∧ Hid (v0 = fldTo P k 0 ∧ v1 = fldTo P k 1 ∧ v2 = fldTo P k 2) ∧ Below w1.heap.size w1 wr) (fun i _ => 5 - (intOf i).toNat)
  case atStart => exact ⟨0, 1, 0, 0, 0, by omega, by omega, rfl, rfl, box_new _ _ _, Lib.hid ⟨rfl, rfl, rfl⟩, (Below.refl _ _).alloc (Nat.le_refl _) _⟩
  case round =>
    obtain ⟨k, z, v0, v1, v2, hk, hkn, hz, rfl, hbox, HV, hb⟩ := hrel
    have zr := lt_of_block hbox
    by_cases hlt : k + 1 < n ∧ k < 3
    · obtain ⟨hlt1, hlt2⟩ := hlt
      have hPl : k + 1 < P.length := by rw [HN.out]; exact hlt1
      have hP := List.getElem?_eq_getElem hPl
      have hcell := (hown.below hb (Nat.le_refl _)).cell (j := k + 1) (u := Tx P[k + 1]) (by rw [List.getElem?_map, hP]; rfl)
      have hmem := HPS.out _ (List.mem_of_getElem? hP)
      have hf : Hid (fldR P k = readW nilW P[k + 1]) := Lib.hid (by rw [fldR, if_pos hPl, List.getD_eq_getElem?_getD, hP, Option.getD_some])
      generalize P[k + 1] = x at *
      clear hP hPl
      have hk3 : k = 0 ∨ k = 1 ∨ k = 2 := by omega
      have hlr := hl1
      rcases hk3 with rfl | rfl | rfl
      · obtain rfl : z = 1 := by omega
        clear hz
        have hlx : (1 : Int) < (n : Int) := by omega
        go_wp2_with fail
        refine (HR.out x _ hmem).mono ?_
        rintro e w5 ⟨rfl, hb5⟩
        have hB5 := hb.trans (hb5.mono (by omega))
        have hbox5 := box_keep hbox hb5 zr
        have cx := box_cell (j := 0) hbox5 rfl
        have fx := box_free hbox5 0
        generalize readW nilW x = y at *
        go_wp2_with fail
        go_roundw
        case rel => exact ⟨1, 2, _, v1, v2, by omega, by omega, rfl, by go_num, box_set (j := 0) (u := .int .i64 y) hbox5, Lib.hid ⟨(by rw [← hf.out]; rfl), (by rw [HV.out.2.1]; rfl), (by rw [HV.out.2.2]; rfl)⟩, below_set hB5 (Nat.le_refl _) _⟩
        case measure => simp [intOf]
      · obtain rfl : z = 2 := by omega
        clear hz
        have hlx : (2 : Int) < (n : Int) := by omega
        go_wp2_with fail
        refine (HR.out x _ hmem).mono ?_
        rintro e w5 ⟨rfl, hb5⟩
        have hB5 := hb.trans (hb5.mono (by omega))
        have hbox5 := box_keep hbox hb5 zr
        have cx := box_cell (j := 1) hbox5 rfl
        have fx := box_free hbox5 1
        generalize readW nilW x = y at *
        go_wp2_with fail
        go_roundw
        case rel => exact ⟨2, 3, v0, _, v2, by omega, by omega, rfl, by go_num, box_set (j := 1) (u := .int .i64 y) hbox5, Lib.hid ⟨(by rw [HV.out.1]; rfl), (by rw [← hf.out]; rfl), (by rw [HV.out.2.2]; rfl)⟩, below_set hB5 (Nat.le_refl _) _⟩
        case measure => simp [intOf]
      · obtain rfl : z = 3 := by omega
        clear hz
        have hlx : (3 : Int) < (n : Int) := by omega
        go_wp2_with fail
        refine (HR.out x _ hmem).mono ?_
        rintro e w5 ⟨rfl, hb5⟩
        have hB5 := hb.trans (hb5.mono (by omega))
        have hbox5 := box_keep hbox hb5 zr
        have cx := box_cell (j := 2) hbox5 rfl
        have fx := box_free hbox5 2
        generalize readW nilW x = y at *
        go_wp2_with fail
        go_roundw
        case rel => exact ⟨3, 4, v0, v1, _, by omega, by omega, rfl, by go_num, box_set (j := 2) (u := .int .i64 y) hbox5, Lib.hid ⟨(by rw [HV.out.1]; rfl), (by rw [HV.out.2.1]; rfl), (by rw [← hf.out]; rfl)⟩, below_set hB5 (Nat.le_refl _) _⟩
        case measure => simp [intOf]
    · have hend : k = 3 ∨ P.length ≤ k + 1 := by rw [HN.out]; omega
      obtain ⟨e0, e1, e2⟩ := HV.out
      rw [fldTo_end hend (by omega)] at e0 e1 e2
      have cx0 := box_cell (j := 0) hbox rfl
      have cx1 := box_cell (j := 1) hbox rfl
      have cx2 := box_cell (j := 2) hbox rfl
      have E := Lib.hid (And.intro e0 (And.intro e1 e2))
      have hPl : 0 < P.length := by rw [HN.out]; exact hn0
      have hp0 := Lib.hid (show (P.map Tx)[0]? = some (Tx (P.getD 0 [])) by rw [List.getElem?_map, List.getD_eq_getElem?_getD, List.getElem?_eq_getElem hPl]; rfl)
      clear e0 e1 e2 HV hbox hPl
      generalize P.getD 0 [] = p0 at *
      have hs1 : Seen wr w1.heap.size 1 (some ⟨g, 0, none⟩) n (P.map Tx) := (hown.below hb (Nat.le_refl _)).seen
      have hcell0 := hs1
      go_wp2_with fail
      · go_region
        have hbi := box_new wr #[.int .i64 0, .int .i64 v0, .int .i64 v1, .int .i64 v2] 25
        replace hbi : (wr.alloc (.cells #[.int .i64 0, .int .i64 v0, .int .i64 v1, .int .i64 v2] 25)).drew.heap[wr.heap.size]? = some (.cells #[.int .i64 0, .int .i64 v0, .int .i64 v1, .int .i64 v2] 25 (0, 0)) := hbi
        have hBW : Below w1.heap.size w1 (wr.alloc (.cells #[.int .i64 0, .int .i64 v0, .int .i64 v1, .int .i64 v2] 25)).drew := below_drawn (hb.alloc (by omega) _) 1
        clear cx0 cx1 cx2 hs1
        generalize (wr.alloc (.cells #[.int .i64 0, .int .i64 v0, .int .i64 v1, .int .i64 v2] 25)).drew = W2 at *
        have hwr := lt_of_block hbi
        have hb3 : w1.heap.size < wr.heap.size := zr
        clear hb hcell0 zr
        generalize wr.heap.size = b3 at *
        clear hB1 hk hkn hz hend
        go_wp2_with fail
        go_loopw [8] (fun i wq => ∃ (o : Nat) (q : Int), o ≤ 15 ∧ i = .int .i64 ((o : Int) + 1) ∧ wq.heap[b3]? = some (.cells #[.int .i64 q, .int .i64 v0, .int .i64 v1, .int .i64 v2] 25 (0, 0)) ∧ Hid (q = opTo p0 o) ∧ Below b3 W2 wq) (fun i _ => 17 - (intOf i).toNat)
        case atStart => exact ⟨0, 0, by omega, rfl, hbi, Lib.hid (opTo_zero _).symm, Below.refl _ _⟩
        case round =>
          rename World => wq
          obtain ⟨o, q, ho, rfl, hbq, HQ, hbw⟩ := hrel
          have zq := lt_of_block hbq
          have hBq : Below w1.heap.size w1 wq := hBW.trans (hbw.mono (by omega))
          have cp := (hown.below hBq (Nat.le_refl _)).cell (j := 0) hp0.out
          by_cases hlt : o < 15
          · have hmiss := Lib.hid (fun h => opTo_miss (w := p0) (k := o) hlt h)
            have hhit := Lib.hid (fun h => opTo_hit (w := p0) (k := o) hlt h)
            cases tw : (opWord ((o : Int) + 1) == p0)
            · have hno := Lib.hid (hmiss.out (by simpa using tw))
              clear hmiss hhit
              go_wp2_with fail
              go_region_held3 (fun W => W.cell? ⟨g, 0, none⟩ = some (Tx p0))
                (first | go_keep | exact HK9)
                (first | (go_at_call 24; refine (specOpWord_any _ _).mono ?_; rintro e w9 ⟨rfl, hb9⟩; have HK9 : w9.cell? ⟨g, 0, none⟩ = some (Tx p0) := ((bcell hb9).1 _ _ (by first | omega | (show g < wq.heap.size; omega))).trans cp))
              have hb9' : Below wq.heap.size wq w9 := (below_drawn (Below.refl _ wq) 1).trans hb9
              have hbox9 := box_keep hbq hb9' zq
              have hBb := hbw.trans (hb9'.mono (by omega))
              clear HK9
              go_wp2_with fail
              go_roundw
              case rel => exact ⟨o + 1, q, by omega, by go_num, hbox9, Lib.hid (by rw [hno.out]; exact HQ.out), hBb⟩
              case measure => simp [intOf]; omega
            · have hyes := Lib.hid (hhit.out (by simpa using tw))
              clear hmiss hhit
              go_wp2_with fail
              go_region_held3 (fun W => W.cell? ⟨g, 0, none⟩ = some (Tx p0))
                (first | go_keep | exact HK9)
                (first | (go_at_call 24; refine (specOpWord_any _ _).mono ?_; rintro e w9 ⟨rfl, hb9⟩; have HK9 : w9.cell? ⟨g, 0, none⟩ = some (Tx p0) := ((bcell hb9).1 _ _ (by first | omega | (show g < wq.heap.size; omega))).trans cp))
              have hb9' : Below wq.heap.size wq w9 := (below_drawn (Below.refl _ wq) 1).trans hb9
              have hbox9 := box_keep hbq hb9' zq
              have hBb := hbw.trans (hb9'.mono (by omega))
              have c0 := box_cell (j := 0) hbox9 rfl
              have f0 := box_free hbox9 0
              clear HK9
              go_wp2_with fail
              go_roundw
              case rel => exact ⟨o + 1, _, by omega, by go_num, box_set (j := 0) (u := .int .i64 ((o : Int) + 1)) hbox9, Lib.hid hyes.out.symm, below_set hBb (Nat.le_refl _) _⟩
              case measure => simp [intOf]; omega
          · obtain rfl : o = 15 := by omega
            rw [opTo_end] at HQ
            have hxq : wq.heap[w.heap.size]? = some _ := box_keep hx1 hBq hl1
            have x0 := box_cell (j := 0) hxq rfl
            have x1 := box_cell (j := 1) hxq rfl
            have x2 := box_cell (j := 2) hxq rfl
            have x3 := box_cell (j := 3) hxq rfl
            have y0 := box_free hxq 0
            have y1 := box_free hxq 1
            have y2 := box_free hxq 2
            have y3 := box_free hxq 3
            have hWq : Below w.heap.size w wq := hW1.trans (hBq.mono (by omega))
            by_cases hs0 : s.toList = []
            · have hfin := Lib.hid (show textInstr s.data.toList = ((0, 0, 0, 0), false) by rw [textInstr, if_pos (.inl (by rw [← toList_data]; exact hs0))])
              go_wp2_with fail
              have X := box_set (j := 3) (u := .int .i64 0) (box_set (j := 2) (u := .int .i64 0) (box_set (j := 1) (u := .int .i64 0) (box_set (j := 0) (u := .int .i64 0) hxq)))
              have HB : Below w.heap.size w ((((wq.setCell ⟨w.heap.size, 0, none⟩ (.int .i64 0)).setCell ⟨w.heap.size, 1, none⟩ (.int .i64 0)).setCell ⟨w.heap.size, 2, none⟩ (.int .i64 0)).setCell ⟨w.heap.size, 3, none⟩ (.int .i64 0)) := below_set (below_set (below_set (below_set hWq (Nat.le_refl _) _) (Nat.le_refl _) _) (Nat.le_refl _) _) (Nat.le_refl _) _
              generalize ((((wq.setCell ⟨w.heap.size, 0, none⟩ (.int .i64 0)).setCell ⟨w.heap.size, 1, none⟩ (.int .i64 0)).setCell ⟨w.heap.size, 2, none⟩ (.int .i64 0)).setCell ⟨w.heap.size, 3, none⟩ (.int .i64 0)) = WX at X HB ⊢
              have d0 := box_cell (j := 0) X rfl
              have d1 := box_cell (j := 1) X rfl
              have d2 := box_cell (j := 2) X rfl
              have d3 := box_cell (j := 3) X rfl
              refine bodyPost_ret (v := .tuple #[.agg #[.int .i64 0, .int .i64 0, .int .i64 0, .int .i64 0], .bool false]) (by simp [results, Tryd.results10, go_sem, d0, d1, d2, d3]) rfl ?_
              exact ⟨by rw [hfin.out], HB⟩
            · have hs1 : s.toList.isEmpty = false := by simpa using hs0
              have c0 := box_cell (j := 0) hbq rfl
              have c1 := box_cell (j := 1) hbq rfl
              have c2 := box_cell (j := 2) hbq rfl
              have c3 := box_cell (j := 3) hbq rfl
              have HT := Lib.hid (show textInstr s.data.toList = if instrText q v0 v1 v2 ≠ s.data.toList then ((0, 0, 0, 0), false) else ((q, v0, v1, v2), true) by
                rw [textInstr, HE.out, ← HQ.out, ← E.out.1, ← E.out.2.1, ← E.out.2.2]
                simp only [show ¬ s.data.toList = [] by rw [← toList_data]; exact hs0, false_or])
              go_wp2_with fail
              refine (specInstrText_any q v0 v1 v2 _).mono ?_
              rintro e w9 ⟨rfl, hb9⟩
              clear c0 c1 c2 c3 x0 x1 x2 x3 y0 y1 y2 y3
              have hx9 := box_keep hxq hb9 (by omega)
              have hq9 := box_keep hbq hb9 zq
              have c0 := box_cell (j := 0) hq9 rfl
              have c1 := box_cell (j := 1) hq9 rfl
              have c2 := box_cell (j := 2) hq9 rfl
              have c3 := box_cell (j := 3) hq9 rfl
              have x0 := box_cell (j := 0) hx9 rfl
              have x1 := box_cell (j := 1) hx9 rfl
              have x2 := box_cell (j := 2) hx9 rfl
              have x3 := box_cell (j := 3) hx9 rfl
              have y0 := box_free hx9 0
              have y1 := box_free hx9 1
              have y2 := box_free hx9 2
              have y3 := box_free hx9 3
              have hW9 : Below w.heap.size w w9 := hWq.trans (hb9.mono (by omega))
              cases ts : (instrText q v0 v1 v2 == s.toList)
              · have hfin := Lib.hid (show textInstr s.data.toList = ((0, 0, 0, 0), false) by rw [HT.out, if_pos (by rw [← toList_data]; simpa using ts)])
                go_wp2_with fail
                have X := box_set (j := 3) (u := .int .i64 0) (box_set (j := 2) (u := .int .i64 0) (box_set (j := 1) (u := .int .i64 0) (box_set (j := 0) (u := .int .i64 0) hx9)))
                have HB : Below w.heap.size w ((((w9.setCell ⟨w.heap.size, 0, none⟩ (.int .i64 0)).setCell ⟨w.heap.size, 1, none⟩ (.int .i64 0)).setCell ⟨w.heap.size, 2, none⟩ (.int .i64 0)).setCell ⟨w.heap.size, 3, none⟩ (.int .i64 0)) := below_set (below_set (below_set (below_set hW9 (Nat.le_refl _) _) (Nat.le_refl _) _) (Nat.le_refl _) _) (Nat.le_refl _) _
                generalize ((((w9.setCell ⟨w.heap.size, 0, none⟩ (.int .i64 0)).setCell ⟨w.heap.size, 1, none⟩ (.int .i64 0)).setCell ⟨w.heap.size, 2, none⟩ (.int .i64 0)).setCell ⟨w.heap.size, 3, none⟩ (.int .i64 0)) = WX at X HB ⊢
                have d0 := box_cell (j := 0) X rfl
                have d1 := box_cell (j := 1) X rfl
                have d2 := box_cell (j := 2) X rfl
                have d3 := box_cell (j := 3) X rfl
                refine bodyPost_ret (v := .tuple #[.agg #[.int .i64 0, .int .i64 0, .int .i64 0, .int .i64 0], .bool false]) (by simp [results, Tryd.results10, go_sem, d0, d1, d2, d3]) rfl ?_
                exact ⟨by rw [hfin.out], HB⟩
              · have hfin := Lib.hid (show textInstr s.data.toList = ((q, v0, v1, v2), true) by rw [HT.out, if_neg (by rw [← toList_data]; simpa using ts)])
                go_wp2_with fail
                have X := box_set (j := 3) (u := .int .i64 v2) (box_set (j := 2) (u := .int .i64 v1) (box_set (j := 1) (u := .int .i64 v0) (box_set (j := 0) (u := .int .i64 q) hx9)))
                have HB : Below w.heap.size w ((((w9.setCell ⟨w.heap.size, 0, none⟩ (.int .i64 q)).setCell ⟨w.heap.size, 1, none⟩ (.int .i64 v0)).setCell ⟨w.heap.size, 2, none⟩ (.int .i64 v1)).setCell ⟨w.heap.size, 3, none⟩ (.int .i64 v2)) := below_set (below_set (below_set (below_set hW9 (Nat.le_refl _) _) (Nat.le_refl _) _) (Nat.le_refl _) _) (Nat.le_refl _) _
                generalize ((((w9.setCell ⟨w.heap.size, 0, none⟩ (.int .i64 q)).setCell ⟨w.heap.size, 1, none⟩ (.int .i64 v0)).setCell ⟨w.heap.size, 2, none⟩ (.int .i64 v1)).setCell ⟨w.heap.size, 3, none⟩ (.int .i64 v2)) = WX at X HB ⊢
                have d0 := box_cell (j := 0) X rfl
                have d1 := box_cell (j := 1) X rfl
                have d2 := box_cell (j := 2) X rfl
                have d3 := box_cell (j := 3) X rfl
                refine bodyPost_ret (v := .tuple #[.agg #[.int .i64 q, .int .i64 v0, .int .i64 v1, .int .i64 v2], .bool true]) (by simp [results, Tryd.results10, go_sem, d0, d1, d2, d3]) rfl ?_
                exact ⟨by rw [hfin.out], HB⟩
      · go_region
        have hbi := box_new wr #[.int .i64 0, .int .i64 v0, .int .i64 v1, .int .i64 v2] 25
        replace hbi : (wr.alloc (.cells #[.int .i64 0, .int .i64 v0, .int .i64 v1, .int .i64 v2] 25)).drew.heap[wr.heap.size]? = some (.cells #[.int .i64 0, .int .i64 v0, .int .i64 v1, .int .i64 v2] 25 (0, 0)) := hbi
        have hBW : Below w1.heap.size w1 (wr.alloc (.cells #[.int .i64 0, .int .i64 v0, .int .i64 v1, .int .i64 v2] 25)).drew := below_drawn (hb.alloc (by omega) _) 1
        clear cx0 cx1 cx2 hs1
        generalize (wr.alloc (.cells #[.int .i64 0, .int .i64 v0, .int .i64 v1, .int .i64 v2] 25)).drew = W2 at *
        have hwr := lt_of_block hbi
        have hb3 : w1.heap.size < wr.heap.size := zr
        clear hb hcell0 zr
        generalize wr.heap.size = b3 at *
        clear hB1 hk hkn hz hend
        go_wp2_with fail
        go_loopw [8] (fun i wq => ∃ (o : Nat) (q : Int), o ≤ 15 ∧ i = .int .i64 ((o : Int) + 1) ∧ wq.heap[b3]? = some (.cells #[.int .i64 q, .int .i64 v0, .int .i64 v1, .int .i64 v2] 25 (0, 0)) ∧ Hid (q = opTo p0 o) ∧ Below b3 W2 wq) (fun i _ => 17 - (intOf i).toNat)
        case atStart => exact ⟨0, 0, by omega, rfl, hbi, Lib.hid (opTo_zero _).symm, Below.refl _ _⟩
        case round =>
          rename World => wq
          obtain ⟨o, q, ho, rfl, hbq, HQ, hbw⟩ := hrel
          have zq := lt_of_block hbq
          have hBq : Below w1.heap.size w1 wq := hBW.trans (hbw.mono (by omega))
          have cp := (hown.below hBq (Nat.le_refl _)).cell (j := 0) hp0.out
          by_cases hlt : o < 15
          · have hmiss := Lib.hid (fun h => opTo_miss (w := p0) (k := o) hlt h)
            have hhit := Lib.hid (fun h => opTo_hit (w := p0) (k := o) hlt h)
            cases tw : (opWord ((o : Int) + 1) == p0)
            · have hno := Lib.hid (hmiss.out (by simpa using tw))
              clear hmiss hhit
              go_wp2_with fail
              go_region_held3 (fun W => W.cell? ⟨g, 0, none⟩ = some (Tx p0))
                (first | go_keep | exact HK9)
                (first | (go_at_call 24; refine (specOpWord_any _ _).mono ?_; rintro e w9 ⟨rfl, hb9⟩; have HK9 : w9.cell? ⟨g, 0, none⟩ = some (Tx p0) := ((bcell hb9).1 _ _ (by first | omega | (show g < wq.heap.size; omega))).trans cp))
              have hb9' : Below wq.heap.size wq w9 := (below_drawn (Below.refl _ wq) 1).trans hb9
              have hbox9 := box_keep hbq hb9' zq
              have hBb := hbw.trans (hb9'.mono (by omega))
              clear HK9
              go_wp2_with fail
              go_roundw
              case rel => exact ⟨o + 1, q, by omega, by go_num, hbox9, Lib.hid (by rw [hno.out]; exact HQ.out), hBb⟩
              case measure => simp [intOf]; omega
            · have hyes := Lib.hid (hhit.out (by simpa using tw))
              clear hmiss hhit
              go_wp2_with fail
              go_region_held3 (fun W => W.cell? ⟨g, 0, none⟩ = some (Tx p0))
                (first | go_keep | exact HK9)
                (first | (go_at_call 24; refine (specOpWord_any _ _).mono ?_; rintro e w9 ⟨rfl, hb9⟩; have HK9 : w9.cell? ⟨g, 0, none⟩ = some (Tx p0) := ((bcell hb9).1 _ _ (by first | omega | (show g < wq.heap.size; omega))).trans cp))
              have hb9' : Below wq.heap.size wq w9 := (below_drawn (Below.refl _ wq) 1).trans hb9
              have hbox9 := box_keep hbq hb9' zq
              have hBb := hbw.trans (hb9'.mono (by omega))
              have c0 := box_cell (j := 0) hbox9 rfl
              have f0 := box_free hbox9 0
              clear HK9
              go_wp2_with fail
              go_roundw
              case rel => exact ⟨o + 1, _, by omega, by go_num, box_set (j := 0) (u := .int .i64 ((o : Int) + 1)) hbox9, Lib.hid hyes.out.symm, below_set hBb (Nat.le_refl _) _⟩
              case measure => simp [intOf]; omega
          · obtain rfl : o = 15 := by omega
            rw [opTo_end] at HQ
            have hxq : wq.heap[w.heap.size]? = some _ := box_keep hx1 hBq hl1
            have x0 := box_cell (j := 0) hxq rfl
            have x1 := box_cell (j := 1) hxq rfl
            have x2 := box_cell (j := 2) hxq rfl
            have x3 := box_cell (j := 3) hxq rfl
            have y0 := box_free hxq 0
            have y1 := box_free hxq 1
            have y2 := box_free hxq 2
            have y3 := box_free hxq 3
            have hWq : Below w.heap.size w wq := hW1.trans (hBq.mono (by omega))
            by_cases hs0 : s.toList = []
            · have hfin := Lib.hid (show textInstr s.data.toList = ((0, 0, 0, 0), false) by rw [textInstr, if_pos (.inl (by rw [← toList_data]; exact hs0))])
              go_wp2_with fail
              have X := box_set (j := 3) (u := .int .i64 0) (box_set (j := 2) (u := .int .i64 0) (box_set (j := 1) (u := .int .i64 0) (box_set (j := 0) (u := .int .i64 0) hxq)))
              have HB : Below w.heap.size w ((((wq.setCell ⟨w.heap.size, 0, none⟩ (.int .i64 0)).setCell ⟨w.heap.size, 1, none⟩ (.int .i64 0)).setCell ⟨w.heap.size, 2, none⟩ (.int .i64 0)).setCell ⟨w.heap.size, 3, none⟩ (.int .i64 0)) := below_set (below_set (below_set (below_set hWq (Nat.le_refl _) _) (Nat.le_refl _) _) (Nat.le_refl _) _) (Nat.le_refl _) _
              generalize ((((wq.setCell ⟨w.heap.size, 0, none⟩ (.int .i64 0)).setCell ⟨w.heap.size, 1, none⟩ (.int .i64 0)).setCell ⟨w.heap.size, 2, none⟩ (.int .i64 0)).setCell ⟨w.heap.size, 3, none⟩ (.int .i64 0)) = WX at X HB ⊢
              have d0 := box_cell (j := 0) X rfl
              have d1 := box_cell (j := 1) X rfl
              have d2 := box_cell (j := 2) X rfl
              have d3 := box_cell (j := 3) X rfl
              refine bodyPost_ret (v := .tuple #[.agg #[.int .i64 0, .int .i64 0, .int .i64 0, .int .i64 0], .bool false]) (by simp [results, Tryd.results10, go_sem, d0, d1, d2, d3]) rfl ?_
              exact ⟨by rw [hfin.out], HB⟩
            · have hs1 : s.toList.isEmpty = false := by simpa using hs0
              have c0 := box_cell (j := 0) hbq rfl
              have c1 := box_cell (j := 1) hbq rfl
              have c2 := box_cell (j := 2) hbq rfl
              have c3 := box_cell (j := 3) hbq rfl
              have HT := Lib.hid (show textInstr s.data.toList = if instrText q v0 v1 v2 ≠ s.data.toList then ((0, 0, 0, 0), false) else ((q, v0, v1, v2), true) by
                rw [textInstr, HE.out, ← HQ.out, ← E.out.1, ← E.out.2.1, ← E.out.2.2]
                simp only [show ¬ s.data.toList = [] by rw [← toList_data]; exact hs0, false_or])
              go_wp2_with fail
              refine (specInstrText_any q v0 v1 v2 _).mono ?_
              rintro e w9 ⟨rfl, hb9⟩
              clear c0 c1 c2 c3 x0 x1 x2 x3 y0 y1 y2 y3
              have hx9 := box_keep hxq hb9 (by omega)
              have hq9 := box_keep hbq hb9 zq
              have c0 := box_cell (j := 0) hq9 rfl
              have c1 := box_cell (j := 1) hq9 rfl
              have c2 := box_cell (j := 2) hq9 rfl
              have c3 := box_cell (j := 3) hq9 rfl
              have x0 := box_cell (j := 0) hx9 rfl
              have x1 := box_cell (j := 1) hx9 rfl
              have x2 := box_cell (j := 2) hx9 rfl
              have x3 := box_cell (j := 3) hx9 rfl
              have y0 := box_free hx9 0
              have y1 := box_free hx9 1
              have y2 := box_free hx9 2
              have y3 := box_free hx9 3
              have hW9 : Below w.heap.size w w9 := hWq.trans (hb9.mono (by omega))
              cases ts : (instrText q v0 v1 v2 == s.toList)
              · have hfin := Lib.hid (show textInstr s.data.toList = ((0, 0, 0, 0), false) by rw [HT.out, if_pos (by rw [← toList_data]; simpa using ts)])
                go_wp2_with fail
                have X := box_set (j := 3) (u := .int .i64 0) (box_set (j := 2) (u := .int .i64 0) (box_set (j := 1) (u := .int .i64 0) (box_set (j := 0) (u := .int .i64 0) hx9)))
                have HB : Below w.heap.size w ((((w9.setCell ⟨w.heap.size, 0, none⟩ (.int .i64 0)).setCell ⟨w.heap.size, 1, none⟩ (.int .i64 0)).setCell ⟨w.heap.size, 2, none⟩ (.int .i64 0)).setCell ⟨w.heap.size, 3, none⟩ (.int .i64 0)) := below_set (below_set (below_set (below_set hW9 (Nat.le_refl _) _) (Nat.le_refl _) _) (Nat.le_refl _) _) (Nat.le_refl _) _
                generalize ((((w9.setCell ⟨w.heap.size, 0, none⟩ (.int .i64 0)).setCell ⟨w.heap.size, 1, none⟩ (.int .i64 0)).setCell ⟨w.heap.size, 2, none⟩ (.int .i64 0)).setCell ⟨w.heap.size, 3, none⟩ (.int .i64 0)) = WX at X HB ⊢
                have d0 := box_cell (j := 0) X rfl
                have d1 := box_cell (j := 1) X rfl
                have d2 := box_cell (j := 2) X rfl
                have d3 := box_cell (j := 3) X rfl
                refine bodyPost_ret (v := .tuple #[.agg #[.int .i64 0, .int .i64 0, .int .i64 0, .int .i64 0], .bool false]) (by simp [results, Tryd.results10, go_sem, d0, d1, d2, d3]) rfl ?_
                exact ⟨by rw [hfin.out], HB⟩
              · have hfin := Lib.hid (show textInstr s.data.toList = ((q, v0, v1, v2), true) by rw [HT.out, if_neg (by rw [← toList_data]; simpa using ts)])
                go_wp2_with fail
                have X := box_set (j := 3) (u := .int .i64 v2) (box_set (j := 2) (u := .int .i64 v1) (box_set (j := 1) (u := .int .i64 v0) (box_set (j := 0) (u := .int .i64 q) hx9)))
                have HB : Below w.heap.size w ((((w9.setCell ⟨w.heap.size, 0, none⟩ (.int .i64 q)).setCell ⟨w.heap.size, 1, none⟩ (.int .i64 v0)).setCell ⟨w.heap.size, 2, none⟩ (.int .i64 v1)).setCell ⟨w.heap.size, 3, none⟩ (.int .i64 v2)) := below_set (below_set (below_set (below_set hW9 (Nat.le_refl _) _) (Nat.le_refl _) _) (Nat.le_refl _) _) (Nat.le_refl _) _
                generalize ((((w9.setCell ⟨w.heap.size, 0, none⟩ (.int .i64 q)).setCell ⟨w.heap.size, 1, none⟩ (.int .i64 v0)).setCell ⟨w.heap.size, 2, none⟩ (.int .i64 v1)).setCell ⟨w.heap.size, 3, none⟩ (.int .i64 v2)) = WX at X HB ⊢
                have d0 := box_cell (j := 0) X rfl
                have d1 := box_cell (j := 1) X rfl
                have d2 := box_cell (j := 2) X rfl
                have d3 := box_cell (j := 3) X rfl
                refine bodyPost_ret (v := .tuple #[.agg #[.int .i64 q, .int .i64 v0, .int .i64 v1, .int .i64 v2], .bool true]) (by simp [results, Tryd.results10, go_sem, d0, d1, d2, d3]) rfl ?_
                exact ⟨by rw [hfin.out], HB⟩
end Go.Proofs.YtllkbikhclfgpaaDoor
