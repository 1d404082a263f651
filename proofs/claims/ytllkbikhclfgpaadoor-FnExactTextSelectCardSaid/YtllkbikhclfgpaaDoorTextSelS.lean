
/- The contract of the model's TextSelect. -/

import Derived.Test.YtllkbikhclfgpaaDoorSelMath

import Derived.Test.YtllkbikhclfgpaaDoorColonsS

import Derived.Test.YtllkbikhclfgpaaDoorBase

import Derived.Test.YtllkbikhclfgpaaDoorSelOwn

import Derived.RegionTactic

import Derived.Deep.RegionHeld3

import Derived.Deep.Cut

namespace Go.Proofs.YtllkbikhclfgpaaDoor
set_option linter.unusedSimpArgs false
set_option linter.unusedVariables false
open Go.RowKit

/-- A select and whether it was read, in memory of its own. -/
def SelPost (w : World) (r : DSelect × Bool) (e : Ending) (w' : World) : Prop :=
  ∃ vs, e = .returned (.tuple #[.agg vs.toArray, .bool r.2]) ∧ laySelect.own w' (fun g => w.heap.size ≤ g ∧ g < w'.heap.size) r.1 vs ∧ Below w.heap.size w w'
theorem seen_four (w : World) (a b c d : Value) (t : TypeId) : Seen (w.alloc (.cells #[a, b, c, d] t)) (w.heap.size + 1) 1 (some ⟨w.heap.size, 0, none⟩) 4 [a, b, c, d] := by
  refine ⟨rfl, .inr ⟨w.heap.size, 0, rfl, by omega, fun j u hu => ?_⟩⟩
  have hx := box_new w #[a, b, c, d] t
  match j, hu with
  | 0, hu => simp at hu; subst hu; exact box_cell hx rfl
  | 1, hu => simp at hu; subst hu; exact box_cell hx rfl
  | 2, hu => simp at hu; subst hu; exact box_cell hx rfl
  | 3, hu => simp at hu; subst hu; exact box_cell hx rfl
  | k + 4, hu => simp at hu
theorem candP_at (q0 q1 q2 q3 q4 : List UInt8) (qs : List (List UInt8)) : candP (q0 :: q1 :: q2 :: q3 :: q4 :: qs) = if (q0 == [115, 101, 110, 100]) = true then ⟨true, readW [110, 105, 108] q1, readW [] q2, 0, readW [] q3⟩ else ⟨false, readW [110, 105, 108] q1, readW [] q2, readW [] q3, readW [] q4⟩ := by
  unfold candP
  by_cases h : q0 = sendW
  · rw [if_pos (by simpa using h), if_pos (by rw [h]; decide)]
    rfl
  · rw [if_neg (by simpa using h), if_neg (by intro hh; exact h (by simpa [sendW] using hh))]
    rfl
theorem readW_any (word s : List UInt8) (w : World) (hs : s.length ≤ 1048576) : Calls Tryd.prog 32 #[Tx s, Tx word] w fun e w' => e = .returned (.int .i64 (readW word s)) ∧ Below w.heap.size w w' :=
  l05Read_any ⟨s.toArray⟩ ⟨word.toArray⟩ w (by rw [size_list]; exact hs)

set_option maxRecDepth 100000 in
set_option maxHeartbeats 4000000 in
theorem specTextSelect_any (s : ByteArray) (w : World) (hl : s.size ≤ 1048576) :
    Calls Tryd.prog 18 #[.string s] w (SelPost w (textSelect s.data.toList)) := by
  obtain ⟨i0, hi0, hz0, hz1, hz2⟩ := info_parts str_info'
  obtain ⟨kI, hk0, hkz0, hkz1, hkz2⟩ := info_parts infoCase
  have hW0 : Below w.heap.size w (w.alloc (.cells #[.slice none 0 0, .int .i64 0] 39)) := (Below.refl _ _).alloc (Nat.le_refl _) _
  have HB0 := Lib.hid (box_new w #[.slice none 0 0, .int .i64 0] 39)
  have HZ := Lib.hid (show (w.alloc (.cells #[.slice none 0 0, .int .i64 0] 39)).heap.size = w.heap.size + 1 by simp)
  have HW0 := Lib.hid hW0
  have HTS := Lib.hid (show textSelect s.data.toList = if (cutR 32 [] s.data.toList).length < 2 ∨ selText ⟨((cutR 32 [] s.data.toList).drop 2).map candC, readW dashW ((cutR 32 [] s.data.toList).getD 1 [])⟩ ≠ s.data.toList then (⟨[], 0⟩, false) else (⟨((cutR 32 [] s.data.toList).drop 2).map candC, readW dashW ((cutR 32 [] s.data.toList).getD 1 [])⟩, true) from rfl)
  have HP := Lib.hid (specParts_any s (w.alloc (.cells #[.slice none 0 0, .int .i64 0] 39)) hl)
  have hlen := cutR_length 32 s.data.toList []
  have hmem := cutR_mem 32 s.data.toList []
  rw [show s.data.toList.length = s.size from rfl] at hlen hmem
  generalize cutR 32 [] s.data.toList = P at *
  generalize textSelect s.data.toList = TS at *
  have HMEM := Lib.hid (fun p (hp : p ∈ P) => show p.length ≤ 1048576 by have := hmem p hp; simp only [List.length_nil] at this; omega)
  clear hW0 hmem
  go_enter Tryd.func18, Tryd.ntmps18
  go_wp2_with fail
  refine HP.out.mono ?_
  rintro e w1 ⟨A, n, c, rfl, own1, hb1⟩
  have HB1 := Lib.hid (box_keep HB0.out hb1 (lt_of_block HB0.out))
  have hW1 : Below w.heap.size w w1 := HW0.out.trans (hb1.mono HW0.out.size)
  have hn := own1.len
  rw [List.length_map] at hn
  have HN := Lib.hid hn
  have hnl : n ≤ 1048577 := by omega
  have hl1 := lt_of_block HB1.out
  have hcap := own1.cap
  by_cases h2 : n < 2
  · have hfin := Lib.hid (show TS = (⟨[], 0⟩, false) by rw [HTS.out, if_pos (.inl (by omega))])
    have x0 := box_cell (j := 0) HB1.out rfl
    have x1 := box_cell (j := 1) HB1.out rfl
    have y0 := box_free HB1.out 0
    have y1 := box_free HB1.out 1
    clear hn hb1 own1 HP hlen
    go_wp2_with fail
    have X := box_set (j := 1) (u := .int .i64 0) (box_set (j := 0) (u := .slice none 0 0) HB1.out)
    have HBb : Below w.heap.size w ((w1.setCell ⟨w.heap.size, 0, none⟩ (.slice none 0 0)).setCell ⟨w.heap.size, 1, none⟩ (.int .i64 0)) := below_set (below_set hW1 (Nat.le_refl _) _) (Nat.le_refl _) _
    generalize (w1.setCell ⟨w.heap.size, 0, none⟩ (.slice none 0 0)).setCell ⟨w.heap.size, 1, none⟩ (.int .i64 0) = WX at X HBb ⊢
    have d0 := box_cell (j := 0) X rfl
    have d1 := box_cell (j := 1) X rfl
    refine bodyPost_ret (v := .tuple #[.agg #[.slice none 0 0, .int .i64 0], .bool false]) (by simp [results, Tryd.results18, go_sem, d0, d1]) rfl ?_
    exact ⟨[.slice none 0 0, .int .i64 0], by rw [hfin.out], by rw [hfin.out]; exact ownSelect (F0 := fun _ => False) (ownR_none _ _) (by decide) fun g h => h.elim, HBb⟩
  · obtain ⟨g, rfl, hg1, hg2, hg3⟩ := own1.form (by omega)
    obtain ⟨p0, p1, ps, rfl⟩ : ∃ p0 p1 ps, P = p0 :: p1 :: ps := by
      match P, hn with
      | [], hn => exact absurd hn (by simp only [List.length_nil]; omega)
      | [x], hn => exact absurd hn (by simp only [List.length_cons, List.length_nil]; omega)
      | x :: y :: r, hn => exact ⟨x, y, r, rfl⟩
    have cp1 := own1.cell (j := 1) (u := Tx p1) rfl
    have HPL := Lib.hid (show ps.length = n - 2 by simp at hn; omega)
    rw [HZ.out] at hg1
    have hn2 : 2 ≤ n := by omega
    have HR := Lib.hid (readW_any dashW p1 w1 (HMEM.out p1 (by simp)))
    have HFIN := Lib.hid (show TS = if selText ⟨ps.map candC, readW dashW p1⟩ ≠ s.data.toList then (⟨[], 0⟩, false) else (⟨ps.map candC, readW dashW p1⟩, true) by
      rw [HTS.out]
      simp only [List.drop_succ_cons, List.drop_zero, List.getD_cons_succ, List.getD_cons_zero]
      by_cases h : selText ⟨ps.map candC, readW dashW p1⟩ ≠ s.data.toList
      · rw [if_pos (.inr h), if_pos h]
      · rw [if_neg (fun hh => hh.elim (fun h' => by simp only [List.length_cons] at h'; omega) h), if_neg h])
    have HEL := Lib.hid (readW_wf dashW p1)
    generalize readW dashW p1 = el at *
    have HOWN := Lib.hid own1
    obtain ⟨A', hA'⟩ : ∃ A', cutA (some ⟨g, 0, none⟩) 2 c = A' := ⟨_, rfl⟩
    have HRUN : ∀ W, (Instr.slice 55 (.slice (some ⟨g, 0, none⟩) n c) (some (.int .i64 2)) none none).run Tryd.prog W = .ok (.slice A' (n - 2) (c - 2)) W := fun W => by
      have := run_cut_l Tryd.underlying55 (fun _ => by kernel_rfl) W (some ⟨g, 0, none⟩) n c 2 (by omega) (by omega)
      rw [show (2 : Int).toNat = 2 from rfl, hA'] at this
      exact this
    have HSEEN := Lib.hid (show Seen w1 w1.heap.size 1 A' (n - 2) (ps.map Tx) by
      have h0 := (HOWN.out.seen).cut (l := 2) (m := n - 2) (c := c) (by omega) hcap
      rw [hA', List.map_cons, List.map_cons, List.drop_succ_cons, List.drop_succ_cons, List.drop_zero, List.take_of_length_le (by rw [List.length_map]; have := HPL.out; omega)] at h0
      exact h0)
    have h2' : ¬ n < 2 := by omega
    clear hn own1 HP HTS hA' hlen
    go_wp2_with fail
    refine HR.out.mono ?_
    rintro e w2 ⟨rfl, hb2⟩
    have hbx := Lib.hid (box_new w2 #[.slice none 0 0, .int .i64 el] 39)
    have hW2 : Below w1.heap.size w1 (w2.alloc (.cells #[.slice none 0 0, .int .i64 el] 39)) := hb2.alloc hb2.size _
    have hzz : w1.heap.size ≤ w2.heap.size := hb2.size
    clear cp1 hb2
    go_wp2_with fail
    have HW2 := Lib.hid hW2
    clear hW2
    go_loopw [24] (fun i wr => ∃ (j : Nat) (A7 : Option Addr) (c7 : Nat) (done : List DCase), j ≤ n - 2 ∧ i = .int .i64 (j : Int) ∧ Hid (done = (ps.take j).map candC) ∧ Hid (wr.heap[w2.heap.size]? = some (.cells #[.slice A7 j c7, .int .i64 el] 39 (0, 0))) ∧
      Own wr (w2.heap.size + 1) wr.heap.size 64 5 A7 j c7 ((done.map caseCells).flatten) ∧ Below w2.heap.size (w2.alloc (.cells #[.slice none 0 0, .int .i64 el] 39)) wr) (fun i _ => n - 2 - (intOf i).toNat)
    case atStart => exact ⟨0, none, 0, [], Nat.zero_le _, rfl, Lib.hid rfl, hbx, Own.nil_ _ _ _ _ _, Below.refl _ _⟩
    case round =>
      obtain ⟨j, A7, c7, done, hj, rfl, HD, HX, hown, hb⟩ := hrel
      have hB1 : Below w1.heap.size w1 wr := HW2.out.trans (hb.mono hzz)
      have hxl := lt_of_block HX.out
      have hzw1 : w1.heap.size ≤ wr.heap.size := hB1.size
      by_cases hlt : j < n - 2
      · obtain ⟨g2, o2, u, rfl, hg2, hu, cc2⟩ := (HSEEN.out.below hB1 (Nat.le_refl _)).at_ (j := j) (by rw [Nat.mul_one]; exact hlt)
        rw [List.getElem?_map] at hu
        obtain ⟨t, ht, rfl⟩ := Option.map_eq_some_iff.1 hu
        have HNX := Lib.hid (show (ps.take (j + 1)).map candC = (ps.take j).map candC ++ [candP (cutR 58 [] t ++ [[], [], [], []])] by
          rw [List.take_add_one, ht]
          simp [candC])
        have htl : t.length ≤ 1048576 := HMEM.out t (List.mem_cons_of_mem _ (List.mem_cons_of_mem _ (List.mem_of_getElem? ht)))
        have HCO := Lib.hid (show Calls Tryd.prog 42 #[Tx t] wr (MadeT wr (cutR 58 [] t)) from l05Colons_any ⟨t.toArray⟩ wr (by rw [size_list]; exact htl))
        have hcl := cutR_length 58 t []
        have hcm := cutR_mem 58 t []
        have hcn := cutR_ne 58 t []
        generalize cutR 58 [] t = C at *
        have HCM := Lib.hid (fun p (hp : p ∈ C) => show p.length ≤ 1048576 by have := hcm p hp; simp only [List.length_nil] at this; omega)
        have HCN := Lib.hid hcn
        clear hu ht hcm hcn
        go_wp2_with fail
        refine HCO.out.mono ?_
        rintro e w5 ⟨A5, n5, c5, rfl, own5, hb5⟩
        have hn5 := own5.len
        rw [List.length_map] at hn5
        have HN5 := Lib.hid hn5
        have hn5l : n5 ≤ 1048577 := by omega
        have hown5 := own5.alloc (.cells #[Tx [], Tx [], Tx [], Tx []] 9)
        have hB5 : Below wr.heap.size wr (w5.alloc (.cells #[Tx [], Tx [], Tx [], Tx []] 9)) := hb5.alloc hb5.size _
        have hz5 : wr.heap.size ≤ (w5.alloc (.cells #[Tx [], Tx [], Tx [], Tx []] 9)).heap.size := hB5.size
        clear hn5 own5 hb5 cc2
        go_wp2_with (at_builtin; refine wpList_append_seen rfl (.tmp 29) (.tmp 30) _ rfl wr.heap.size _ 9 i0 _ 1 16 Tryd.underlying55 hi0 hz0 hz1 hz2 rfl (by omega) A5 n5 c5 _ rfl hown5 _ _ 4 4 _ rfl (seen_four w5 (Tx []) (Tx []) (Tx []) (Tx []) 9) (by simp [Value.oneCell']) (by simp only [maxLen]; omega) (by omega) hz5 ?_; intro A6 c6 w6 own6 hb6)
        have hown6 : Own w6 wr.heap.size w6.heap.size 9 1 A6 (n5 + 4) c6 ((C ++ [[], [], [], []]).map Tx) := by
          have h0 := own6
          simp only [List.map_append]
          exact h0
        have hB6 : Below wr.heap.size wr w6 := hB5.trans hb6
        obtain ⟨g6, rfl, hg6, -, hg6l⟩ := hown6.form (by omega)
        obtain ⟨q0, q1, q2, q3, q4, qs, hq⟩ : ∃ q0 q1 q2 q3 q4 qs, C ++ [[], [], [], []] = q0 :: q1 :: q2 :: q3 :: q4 :: qs := by
          match C, HCN.out with
          | [], h => exact absurd rfl h
          | [a], _ => exact ⟨_, _, _, _, _, _, rfl⟩
          | [a, b], _ => exact ⟨_, _, _, _, _, _, rfl⟩
          | [a, b, c], _ => exact ⟨_, _, _, _, _, _, rfl⟩
          | [a, b, c, d], _ => exact ⟨_, _, _, _, _, _, rfl⟩
          | a :: b :: c :: d :: e :: r, _ => exact ⟨_, _, _, _, _, _, rfl⟩
        have HQM := Lib.hid (fun p (hp : p ∈ q0 :: q1 :: q2 :: q3 :: q4 :: qs) => show p.length ≤ 1048576 by
          rw [← hq] at hp
          rcases List.mem_append.1 hp with h | h
          · exact HCM.out p h
          · simp at h
            subst h
            simp)
        rw [hq] at hown6 HNX
        have hql1 : q1.length ≤ 1048576 := HQM.out q1 (by simp)
        have hql2 : q2.length ≤ 1048576 := HQM.out q2 (by simp)
        have hql3 : q3.length ≤ 1048576 := HQM.out q3 (by simp)
        have hql4 : q4.length ≤ 1048576 := HQM.out q4 (by simp)
        have HO6 := Lib.hid hown6
        have HX6 := Lib.hid (box_keep HX.out hB6 hxl)
        have hxl6 := lt_of_block HX6.out
        have HBW6 := Lib.hid (hb.trans (hB6.mono (Nat.le_of_lt hxl)))
        have HOWN6 := Lib.hid (hown.below hB6 (Nat.le_refl _))
        have hwr6 : wr.heap.size ≤ w6.heap.size := hB6.size
        have hd0 := HO6.out.cell (j := 0) (u := Tx q0) rfl
        have hd1 := HO6.out.cell (j := 1) (u := Tx q1) rfl
        have hd2 := HO6.out.cell (j := 2) (u := Tx q2) rfl
        have hn54 : 4 < n5 + 4 := by have h1 := HN5.out; have h2 := List.length_pos_iff.2 HCN.out; omega
        generalize n5 + 4 = N5 at *
        have hj0 : (0 : Int) < (N5 : Int) := by omega
        have hj1 : (1 : Int) < (N5 : Int) := by omega
        have hj2 : (2 : Int) < (N5 : Int) := by omega
        have hj3 : (3 : Int) < (N5 : Int) := by omega
        have hj4 : (4 : Int) < (N5 : Int) := by omega
        have hm3 : 3 < N5 := by omega
        have hm0 : 0 < N5 := by omega
        have hVd : Below w6.heap.size w6 w6.drew := below_drawn (Below.refl _ _) 1
        clear own6 hb6 hown6 hB5 hz5 hown5 hq hB6 hown HX
        go_wp2_with fail
        refine wp_region_held_drew (S := (fun W : World => W.cell? ⟨g6, 0, none⟩ = some (Tx q0) ∧ W.cell? ⟨g6, 1, none⟩ = some (Tx q1) ∧ W.cell? ⟨g6, 2, none⟩ = some (Tx q2))) (by kernel_rfl) ⟨hd0, hd1, hd2⟩ ?_
        intro HS0
        refine wpAnyH_take (i := 0) (v := ?v1) rfl (by kernel_rfl) (by kernel_rfl) (by kernel_rfl) (fun _ _ _ h => h) (Or.inl ⟨by rfl, ?y1⟩) HS0 ?r1
        case y1 =>
          intro W hW
          obtain ⟨e0, e1, e2⟩ := hW
          go_simp
          try with_reducible rfl
        try simp only [Act.put, List.setIfInBounds_toArray, List.set_cons_zero, List.set_cons_succ]
        refine wpAnyH_take (i := 1) (v := ?v2) rfl (by kernel_rfl) (by kernel_rfl) (by kernel_rfl) (fun _ _ _ h => h) (Or.inl ⟨by rfl, ?y2⟩) HS0 ?r2
        case y2 =>
          intro W hW
          obtain ⟨e0, e1, e2⟩ := hW
          go_simp
          try with_reducible rfl
        try simp only [Act.put, List.setIfInBounds_toArray, List.set_cons_zero, List.set_cons_succ]
        refine wpAnyH_take (i := 2) (v := ?v3) rfl (by kernel_rfl) (by kernel_rfl) (by kernel_rfl) (fun _ _ _ h => h) (Or.inl ⟨by rfl, ?y3⟩) HS0 ?r3
        case y3 =>
          intro W hW
          obtain ⟨e0, e1, e2⟩ := hW
          go_simp
          try with_reducible rfl
        try simp only [Act.put, List.setIfInBounds_toArray, List.set_cons_zero, List.set_cons_succ]
        refine wpAnyH_take (i := 3) (v := ?v4) rfl (by kernel_rfl) (by kernel_rfl) (by kernel_rfl) (fun _ _ _ h => h) (Or.inl ⟨by rfl, ?y4⟩) HS0 ?r4
        case y4 =>
          intro W hW
          obtain ⟨e0, e1, e2⟩ := hW
          go_simp
          try with_reducible rfl
        try simp only [Act.put, List.setIfInBounds_toArray, List.set_cons_zero, List.set_cons_succ]
        refine wpAnyH_take (i := 4) (v := ?v5) rfl (by kernel_rfl) (by kernel_rfl) (by kernel_rfl) (fun _ _ _ h => h) (Or.inl ⟨by rfl, ?y5⟩) HS0 ?r5
        case y5 =>
          intro W hW
          obtain ⟨e0, e1, e2⟩ := hW
          go_simp
          try with_reducible rfl
        try simp only [Act.put, List.setIfInBounds_toArray, List.set_cons_zero, List.set_cons_succ]
        refine wpAnyH_take (i := 5) (v := ?v6) rfl (by kernel_rfl) (by kernel_rfl) (by kernel_rfl) (fun _ _ _ h => h) (Or.inl ⟨by rfl, ?y6⟩) HS0 ?r6
        case y6 =>
          intro W hW
          obtain ⟨e0, e1, e2⟩ := hW
          go_simp
          try with_reducible rfl
        try simp only [Act.put, List.setIfInBounds_toArray, List.set_cons_zero, List.set_cons_succ]
        refine wpAnyH_take (i := 6) (v := ?v7) rfl (by kernel_rfl) (by kernel_rfl) (by kernel_rfl) (fun _ _ _ h => h) (Or.inl ⟨by rfl, ?y7⟩) HS0 ?r7
        case y7 =>
          intro W hW
          obtain ⟨e0, e1, e2⟩ := hW
          go_simp
          try with_reducible rfl
        try simp only [Act.put, List.setIfInBounds_toArray, List.set_cons_zero, List.set_cons_succ]
        refine wpAnyH_take (i := 8) (v := ?v8) rfl (by kernel_rfl) (by kernel_rfl) (by kernel_rfl) (fun _ _ _ h => h) (Or.inl ⟨by rfl, ?y8⟩) HS0 ?r8
        case y8 =>
          intro W hW
          obtain ⟨e0, e1, e2⟩ := hW
          go_simp
          try with_reducible rfl
        try simp only [Act.put, List.setIfInBounds_toArray, List.set_cons_zero, List.set_cons_succ]
        refine wpAnyH_take (i := 9) (v := ?v9) rfl (by kernel_rfl) (by kernel_rfl) (by kernel_rfl) (fun _ _ _ h => h) (Or.inl ⟨by rfl, ?y9⟩) HS0 ?r9
        case y9 =>
          intro W hW
          obtain ⟨e0, e1, e2⟩ := hW
          go_simp
          try with_reducible rfl
        try simp only [Act.put, List.setIfInBounds_toArray, List.set_cons_zero, List.set_cons_succ]
        refine wpAnyH_take (i := 10) (v := ?v10) rfl (by kernel_rfl) (by kernel_rfl) (by kernel_rfl) (fun _ _ _ h => h) (Or.inl ⟨by rfl, ?y10⟩) HS0 ?r10
        case y10 =>
          intro W hW
          obtain ⟨e0, e1, e2⟩ := hW
          go_simp
          try with_reducible rfl
        try simp only [Act.put, List.setIfInBounds_toArray, List.set_cons_zero, List.set_cons_succ]
        refine wpAnyH_ready (rs := [7, 13]) (by kernel_rfl) (by simp) ?_
        refine AllReadyH.cons rfl (fun K hK => ?aa) (AllReadyH.cons rfl (fun K hK => ?bb) AllReadyH.nil)
        case' aa =>
          go_simp
          refine (readW_any _ _ _ hql1).mono ?_
          rintro e w7 ⟨rfl, hb7⟩
          have hV7 : Below w6.heap.size w6 w7 := hVd.trans hb7
          have HS7 : w7.cell? ⟨g6, 0, none⟩ = some (Tx q0) ∧ w7.cell? ⟨g6, 1, none⟩ = some (Tx q1) ∧ w7.cell? ⟨g6, 2, none⟩ = some (Tx q2) := cell_kept3 hV7 ⟨hd0, hd1, hd2⟩
          refine hK.out _ _ HS7 (fun _ => ?_)
          clear hK K hb7
          refine wpAnyH_ready (rs := [11, 13]) (by kernel_rfl) (by simp) ?_
          refine AllReadyH.cons rfl (fun K hK => ?cc) (AllReadyH.cons rfl (fun K hK => ?dd) AllReadyH.nil)
        case' cc =>
          go_simp
          refine (readW_any _ _ _ hql2).mono ?_
          rintro e w8 ⟨rfl, hb8⟩
          have hV8 : Below w6.heap.size w6 w8 := hV7.trans (hb8.mono hV7.size)
          have HS8 : w8.cell? ⟨g6, 0, none⟩ = some (Tx q0) ∧ w8.cell? ⟨g6, 1, none⟩ = some (Tx q1) ∧ w8.cell? ⟨g6, 2, none⟩ = some (Tx q2) := cell_kept3 hV8 ⟨hd0, hd1, hd2⟩
          refine hK.out _ _ HS8 (fun _ => ?_)
          clear hK K hb8
          try simp only [Act.put, List.setIfInBounds_toArray, List.set_cons_zero, List.set_cons_succ]
          refine wpAnyH_take (i := 12) (v := ?v11) rfl (by kernel_rfl) (by kernel_rfl) (by kernel_rfl) (fun _ _ _ h => h) (Or.inl ⟨by rfl, ?y11⟩) HS8 ?r11
          case y11 =>
            intro W hW
            obtain ⟨e0, e1, e2⟩ := hW
            go_simp
            try with_reducible rfl
          try simp only [Act.put, List.setIfInBounds_toArray, List.set_cons_zero, List.set_cons_succ]
          refine wpAnyH_ready (rs := [13]) (by kernel_rfl) (by simp) ?_
          refine AllReadyH.cons rfl (fun K hK => ?_) AllReadyH.nil
          go_simp
          have hVa : Below w6.heap.size w6 (w8.alloc (.cells #[.bool false, .int .i64 0, .int .i64 0, .int .i64 0, .int .i64 0] 64)) := hV8.alloc hV8.size _
          have hbxa : (w8.alloc (.cells #[.bool false, .int .i64 0, .int .i64 0, .int .i64 0, .int .i64 0] 64)).heap[w8.heap.size]? = some (.cells #[.bool false, .int .i64 0, .int .i64 0, .int .i64 0, .int .i64 0] 64) := box_new w8 _ _
          have HSa : (w8.alloc (.cells #[.bool false, .int .i64 0, .int .i64 0, .int .i64 0, .int .i64 0] 64)).cell? ⟨g6, 0, none⟩ = some (Tx q0) ∧ (w8.alloc (.cells #[.bool false, .int .i64 0, .int .i64 0, .int .i64 0, .int .i64 0] 64)).cell? ⟨g6, 1, none⟩ = some (Tx q1) ∧ (w8.alloc (.cells #[.bool false, .int .i64 0, .int .i64 0, .int .i64 0, .int .i64 0] 64)).cell? ⟨g6, 2, none⟩ = some (Tx q2) := cell_kept3 hVa ⟨hd0, hd1, hd2⟩
          refine hK.out _ _ HSa (fun _ => ?_)
          clear hK K
          have hbc : w6.heap.size ≤ w8.heap.size := hV8.size
          generalize w8.alloc (.cells #[.bool false, .int .i64 0, .int .i64 0, .int .i64 0, .int .i64 0] 64) = W9 at hVa hbxa HSa ⊢
          generalize w8.heap.size = bc at hbxa hbc ⊢
        case' dd =>
          go_simp
          have hVa : Below w6.heap.size w6 (w7.alloc (.cells #[.bool false, .int .i64 0, .int .i64 0, .int .i64 0, .int .i64 0] 64)) := hV7.alloc hV7.size _
          have hbxa : (w7.alloc (.cells #[.bool false, .int .i64 0, .int .i64 0, .int .i64 0, .int .i64 0] 64)).heap[w7.heap.size]? = some (.cells #[.bool false, .int .i64 0, .int .i64 0, .int .i64 0, .int .i64 0] 64) := box_new w7 _ _
          have HSa : (w7.alloc (.cells #[.bool false, .int .i64 0, .int .i64 0, .int .i64 0, .int .i64 0] 64)).cell? ⟨g6, 0, none⟩ = some (Tx q0) ∧ (w7.alloc (.cells #[.bool false, .int .i64 0, .int .i64 0, .int .i64 0, .int .i64 0] 64)).cell? ⟨g6, 1, none⟩ = some (Tx q1) ∧ (w7.alloc (.cells #[.bool false, .int .i64 0, .int .i64 0, .int .i64 0, .int .i64 0] 64)).cell? ⟨g6, 2, none⟩ = some (Tx q2) := cell_kept3 hVa ⟨hd0, hd1, hd2⟩
          refine hK.out _ _ HSa (fun _ => ?_)
          clear hK K
          have hbc : w6.heap.size ≤ w7.heap.size := hV7.size
          generalize w7.alloc (.cells #[.bool false, .int .i64 0, .int .i64 0, .int .i64 0, .int .i64 0] 64) = W0 at hVa hbxa HSa ⊢
          generalize w7.heap.size = bc at hbxa hbc ⊢
          refine wpAnyH_ready (rs := [11]) (by kernel_rfl) (by simp) ?_
          refine AllReadyH.cons rfl (fun K hK => ?_) AllReadyH.nil
          go_simp
          refine (readW_any _ _ _ hql2).mono ?_
          rintro e W9 ⟨rfl, hb8⟩
          have hV8 : Below w6.heap.size w6 W9 := hVa.trans (hb8.mono hVa.size)
          have HS8 : W9.cell? ⟨g6, 0, none⟩ = some (Tx q0) ∧ W9.cell? ⟨g6, 1, none⟩ = some (Tx q1) ∧ W9.cell? ⟨g6, 2, none⟩ = some (Tx q2) := cell_kept3 hV8 ⟨hd0, hd1, hd2⟩
          have hbx8 : W9.heap[bc]? = some (.cells #[.bool false, .int .i64 0, .int .i64 0, .int .i64 0, .int .i64 0] 64) := box_keep hbxa hb8 (lt_of_block hbxa)
          refine hK.out _ _ HS8 (fun _ => ?_)
          clear hK K hb8
          try simp only [Act.put, List.setIfInBounds_toArray, List.set_cons_zero, List.set_cons_succ]
          refine wpAnyH_take (i := 12) (v := ?v12) rfl (by kernel_rfl) (by kernel_rfl) (by kernel_rfl) (fun _ _ _ h => h) (Or.inl ⟨by rfl, ?y12⟩) HS8 ?r12
          case y12 =>
            intro W hW
            obtain ⟨e0, e1, e2⟩ := hW
            go_simp
            try with_reducible rfl
          try simp only [Act.put, List.setIfInBounds_toArray, List.set_cons_zero, List.set_cons_succ]
          clear hVa hbxa HSa
          have hVa := hV8
          have hbxa := hbx8
          have HSa := HS8
        case' bb =>
          go_simp
          have hVa : Below w6.heap.size w6 (w6.alloc (.cells #[.bool false, .int .i64 0, .int .i64 0, .int .i64 0, .int .i64 0] 64)).drew := below_drawn ((Below.refl _ _).alloc (Nat.le_refl _) _) 1
          have hbxa : (w6.alloc (.cells #[.bool false, .int .i64 0, .int .i64 0, .int .i64 0, .int .i64 0] 64)).drew.heap[w6.heap.size]? = some (.cells #[.bool false, .int .i64 0, .int .i64 0, .int .i64 0, .int .i64 0] 64) := box_new w6 _ _
          have HSa : (w6.alloc (.cells #[.bool false, .int .i64 0, .int .i64 0, .int .i64 0, .int .i64 0] 64)).drew.cell? ⟨g6, 0, none⟩ = some (Tx q0) ∧ (w6.alloc (.cells #[.bool false, .int .i64 0, .int .i64 0, .int .i64 0, .int .i64 0] 64)).drew.cell? ⟨g6, 1, none⟩ = some (Tx q1) ∧ (w6.alloc (.cells #[.bool false, .int .i64 0, .int .i64 0, .int .i64 0, .int .i64 0] 64)).drew.cell? ⟨g6, 2, none⟩ = some (Tx q2) := cell_kept3 hVa ⟨hd0, hd1, hd2⟩
          refine hK.out _ _ HSa (fun _ => ?_)
          clear hK K
          have hbc : w6.heap.size ≤ w6.heap.size := Nat.le_refl _
          generalize (w6.alloc (.cells #[.bool false, .int .i64 0, .int .i64 0, .int .i64 0, .int .i64 0] 64)).drew = W0 at hVa hbxa HSa ⊢
          obtain ⟨bc, hbc'⟩ : ∃ bc, w6.heap.size = bc := ⟨_, rfl⟩
          rw [hbc'] at hbxa
          replace hbc : w6.heap.size ≤ bc := by omega
          refine wpAnyH_ready (rs := [7]) (by kernel_rfl) (by simp) ?_
          refine AllReadyH.cons rfl (fun K hK => ?_) AllReadyH.nil
          go_simp
          refine (readW_any _ _ _ hql1).mono ?_
          rintro e w7 ⟨rfl, hb7⟩
          have hV7 : Below w6.heap.size w6 w7 := hVa.trans (hb7.mono hVa.size)
          have HS7 : w7.cell? ⟨g6, 0, none⟩ = some (Tx q0) ∧ w7.cell? ⟨g6, 1, none⟩ = some (Tx q1) ∧ w7.cell? ⟨g6, 2, none⟩ = some (Tx q2) := cell_kept3 hV7 ⟨hd0, hd1, hd2⟩
          have hbx7 : w7.heap[bc]? = some (.cells #[.bool false, .int .i64 0, .int .i64 0, .int .i64 0, .int .i64 0] 64) := box_keep hbxa hb7 (lt_of_block hbxa)
          refine hK.out _ _ HS7 (fun _ => ?_)
          clear hK K hb7
          try simp only [Act.put, List.setIfInBounds_toArray, List.set_cons_zero, List.set_cons_succ]
          refine wpAnyH_ready (rs := [11]) (by kernel_rfl) (by simp) ?_
          refine AllReadyH.cons rfl (fun K hK => ?_) AllReadyH.nil
          go_simp
          refine (readW_any _ _ _ hql2).mono ?_
          rintro e W9 ⟨rfl, hb8⟩
          have hV8 : Below w6.heap.size w6 W9 := hV7.trans (hb8.mono hV7.size)
          have HS8 : W9.cell? ⟨g6, 0, none⟩ = some (Tx q0) ∧ W9.cell? ⟨g6, 1, none⟩ = some (Tx q1) ∧ W9.cell? ⟨g6, 2, none⟩ = some (Tx q2) := cell_kept3 hV8 ⟨hd0, hd1, hd2⟩
          have hbx8 : W9.heap[bc]? = some (.cells #[.bool false, .int .i64 0, .int .i64 0, .int .i64 0, .int .i64 0] 64) := box_keep hbx7 hb8 (lt_of_block hbx7)
          refine hK.out _ _ HS8 (fun _ => ?_)
          clear hK K hb8
          try simp only [Act.put, List.setIfInBounds_toArray, List.set_cons_zero, List.set_cons_succ]
          refine wpAnyH_take (i := 12) (v := ?v13) rfl (by kernel_rfl) (by kernel_rfl) (by kernel_rfl) (fun _ _ _ h => h) (Or.inl ⟨by rfl, ?y13⟩) HS8 ?r13
          case y13 =>
            intro W hW
            obtain ⟨e0, e1, e2⟩ := hW
            go_simp
            try with_reducible rfl
          try simp only [Act.put, List.setIfInBounds_toArray, List.set_cons_zero, List.set_cons_succ]
          clear hVa hbxa HSa hbc'
          have hVa := hV8
          have hbxa := hbx8
          have HSa := HS8
        all_goals
          have hgcl := lt_of_block hbxa
          have k0 := box_cell (j := 0) hbxa rfl
          have k1 := box_cell (j := 1) hbxa rfl
          have k2 := box_cell (j := 2) hbxa rfl
          have k3 := box_cell (j := 3) hbxa rfl
          have k4 := box_cell (j := 4) hbxa rfl
          have f0 := box_free hbxa 0
          have f1 := box_free hbxa 1
          have f2 := box_free hbxa 2
          have f3 := box_free hbxa 3
          have f4 := box_free hbxa 4
          refine wpAnyH_ready (rs := [14]) (by kernel_rfl) (by simp) ?_
          refine AllReadyH.cons rfl (fun K hK => ?_) AllReadyH.nil
          go_simp
          have hC10 := box_set (j := 4) (u := .int .i64 0) (box_set (j := 3) (u := .int .i64 0) (box_set (j := 2) (u := .int .i64 (readW [] q2)) (box_set (j := 1) (u := .int .i64 (readW [110, 105, 108] q1)) (box_set (j := 0) (u := .bool (q0 == [115, 101, 110, 100])) hbxa))))
          have hV10 : Below w6.heap.size w6 (((((W9.setCell ⟨bc, 0, none⟩ (.bool (q0 == [115, 101, 110, 100]))).setCell ⟨bc, 1, none⟩ (.int .i64 (readW [110, 105, 108] q1))).setCell ⟨bc, 2, none⟩ (.int .i64 (readW [] q2))).setCell ⟨bc, 3, none⟩ (.int .i64 0)).setCell ⟨bc, 4, none⟩ (.int .i64 0)) := below_set (below_set (below_set (below_set (below_set hVa hbc _) hbc _) hbc _) hbc _) hbc _
          have HS10 : (((((W9.setCell ⟨bc, 0, none⟩ (.bool (q0 == [115, 101, 110, 100]))).setCell ⟨bc, 1, none⟩ (.int .i64 (readW [110, 105, 108] q1))).setCell ⟨bc, 2, none⟩ (.int .i64 (readW [] q2))).setCell ⟨bc, 3, none⟩ (.int .i64 0)).setCell ⟨bc, 4, none⟩ (.int .i64 0)).cell? ⟨g6, 0, none⟩ = some (Tx q0) ∧ (((((W9.setCell ⟨bc, 0, none⟩ (.bool (q0 == [115, 101, 110, 100]))).setCell ⟨bc, 1, none⟩ (.int .i64 (readW [110, 105, 108] q1))).setCell ⟨bc, 2, none⟩ (.int .i64 (readW [] q2))).setCell ⟨bc, 3, none⟩ (.int .i64 0)).setCell ⟨bc, 4, none⟩ (.int .i64 0)).cell? ⟨g6, 1, none⟩ = some (Tx q1) ∧ (((((W9.setCell ⟨bc, 0, none⟩ (.bool (q0 == [115, 101, 110, 100]))).setCell ⟨bc, 1, none⟩ (.int .i64 (readW [110, 105, 108] q1))).setCell ⟨bc, 2, none⟩ (.int .i64 (readW [] q2))).setCell ⟨bc, 3, none⟩ (.int .i64 0)).setCell ⟨bc, 4, none⟩ (.int .i64 0)).cell? ⟨g6, 2, none⟩ = some (Tx q2) := cell_kept3 hV10 ⟨hd0, hd1, hd2⟩
          refine hK.out _ _ HS10 (fun _ => ?_)
          clear hK K HSa hbxa hVa HS0
          generalize (((((W9.setCell ⟨bc, 0, none⟩ (.bool (q0 == [115, 101, 110, 100]))).setCell ⟨bc, 1, none⟩ (.int .i64 (readW [110, 105, 108] q1))).setCell ⟨bc, 2, none⟩ (.int .i64 (readW [] q2))).setCell ⟨bc, 3, none⟩ (.int .i64 0)).setCell ⟨bc, 4, none⟩ (.int .i64 0)) = Ww at hC10 hV10 HS10 ⊢
          refine wpAnyH_done (by kernel_rfl) ?_ _
          have hCw : Ww.heap[bc]? = some (.cells #[.bool (q0 == [115, 101, 110, 100]), .int .i64 (readW [110, 105, 108] q1), .int .i64 (readW [] q2), .int .i64 (0), .int .i64 (0)] 64 (0, 0)) := hC10
          have hVw := hV10
          have HCPA := Lib.hid (candP_at q0 q1 q2 q3 q4 qs)
          generalize (q0 == [115, 101, 110, 100]) = sb at hCw HCPA ⊢
          clear hC10 hV10 HS10
          have pq := cell_kept hVw (HO6.out.cell (j := 3) (u := Tx q3) rfl)
          go_wp2_with fail
          refine (readW_any _ _ _ hql3).mono ?_
          rintro e w11 ⟨rfl, hbq⟩
          have hVn : Below w6.heap.size w6 w11 := hVw.trans (hbq.mono hVw.size)
          have hCn := box_keep hCw hbq (lt_of_block hCw)
          have n4 := box_cell (j := 4) hCn rfl
          have m4 := box_free hCn 4
          clear hbq pq
          go_upto_region 11 with (fail)
          have hCs : (w11.setCell ⟨bc, 4, none⟩ (.int .i64 (readW [] q3))).heap[bc]? = some (.cells #[.bool sb, .int .i64 (readW [110, 105, 108] q1), .int .i64 (readW [] q2), .int .i64 (0), .int .i64 (readW [] q3)] 64 (0, 0)) := box_set (j := 4) (u := .int .i64 (readW [] q3)) hCn
          have hVs : Below w6.heap.size w6 (w11.setCell ⟨bc, 4, none⟩ (.int .i64 (readW [] q3))) := below_set hVn hbc _
          clear hCw hVw hCn hVn n4 m4
          generalize w11.setCell ⟨bc, 4, none⟩ (.int .i64 (readW [] q3)) = Wx at hCs hVs ⊢
          have hCw := hCs
          have hVw := hVs
          clear hCs hVs
          have kk0 := box_cell (j := 0) hCw rfl
          cases sb
          · have HCP := Lib.hid (show candP (q0 :: q1 :: q2 :: q3 :: q4 :: qs) = ⟨false, readW [110, 105, 108] q1, readW [] q2, readW [] q3, readW [] q4⟩ from HCPA.out)
            clear HCPA
            go_upto_region 12 with (fail)
            clear kk0
            have pq := cell_kept hVw (HO6.out.cell (j := 3) (u := Tx q3) rfl)
            go_wp2_with fail
            refine (readW_any _ _ _ hql3).mono ?_
            rintro e w12 ⟨rfl, hbq⟩
            have hVn : Below w6.heap.size w6 w12 := hVw.trans (hbq.mono hVw.size)
            have hCn := box_keep hCw hbq (lt_of_block hCw)
            have n3 := box_cell (j := 3) hCn rfl
            have m3 := box_free hCn 3
            clear hbq pq
            go_upto_region 13 with (fail)
            have hCs : (w12.setCell ⟨bc, 3, none⟩ (.int .i64 (readW [] q3))).heap[bc]? = some (.cells #[.bool false, .int .i64 (readW [110, 105, 108] q1), .int .i64 (readW [] q2), .int .i64 (readW [] q3), .int .i64 (readW [] q3)] 64 (0, 0)) := box_set (j := 3) (u := .int .i64 (readW [] q3)) hCn
            have hVs : Below w6.heap.size w6 (w12.setCell ⟨bc, 3, none⟩ (.int .i64 (readW [] q3))) := below_set hVn hbc _
            clear hCw hVw hCn hVn n3 m3
            generalize w12.setCell ⟨bc, 3, none⟩ (.int .i64 (readW [] q3)) = Wy at hCs hVs ⊢
            have hCw := hCs
            have hVw := hVs
            clear hCs hVs
            have pq := cell_kept hVw (HO6.out.cell (j := 4) (u := Tx q4) rfl)
            go_wp2_with fail
            refine (readW_any _ _ _ hql4).mono ?_
            rintro e w14 ⟨rfl, hbq⟩
            have hVn : Below w6.heap.size w6 w14 := hVw.trans (hbq.mono hVw.size)
            have hCn := box_keep hCw hbq (lt_of_block hCw)
            have n4 := box_cell (j := 4) hCn rfl
            have m4 := box_free hCn 4
            clear hbq pq
            go_upto_region 14 with (fail)
            have hCs : (w14.setCell ⟨bc, 4, none⟩ (.int .i64 (readW [] q4))).heap[bc]? = some (.cells #[.bool false, .int .i64 (readW [110, 105, 108] q1), .int .i64 (readW [] q2), .int .i64 (readW [] q3), .int .i64 (readW [] q4)] 64 (0, 0)) := box_set (j := 4) (u := .int .i64 (readW [] q4)) hCn
            have hVs : Below w6.heap.size w6 (w14.setCell ⟨bc, 4, none⟩ (.int .i64 (readW [] q4))) := below_set hVn hbc _
            clear hCw hVw hCn hVn n4 m4
            generalize w14.setCell ⟨bc, 4, none⟩ (.int .i64 (readW [] q4)) = Wz at hCs hVs ⊢
            have hCw := hCs
            have hVw := hVs
            clear hCs hVs
            have hxx := box_keep HX6.out hVw hxl6
            have xq0 := box_cell (j := 0) hxx rfl
            have zx := lt_of_block hxx
            have kk0 := box_cell (j := 0) hCw rfl
            have kk1 := box_cell (j := 1) hCw rfl
            have kk2 := box_cell (j := 2) hCw rfl
            have kk3 := box_cell (j := 3) hCw rfl
            have kk4 := box_cell (j := 4) hCw rfl
            have hownw := (HOWN6.out.below hVw hwr6).alloc (.cells #[.bool false, .int .i64 (readW [110, 105, 108] q1), .int .i64 (readW [] q2), .int .i64 (readW [] q3), .int .i64 (readW [] q4)] 64)
            have hVx : Below w6.heap.size w6 (Wz.alloc (.cells #[.bool false, .int .i64 (readW [110, 105, 108] q1), .int .i64 (readW [] q2), .int .i64 (readW [] q3), .int .i64 (readW [] q4)] 64)) := hVw.alloc hVw.size _
            have hxx2 := box_keep HX6.out hVx hxl6
            have zb : w2.heap.size + 1 ≤ (Wz.alloc (.cells #[.bool false, .int .i64 (readW [110, 105, 108] q1), .int .i64 (readW [] q2), .int .i64 (readW [] q3), .int .i64 (readW [] q4)] 64)).heap.size := lt_of_block hxx2
            go_wp2_with (at_builtin; refine wpList_append_seen rfl (.tmp 64) (.tmp 66) _ rfl (w2.heap.size + 1) _ 64 kI _ 5 40 Tryd.underlying37 hk0 hkz0 hkz1 hkz2 rfl (by omega) A7 j c7 _ rfl hownw _ _ 1 1 _ rfl (seen_five Wz (.bool false) (.int .i64 (readW [110, 105, 108] q1)) (.int .i64 (readW [] q2)) (.int .i64 (readW [] q3)) (.int .i64 (readW [] q4)) 64) (by simp [Value.oneCell']) (by simp only [maxLen]; omega) (by omega) zb ?_; intro A8 c8 w13 own8 hb8; have hx13 := box_keep hxx2 hb8 (Nat.lt_succ_self _); have xr0 := box_cell (j := 0) hx13 rfl; have xf0 := box_free hx13 0)
            go_roundw
            case rel =>
              refine ⟨j + 1, A8, c8, done ++ [⟨false, readW [110, 105, 108] q1, readW [] q2, readW [] q3, readW [] q4⟩], by omega, by go_num, Lib.hid ?_, Lib.hid (box_set (j := 0) (u := .slice A8 (j + 1) c8) hx13), ?_, ?_⟩
              · rw [HNX.out, ← HD.out, HCP.out]
              · rw [flat_snoc_]
                exact (own8.keep (w' := w13.setCell ⟨w2.heap.size, 0, none⟩ (.slice A8 (j + 1) c8)) fun k h1 _ _ => Below.heap_setCell w13 _ _ k (by simp only; omega)).wider (Nat.le_refl _) (by simp [World.setCell])
              · exact below_set (HBW6.out.trans ((hVx.mono (Nat.le_of_lt hxl6)).trans (hb8.mono (Nat.le_succ _)))) (Nat.le_refl _) _
            case measure => simp [intOf]; omega
          · have HCP := Lib.hid (show candP (q0 :: q1 :: q2 :: q3 :: q4 :: qs) = ⟨true, readW [110, 105, 108] q1, readW [] q2, 0, readW [] q3⟩ from HCPA.out)
            clear HCPA
            go_upto_region 14 with (fail)
            clear kk0
            have hxx := box_keep HX6.out hVw hxl6
            have xq0 := box_cell (j := 0) hxx rfl
            have zx := lt_of_block hxx
            have kk0 := box_cell (j := 0) hCw rfl
            have kk1 := box_cell (j := 1) hCw rfl
            have kk2 := box_cell (j := 2) hCw rfl
            have kk3 := box_cell (j := 3) hCw rfl
            have kk4 := box_cell (j := 4) hCw rfl
            have hownw := (HOWN6.out.below hVw hwr6).alloc (.cells #[.bool true, .int .i64 (readW [110, 105, 108] q1), .int .i64 (readW [] q2), .int .i64 (0), .int .i64 (readW [] q3)] 64)
            have hVx : Below w6.heap.size w6 (Wx.alloc (.cells #[.bool true, .int .i64 (readW [110, 105, 108] q1), .int .i64 (readW [] q2), .int .i64 (0), .int .i64 (readW [] q3)] 64)) := hVw.alloc hVw.size _
            have hxx2 := box_keep HX6.out hVx hxl6
            have zb : w2.heap.size + 1 ≤ (Wx.alloc (.cells #[.bool true, .int .i64 (readW [110, 105, 108] q1), .int .i64 (readW [] q2), .int .i64 (0), .int .i64 (readW [] q3)] 64)).heap.size := lt_of_block hxx2
            go_wp2_with (at_builtin; refine wpList_append_seen rfl (.tmp 64) (.tmp 66) _ rfl (w2.heap.size + 1) _ 64 kI _ 5 40 Tryd.underlying37 hk0 hkz0 hkz1 hkz2 rfl (by omega) A7 j c7 _ rfl hownw _ _ 1 1 _ rfl (seen_five Wx (.bool true) (.int .i64 (readW [110, 105, 108] q1)) (.int .i64 (readW [] q2)) (.int .i64 (0)) (.int .i64 (readW [] q3)) 64) (by simp [Value.oneCell']) (by simp only [maxLen]; omega) (by omega) zb ?_; intro A8 c8 w13 own8 hb8; have hx13 := box_keep hxx2 hb8 (Nat.lt_succ_self _); have xr0 := box_cell (j := 0) hx13 rfl; have xf0 := box_free hx13 0)
            go_roundw
            case rel =>
              refine ⟨j + 1, A8, c8, done ++ [⟨true, readW [110, 105, 108] q1, readW [] q2, 0, readW [] q3⟩], by omega, by go_num, Lib.hid ?_, Lib.hid (box_set (j := 0) (u := .slice A8 (j + 1) c8) hx13), ?_, ?_⟩
              · rw [HNX.out, ← HD.out, HCP.out]
              · rw [flat_snoc_]
                exact (own8.keep (w' := w13.setCell ⟨w2.heap.size, 0, none⟩ (.slice A8 (j + 1) c8)) fun k h1 _ _ => Below.heap_setCell w13 _ _ k (by simp only; omega)).wider (Nat.le_refl _) (by simp [World.setCell])
              · exact below_set (HBW6.out.trans ((hVx.mono (Nat.le_of_lt hxl6)).trans (hb8.mono (Nat.le_succ _)))) (Nat.le_refl _) _
            case measure => simp [intOf]; omega
      · obtain rfl : j = n - 2 := by omega
        have htk : ps.take (n - 2) = ps := List.take_of_length_le (by rw [HPL.out]; exact Nat.le_refl _)
        have HDD := Lib.hid (show done = ps.map candC by rw [HD.out, htk])
        have hdl : done.length = n - 2 := by rw [HDD.out, List.length_map, HPL.out]
        have HDL := Lib.hid hdl
        have HWF := Lib.hid (show ∀ x ∈ done, caseWf x by
          rw [HDD.out]
          intro x hx
          obtain ⟨t, _, rfl⟩ := List.mem_map.1 hx
          exact candP_wf _)
        have hsee := ownR_cases hown HDL.out HWF.out
        have HOR := Lib.hid hsee
        have hcap7 := hown.cap
        have hcm7 := hown.capMax
        have hq := ownSelect (x := ⟨done, el⟩) (F := fun g => w2.heap.size + 1 ≤ g ∧ g < wr.heap.size) hsee HEL.out (fun g h => h)
        have HSL := Lib.hid (specSelectText_any (w := wr) (hi := wr.heap.size) (s := ⟨done, el⟩) (laySelect.seen (hi := wr.heap.size) hq fun g h => h.2) (Nat.le_refl _) (by unfold szSelect; simp only; omega))
        have HFN := Lib.hid (show TS = if selText ⟨done, el⟩ ≠ s.data.toList then (⟨[], 0⟩, false) else (⟨done, el⟩, true) by rw [HFIN.out, HDD.out])
        have z0 := box_cell (j := 0) HX.out rfl
        have z1 := box_cell (j := 1) HX.out rfl
        have HR1 := Lib.hid (box_keep HB1.out hB1 hl1)
        have hWr : Below w.heap.size w wr := hW1.trans (hB1.mono hW1.size)
        have hlw := lt_of_block HR1.out
        clear htk hdl hsee hq hlt hown
        generalize selText ⟨done, el⟩ = tx at *
        go_wp2_with fail
        refine HSL.out.mono ?_
        rintro e w20 ⟨rfl, hb20⟩
        have HR2 := Lib.hid (box_keep HR1.out hb20 hlw)
        have hX20 := box_keep HX.out hb20 hxl
        have hW20 : Below w.heap.size w w20 := hWr.trans (hb20.mono hWr.size)
        have HOR2 := Lib.hid (HOR.out.stay (w' := w20) (fun g hg _ => hb20.block g hg.2) hb20.size)
        have hl20 := lt_of_block HR2.out
        have z0 := box_cell (j := 0) hX20 rfl
        have z1 := box_cell (j := 1) hX20 rfl
        have r0 := box_cell (j := 0) HR2.out rfl
        have r1 := box_cell (j := 1) HR2.out rfl
        have t0 := box_free HR2.out 0
        have t1 := box_free HR2.out 1
        have hzz2 : w2.heap.size + 1 ≤ wr.heap.size := hxl
        have hz20 : wr.heap.size ≤ w20.heap.size := hb20.size
        have hwz : w.heap.size ≤ w1.heap.size := hW1.size
        clear hb20
        cases tb : (tx == s.toList)
        · have hfin := Lib.hid (show TS = (⟨[], 0⟩, false) by rw [HFN.out, if_pos (by rw [← toList_data]; simpa using tb)])
          have tb2 : (!tx == s.toList) = true := by rw [tb]; rfl
          go_wp2_with fail
          have X := box_set (j := 1) (u := .int .i64 0) (box_set (j := 0) (u := .slice none 0 0) HR2.out)
          have HBb : Below w.heap.size w ((w20.setCell ⟨w.heap.size, 0, none⟩ (.slice none 0 0)).setCell ⟨w.heap.size, 1, none⟩ (.int .i64 0)) := below_set (below_set hW20 (Nat.le_refl _) _) (Nat.le_refl _) _
          generalize (w20.setCell ⟨w.heap.size, 0, none⟩ (.slice none 0 0)).setCell ⟨w.heap.size, 1, none⟩ (.int .i64 0) = WX at X HBb ⊢
          have d0 := box_cell (j := 0) X rfl
          have d1 := box_cell (j := 1) X rfl
          refine bodyPost_ret (v := .tuple #[.agg #[.slice none 0 0, .int .i64 0], .bool false]) (by simp [results, Tryd.results18, go_sem, d0, d1]) rfl ?_
          exact ⟨[.slice none 0 0, .int .i64 0], by rw [hfin.out], by rw [hfin.out]; exact ownSelect (F0 := fun _ => False) (ownR_none _ _) (by decide) fun g h => h.elim, HBb⟩
        · have hfin := Lib.hid (show TS = (⟨done, el⟩, true) by rw [HFN.out, if_neg (by rw [← toList_data]; simpa using tb)])
          have tb2 : (!tx == s.toList) = false := by rw [tb]; rfl
          go_wp2_with fail
          have X := box_set (j := 1) (u := .int .i64 el) (box_set (j := 0) (u := .slice A7 (n - 2) c7) HR2.out)
          have HBb : Below w.heap.size w ((w20.setCell ⟨w.heap.size, 0, none⟩ (.slice A7 (n - 2) c7)).setCell ⟨w.heap.size, 1, none⟩ (.int .i64 el)) := below_set (below_set hW20 (Nat.le_refl _) _) (Nat.le_refl _) _
          have HOR3 := HOR2.out.stay (w' := (w20.setCell ⟨w.heap.size, 0, none⟩ (.slice A7 (n - 2) c7)).setCell ⟨w.heap.size, 1, none⟩ (.int .i64 el)) (fun g hg _ => (Below.heap_setCell _ _ _ g (by simp only; omega)).trans (Below.heap_setCell w20 _ _ g (by simp only; omega))) (by simp [World.setCell])
          have hzs : w20.heap.size ≤ ((w20.setCell ⟨w.heap.size, 0, none⟩ (.slice A7 (n - 2) c7)).setCell ⟨w.heap.size, 1, none⟩ (.int .i64 el)).heap.size := by simp [World.setCell]
          generalize (w20.setCell ⟨w.heap.size, 0, none⟩ (.slice A7 (n - 2) c7)).setCell ⟨w.heap.size, 1, none⟩ (.int .i64 el) = WX at X HBb HOR3 hzs ⊢
          have d0 := box_cell (j := 0) X rfl
          have d1 := box_cell (j := 1) X rfl
          refine bodyPost_ret (v := .tuple #[.agg #[.slice A7 (n - 2) c7, .int .i64 el], .bool true]) (by simp [results, Tryd.results18, go_sem, d0, d1]) rfl ?_
          refine ⟨[.slice A7 (n - 2) c7, .int .i64 el], by rw [hfin.out], ?_, HBb⟩
          rw [hfin.out]
          exact ownSelect (x := ⟨done, el⟩) HOR3 HEL.out fun g hg => by omega
end Go.Proofs.YtllkbikhclfgpaaDoor
