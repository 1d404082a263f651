
/- The program's ItemText. Laid by wip/gen8/itemtxt.py. -/

import Derived.Test.YtakogbpjijbpeaaDoorItemTxM

import Derived.Test.YtakogbpjijbpeaaDoorItemI

import Derived.Test.YtakogbpjijbpeaaDoorJoinI

import Derived.Test.YtakogbpjijbpeaaDoorLaid

import Derived.Deep.Cut

namespace Go.Proofs.YtakogbpjijbpeaaDoor
set_option linter.unusedSimpArgs false
set_option linter.unusedVariables false
open Go.RowKit

abbrev PowI (W : World) : Prop := Lib.TabIs Tryd.prog W "internal/strconv.uint64pow10" .u64 Lib.pow10Tab

theorem itemValText_any (v : Int) (w : World) (hT : PowI w) : Calls Tryd.prog 25 #[.int .i64 v] w fun e w' => e = .returned (Tx (valT v)) ∧ Below w.heap.size w w' := by
  have HN := Lib.hid (implNumText_any v w hT)
  clear hT
  by_cases h : v = -1
  · subst h
    go_enter Tryd.func25, Tryd.ntmps25
    go_wp2_with fail
    go_ret
    exact ⟨rfl, Below.refl _ _⟩
  · have e1 := Lib.hid (show valT v = numText v from if_neg h)
    have hne : (v == -1) = false := by simpa using h
    clear h
    go_enter Tryd.func25, Tryd.ntmps25
    go_wp2_with fail
    refine HN.out.mono ?_
    rintro e w1 ⟨rfl, hb1⟩
    go_wp2_with fail
    go_ret
    exact ⟨by rw [e1.out]; rfl, hb1⟩
theorem hasVal_any {s : List UInt8} {hb : Bool} {lo hi : Int} (w : World) : Calls Tryd.prog 24 #[.agg #[Tx s, .bool hb, .int .i64 lo, .int .i64 hi]] w fun e w' => e = .returned (.bool (decide (hi > 0))) ∧ Below w.heap.size w w' := by
  go_enter Tryd.func24, Tryd.ntmps24
  go_wp2_with fail
  go_ret
  exact ⟨rfl, by go_grown⟩
theorem lineOf_any {w : World} {hi n c : Nat} {A : Option Addr} {ss : List (List UInt8)} {mark : List UInt8} (h : Seen w hi 1 A n (ss.map Tx)) (hhi : hi ≤ w.heap.size) (hc : n ≤ c) (hn : n ≤ 140737488355328) (hlen : (Lib.join ss mark).length ≤ 140737488355328) :
    Calls Tryd.prog 26 #[.slice A n c, Tx mark] w fun e w' => e = .returned (Tx (lineT ss mark)) ∧ Below w.heap.size w w' := by
  have HC := Lib.hid (contains_seen (c := c) h (by unfold maxLen; omega))
  have HJ := Lib.hid (join_seen h hhi hc hn hlen)
  clear h hlen hn hc
  go_enter Tryd.func26, Tryd.ntmps26
  go_wp2_with fail
  refine HC.out.mono ?_
  rintro e w1 ⟨rfl, rfl⟩
  by_cases hm : [] ∈ ss
  · have hfin := Lib.hid (show lineT ss mark = [] from if_pos hm)
    rw [show decide ([] ∈ ss) = true from decide_eq_true hm]
    clear hm
    go_wp2_with fail
    go_ret
    exact ⟨by rw [hfin.out]; rfl, Below.refl _ _⟩
  · have hfin := Lib.hid (show lineT ss mark = Lib.join ss mark from if_neg hm)
    rw [show decide ([] ∈ ss) = false from decide_eq_false hm]
    clear hm
    go_wp2_with fail
    refine HJ.out.mono ?_
    rintro e w2 ⟨rfl, hb2⟩
    go_wp2_with fail
    go_ret
    exact ⟨by rw [hfin.out]; rfl, hb2⟩

set_option maxRecDepth 100000 in
set_option maxHeartbeats 8000000 in
theorem itemText_at {obj val lo hi : Int} {ok hb : Bool} {s : List UInt8} {w : World} (z : Nat) (h1 : 1 ≤ z) (h2 : z ≤ 10) (hok : itemOkB ⟨z, obj, val, ok⟩ = true) (hv : (Lit.int .i64 val).wf = true) (hC : ItemCells w) (hT : PowI w) (hsl : s.length ≤ 10)
    (c0 : w.cell? ⟨0, z * 4, none⟩ = some (Tx s)) (c1 : w.cell? ⟨0, z * 4 + 1, none⟩ = some (.bool hb)) (c2 : w.cell? ⟨0, z * 4 + 2, none⟩ = some (.int .i64 lo)) (c3 : w.cell? ⟨0, z * 4 + 3, none⟩ = some (.int .i64 hi)) :
    Calls Tryd.prog 10 #[.agg #[.int .i64 (z : Int), .int .i64 obj, .int .i64 val, .bool ok]] w fun e w' => e = .returned (Tx (lineT (partsT s hb (decide (hi > 0)) (decide ((z : Int) = 2) && !ok) obj val) [32])) ∧ Below w.heap.size w w' := by
  obtain ⟨i0, hi0, iz0, iz1, iz2⟩ := info_parts str_info'
  have hg0 : 0 < w.heap.size := World.block_lt_of_cell? w _ c1
  have hz3 : (z : Int) ≤ 10 := by omega
  have hz4 : (1 : Int) ≤ (z : Int) := by omega
  have HIO := Lib.hid (fun (W : World) (hW : Below w.heap.size w W) => implItemOk_any (x := ⟨z, obj, val, ok⟩) (itemCells_below hC hW (Nat.le_refl _)) hv)
  have HN := Lib.hid (fun (W : World) (hW : Below w.heap.size w W) => implNumText_any obj W (tab_below hT hW (Nat.le_refl _)))
  have HV := Lib.hid (fun (W : World) (hW : Below w.heap.size w W) => itemValText_any val W (tab_below hT hW (Nat.le_refl _)))
  have HCC := Lib.hid (fun (W : World) (hW : Below w.heap.size w W) => show W.cell? ⟨0, z * 4, none⟩ = some (Tx s) ∧ W.cell? ⟨0, z * 4 + 1, none⟩ = some (.bool hb) ∧ W.cell? ⟨0, z * 4 + 2, none⟩ = some (.int .i64 lo) ∧ W.cell? ⟨0, z * 4 + 3, none⟩ = some (.int .i64 hi) from
    ⟨(hW.cell (p := ⟨_, _, none⟩) hg0).trans c0, (hW.cell (p := ⟨_, _, none⟩) hg0).trans c1, (hW.cell (p := ⟨_, _, none⟩) hg0).trans c2, (hW.cell (p := ⟨_, _, none⟩) hg0).trans c3⟩)
  obtain ⟨hvB, hHV⟩ : ∃ b, b = decide (hi > 0) := ⟨_, rfl⟩
  have HHV := Lib.hid (fun (W : World) => show Calls Tryd.prog 24 #[.agg #[Tx s, .bool hb, .int .i64 lo, .int .i64 hi]] W fun e w' => e = .returned (.bool hvB) ∧ Below W.heap.size W w' by rw [hHV]; exact hasVal_any W)
  rw [← hHV]
  clear hHV hC hT hv c0 c1 c2 c3
  obtain ⟨PT, hPT⟩ : ∃ P, P = partsT s hb hvB (decide ((z : Int) = 2) && !ok) obj val := ⟨_, rfl⟩
  rw [← hPT]
  have HPT := Lib.hid hPT
  have HLN := Lib.hid (show (Lib.join PT [32]).length ≤ 140737488355328 ∧ PT.length ≤ 4 from ⟨by
    have h3 := partsT_len (hb := hb) (hv := hvB) (gz := (decide ((z : Int) = 2) && !ok)) (obj := obj) (val := val) hsl
    have h4 := partsT_num (s := s) (hb := hb) (hv := hvB) (gz := (decide ((z : Int) = 2) && !ok)) (obj := obj) (val := val)
    rw [← hPT] at h3 h4
    cases PT with
    | nil => simp [Lib.join]
    | cons x l =>
      have h5 := joinI_len (mark := 32) l (fun f hf => h3 f (List.mem_cons_of_mem _ hf))
      have h6 := h3 x List.mem_cons_self
      simp only [List.length_cons] at h4
      rw [Lib.join_cons, List.length_append]
      omega, by rw [hPT]; exact partsT_num⟩)
  clear hPT hsl
  have hb0 : Below w.heap.size w (w.alloc (.cells #[.int .i64 (z : Int), .int .i64 obj, .int .i64 val, .bool ok] 25)) := (Below.refl _ _).alloc (Nat.le_refl _) _
  have hx0 := box_new w #[.int .i64 (z : Int), .int .i64 obj, .int .i64 val, .bool ok] 25
  have HB0 := Lib.hid hb0
  have HX0 := Lib.hid hx0
  clear hb0 hx0
  go_enter Tryd.func10, Tryd.ntmps10
  go_wp2_with fail
  refine (HIO.out _ HB0.out).mono ?_
  rintro e w1 ⟨rfl, hb1⟩
  rw [hok]
  clear hok HIO
  have hz1' := hb1.size
  simp only [World.size_alloc] at hz1'
  have HX1 := Lib.hid (box_keep HX0.out hb1 (by simp))
  have HB1 := Lib.hid (HB0.out.trans (hb1.mono (by simp)))
  clear hb1 HX0 HB0
  obtain ⟨c0, c1, c2, c3⟩ := HCC.out _ HB1.out
  have x0 := box_cell (j := 0) HX1.out rfl
  have hg1 : 0 < w1.heap.size := by omega
  go_upto_region 5 with (fail)

  have hbA : Below w.heap.size w ((w1.alloc (.cells #[.string ⟨s.toArray⟩, .bool hb, .int .i64 lo, .int .i64 hi] 54)).alloc (.cells #[.string ⟨s.toArray⟩] 9)) := (HB1.out.alloc (by omega) _).alloc (by simp only [World.size_alloc]; omega) _
  have hrow := box_keep (box_new w1 #[.string ⟨s.toArray⟩, .bool hb, .int .i64 lo, .int .i64 hi] 54) ((Below.refl _ _).alloc (Nat.le_refl _) (.cells #[.string ⟨s.toArray⟩] 9)) (by simp only [World.size_alloc]; omega)
  have hitem := box_keep HX1.out (((Below.refl w1.heap.size w1).alloc (Nat.le_refl _) (.cells #[.string ⟨s.toArray⟩, .bool hb, .int .i64 lo, .int .i64 hi] 54)).alloc (by simp only [World.size_alloc]; omega) (.cells #[.string ⟨s.toArray⟩] 9)) (by omega)
  have hown : Own ((w1.alloc (.cells #[.string ⟨s.toArray⟩, .bool hb, .int .i64 lo, .int .i64 hi] 54)).alloc (.cells #[.string ⟨s.toArray⟩] 9)) (w1.heap.size + 1) ((w1.alloc (.cells #[.string ⟨s.toArray⟩, .bool hb, .int .i64 lo, .int .i64 hi] 54)).alloc (.cells #[.string ⟨s.toArray⟩] 9)).heap.size 9 1 (some ⟨w1.heap.size + 1, 0, none⟩) 1 1 [Tx s] := by simpa using (Own.made (size := 1) (e := 9) (w1.alloc (.cells #[.string ⟨s.toArray⟩, .bool hb, .int .i64 lo, .int .i64 hi] 54)) #[Tx s] 1 1 (by decide) rfl (Nat.le_refl _)).wider (by simp) (by simp)
  have hz2 : w1.heap.size + 2 ≤ ((w1.alloc (.cells #[.string ⟨s.toArray⟩, .bool hb, .int .i64 lo, .int .i64 hi] 54)).alloc (.cells #[.string ⟨s.toArray⟩] 9)).heap.size := by simp
  generalize ((w1.alloc (.cells #[.string ⟨s.toArray⟩, .bool hb, .int .i64 lo, .int .i64 hi] 54)).alloc (.cells #[.string ⟨s.toArray⟩] 9)) = w2 at *
  have HK := Lib.hid (fun (W : World) (hW : Below (w1.heap.size + 1) w2 W) => show W.heap[w.heap.size]? = some (.cells #[.int .i64 (z : Int), .int .i64 obj, .int .i64 val, .bool ok] 25 (0, 0)) ∧ W.heap[w1.heap.size]? = some (.cells #[.string ⟨s.toArray⟩, .bool hb, .int .i64 lo, .int .i64 hi] 54 (0, 0)) ∧ Below w.heap.size w W from ⟨box_keep hitem hW (by omega), box_keep hrow hW (by omega), hbA.trans (hW.mono (by omega))⟩)
  have HE := Lib.hid (Below.refl (w1.heap.size + 1) w2)
  clear hbA hrow hitem c0 c1 c2 c3 x0 HX1 HB1 HCC
  cases hb
  · skip
    have r0 := box_cell (j := 0) (HK.out _ HE.out).2.1 rfl
    have r1 := box_cell (j := 1) (HK.out _ HE.out).2.1 rfl
    have r2 := box_cell (j := 2) (HK.out _ HE.out).2.1 rfl
    have r3 := box_cell (j := 3) (HK.out _ HE.out).2.1 rfl
    have q0 := box_cell (j := 0) (HK.out _ HE.out).1 rfl
    have q1 := box_cell (j := 1) (HK.out _ HE.out).1 rfl
    have q2 := box_cell (j := 2) (HK.out _ HE.out).1 rfl
    have q3 := box_cell (j := 3) (HK.out _ HE.out).1 rfl
    go_upto_region 7 with (fail)
    clear r0 r1 r2 r3 q0 q1 q2 q3
    have r0 := box_cell (j := 0) (HK.out _ HE.out).2.1 rfl
    have r1 := box_cell (j := 1) (HK.out _ HE.out).2.1 rfl
    have r2 := box_cell (j := 2) (HK.out _ HE.out).2.1 rfl
    have r3 := box_cell (j := 3) (HK.out _ HE.out).2.1 rfl
    have q0 := box_cell (j := 0) (HK.out _ HE.out).1 rfl
    have q1 := box_cell (j := 1) (HK.out _ HE.out).1 rfl
    have q2 := box_cell (j := 2) (HK.out _ HE.out).1 rfl
    have q3 := box_cell (j := 3) (HK.out _ HE.out).1 rfl
    go_wp2_with fail
    refine (HHV.out w2).mono ?_
    rintro e v1 ⟨rfl, hb2⟩
    have own3 := hown.below hb2 (Nat.le_refl _)
    replace own3 := own3.wider (Nat.le_refl _) hb2.size
    have hz4 := hb2.size
    replace HE := Lib.hid (HE.out.trans (hb2.mono (by omega)))
    clear hb2
    clear r0 r1 r2 r3 q0 q1 q2 q3
    cases hvB
    · go_upto_region 9 with (fail)
      by_cases hq : (z : Int) = 2
      · have hqb : ((z : Int) == 2) = true := by simp [hq]
        cases ok
        · skip
          have r0 := box_cell (j := 0) (HK.out _ HE.out).2.1 rfl
          have r1 := box_cell (j := 1) (HK.out _ HE.out).2.1 rfl
          have r2 := box_cell (j := 2) (HK.out _ HE.out).2.1 rfl
          have r3 := box_cell (j := 3) (HK.out _ HE.out).2.1 rfl
          have q0 := box_cell (j := 0) (HK.out _ HE.out).1 rfl
          have q1 := box_cell (j := 1) (HK.out _ HE.out).1 rfl
          have q2 := box_cell (j := 2) (HK.out _ HE.out).1 rfl
          have q3 := box_cell (j := 3) (HK.out _ HE.out).1 rfl
          have own5 := own3.alloc (.cells #[Tx zeroIW] 9)
          have HEa := Lib.hid (HE.out.alloc (by omega) (.cells #[Tx zeroIW] 9))
          clear HE
          have HE := HEa
          clear HEa
          go_upto_region 11 with (at_builtin; refine wpList_append_seen rfl (.tmp 39) (.tmp 40) _ rfl (w1.heap.size + 1) _ 9 i0 _ 1 16 Tryd.underlying56 hi0 iz0 iz1 iz2 rfl (by omega) (some ⟨w1.heap.size + 1, 0, none⟩) 1 1 _ rfl own5 _ _ 1 1 _ rfl (Seen.one v1 (Tx zeroIW) 9) (by simp [Value.oneCell']) (by simp only [maxLen]; omega) (by omega) (by simp only [World.size_alloc]; omega) ?_; intro A6 c7 v8 own9 hb10)
          replace HE := Lib.hid (HE.out.trans hb10)
          have hz11 := hb10.size
          simp only [World.size_alloc, Nat.reduceAdd] at own9 hz11
          clear hb10
          clear r0 r1 r2 r3 q0 q1 q2 q3
          have hcap := own9.cap
          have HS : Seen v8 v8.heap.size 1 A6 2 (PT.map Tx) := by rw [HPT.out]; simpa [partsT, zeroIW, hq] using own9.seen
          go_wp2_with fail
          refine (lineOf_any (c := c7) HS (Nat.le_refl _) hcap (by omega) HLN.out.1).mono ?_
          rintro e v12 ⟨rfl, hb13⟩
          have HF := Lib.hid ((HK.out _ HE.out).2.2.trans (hb13.mono (HK.out _ HE.out).2.2.size))
          clear hb13 HS hcap
          go_wp2_with fail
          go_ret
          exact ⟨rfl, HF.out⟩
        · skip
          have r0 := box_cell (j := 0) (HK.out _ HE.out).2.1 rfl
          have r1 := box_cell (j := 1) (HK.out _ HE.out).2.1 rfl
          have r2 := box_cell (j := 2) (HK.out _ HE.out).2.1 rfl
          have r3 := box_cell (j := 3) (HK.out _ HE.out).2.1 rfl
          have q0 := box_cell (j := 0) (HK.out _ HE.out).1 rfl
          have q1 := box_cell (j := 1) (HK.out _ HE.out).1 rfl
          have q2 := box_cell (j := 2) (HK.out _ HE.out).1 rfl
          have q3 := box_cell (j := 3) (HK.out _ HE.out).1 rfl
          go_upto_region 11 with (fail)
          clear r0 r1 r2 r3 q0 q1 q2 q3
          have hcap := own3.cap
          have HS : Seen v1 v1.heap.size 1 (some ⟨w1.heap.size + 1, 0, none⟩) 1 (PT.map Tx) := by rw [HPT.out]; simpa [partsT, zeroIW, hq] using own3.seen
          go_wp2_with fail
          refine (lineOf_any (c := 1) HS (Nat.le_refl _) hcap (by omega) HLN.out.1).mono ?_
          rintro e v14 ⟨rfl, hb15⟩
          have HF := Lib.hid ((HK.out _ HE.out).2.2.trans (hb15.mono (HK.out _ HE.out).2.2.size))
          clear hb15 HS hcap
          go_wp2_with fail
          go_ret
          exact ⟨rfl, HF.out⟩
      · have hqb : ((z : Int) == 2) = false := by simpa using hq
        have r0 := box_cell (j := 0) (HK.out _ HE.out).2.1 rfl
        have r1 := box_cell (j := 1) (HK.out _ HE.out).2.1 rfl
        have r2 := box_cell (j := 2) (HK.out _ HE.out).2.1 rfl
        have r3 := box_cell (j := 3) (HK.out _ HE.out).2.1 rfl
        have q0 := box_cell (j := 0) (HK.out _ HE.out).1 rfl
        have q1 := box_cell (j := 1) (HK.out _ HE.out).1 rfl
        have q2 := box_cell (j := 2) (HK.out _ HE.out).1 rfl
        have q3 := box_cell (j := 3) (HK.out _ HE.out).1 rfl
        go_upto_region 11 with (fail)
        clear r0 r1 r2 r3 q0 q1 q2 q3
        have hcap := own3.cap
        have HS : Seen v1 v1.heap.size 1 (some ⟨w1.heap.size + 1, 0, none⟩) 1 (PT.map Tx) := by rw [HPT.out]; simpa [partsT, zeroIW, hq] using own3.seen
        go_wp2_with fail
        refine (lineOf_any (c := 1) HS (Nat.le_refl _) hcap (by omega) HLN.out.1).mono ?_
        rintro e v16 ⟨rfl, hb17⟩
        have HF := Lib.hid ((HK.out _ HE.out).2.2.trans (hb17.mono (HK.out _ HE.out).2.2.size))
        clear hb17 HS hcap
        go_wp2_with fail
        go_ret
        exact ⟨rfl, HF.out⟩
    · skip
      have r0 := box_cell (j := 0) (HK.out _ HE.out).2.1 rfl
      have r1 := box_cell (j := 1) (HK.out _ HE.out).2.1 rfl
      have r2 := box_cell (j := 2) (HK.out _ HE.out).2.1 rfl
      have r3 := box_cell (j := 3) (HK.out _ HE.out).2.1 rfl
      have q0 := box_cell (j := 0) (HK.out _ HE.out).1 rfl
      have q1 := box_cell (j := 1) (HK.out _ HE.out).1 rfl
      have q2 := box_cell (j := 2) (HK.out _ HE.out).1 rfl
      have q3 := box_cell (j := 3) (HK.out _ HE.out).1 rfl
      go_wp2_with fail
      refine (HV.out _ (HK.out _ HE.out).2.2).mono ?_
      rintro e v18 ⟨rfl, hb19⟩
      clear r0 r1 r2 r3 q0 q1 q2 q3
      have own20 := (own3.below hb19 (Nat.le_refl _)).alloc (.cells #[Tx (valT val)] 9)
      have hz21 := hb19.size
      replace HE := Lib.hid ((HE.out.trans (hb19.mono (by omega))).alloc (by omega) (.cells #[Tx (valT val)] 9))
      clear hb19
      go_upto_region 9 with (at_builtin; refine wpList_append_seen rfl (.tmp 25) (.tmp 29) _ rfl (w1.heap.size + 1) _ 9 i0 _ 1 16 Tryd.underlying56 hi0 iz0 iz1 iz2 rfl (by omega) (some ⟨w1.heap.size + 1, 0, none⟩) 1 1 _ rfl own20 _ _ 1 1 _ rfl (Seen.one v18 (Tx (valT val)) 9) (by simp [Value.oneCell']) (by simp only [maxLen]; omega) (by omega) (by simp only [World.size_alloc]; omega) ?_; intro A22 c23 v24 own25 hb26)
      replace HE := Lib.hid (HE.out.trans hb26)
      have hz27 := hb26.size
      simp only [World.size_alloc, Nat.reduceAdd] at own25 hz27
      clear hb26
      by_cases hq : (z : Int) = 2
      · have hqb : ((z : Int) == 2) = true := by simp [hq]
        cases ok
        · skip
          have r0 := box_cell (j := 0) (HK.out _ HE.out).2.1 rfl
          have r1 := box_cell (j := 1) (HK.out _ HE.out).2.1 rfl
          have r2 := box_cell (j := 2) (HK.out _ HE.out).2.1 rfl
          have r3 := box_cell (j := 3) (HK.out _ HE.out).2.1 rfl
          have q0 := box_cell (j := 0) (HK.out _ HE.out).1 rfl
          have q1 := box_cell (j := 1) (HK.out _ HE.out).1 rfl
          have q2 := box_cell (j := 2) (HK.out _ HE.out).1 rfl
          have q3 := box_cell (j := 3) (HK.out _ HE.out).1 rfl
          have own28 := own25.alloc (.cells #[Tx zeroIW] 9)
          have HEa := Lib.hid (HE.out.alloc (by omega) (.cells #[Tx zeroIW] 9))
          clear HE
          have HE := HEa
          clear HEa
          go_upto_region 11 with (at_builtin; refine wpList_append_seen rfl (.tmp 39) (.tmp 40) _ rfl (w1.heap.size + 1) _ 9 i0 _ 1 16 Tryd.underlying56 hi0 iz0 iz1 iz2 rfl (by omega) A22 2 c23 _ rfl own28 _ _ 1 1 _ rfl (Seen.one v24 (Tx zeroIW) 9) (by simp [Value.oneCell']) (by simp only [maxLen]; omega) (by omega) (by simp only [World.size_alloc]; omega) ?_; intro A29 c30 v31 own32 hb33)
          replace HE := Lib.hid (HE.out.trans hb33)
          have hz34 := hb33.size
          simp only [World.size_alloc, Nat.reduceAdd] at own32 hz34
          clear hb33
          clear r0 r1 r2 r3 q0 q1 q2 q3
          have hcap := own32.cap
          have HS : Seen v31 v31.heap.size 1 A29 3 (PT.map Tx) := by rw [HPT.out]; simpa [partsT, zeroIW, hq] using own32.seen
          go_wp2_with fail
          refine (lineOf_any (c := c30) HS (Nat.le_refl _) hcap (by omega) HLN.out.1).mono ?_
          rintro e v35 ⟨rfl, hb36⟩
          have HF := Lib.hid ((HK.out _ HE.out).2.2.trans (hb36.mono (HK.out _ HE.out).2.2.size))
          clear hb36 HS hcap
          go_wp2_with fail
          go_ret
          exact ⟨rfl, HF.out⟩
        · skip
          have r0 := box_cell (j := 0) (HK.out _ HE.out).2.1 rfl
          have r1 := box_cell (j := 1) (HK.out _ HE.out).2.1 rfl
          have r2 := box_cell (j := 2) (HK.out _ HE.out).2.1 rfl
          have r3 := box_cell (j := 3) (HK.out _ HE.out).2.1 rfl
          have q0 := box_cell (j := 0) (HK.out _ HE.out).1 rfl
          have q1 := box_cell (j := 1) (HK.out _ HE.out).1 rfl
          have q2 := box_cell (j := 2) (HK.out _ HE.out).1 rfl
          have q3 := box_cell (j := 3) (HK.out _ HE.out).1 rfl
          go_upto_region 11 with (fail)
          clear r0 r1 r2 r3 q0 q1 q2 q3
          have hcap := own25.cap
          have HS : Seen v24 v24.heap.size 1 A22 2 (PT.map Tx) := by rw [HPT.out]; simpa [partsT, zeroIW, hq] using own25.seen
          go_wp2_with fail
          refine (lineOf_any (c := c23) HS (Nat.le_refl _) hcap (by omega) HLN.out.1).mono ?_
          rintro e v37 ⟨rfl, hb38⟩
          have HF := Lib.hid ((HK.out _ HE.out).2.2.trans (hb38.mono (HK.out _ HE.out).2.2.size))
          clear hb38 HS hcap
          go_wp2_with fail
          go_ret
          exact ⟨rfl, HF.out⟩
      · have hqb : ((z : Int) == 2) = false := by simpa using hq
        have r0 := box_cell (j := 0) (HK.out _ HE.out).2.1 rfl
        have r1 := box_cell (j := 1) (HK.out _ HE.out).2.1 rfl
        have r2 := box_cell (j := 2) (HK.out _ HE.out).2.1 rfl
        have r3 := box_cell (j := 3) (HK.out _ HE.out).2.1 rfl
        have q0 := box_cell (j := 0) (HK.out _ HE.out).1 rfl
        have q1 := box_cell (j := 1) (HK.out _ HE.out).1 rfl
        have q2 := box_cell (j := 2) (HK.out _ HE.out).1 rfl
        have q3 := box_cell (j := 3) (HK.out _ HE.out).1 rfl
        go_upto_region 11 with (fail)
        clear r0 r1 r2 r3 q0 q1 q2 q3
        have hcap := own25.cap
        have HS : Seen v24 v24.heap.size 1 A22 2 (PT.map Tx) := by rw [HPT.out]; simpa [partsT, zeroIW, hq] using own25.seen
        go_wp2_with fail
        refine (lineOf_any (c := c23) HS (Nat.le_refl _) hcap (by omega) HLN.out.1).mono ?_
        rintro e v39 ⟨rfl, hb40⟩
        have HF := Lib.hid ((HK.out _ HE.out).2.2.trans (hb40.mono (HK.out _ HE.out).2.2.size))
        clear hb40 HS hcap
        go_wp2_with fail
        go_ret
        exact ⟨rfl, HF.out⟩
  · skip
    have r0 := box_cell (j := 0) (HK.out _ HE.out).2.1 rfl
    have r1 := box_cell (j := 1) (HK.out _ HE.out).2.1 rfl
    have r2 := box_cell (j := 2) (HK.out _ HE.out).2.1 rfl
    have r3 := box_cell (j := 3) (HK.out _ HE.out).2.1 rfl
    have q0 := box_cell (j := 0) (HK.out _ HE.out).1 rfl
    have q1 := box_cell (j := 1) (HK.out _ HE.out).1 rfl
    have q2 := box_cell (j := 2) (HK.out _ HE.out).1 rfl
    have q3 := box_cell (j := 3) (HK.out _ HE.out).1 rfl
    go_wp2_with fail
    refine (HN.out _ (HK.out _ HE.out).2.2).mono ?_
    rintro e v0 ⟨rfl, hbv0⟩
    clear r0 r1 r2 r3 q0 q1 q2 q3
    have own41 := (hown.below hbv0 (Nat.le_refl _)).alloc (.cells #[Tx (numText obj)] 9)
    have hz42 := hbv0.size
    replace HE := Lib.hid ((HE.out.trans (hbv0.mono (by omega))).alloc (by omega) (.cells #[Tx (numText obj)] 9))
    clear hbv0
    go_upto_region 7 with (at_builtin; refine wpList_append_seen rfl (.tmp 17) (.tmp 21) _ rfl (w1.heap.size + 1) _ 9 i0 _ 1 16 Tryd.underlying56 hi0 iz0 iz1 iz2 rfl (by omega) (some ⟨w1.heap.size + 1, 0, none⟩) 1 1 _ rfl own41 _ _ 1 1 _ rfl (Seen.one v0 (Tx (numText obj)) 9) (by simp [Value.oneCell']) (by simp only [maxLen]; omega) (by omega) (by simp only [World.size_alloc]; omega) ?_; intro A43 c44 v45 own46 hb47)
    replace HE := Lib.hid (HE.out.trans hb47)
    have hz48 := hb47.size
    simp only [World.size_alloc, Nat.reduceAdd] at own46 hz48
    clear hb47
    have r0 := box_cell (j := 0) (HK.out _ HE.out).2.1 rfl
    have r1 := box_cell (j := 1) (HK.out _ HE.out).2.1 rfl
    have r2 := box_cell (j := 2) (HK.out _ HE.out).2.1 rfl
    have r3 := box_cell (j := 3) (HK.out _ HE.out).2.1 rfl
    have q0 := box_cell (j := 0) (HK.out _ HE.out).1 rfl
    have q1 := box_cell (j := 1) (HK.out _ HE.out).1 rfl
    have q2 := box_cell (j := 2) (HK.out _ HE.out).1 rfl
    have q3 := box_cell (j := 3) (HK.out _ HE.out).1 rfl
    go_wp2_with fail
    refine (HHV.out v45).mono ?_
    rintro e v49 ⟨rfl, hb50⟩
    have own51 := own46.below hb50 (Nat.le_refl _)
    replace own51 := own51.wider (Nat.le_refl _) hb50.size
    have hz52 := hb50.size
    replace HE := Lib.hid (HE.out.trans (hb50.mono (by omega)))
    clear hb50
    clear r0 r1 r2 r3 q0 q1 q2 q3
    cases hvB
    · go_upto_region 9 with (fail)
      by_cases hq : (z : Int) = 2
      · have hqb : ((z : Int) == 2) = true := by simp [hq]
        cases ok
        · skip
          have r0 := box_cell (j := 0) (HK.out _ HE.out).2.1 rfl
          have r1 := box_cell (j := 1) (HK.out _ HE.out).2.1 rfl
          have r2 := box_cell (j := 2) (HK.out _ HE.out).2.1 rfl
          have r3 := box_cell (j := 3) (HK.out _ HE.out).2.1 rfl
          have q0 := box_cell (j := 0) (HK.out _ HE.out).1 rfl
          have q1 := box_cell (j := 1) (HK.out _ HE.out).1 rfl
          have q2 := box_cell (j := 2) (HK.out _ HE.out).1 rfl
          have q3 := box_cell (j := 3) (HK.out _ HE.out).1 rfl
          have own53 := own51.alloc (.cells #[Tx zeroIW] 9)
          have HEa := Lib.hid (HE.out.alloc (by omega) (.cells #[Tx zeroIW] 9))
          clear HE
          have HE := HEa
          clear HEa
          go_upto_region 11 with (at_builtin; refine wpList_append_seen rfl (.tmp 39) (.tmp 40) _ rfl (w1.heap.size + 1) _ 9 i0 _ 1 16 Tryd.underlying56 hi0 iz0 iz1 iz2 rfl (by omega) A43 2 c44 _ rfl own53 _ _ 1 1 _ rfl (Seen.one v49 (Tx zeroIW) 9) (by simp [Value.oneCell']) (by simp only [maxLen]; omega) (by omega) (by simp only [World.size_alloc]; omega) ?_; intro A54 c55 v56 own57 hb58)
          replace HE := Lib.hid (HE.out.trans hb58)
          have hz59 := hb58.size
          simp only [World.size_alloc, Nat.reduceAdd] at own57 hz59
          clear hb58
          clear r0 r1 r2 r3 q0 q1 q2 q3
          have hcap := own57.cap
          have HS : Seen v56 v56.heap.size 1 A54 3 (PT.map Tx) := by rw [HPT.out]; simpa [partsT, zeroIW, hq] using own57.seen
          go_wp2_with fail
          refine (lineOf_any (c := c55) HS (Nat.le_refl _) hcap (by omega) HLN.out.1).mono ?_
          rintro e v60 ⟨rfl, hb61⟩
          have HF := Lib.hid ((HK.out _ HE.out).2.2.trans (hb61.mono (HK.out _ HE.out).2.2.size))
          clear hb61 HS hcap
          go_wp2_with fail
          go_ret
          exact ⟨rfl, HF.out⟩
        · skip
          have r0 := box_cell (j := 0) (HK.out _ HE.out).2.1 rfl
          have r1 := box_cell (j := 1) (HK.out _ HE.out).2.1 rfl
          have r2 := box_cell (j := 2) (HK.out _ HE.out).2.1 rfl
          have r3 := box_cell (j := 3) (HK.out _ HE.out).2.1 rfl
          have q0 := box_cell (j := 0) (HK.out _ HE.out).1 rfl
          have q1 := box_cell (j := 1) (HK.out _ HE.out).1 rfl
          have q2 := box_cell (j := 2) (HK.out _ HE.out).1 rfl
          have q3 := box_cell (j := 3) (HK.out _ HE.out).1 rfl
          go_upto_region 11 with (fail)
          clear r0 r1 r2 r3 q0 q1 q2 q3
          have hcap := own51.cap
          have HS : Seen v49 v49.heap.size 1 A43 2 (PT.map Tx) := by rw [HPT.out]; simpa [partsT, zeroIW, hq] using own51.seen
          go_wp2_with fail
          refine (lineOf_any (c := c44) HS (Nat.le_refl _) hcap (by omega) HLN.out.1).mono ?_
          rintro e v62 ⟨rfl, hb63⟩
          have HF := Lib.hid ((HK.out _ HE.out).2.2.trans (hb63.mono (HK.out _ HE.out).2.2.size))
          clear hb63 HS hcap
          go_wp2_with fail
          go_ret
          exact ⟨rfl, HF.out⟩
      · have hqb : ((z : Int) == 2) = false := by simpa using hq
        have r0 := box_cell (j := 0) (HK.out _ HE.out).2.1 rfl
        have r1 := box_cell (j := 1) (HK.out _ HE.out).2.1 rfl
        have r2 := box_cell (j := 2) (HK.out _ HE.out).2.1 rfl
        have r3 := box_cell (j := 3) (HK.out _ HE.out).2.1 rfl
        have q0 := box_cell (j := 0) (HK.out _ HE.out).1 rfl
        have q1 := box_cell (j := 1) (HK.out _ HE.out).1 rfl
        have q2 := box_cell (j := 2) (HK.out _ HE.out).1 rfl
        have q3 := box_cell (j := 3) (HK.out _ HE.out).1 rfl
        go_upto_region 11 with (fail)
        clear r0 r1 r2 r3 q0 q1 q2 q3
        have hcap := own51.cap
        have HS : Seen v49 v49.heap.size 1 A43 2 (PT.map Tx) := by rw [HPT.out]; simpa [partsT, zeroIW, hq] using own51.seen
        go_wp2_with fail
        refine (lineOf_any (c := c44) HS (Nat.le_refl _) hcap (by omega) HLN.out.1).mono ?_
        rintro e v64 ⟨rfl, hb65⟩
        have HF := Lib.hid ((HK.out _ HE.out).2.2.trans (hb65.mono (HK.out _ HE.out).2.2.size))
        clear hb65 HS hcap
        go_wp2_with fail
        go_ret
        exact ⟨rfl, HF.out⟩
    · skip
      have r0 := box_cell (j := 0) (HK.out _ HE.out).2.1 rfl
      have r1 := box_cell (j := 1) (HK.out _ HE.out).2.1 rfl
      have r2 := box_cell (j := 2) (HK.out _ HE.out).2.1 rfl
      have r3 := box_cell (j := 3) (HK.out _ HE.out).2.1 rfl
      have q0 := box_cell (j := 0) (HK.out _ HE.out).1 rfl
      have q1 := box_cell (j := 1) (HK.out _ HE.out).1 rfl
      have q2 := box_cell (j := 2) (HK.out _ HE.out).1 rfl
      have q3 := box_cell (j := 3) (HK.out _ HE.out).1 rfl
      go_wp2_with fail
      refine (HV.out _ (HK.out _ HE.out).2.2).mono ?_
      rintro e v66 ⟨rfl, hb67⟩
      clear r0 r1 r2 r3 q0 q1 q2 q3
      have own68 := (own51.below hb67 (Nat.le_refl _)).alloc (.cells #[Tx (valT val)] 9)
      have hz69 := hb67.size
      replace HE := Lib.hid ((HE.out.trans (hb67.mono (by omega))).alloc (by omega) (.cells #[Tx (valT val)] 9))
      clear hb67
      go_upto_region 9 with (at_builtin; refine wpList_append_seen rfl (.tmp 25) (.tmp 29) _ rfl (w1.heap.size + 1) _ 9 i0 _ 1 16 Tryd.underlying56 hi0 iz0 iz1 iz2 rfl (by omega) A43 2 c44 _ rfl own68 _ _ 1 1 _ rfl (Seen.one v66 (Tx (valT val)) 9) (by simp [Value.oneCell']) (by simp only [maxLen]; omega) (by omega) (by simp only [World.size_alloc]; omega) ?_; intro A70 c71 v72 own73 hb74)
      replace HE := Lib.hid (HE.out.trans hb74)
      have hz75 := hb74.size
      simp only [World.size_alloc, Nat.reduceAdd] at own73 hz75
      clear hb74
      by_cases hq : (z : Int) = 2
      · have hqb : ((z : Int) == 2) = true := by simp [hq]
        cases ok
        · skip
          have r0 := box_cell (j := 0) (HK.out _ HE.out).2.1 rfl
          have r1 := box_cell (j := 1) (HK.out _ HE.out).2.1 rfl
          have r2 := box_cell (j := 2) (HK.out _ HE.out).2.1 rfl
          have r3 := box_cell (j := 3) (HK.out _ HE.out).2.1 rfl
          have q0 := box_cell (j := 0) (HK.out _ HE.out).1 rfl
          have q1 := box_cell (j := 1) (HK.out _ HE.out).1 rfl
          have q2 := box_cell (j := 2) (HK.out _ HE.out).1 rfl
          have q3 := box_cell (j := 3) (HK.out _ HE.out).1 rfl
          have own76 := own73.alloc (.cells #[Tx zeroIW] 9)
          have HEa := Lib.hid (HE.out.alloc (by omega) (.cells #[Tx zeroIW] 9))
          clear HE
          have HE := HEa
          clear HEa
          go_upto_region 11 with (at_builtin; refine wpList_append_seen rfl (.tmp 39) (.tmp 40) _ rfl (w1.heap.size + 1) _ 9 i0 _ 1 16 Tryd.underlying56 hi0 iz0 iz1 iz2 rfl (by omega) A70 3 c71 _ rfl own76 _ _ 1 1 _ rfl (Seen.one v72 (Tx zeroIW) 9) (by simp [Value.oneCell']) (by simp only [maxLen]; omega) (by omega) (by simp only [World.size_alloc]; omega) ?_; intro A77 c78 v79 own80 hb81)
          replace HE := Lib.hid (HE.out.trans hb81)
          have hz82 := hb81.size
          simp only [World.size_alloc, Nat.reduceAdd] at own80 hz82
          clear hb81
          clear r0 r1 r2 r3 q0 q1 q2 q3
          have hcap := own80.cap
          have HS : Seen v79 v79.heap.size 1 A77 4 (PT.map Tx) := by rw [HPT.out]; simpa [partsT, zeroIW, hq] using own80.seen
          go_wp2_with fail
          refine (lineOf_any (c := c78) HS (Nat.le_refl _) hcap (by omega) HLN.out.1).mono ?_
          rintro e v83 ⟨rfl, hb84⟩
          have HF := Lib.hid ((HK.out _ HE.out).2.2.trans (hb84.mono (HK.out _ HE.out).2.2.size))
          clear hb84 HS hcap
          go_wp2_with fail
          go_ret
          exact ⟨rfl, HF.out⟩
        · skip
          have r0 := box_cell (j := 0) (HK.out _ HE.out).2.1 rfl
          have r1 := box_cell (j := 1) (HK.out _ HE.out).2.1 rfl
          have r2 := box_cell (j := 2) (HK.out _ HE.out).2.1 rfl
          have r3 := box_cell (j := 3) (HK.out _ HE.out).2.1 rfl
          have q0 := box_cell (j := 0) (HK.out _ HE.out).1 rfl
          have q1 := box_cell (j := 1) (HK.out _ HE.out).1 rfl
          have q2 := box_cell (j := 2) (HK.out _ HE.out).1 rfl
          have q3 := box_cell (j := 3) (HK.out _ HE.out).1 rfl
          go_upto_region 11 with (fail)
          clear r0 r1 r2 r3 q0 q1 q2 q3
          have hcap := own73.cap
          have HS : Seen v72 v72.heap.size 1 A70 3 (PT.map Tx) := by rw [HPT.out]; simpa [partsT, zeroIW, hq] using own73.seen
          go_wp2_with fail
          refine (lineOf_any (c := c71) HS (Nat.le_refl _) hcap (by omega) HLN.out.1).mono ?_
          rintro e v85 ⟨rfl, hb86⟩
          have HF := Lib.hid ((HK.out _ HE.out).2.2.trans (hb86.mono (HK.out _ HE.out).2.2.size))
          clear hb86 HS hcap
          go_wp2_with fail
          go_ret
          exact ⟨rfl, HF.out⟩
      · have hqb : ((z : Int) == 2) = false := by simpa using hq
        have r0 := box_cell (j := 0) (HK.out _ HE.out).2.1 rfl
        have r1 := box_cell (j := 1) (HK.out _ HE.out).2.1 rfl
        have r2 := box_cell (j := 2) (HK.out _ HE.out).2.1 rfl
        have r3 := box_cell (j := 3) (HK.out _ HE.out).2.1 rfl
        have q0 := box_cell (j := 0) (HK.out _ HE.out).1 rfl
        have q1 := box_cell (j := 1) (HK.out _ HE.out).1 rfl
        have q2 := box_cell (j := 2) (HK.out _ HE.out).1 rfl
        have q3 := box_cell (j := 3) (HK.out _ HE.out).1 rfl
        go_upto_region 11 with (fail)
        clear r0 r1 r2 r3 q0 q1 q2 q3
        have hcap := own73.cap
        have HS : Seen v72 v72.heap.size 1 A70 3 (PT.map Tx) := by rw [HPT.out]; simpa [partsT, zeroIW, hq] using own73.seen
        go_wp2_with fail
        refine (lineOf_any (c := c71) HS (Nat.le_refl _) hcap (by omega) HLN.out.1).mono ?_
        rintro e v87 ⟨rfl, hb88⟩
        have HF := Lib.hid ((HK.out _ HE.out).2.2.trans (hb88.mono (HK.out _ HE.out).2.2.size))
        clear hb88 HS hcap
        go_wp2_with fail
        go_ret
        exact ⟨rfl, HF.out⟩

set_option maxHeartbeats 1000000 in
theorem implItemText_any {w : World} {x : DItem} (hC : ItemCells w) (hT : PowI w) (hv : (Lit.int .i64 x.fVal).wf = true) :
    Calls Tryd.prog 10 #[.agg #[.int .i64 x.fKind, .int .i64 x.fObj, .int .i64 x.fVal, .bool x.fOk]] w fun e w' => e = .returned (Tx (itemT x)) ∧ Below w.heap.size w w' := by
  cases hok : itemOkB x
  · have e1 := Lib.hid (show itemT x = [] by unfold itemT; rw [hok]; rfl)
    have HIO := Lib.hid (fun (W : World) (hW : Below w.heap.size w W) => implItemOk_any (x := x) (itemCells_below hC hW (Nat.le_refl _)) hv)
    rw [hok] at HIO
    clear hC hT hv hok
    have hb0 : Below w.heap.size w (w.alloc (.cells #[.int .i64 x.fKind, .int .i64 x.fObj, .int .i64 x.fVal, .bool x.fOk] 25)) := (Below.refl _ _).alloc (Nat.le_refl _) _
    have HB0 := Lib.hid hb0
    clear hb0
    go_enter Tryd.func10, Tryd.ntmps10
    go_wp2_with fail
    refine (HIO.out _ HB0.out).mono ?_
    rintro e w1 ⟨rfl, hb1⟩
    have HB1 := Lib.hid (HB0.out.trans (hb1.mono (by simp)))
    clear hb1
    go_wp2_with fail
    go_ret
    exact ⟨by rw [e1.out]; rfl, HB1.out⟩
  · obtain ⟨k, obj, val, ok⟩ := x
    have hk : 1 ≤ k ∧ k ≤ 10 := by
      apply Classical.byContradiction
      intro h
      have : itemOkB ⟨k, obj, val, ok⟩ = false := by unfold itemOkB; rw [show decide (1 ≤ k ∧ k ≤ 10 ∧ 0 ≤ obj) = false from decide_eq_false (fun h' => h ⟨h'.1, h'.2.1⟩)]; rfl
      rw [this] at hok
      cases hok
    obtain ⟨z, rfl⟩ := Int.eq_ofNat_of_zero_le (show 0 ≤ k by omega)
    have h := hC z (by omega) (by omega)
    have hs : (itWords.getD z []).length ≤ 10 := by
      have : z ≤ 10 := by omega
      revert this
      clear h hok hk hv hC hT
      intro h
      match z, h with
      | 0, _ | 1, _ | 2, _ | 3, _ | 4, _ | 5, _ | 6, _ | 7, _ | 8, _ | 9, _ | 10, _ => decide
    have h9 := itemText_at z (by omega) (by omega) hok hv hC hT hs h.1 h.2.1 h.2.2.1 h.2.2.2
    refine h9.mono fun e w' h10 => ⟨?_, h10.2⟩
    rw [h10.1]
    unfold itemT
    rw [hok]
    simp only [Int.toNat_natCast, if_true]
end Go.Proofs.YtakogbpjijbpeaaDoor
