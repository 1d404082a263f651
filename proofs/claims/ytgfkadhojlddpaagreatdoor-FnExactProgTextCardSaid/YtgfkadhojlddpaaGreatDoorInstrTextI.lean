
/- The contract of the program's InstrText. -/

import Derived.Test.YtgfkadhojlddpaaGreatDoorWordsTextI

import Derived.Test.YtgfkadhojlddpaaGreatDoorNamesI

import Derived.Test.YtgfkadhojlddpaaGreatDoorIsOp

import Derived.Test.YtgfkadhojlddpaaGreatDoorBaseP

import Derived.Deep.RegionHeld3

namespace Go.Proofs.YtgfkadhojlddpaaGreatDoor
set_option linter.unusedSimpArgs false
set_option linter.unusedVariables false
open Go.RowKit

theorem restB_drop {a b c : Int} {m : Nat} (h : m ≤ 3) : restB a b c (m : Int) = true ↔ ∀ v ∈ ([a, b, c] : List Int).drop m, v = 0 := by
  rw [restB, decide_eq_true_iff]
  have h4 : m = 0 ∨ m = 1 ∨ m = 2 ∨ m = 3 := by omega
  rcases h4 with rfl | rfl | rfl | rfl <;> simp <;> omega
theorem fieldsT_A {op a b c : Int} {m : Nat} (hm : opField op = (m : Int)) (h3 : m ≤ 3) : fieldsT ([(namesA op).1, (namesA op).2.1, (namesA op).2.2].take m) [a, b, c] = fieldsA op a b c := by
  rw [fieldsA, hm, Int.toNat_natCast]
  have h4 : m = 0 ∨ m = 1 ∨ m = 2 ∨ m = 3 := by omega
  rcases h4 with rfl | rfl | rfl | rfl <;> rfl
theorem seenR_box {w : World} {g : Nat} {cur : Array Value} {t : TypeId} {l : List Int} {hi n : Nat} (h : w.heap[g]? = some (.cells cur t (0, 0))) (hl : l.length = n) (hg : g < hi) (hc : ∀ (i : Nat) (x : Int), l[i]? = some x → cur[i]? = some (Value.int .i64 x)) (hw : ∀ x ∈ l, (Lit.int .i64 x).wf = true) : SeenR Lay.int w hi (some ⟨g, 0, none⟩) n l := by
  refine ⟨hl, .inr ⟨g, 0, rfl, hg, fun i => [.int .i64 (l.getD i 0)], fun i x hx => ?_⟩⟩
  have hd : l.getD i 0 = x := by rw [List.getD_eq_getElem?_getD, hx]; rfl
  refine ⟨⟨by show [Value.int .i64 (l.getD i 0)] = _; rw [hd], hw x (List.mem_of_getElem? hx)⟩, fun j u hu => ?_⟩
  replace hu : [Value.int .i64 (l.getD i 0)][j]? = some u := hu
  rw [hd] at hu
  match j, hu with
  | 0, hu =>
    simp at hu
    subst hu
    have := box_cell (w := w) (g := g) (j := i) h (hc i x hx)
    simpa [Lay.int, Lay.flat] using this
  | k + 1, hu => simp at hu

theorem namesA_wf {op : Int} (h : 1 ≤ op ∧ op ≤ 15) : (Lit.int .i64 (namesA op).1).wf = true ∧ (Lit.int .i64 (namesA op).2.1).wf = true ∧ (Lit.int .i64 (namesA op).2.2).wf = true := by
  rcases op_cases h with rfl | rfl | rfl | rfl | rfl | rfl | rfl | rfl | rfl | rfl | rfl | rfl | rfl | rfl | rfl <;> decide

set_option maxRecDepth 100000 in
set_option maxHeartbeats 4000000 in
theorem implInstrText_any (op a b c : Int) (w : World) (hT : Tabs w) (hwf : (Lit.int .i64 a).wf = true ∧ (Lit.int .i64 b).wf = true ∧ (Lit.int .i64 c).wf = true) :
    Calls Tryz.prog 38 #[.agg #[.int .i64 op, .int .i64 a, .int .i64 b, .int .i64 c]] w fun e w' => e = .returned (Tx (instrText op a b c)) ∧ Below w.heap.size w w' := by
  have HT := Lib.hid hT
  have HB0 := box_new w #[.int .i64 op, .int .i64 a, .int .i64 b, .int .i64 c] 85
  have hW0 : Below w.heap.size w (w.alloc (.cells #[.int .i64 op, .int .i64 a, .int .i64 b, .int .i64 c] 85)) := (Below.refl _ _).alloc (Nat.le_refl _) _
  have zal : (w.alloc (.cells #[.int .i64 op, .int .i64 a, .int .i64 b, .int .i64 c] 85)).heap.size = w.heap.size + 1 := by simp
  by_cases hop : 1 ≤ op ∧ op ≤ 15
  · obtain ⟨_, _, _, _, hk0, hk3⟩ := opWord_words hop
    obtain ⟨m, hm⟩ : ∃ m : Nat, opField op = m := ⟨(opField op).toNat, by omega⟩
    have hm3 : m ≤ 3 := by omega
    have HOP := Lib.hid hop
    have HM := Lib.hid hm
    have HWF := Lib.hid hwf
    have hin := inB_yes (n := op) (lo := 1) (hi := 15) hop
    have HX := Lib.hid (show instrText op a b c = if restB a b c (m : Int) then wordsT (opWord op) 32 (fieldsA op a b c) else [] by rw [← hm]; exact instrText_words a b c hop)
    have HF := Lib.hid (fun W (hW : OpCells W) => show Calls Tryz.prog 93 #[.int .i64 op] W fun e w' => e = .returned (.int .i64 (m : Int)) ∧ Below W.heap.size W w' by rw [← hm]; exact implFields_any op W hW)
    have HI := Lib.hid (fun W => show Calls Tryz.prog 92 #[.int .i64 op] W fun e w' => e = .returned (.bool true) ∧ W = w' by rw [← hin]; exact isOp_any op W)
    clear hk0 hk3 hm hop hin hT hwf
    go_enter Tryz.func38, Tryz.ntmps38
    go_wp2_with fail
    refine (HI.out _).mono ?_
    rintro e w1 ⟨rfl, rfl⟩
    have hB2 := box_new (w.alloc (.cells #[.int .i64 op, .int .i64 a, .int .i64 b, .int .i64 c] 85)) #[.int .i64 a, .int .i64 b, .int .i64 c] 3
    have hW2 : Below w.heap.size w ((w.alloc (.cells #[.int .i64 op, .int .i64 a, .int .i64 b, .int .i64 c] 85)).alloc (.cells #[.int .i64 a, .int .i64 b, .int .i64 c] 3)) := hW0.alloc (by rw [zal]; omega) _
    have z2 : ((w.alloc (.cells #[.int .i64 op, .int .i64 a, .int .i64 b, .int .i64 c] 85)).alloc (.cells #[.int .i64 a, .int .i64 b, .int .i64 c] 3)).heap.size = w.heap.size + 1 + 1 := by simp
    have hA2 := box_keep (w' := (w.alloc (.cells #[.int .i64 op, .int .i64 a, .int .i64 b, .int .i64 c] 85)).alloc (.cells #[.int .i64 a, .int .i64 b, .int .i64 c] 3)) HB0 ((Below.refl _ _).alloc (Nat.le_refl _) _) (by rw [zal]; omega)
    rw [zal] at hB2
    have HT2 := Lib.hid (HT.out.below hW2 (Nat.le_refl _))
    obtain ⟨A', hA'⟩ : ∃ A', cutA (some ⟨w.heap.size + 1, 0, none⟩) m 3 = A' := ⟨_, rfl⟩
    obtain ⟨k, hk⟩ : ∃ k, 3 - m = k := ⟨_, rfl⟩
    have HRUN : ∀ W, (Instr.slice 22 (.slice (some ⟨w.heap.size + 1, 0, none⟩) 3 3) (some (.int .i64 (m : Int))) none none).run Tryz.prog W = .ok (.slice A' k k) W := fun W => by
      have := run_cut_l Tryz.underlying22 (fun _ => by kernel_rfl) W (some ⟨w.heap.size + 1, 0, none⟩) 3 3 (m : Int) (by omega) (by omega)
      rw [Int.toNat_natCast, hA', hk] at this
      exact this
    have HA := Lib.hid hA'
    have HK := Lib.hid hk
    clear hA' hk HB0 hW0 zal HI
    have HL2 := Lib.hid z2
    have ls1 : w.heap.size < ((w.alloc (.cells #[.int .i64 op, .int .i64 a, .int .i64 b, .int .i64 c] 85)).alloc (.cells #[.int .i64 a, .int .i64 b, .int .i64 c] 3)).heap.size := by omega
    have ls2 : w.heap.size + 1 < ((w.alloc (.cells #[.int .i64 op, .int .i64 a, .int .i64 b, .int .i64 c] 85)).alloc (.cells #[.int .i64 a, .int .i64 b, .int .i64 c] 3)).heap.size := by omega
    have HA2 := Lib.hid hA2
    have HB2 := Lib.hid hB2
    have HLS := Lib.hid (And.intro ls1 ls2)
    have HM3 := Lib.hid hm3
    clear hA2 hB2 z2 ls1 ls2 hm3
    go_wp2_with fail
    refine (HF.out _ HT2.out.2).mono ?_
    rintro e w3 ⟨rfl, hb3⟩
    have hX3 := box_keep HA2.out hb3 HLS.out.1
    have hV3 := box_keep HB2.out hb3 HLS.out.2
    have hW3 : Below w.heap.size w w3 := hW2.trans (hb3.mono (Nat.le_of_lt HLS.out.1))
    have HSV : Seen w3 w3.heap.size 1 A' k ((([a, b, c] : List Int).map (Value.int .i64)).drop m |>.take k) := by
      have h0 : Seen w3 w3.heap.size 1 (some ⟨w.heap.size + 1, 0, none⟩) 3 (([a, b, c] : List Int).map (Value.int .i64)) := by
        refine ⟨rfl, .inr ⟨_, 0, rfl, lt_of_block hV3, fun j u hu => ?_⟩⟩
        rw [Nat.zero_add]
        exact box_cell hV3 (by simpa using hu)
      have h1 := h0.cut (l := m) (m := k) (c := 3) (by have := HM3.out; rw [← HK.out]; omega) (Nat.le_refl _)
      rw [HA.out] at h1
      exact h1
    have hx0 := box_cell (j := 0) hX3 rfl
    have hl3 := lt_of_block hX3
    have HX3 := Lib.hid hX3
    have HV3 := Lib.hid hV3
    clear hb3 hW2 HT2 HA2 HB2 HLS HL2 hX3 hV3 HF
    have hk3 : k ≤ 3 := by have := HM3.out; rw [← HK.out]; omega
    go_wp2_with fail
    go_loop [23] (fun i => ∃ j : Nat, i = .int .i64 (j : Int) ∧ j ≤ k ∧ Hid (∀ (i' : Nat) (v : Int), i' < j → (([a, b, c] : List Int).drop m)[i']? = some v → v = 0)) (fun i => k - (intOf i).toNat)
    case atStart => exact ⟨0, rfl, Nat.zero_le _, Lib.hid fun i' v h => absurd h (Nat.not_lt_zero _)⟩
    case round =>
      obtain ⟨j, rfl, hj, HZ⟩ := hrel
      by_cases hlt : j < k
      · obtain ⟨g, o, u, hAg, hg, hu, hc⟩ := HSV.at_ (j := j) (by rw [Nat.mul_one]; exact hlt)
        subst hAg
        rw [List.getElem?_take, if_pos hlt, ← List.map_drop, List.getElem?_map] at hu
        obtain ⟨v, hv, rfl⟩ := Option.map_eq_some_iff.1 hu
        have HV := Lib.hid hv
        clear hu hv
        cases hz : (v != 0)
        · have hz0 : v = 0 := by simpa using hz
          go_wp2_with fail
          go_round
          case rel => exact ⟨j + 1, by go_num, by omega, Lib.hid fun i' x hi hx => by
            by_cases h : i' < j
            · exact HZ.out i' x h hx
            · obtain rfl : i' = j := by omega
              rw [HV.out] at hx
              injection hx with hx
              rw [← hx]
              exact hz0⟩
          case measure => simp [intOf]; omega
        · have hfin := Lib.hid (show instrText op a b c = [] by
            rw [HX.out, if_neg]
            intro hr
            have := (restB_drop HM3.out).1 hr v (List.mem_of_getElem? HV.out)
            rw [this] at hz
            cases hz)
          go_wp2_with fail
          go_ret
          exact ⟨by rw [hfin.out]; rfl, hW3⟩
      · obtain rfl : j = k := by omega
        have hfin := Lib.hid (show instrText op a b c = wordsT (opWord op) 32 (fieldsA op a b c) by
          rw [HX.out, if_pos]
          refine (restB_drop HM3.out).2 fun v hv => ?_
          obtain ⟨i', hi', rfl⟩ := List.getElem_of_mem hv
          exact HZ.out i' _ (by rw [List.length_drop] at hi'; have := HK.out; have := HM3.out; simp at hi'; omega) (List.getElem?_eq_getElem hi'))
        have hTd : Tabs w3.drew := HT.out.below (below_drawn hW3 1) (Nat.le_refl _)
        have hWd : Below w.heap.size w w3.drew := below_drawn hW3 1
        have HN := Lib.hid (show Calls Tryz.prog 95 #[.int .i64 op] w3.drew fun e w' => e = .returned (.slice (some ⟨w3.drew.heap.size, 0, none⟩) m 3) ∧
          w'.heap[w3.drew.heap.size]? = some (.cells #[.int .i64 (namesA op).1, .int .i64 (namesA op).2.1, .int .i64 (namesA op).2.2] 202 (0, 0)) ∧ Below w3.drew.heap.size w3.drew w' by
            have := namesOf_any op HOP.out w3.drew hTd.2
            rw [HM.out, Int.toNat_natCast] at this
            exact this)
        have HWT := Lib.hid (fun (W : World) (hb : Below w3.drew.heap.size w3.drew W) (hx : W.heap[w3.drew.heap.size]? = some (.cells #[.int .i64 (namesA op).1, .int .i64 (namesA op).2.1, .int .i64 (namesA op).2.2] 202 (0, 0))) =>
          wordsText_any (w := W) (op := op) (mark := 32) (hi := W.heap.size) (n := m) (n2 := 3) (c1 := 3) (c2 := 3) (A1 := some ⟨w3.drew.heap.size, 0, none⟩) (A2 := some ⟨w.heap.size + 1, 0, none⟩) (ns := [(namesA op).1, (namesA op).2.1, (namesA op).2.2].take m) (vs := [a, b, c])
            (seenR_box hx (by have := HM3.out; simp; omega) (lt_of_block hx) (fun i x h => by
              rw [List.getElem?_take] at h
              split at h
              · match i, h with
                | 0, h => simp at h; subst h; rfl
                | 1, h => simp at h; subst h; rfl
                | 2, h => simp at h; subst h; rfl
                | i + 3, h => simp at h
              · cases h) (fun x h => by
              have := List.mem_of_mem_take h
              have hw := namesA_wf HOP.out
              simp at this
              rcases this with rfl | rfl | rfl
              · exact hw.1
              · exact hw.2.1
              · exact hw.2.2))
            (seenR_box (box_keep (x := .cells #[.int .i64 a, .int .i64 b, .int .i64 c] 3 (0, 0)) (show w3.drew.heap[w.heap.size + 1]? = _ from HV3.out) hb (lt_of_block HV3.out)) rfl (Nat.lt_of_lt_of_le (lt_of_block HV3.out) hb.size) (fun i x h => by
              match i, h with
              | 0, h => simp at h; subst h; rfl
              | 1, h => simp at h; subst h; rfl
              | 2, h => simp at h; subst h; rfl
              | i + 3, h => simp at h) (fun x h => by
              have hw := HWF.out
              simp at h
              rcases h with rfl | rfl | rfl
              · exact hw.1
              · exact hw.2.1
              · exact hw.2.2))
            HM3.out (Nat.le_refl _) (by have := HM3.out; omega) (hTd.below hb (Nat.le_refl _)))
        rw [fieldsT_A HM.out HM3.out] at HWT
        clear hTd HSV
        go_wp2_with fail
        go_region_held3 (fun W => W.cell? ⟨w.heap.size, 0, none⟩ = some (.int .i64 op))
          (first | go_keep | exact HK9)
          (first
            | (go_at_call 95; refine HN.out.mono ?_; rintro e w9 ⟨rfl, hx9, hb9⟩; have HK9 : w9.cell? ⟨w.heap.size, 0, none⟩ = some (.int .i64 op) := cell_kept hb9 (by assumption))
            | (go_at_call 94; refine (HWT.out _ hb9 hx9).mono ?_; rintro e w8 ⟨rfl, hb8⟩; have HK8 : w8.cell? ⟨w.heap.size, 0, none⟩ = some (.int .i64 op) := cell_kept hb8 HK9))
        have hfw : Below w.heap.size w w8 := hWd.trans ((hb9.mono (show w.heap.size ≤ w3.drew.heap.size from Nat.le_of_lt hl3)).trans (hb8.mono (show w.heap.size ≤ w9.heap.size from Nat.le_trans (Nat.le_of_lt hl3) hb9.size)))
        go_wp2_with fail
        go_ret
        exact ⟨by rw [hfin.out]; rfl, hfw⟩
  · have hin := inB_no (n := op) (lo := 1) (hi := 15) hop
    have he := Lib.hid (show instrText op a b c = [] by rw [instrText, if_pos (.inl (by rw [opField_neg hop]; decide))])
    have HI := Lib.hid (fun W => show Calls Tryz.prog 92 #[.int .i64 op] W fun e w' => e = .returned (.bool false) ∧ W = w' by rw [← hin]; exact isOp_any op W)
    clear hop hin hT hwf
    go_enter Tryz.func38, Tryz.ntmps38
    go_wp2_with fail
    refine (HI.out _).mono ?_
    rintro e w1 ⟨rfl, rfl⟩
    go_wp2_with fail
    go_ret
    exact ⟨by rw [he.out]; rfl, by go_grown⟩
end Go.Proofs.YtgfkadhojlddpaaGreatDoor
