
/- The model's l07Has and MutexOk. -/

import Derived.Test.YtalbbhnfdbacdaaMutOk

namespace Go.Proofs.Ytalbbhnfdbacdaa
set_option linter.unusedSimpArgs false
set_option linter.unusedVariables false
open Go.RowKit

theorem SeenR.front {α : Type} {L : Lay α} {w : World} {hi n : Nat} {A : Option Addr} {xs : List α} (h : SeenR L w hi A n xs) {k : Nat} (hk : k ≤ n) : SeenR L w hi A k (xs.take k) := by
  obtain ⟨h1, h2⟩ := h
  refine ⟨by rw [List.length_take]; omega, ?_⟩
  rcases h2 with rfl | ⟨g, o, e, hg, f, hf⟩
  · exact .inl (by simp)
  · refine .inr ⟨g, o, e, hg, f, fun i x hx => hf i x ?_⟩
    rw [List.getElem?_take] at hx
    split at hx
    · exact hx
    · cases hx

theorem run_front {P : Program} {t e : TypeId} {s : Nat} (ht : P.underlying t = some (.slice e)) (hz : ∀ w, (Go.sizeOf e).run P w = .ok s w) (W : World) (g o n c k : Nat) (h2 : k ≤ c) :
    (Instr.slice t (.slice (some ⟨g, o, none⟩) n c) none (some (.int .i64 k)) none).run P W = .ok (.slice (some ⟨g, o, none⟩) k c) W := by
  have ht' : P.underlying t = some (.slice (P.elem t)) := by simp [Program.elem, ht]
  have he : P.elem t = e := by simp [Program.elem, ht]
  rw [run_slice_h W t _ _ _ ht' .i64 _ (by omega) (by omega), he, hz]
  simp [Result.andThen, sliced, Addr.add]

set_option maxRecDepth 100000 in
set_option maxHeartbeats 2000000 in
theorem specHas_any {w : World} {hi n c : Nat} {A : Option Addr} {g : Int} {ds : List Int} (h : SeenR Lay.int w hi A n ds) (hn : n ≤ maxLen) :
    Calls Try.prog 32 #[.slice A n c, .int .i64 g] w fun e w' => e = .returned (.bool (ds.contains g)) ∧ w' = w := by
  have HL := Lib.hid h.1
  unfold maxLen at hn
  obtain ⟨v, hv⟩ : ∃ v, v = ds.contains g := ⟨_, rfl⟩
  rw [← hv]
  have HV := Lib.hid hv
  clear hv
  go_enter Try.func32, Try.ntmps32
  go_wp2_with fail
  go_loop [9] (fun i => ∃ k : Nat, k ≤ n ∧ i = .int .i64 k ∧ (ds.take k).contains g = false) (fun i => n - (intOf i).toNat)
  case atStart => exact ⟨0, Nat.zero_le _, rfl, by simp⟩
  case round =>
    obtain ⟨k, hk, rfl, hall⟩ := hrel
    by_cases hlt : k < n
    · obtain ⟨hx, b, o, vs, rfl, hg, ⟨rfl, hw⟩, hcell⟩ := h.at_ hlt
      have HD := Lib.hid (List.getElem?_eq_getElem hx)
      generalize ds[k] = d at *
      have HA := Lib.hid hall
      have HT := Lib.hid (show (ds.take (k + 1)).contains g = ((ds.take k).contains g || decide (g = d)) by rw [List.take_add_one, HD.out]; simp)
      have cc0 := hcell 0 _ rfl
      simp only [show Lay.int.size = 1 from rfl, ← Nat.add_assoc, Nat.add_zero, Nat.mul_one] at cc0
      clear hcell hw hall h
      by_cases hq : d = g
      · have HM := Lib.hid (show v = true by rw [HV.out]; simpa using hq ▸ List.mem_of_getElem? HD.out)
        clear HV
        clear HD HT HA
        subst hq
        go_wp2_with fail
        go_ret
        have := HM.out
        subst this
        exact ⟨by simp, rfl⟩
      · go_wp2_with fail
        go_round
        case rel => exact ⟨k + 1, by omega, by go_num, by rw [HT.out, HA.out]; simp; exact fun h => hq h.symm⟩
        case measure => simp [intOf]; omega
    · have HA := Lib.hid hall
      clear hall
      go_wp2_with fail
      go_ret
      obtain rfl : k = n := by omega
      have := HA.out
      rw [List.take_of_length_le (by rw [HL.out]; exact Nat.le_refl _)] at this
      rw [← HV.out] at this
      subst this
      exact ⟨by simp, rfl⟩

set_option maxRecDepth 100000 in
set_option maxHeartbeats 4000000 in
theorem specMutexOk_any {w : World} {hi : Nat} {x : DMutex} {vs : List Value} (h : layMutex.see w hi x vs) (hhi : hi ≤ w.heap.size) :
    Calls Try.prog 14 #[.agg vs.toArray] w fun e w' => e = .returned (.bool (mutOkB x)) ∧ Below w.heap.size w w' := by
  obtain ⟨A1, n1, c1, rfl, hw0, ⟨hc1, hm1, s1⟩⟩ := seeMutex h
  obtain ⟨o, ds⟩ := x
  have l1 := s1.1
  simp only at l1 s1 hw0
  subst l1
  show Calls Try.prog 14 #[.agg #[.int .i64 o, .slice A1 ds.length c1]] w fun e w' => e = .returned (.bool (ownB o ds.length && (List.range ds.length).all (okAt o ds))) ∧ Below w.heap.size w w'
  have HB := Lib.hid ((Below.refl w.heap.size w).alloc (Nat.le_refl _) (.cells #[.int .i64 o, .slice A1 ds.length c1] 25))
  have HX := Lib.hid (box_new w #[.int .i64 o, .slice A1 ds.length c1] 25)
  have s1b := s1.below HB.out hhi
  have HL := Lib.hid (show ds.length = ds.length from rfl)
  generalize hN : ds.length = n at *
  clear s1 h hw0
  have hm1' := Nat.le_trans hc1 hm1
  unfold maxLen at hm1'
  obtain ⟨r, hr0⟩ : ∃ r, r = (List.range n).all (okAt o ds) := ⟨_, rfl⟩
  rw [← hr0]
  have HR := Lib.hid hr0
  clear hr0
  by_cases h1 : -1 ≤ o
  · by_cases h2 : o = -1 ∧ 0 < n
    · obtain ⟨rfl, h3⟩ := h2
      have hr : ownB (-1) n = false := decide_eq_false (fun h => by have := h.2 rfl; omega)
      rw [hr, Bool.false_and]
      go_enter Try.func14, Try.ntmps14
      go_wp2_with fail
      go_ret
      exact ⟨rfl, HB.out⟩
    · have hr : ownB o n = true := decide_eq_true ⟨h1, fun h => by omega⟩
      rw [hr, Bool.true_and]
      clear hr
      have hor : ¬ o = -1 ∨ (o = -1 ∧ n = 0) := by omega
      rcases hor with h3 | ⟨h3, h4⟩
      · go_enter Try.func14, Try.ntmps14
        go_wp2_with fail
        go_loop [22] (fun i => ∃ k : Nat, k ≤ n ∧ i = .int .i64 k ∧ (List.range k).all (okAt o ds) = true) (fun i => n - (intOf i).toNat)
        case atStart => exact ⟨0, Nat.zero_le _, rfl, by simp⟩
        case round =>
          obtain ⟨k, hk, rfl, hall⟩ := hrel
          by_cases hlt : k < n
          · have sF := s1b.front hk
            obtain ⟨hx, g, p, vs, rfl, hg, ⟨rfl, hw⟩, hcell⟩ := s1b.at_ hlt
            have HD := Lib.hid (List.getElem?_eq_getElem hx)
            generalize ds[k] = d at *
            have HA := Lib.hid hall
            have HO := Lib.hid (okAt_of (o := o) HD.out)
            have HT := Lib.hid (show (List.range (k + 1)).all (okAt o ds) = ((List.range k).all (okAt o ds) && okAt o ds k) by rw [List.range_succ]; simp)
            have HF := Lib.hid (fun (hf : okAt o ds k = false) => show (List.range n).all (okAt o ds) = false from List.all_eq_false.2 ⟨k, by simpa using hlt, by rw [hf]; simp⟩)
            have cc0 := hcell 0 _ rfl
            simp only [show Lay.int.size = 1 from rfl, ← Nat.add_assoc, Nat.add_zero, Nat.mul_one] at cc0
            have hcut := fun W => run_front (P := Try.prog) Try.underlying23 int_size W g p n c1 k (by omega)
            have HH := Lib.hid (specHas_any (c := c1) (g := d) sF (by unfold maxLen; omega))
            clear hcell hw hall s1b sF
            have p0 := box_cell (j := 0) HX.out rfl
            have p1 := box_cell (j := 1) HX.out rfl
            by_cases hd : 0 ≤ d
            · by_cases hq : d = o
              · have hf : r = false := by rw [HR.out]; exact HF.out (by rw [HO.out]; simp [hq])
                subst hf
                clear HD HT HA HF HO HH
                subst hq
                go_wp2_with fail
                go_ret
                exact ⟨by simp, HB.out⟩
              · obtain ⟨v, hv⟩ : ∃ v, v = (ds.take k).contains d := ⟨_, rfl⟩
                rw [← hv] at HH
                have HV := Lib.hid hv
                clear hv
                have HO2 := Lib.hid (show okAt o ds k = !v by rw [HO.out, HV.out]; simp [hd, hq])
                clear HO HV HD
                go_wp2_with fail
                refine HH.out.mono ?_
                rintro e w3 ⟨rfl, rfl⟩
                rcases Bool.eq_false_or_eq_true v with hb | hb
                · have hf : r = false := by rw [HR.out]; exact HF.out (by rw [HO2.out, hb]; rfl)
                  subst hf hb
                  go_wp2_with fail
                  go_ret
                  exact ⟨by simp, HB.out⟩
                · have HT2 := Lib.hid (show (List.range (k + 1)).all (okAt o ds) = true by rw [HT.out, HA.out, HO2.out, hb]; rfl)
                  clear HO2
                  subst hb
                  have hz : (d == o) = false := by simpa using hq
                  have hz2 : ¬ d < 0 := by omega
                  go_wp2_with fail
                  go_round
                  case rel => exact ⟨k + 1, by omega, by go_num, HT2.out⟩
                  case measure => simp [intOf]; omega
            · have hf : r = false := by rw [HR.out]; exact HF.out (by rw [HO.out]; simp [hd])
              subst hf
              clear HD HT HA HF HO HH
              go_wp2_with fail
              go_ret
              exact ⟨by simp, HB.out⟩
          · obtain rfl : k = n := by omega
            have hf : r = true := by rw [HR.out]; exact hall
            subst hf
            clear hall
            go_wp2_with fail
            go_ret
            exact ⟨by simp, HB.out⟩
      · subst h3 h4
        have hf : r = true := by rw [HR.out]; rfl
        subst hf
        clear s1b HR HL
        go_enter Try.func14, Try.ntmps14
        go_wp2_with fail
        go_loop [22] (fun i => i = .int .i64 0) (fun i => 0)
        case atStart => rfl
        case round =>
          subst hrel
          go_wp2_with fail
          go_ret
          exact ⟨by simp, HB.out⟩
  · have hr : ownB o n = false := decide_eq_false (fun h => h1 h.1)
    rw [hr, Bool.false_and]
    go_enter Try.func14, Try.ntmps14
    go_wp2_with fail
    go_ret
    exact ⟨rfl, HB.out⟩
end Go.Proofs.Ytalbbhnfdbacdaa
