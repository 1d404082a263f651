
/- The model's looks at a channel: l03Val, l06Waiters, ChanOk. -/

import Derived.Test.YtgdmcdblhpdlmaaChanM

namespace Go.Proofs.Ytgdmcdblhpdlmaa
set_option linter.unusedSimpArgs false
set_option linter.unusedVariables false
open Go.RowKit

theorem specVal_any (v : Int) (w : World) : Calls Try.prog 47 #[.int .i64 v] w fun e w' => e = .returned (.bool (okV v)) ∧ w = w' := by
  by_cases h0 : 0 ≤ v
  · by_cases h1 : v ≤ 999
    · rw [okV_yes (by omega)]
      go_enter Try.func47, Try.ntmps47
      go_wp2
      go_ret
      exact ⟨rfl, rfl⟩
    · rw [okV_no (by omega)]
      have h2 : decide (v ≤ 999) = false := decide_eq_false h1
      clear h1
      go_enter Try.func47, Try.ntmps47
      go_wp2
      go_ret
      exact ⟨rfl, rfl⟩
  · rw [okV_no (by omega)]
    have h2 : decide (0 ≤ v) = false := decide_eq_false h0
    clear h0
    go_enter Try.func47, Try.ntmps47
    go_wp2
    go_ret
    exact ⟨rfl, rfl⟩

def okS (send : Bool) (d : DWaiter) : Bool := okW d && (send || decide (d.fVal = 0))
theorem okS_true : okS true = okW := by funext d; simp [okS]
theorem okS_false : okS false = okR := by funext d; simp [okS, okR]
theorem all_upto {α : Type} {p : α → Bool} {l : List α} {k : Nat} {x : α} (h : l[k]? = some x) : (l.take (k + 1)).all p = ((l.take k).all p && p x) := by
  rw [List.take_add_one, h]
  simp
theorem all_not {α : Type} {p : α → Bool} {l : List α} {k : Nat} {x : α} (h : l[k]? = some x) (hx : p x = false) : l.all p = false := by
  rw [List.all_eq_false]
  exact ⟨x, List.mem_of_getElem? h, by simp [hx]⟩

set_option maxRecDepth 100000 in
set_option maxHeartbeats 2000000 in
theorem l06Waiters_any {w : World} {hi n c : Nat} {A : Option Addr} {ds : List DWaiter} {send : Bool} (h : SeenR layWaiter w hi A n ds) (hhi : hi ≤ w.heap.size) (hn : n ≤ maxLen) :
    Calls Try.prog 61 #[.slice A n c, .bool send] w fun e w' => e = .returned (.bool (ds.all (okS send))) ∧ Below w.heap.size w w' := by
  have HL := Lib.hid h.1
  unfold maxLen at hn
  go_enter Try.func61, Try.ntmps61
  go_wp2_with fail
  go_loopw [9] (fun i wr => ∃ k : Nat, k ≤ n ∧ i = .int .i64 k ∧ (ds.take k).all (okS send) = true ∧ Below w.heap.size w wr) (fun i _ => n - (intOf i).toNat)
  case atStart => exact ⟨0, Nat.zero_le _, rfl, by simp, Below.refl _ _⟩
  case round =>
    obtain ⟨k, hk, rfl, hall, hb⟩ := hrel
    by_cases hlt : k < n
    · obtain ⟨hx, g, o, vs, rfl, hg, ⟨rfl, hw⟩, hcell⟩ := (h.below hb hhi).at_ hlt
      have HD := Lib.hid (List.getElem?_eq_getElem hx)
      have hz := hb.size
      generalize ds[k] = d at *
      have HT := Lib.hid (all_upto (p := okS send) HD.out)
      have HN := Lib.hid (fun hx => all_not (p := okS send) HD.out hx)
      have HA := Lib.hid hall
      have cc0 := hcell 0 _ rfl
      have cc1 := hcell 1 _ rfl
      have cc2 := hcell 2 _ rfl
      simp only [show layWaiter.size = 3 from rfl, ← Nat.add_assoc, Nat.add_zero, Nat.mul_one] at cc0 cc1 cc2
      clear hcell hw h hall
      have HB := Lib.hid (hb.alloc (by omega) (.cells #[.int .i64 d.fG, .int .i64 d.fCase, .int .i64 d.fVal] 29))
      have HV := Lib.hid (fun W => specVal_any d.fVal W)
      have HE : okS send d = (decide (0 ≤ d.fG ∧ -1 ≤ d.fCase) && okV d.fVal && (send || decide (d.fVal = 0))) := rfl
      obtain ⟨g1, q1, v1⟩ := d
      simp only at *
      by_cases h0 : 0 ≤ g1
      · by_cases h1 : -1 ≤ q1
        · rw [decide_eq_true (show 0 ≤ g1 ∧ -1 ≤ q1 from ⟨h0, h1⟩), Bool.true_and] at HE
          go_wp2_with fail
          refine (HV.out _).mono ?_
          rintro e w1 ⟨rfl, rfl⟩
          cases hv : okV v1
          · rw [hv, Bool.false_and] at HE
            go_wp2_with fail
            go_ret
            exact ⟨by rw [HN.out HE]; rfl, HB.out⟩
          · rw [hv, Bool.true_and] at HE
            cases send
            · by_cases hz1 : v1 = 0
              · subst hz1
                go_wp2_with fail
                go_roundw
                case rel => exact ⟨k + 1, by omega, by go_num, by rw [HT.out, HA.out, HE]; rfl, HB.out⟩
                case measure => simp [intOf]; omega
              · rw [decide_eq_false hz1] at HE
                have hz3 : (v1 != 0) = true := by simpa using hz1
                go_wp2_with fail
                go_ret
                exact ⟨by rw [HN.out HE]; rfl, HB.out⟩
            · go_wp2_with fail
              go_roundw
              case rel => exact ⟨k + 1, by omega, by go_num, by rw [HT.out, HA.out, HE]; rfl, HB.out⟩
              case measure => simp [intOf]; omega
        · rw [decide_eq_false (show ¬ (0 ≤ g1 ∧ -1 ≤ q1) from fun h => h1 h.2), Bool.false_and, Bool.false_and] at HE
          have h2 : q1 < -1 := by omega
          go_wp2_with fail
          go_ret
          exact ⟨by rw [HN.out HE]; rfl, HB.out⟩
      · rw [decide_eq_false (show ¬ (0 ≤ g1 ∧ -1 ≤ q1) from fun h => h0 h.1), Bool.false_and, Bool.false_and] at HE
        have h2 : g1 < 0 := by omega
        go_wp2_with fail
        go_ret
        exact ⟨by rw [HN.out HE]; rfl, HB.out⟩
    · go_wp2_with fail
      go_ret
      obtain rfl : k = n := by omega
      rw [List.take_of_length_le (by rw [HL.out]; exact Nat.le_refl _)] at hall
      exact ⟨by rw [hall]; rfl, hb⟩
end Go.Proofs.Ytgdmcdblhpdlmaa
