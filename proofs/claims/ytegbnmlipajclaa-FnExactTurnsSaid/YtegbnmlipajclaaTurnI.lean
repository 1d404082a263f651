
/- Turns, the program's: an iterator over a source that counts up, collected. -/

import Derived.Test.YtegbnmlipajclaaTurnP

import Derived.Deep.Cut

namespace Go.Proofs.Ytegbnmlipajclaa
set_option linter.unusedSimpArgs false
set_option linter.unusedVariables false
open Go.RowKit

/-- How far the source has come. -/
def atT (b : Nat) (w : World) : Nat := match w.cell? ⟨b, 0, none⟩ with
  | some (.int _ z) => z.toNat
  | _ => 0

set_option maxRecDepth 100000 in
set_option maxHeartbeats 20000000 in
/-- The iterator over a source that counts up, for every loop body that goes on. -/
theorem iterT_any {W0 : World} {bt bf l lo N : Nat} {m : Int} (hbt : W0.heap[bt]? = some (.cells #[.int .i64 0, .int .i64 m] 41 (0, 0))) (hbf : W0.heap[bf]? = some (.cells #[.iface 39 (.pointer (some ⟨bt, 0, none⟩))] 45 (0, 0)))
    (h1 : bt < lo) (h2 : bf < lo) (h3 : lo ≤ W0.heap.size) (h4 : bf ≠ bt) (hN : N ≤ 2000) (hm : ∀ k : Nat, k < N ↔ (k : Int) < m) (J : Nat → World → Prop)
    (hJ : ∀ k W W', J k W → lo ≤ W.heap.size → TurnedF (fun b => b = bt) W W' → J k W')
    (hY : ∀ (k : Nat) (W : World), k < N → lo ≤ W.heap.size → J k W → YieldAt Fence.wide 8 Try.prog l #[.agg #[.int .i64 (k : Int), .int .i64 (k : Int)]] W fun e W' => e = .returned (.bool true) ∧ J (k + 1) W' ∧ Below lo W W') (h0 : J 0 W0) :
    Calls Try.prog 19 #[.func (.yield l) #[] #[], .pointer (some ⟨bf, 0, none⟩)] W0 fun e W' => (∃ v, e = .returned v) ∧ J N W' := by
  have HJ := Lib.hid hJ
  have HY := Lib.hid hY
  have HM := Lib.hid hm
  clear hJ hY hm
  go_enter Try.func19, Try.ntmps19
  go_wp2_with fail
  go_loopw [3, 4] (fun _ _ wr => ∃ k : Nat, k ≤ N ∧ wr.heap[bt]? = some (.cells #[.int .i64 (k : Int), .int .i64 m] 41 (0, 0)) ∧ wr.heap[bf]? = some (.cells #[.iface 39 (.pointer (some ⟨bt, 0, none⟩))] 45 (0, 0)) ∧ lo ≤ wr.heap.size ∧ J k wr) (fun _ _ wr => N - atT bt wr)
  case atStart => exact ⟨0, Nat.zero_le _, hbt, hbf, h3, h0⟩
  case round =>
    obtain ⟨k, hk, hbt', hbf', hz, hj⟩ := hrel
    have cf := box_cell (j := 0) hbf' rfl
    go_wp2_with fail
    by_cases hlt : k < N
    · refine (pickT_any hbt' (by omega) ((HM.out k).1 hlt)).mono ?_
      rintro e w1 ⟨rfl, hb1, ht1⟩
      have hz1 := ht1.size
      have hf1 := (ht1.block bf (by omega) h4).trans hbf'
      have hj1 := HJ.out _ _ _ hj hz ht1
      clear hj hbf' cf ht1
      go_upto_region 1 with (fail)
      have hal : Below w1.heap.size w1 (w1.alloc (.cells #[.int .i64 (k : Int), .int .i64 (k : Int)] 34)) := (Below.refl _ _).alloc (Nat.le_refl _) _
      have hx := box_new w1 #[.int .i64 (k : Int), .int .i64 (k : Int)] 34
      have hj2 := HJ.out _ _ _ hj1 (by omega) (TurnedF.of_below hal _)
      have hb2 := box_keep hb1 hal (by omega)
      have hf2 := box_keep hf1 hal (by omega)
      have hz2 := hal.size
      have hlx : w1.heap.size < (w1.alloc (.cells #[.int .i64 (k : Int), .int .i64 (k : Int)] 34)).heap.size := by simp
      clear hj1 hb1 hf1 hal
      generalize (w1.alloc (.cells #[.int .i64 (k : Int), .int .i64 (k : Int)] 34)) = W2 at *
      have x0 := box_cell (j := 0) hx rfl
      have x1 := box_cell (j := 1) hx rfl
      obtain ⟨fn, tmps, asg, bd, hy, hR⟩ := HY.out k W2 hlt (by omega) hj2
      have HR := Lib.hid hR
      clear hR hj2
      refine (wpIn_wide (n := 9)).1 ?_
      gi_wp2_with fail
      refine (HR.out).mono ?_
      rintro e W3 ⟨rfl, hj3, hb3⟩
      have hb4 := box_keep hb2 hb3 h1
      have hf4 := box_keep hf2 hb3 h2
      have hz3 := hb3.size
      clear hb2 hf2 hb3 x0 x1 hx hy HR
      have hq0 : atT bt wr = k := by simp [atT, box_cell (j := 0) hbt' rfl]
      have hq1 : atT bt W3 = k + 1 := by simp [atT, box_cell (j := 0) hb4 rfl]
      gi_wp2_with fail
      go_wp2_with fail
      go_roundw
      case rel => exact ⟨k + 1, by omega, hb4, hf4, by omega, hj3⟩
      case measure => rw [hq0, hq1]; omega
    · obtain rfl : k = N := by omega
      refine (pickT_end hbt' (fun h => hlt ((HM.out k).2 h))).mono ?_
      rintro e w1 ⟨rfl, hb1⟩
      have hj1 := HJ.out _ _ _ hj hz (TurnedF.of_below hb1 _)
      have hzz := hb1.size
      have hj2 := HJ.out _ _ _ hj1 (by omega) (TurnedF.of_below ((Below.refl w1.heap.size w1).alloc (Nat.le_refl _) (.cells #[.int .i64 0, .int .i64 0] 34)) _)
      go_wp2_with fail
      refine bodyPost_ret (v := .tuple #[]) ?_ rfl ?_
      · simp [results, Try.results19, go_sem]
      exact ⟨⟨_, rfl⟩, hj2⟩
end Go.Proofs.Ytegbnmlipajclaa
