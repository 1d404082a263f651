
/- Marks of rows of Waiter: the contracts of markS and heldS. Laid by wip/tools/gen.py. -/

import Derived.Test.YtgfkadhojlddpaaDWaiter

import Derived.Test.YtgfkadhojlddpaaBase

import Derived.Test.YtgfkadhojlddpaaTail

namespace Go.Proofs.Ytgfkadhojlddpaa
set_option linter.unusedSimpArgs false
set_option linter.unusedVariables false
open Go.RowKit

/-- The mark of z. -/
def mkWaiter (z : Int) : DWaiter := ⟨z, (z + 1), (z + 1 + 1)⟩
def marksWaiter (k : Int) (n : Nat) : List DWaiter := (List.range n).map fun (i : Nat) => mkWaiter (k + 3 * (i : Int))
theorem marksWaiter_length (k : Int) (n : Nat) : (marksWaiter k n).length = n := by simp [marksWaiter]
theorem marksWaiter_step {xs : List DWaiter} {k : Int} {n j : Nat} (hl : xs.length = n) (hj : j < n) :
    (marksWaiter k j ++ xs.drop j).set j (mkWaiter (k + 3 * (j : Int))) = marksWaiter k (j + 1) ++ xs.drop (j + 1) := by
  apply List.ext_getElem?
  intro i
  simp only [marksWaiter, List.getElem?_set, List.getElem?_map, List.getElem?_append, List.length_map, List.length_append, List.length_range, List.length_drop, List.getElem?_drop]
  rcases Nat.lt_trichotomy i j with h | h | h
  · simp [show ¬ j = i from by omega, h, show i < j + 1 from by omega]
  · subst h
    simp [show i < i + (xs.length - i) from by omega]
  · simp [show ¬ j = i from by omega, show ¬ i < j from by omega, show ¬ i < j + 1 from by omega, show j + (i - j) = i from by omega, show j + 1 + (i - (j + 1)) = i from by omega]

/-- The call marks the row: blocks that F holds turn alone. -/
def MarkedWaiter (w : World) (F : Nat → Prop) (e : TypeId) (A : Option Addr) (n c : Nat) (k : Int) (en : Ending) (w' : World) : Prop :=
  en = .returned (.int .i64 (k + 3 * (n : Int))) ∧ OwnR layWaiter e w' F A n c (marksWaiter k n) ∧ TurnedF F w w'

set_option maxRecDepth 100000 in
set_option maxHeartbeats 1000000 in
theorem markWaiterS_any {w : World} {F : Nat → Prop} {e : TypeId} {A : Option Addr} {n c : Nat} {k : Int} {xs : List DWaiter} (h : OwnR layWaiter e w F A n c xs) (hn : n ≤ 1048576) (hk0 : 0 ≤ k) (hk : k ≤ 16777216) :
    Calls Try.prog 40 #[.slice A n c, .int .i64 k] w (MarkedWaiter w F e A n c k) := by
  have HL := Lib.hid h.1
  go_enter Try.func40, Try.ntmps40
  go_wp2_with fail
  go_loopw [1, 5] (fun q i wr => ∃ j : Nat, j ≤ n ∧ i = .int .i64 j ∧ q = .int .i64 (k + 3 * (j : Int)) ∧ OwnR layWaiter e wr F A n c (marksWaiter k j ++ xs.drop j) ∧ TurnedF F w wr) (fun _ i _ => n - (intOf i).toNat)
  case atStart => exact ⟨0, Nat.zero_le _, rfl, by simp, by simpa [marksWaiter] using h, TurnedF.refl _ _⟩
  case round =>
    obtain ⟨j, hj, rfl, rfl, hown, ht⟩ := hrel
    by_cases hlt : j < n
    · obtain ⟨hx, g, G, vs, rfl, hFg, hGg, hGF, hgs, ⟨rfl, hw⟩, hcell, hfr, hput⟩ := hown.focus hlt
      have cc0 := hcell 0 _ (by decide) rfl
      have ff0 := hfr (j * (layWaiter).size + 0)
      have cc1 := hcell 1 _ (by decide) rfl
      have ff1 := hfr (j * (layWaiter).size + 1)
      have cc2 := hcell 2 _ (by decide) rfl
      have ff2 := hfr (j * (layWaiter).size + 2)
      simp only [show (layWaiter).size = 3 from rfl, Nat.add_zero, Nat.mul_one] at cc0 ff0 cc1 ff1 cc2 ff2
      generalize (marksWaiter k j ++ xs.drop j)[j] = x at *
      clear hcell hfr hw
      have hz0 : 0 ≤ k + 3 * (j : Int) := by omega
      have hz1 : k + 3 * (j : Int) ≤ 33554432 := by omega
      have HZ := Lib.hid (show k + 3 * (j : Int) + 3 = k + 3 * ((j + 1 : Nat) : Int) by omega)
      have HST := Lib.hid (marksWaiter_step (k := k) HL.out hlt)
      have HP := Lib.hid hput
      clear hput
      generalize k + 3 * (j : Int) = z at *
      go_wp2_with fail
      go_roundw
      case rel =>
        have hrow := HP.out (putCells wr g (j * 3) [.int .i64 z, .int .i64 (z + 1), .int .i64 (z + 1 + 1)]) (mkWaiter z) [.int .i64 z, .int .i64 (z + 1), .int .i64 (z + 1 + 1)] rfl ⟨rfl, ⟨wf_mark (z := z) (by omega) (by omega), wf_mark (z := (z + 1)) (by omega) (by omega), wf_mark (z := (z + 1 + 1)) (by omega) (by omega)⟩⟩ (TurnedF.put _ _ _ (TurnedF.refl _ _) (Or.inr rfl)) rfl
        rw [HST.out] at hrow
        refine ⟨j + 1, by omega, by go_num, by rw [← HZ.out]; try go_num, by first | exact hrow | simpa [putCells] using hrow, ?_⟩
        have htu : TurnedF F w (putCells wr g (j * 3) [.int .i64 z, .int .i64 (z + 1), .int .i64 (z + 1 + 1)]) := TurnedF.put _ _ _ ht hFg
        first | exact htu | simpa [putCells] using htu
      case measure => simp [intOf]; omega
    · go_wp2_with fail
      go_ret
      obtain rfl : j = n := by omega
      refine ⟨rfl, ?_, ht⟩
      rw [List.drop_of_length_le (by rw [HL.out]; exact Nat.le_refl _), List.append_nil] at hown
      exact hown

/-- The call marks the row: blocks that F holds turn alone. -/
def MarkedTWaiter (w : World) (F : Nat → Prop) (e : TypeId) (A : Option Addr) (n c : Nat) (k : Int) (en : Ending) (w' : World) : Prop :=
  en = .returned (.int .i64 (k + 3 * (n : Int))) ∧ TailR layWaiter e w' F A n c (marksWaiter k n) ∧ TurnedF F w w'

set_option maxRecDepth 100000 in
set_option maxHeartbeats 1000000 in
theorem markWaiterS_tail {w : World} {F : Nat → Prop} {e : TypeId} {A : Option Addr} {n c : Nat} {k : Int} {xs : List DWaiter} (h : TailR layWaiter e w F A n c xs) (hn : n ≤ 1048576) (hk0 : 0 ≤ k) (hk : k ≤ 16777216) :
    Calls Try.prog 40 #[.slice A n c, .int .i64 k] w (MarkedTWaiter w F e A n c k) := by
  have HL := Lib.hid h.1
  go_enter Try.func40, Try.ntmps40
  go_wp2_with fail
  go_loopw [1, 5] (fun q i wr => ∃ j : Nat, j ≤ n ∧ i = .int .i64 j ∧ q = .int .i64 (k + 3 * (j : Int)) ∧ TailR layWaiter e wr F A n c (marksWaiter k j ++ xs.drop j) ∧ TurnedF F w wr) (fun _ i _ => n - (intOf i).toNat)
  case atStart => exact ⟨0, Nat.zero_le _, rfl, by simp, by simpa [marksWaiter] using h, TurnedF.refl _ _⟩
  case round =>
    obtain ⟨j, hj, rfl, rfl, hown, ht⟩ := hrel
    by_cases hlt : j < n
    · obtain ⟨hx, g, o, G, vs, rfl, hFg, hGg, hGF, hgs, ⟨rfl, hw⟩, hcell, hfr, hput⟩ := hown.focus hlt
      have cc0 := hcell 0 _ (by decide) rfl
      have ff0 := hfr (o + (j * (layWaiter).size + 0))
      have cc1 := hcell 1 _ (by decide) rfl
      have ff1 := hfr (o + (j * (layWaiter).size + 1))
      have cc2 := hcell 2 _ (by decide) rfl
      have ff2 := hfr (o + (j * (layWaiter).size + 2))
      simp only [show (layWaiter).size = 3 from rfl, ← Nat.add_assoc, Nat.add_zero, Nat.mul_one] at cc0 ff0 cc1 ff1 cc2 ff2
      generalize (marksWaiter k j ++ xs.drop j)[j] = x at *
      clear hcell hfr hw
      have hz0 : 0 ≤ k + 3 * (j : Int) := by omega
      have hz1 : k + 3 * (j : Int) ≤ 33554432 := by omega
      have HZ := Lib.hid (show k + 3 * (j : Int) + 3 = k + 3 * ((j + 1 : Nat) : Int) by omega)
      have HST := Lib.hid (marksWaiter_step (k := k) HL.out hlt)
      have HP := Lib.hid hput
      clear hput
      generalize k + 3 * (j : Int) = z at *
      go_wp2_with fail
      go_roundw
      case rel =>
        have hrow := HP.out (putCells wr g (o + j * 3) [.int .i64 z, .int .i64 (z + 1), .int .i64 (z + 1 + 1)]) (mkWaiter z) [.int .i64 z, .int .i64 (z + 1), .int .i64 (z + 1 + 1)] rfl ⟨rfl, ⟨wf_mark (z := z) (by omega) (by omega), wf_mark (z := (z + 1)) (by omega) (by omega), wf_mark (z := (z + 1 + 1)) (by omega) (by omega)⟩⟩ (TurnedF.put _ _ _ (TurnedF.refl _ _) (Or.inr rfl)) rfl
        rw [HST.out] at hrow
        refine ⟨j + 1, by omega, by go_num, by rw [← HZ.out]; try go_num, by first | exact hrow | simpa [putCells] using hrow, ?_⟩
        have htu : TurnedF F w (putCells wr g (o + j * 3) [.int .i64 z, .int .i64 (z + 1), .int .i64 (z + 1 + 1)]) := TurnedF.put _ _ _ ht hFg
        first | exact htu | simpa [putCells] using htu
      case measure => simp [intOf]; omega
    · go_wp2_with fail
      go_ret
      obtain rfl : j = n := by omega
      refine ⟨rfl, ?_, ht⟩
      rw [List.drop_of_length_le (by rw [HL.out]; exact Nat.le_refl _), List.append_nil] at hown
      exact hown

end Go.Proofs.Ytgfkadhojlddpaa
