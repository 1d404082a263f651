
/- Marks of rows of Pick: the contracts of markS and heldS. Laid by wip/tools/gen.py. -/

import Derived.Test.YtegbnmlipajclaaDPick

import Derived.Test.YtegbnmlipajclaaGBase

namespace Go.Proofs.Ytegbnmlipajclaa
set_option linter.unusedSimpArgs false
set_option linter.unusedVariables false
open Go.RowKit

/-- The mark of z. -/
def mkPick (z : Int) : DPick := ⟨z, (z + 1)⟩
def marksPick (k : Int) (n : Nat) : List DPick := (List.range n).map fun (i : Nat) => mkPick (k + 2 * (i : Int))
theorem marksPick_length (k : Int) (n : Nat) : (marksPick k n).length = n := by simp [marksPick]
theorem marksPick_step {xs : List DPick} {k : Int} {n j : Nat} (hl : xs.length = n) (hj : j < n) :
    (marksPick k j ++ xs.drop j).set j (mkPick (k + 2 * (j : Int))) = marksPick k (j + 1) ++ xs.drop (j + 1) := by
  apply List.ext_getElem?
  intro i
  simp only [marksPick, List.getElem?_set, List.getElem?_map, List.getElem?_append, List.length_map, List.length_append, List.length_range, List.length_drop, List.getElem?_drop]
  rcases Nat.lt_trichotomy i j with h | h | h
  · simp [show ¬ j = i from by omega, h, show i < j + 1 from by omega]
  · subst h
    simp [show i < i + (xs.length - i) from by omega]
  · simp [show ¬ j = i from by omega, show ¬ i < j from by omega, show ¬ i < j + 1 from by omega, show j + (i - j) = i from by omega, show j + 1 + (i - (j + 1)) = i from by omega]

/-- The call marks the row: blocks that F holds turn alone. -/
def MarkedPick (w : World) (F : Nat → Prop) (e : TypeId) (A : Option Addr) (n c : Nat) (k : Int) (en : Ending) (w' : World) : Prop :=
  en = .returned (.int .i64 (k + 2 * (n : Int))) ∧ OwnR layPick e w' F A n c (marksPick k n) ∧ TurnedF F w w'

set_option maxRecDepth 100000 in
set_option maxHeartbeats 1000000 in
theorem markPickS_any {w : World} {F : Nat → Prop} {e : TypeId} {A : Option Addr} {n c : Nat} {k : Int} {xs : List DPick} (h : OwnR layPick e w F A n c xs) (hn : n ≤ 1048576) (hk0 : 0 ≤ k) (hk : k ≤ 16777216) :
    Calls Try.prog 11 #[.slice A n c, .int .i64 k] w (MarkedPick w F e A n c k) := by
  have HL := Lib.hid h.1
  go_enter Try.func11, Try.ntmps11
  go_wp2_with fail
  go_loopw [1, 5] (fun q i wr => ∃ j : Nat, j ≤ n ∧ i = .int .i64 j ∧ q = .int .i64 (k + 2 * (j : Int)) ∧ OwnR layPick e wr F A n c (marksPick k j ++ xs.drop j) ∧ TurnedF F w wr) (fun _ i _ => n - (intOf i).toNat)
  case atStart => exact ⟨0, Nat.zero_le _, rfl, by simp, by simpa [marksPick] using h, TurnedF.refl _ _⟩
  case round =>
    obtain ⟨j, hj, rfl, rfl, hown, ht⟩ := hrel
    by_cases hlt : j < n
    · obtain ⟨hx, g, G, vs, rfl, hFg, hGg, hGF, hgs, ⟨rfl, hw⟩, hcell, hfr, hput⟩ := hown.focus hlt
      have cc0 := hcell 0 _ (by decide) rfl
      have ff0 := hfr (j * (layPick).size + 0)
      have cc1 := hcell 1 _ (by decide) rfl
      have ff1 := hfr (j * (layPick).size + 1)
      simp only [show (layPick).size = 2 from rfl, Nat.add_zero, Nat.mul_one] at cc0 ff0 cc1 ff1
      generalize (marksPick k j ++ xs.drop j)[j] = x at *
      clear hcell hfr hw
      have hz0 : 0 ≤ k + 2 * (j : Int) := by omega
      have hz1 : k + 2 * (j : Int) ≤ 33554432 := by omega
      have HZ := Lib.hid (show k + 2 * (j : Int) + 2 = k + 2 * ((j + 1 : Nat) : Int) by omega)
      have HST := Lib.hid (marksPick_step (k := k) HL.out hlt)
      have HP := Lib.hid hput
      clear hput
      generalize k + 2 * (j : Int) = z at *
      go_wp2_with fail
      go_roundw
      case rel =>
        have hrow := HP.out (putCells wr g (j * 2) [.int .i64 z, .int .i64 (z + 1)]) (mkPick z) [.int .i64 z, .int .i64 (z + 1)] rfl ⟨rfl, ⟨wf_mark (z := z) (by omega) (by omega), wf_mark (z := (z + 1)) (by omega) (by omega)⟩⟩ (TurnedF.put _ _ _ (TurnedF.refl _ _) (Or.inr rfl)) rfl
        rw [HST.out] at hrow
        refine ⟨j + 1, by omega, by go_num, by rw [← HZ.out]; try go_num, by first | exact hrow | simpa [putCells] using hrow, ?_⟩
        have htu : TurnedF F w (putCells wr g (j * 2) [.int .i64 z, .int .i64 (z + 1)]) := TurnedF.put _ _ _ ht hFg
        first | exact htu | simpa [putCells] using htu
      case measure => simp [intOf]; omega
    · go_wp2_with fail
      go_ret
      obtain rfl : j = n := by omega
      refine ⟨rfl, ?_, ht⟩
      rw [List.drop_of_length_le (by rw [HL.out]; exact Nat.le_refl _), List.append_nil] at hown
      exact hown

set_option maxRecDepth 100000 in
set_option maxHeartbeats 1000000 in
theorem heldPickS_any {w : World} {hi : Nat} {A : Option Addr} {n c : Nat} {k : Int} (h : SeenR layPick w hi A n (marksPick k n)) (hn : n ≤ 1048576) (hk0 : 0 ≤ k) (hk : k ≤ 16777216) :
    Calls Try.prog 12 #[.slice A n c, .int .i64 k] w fun e w' => e = .returned (.int .i64 (k + 2 * (n : Int))) ∧ w = w' := by
  go_enter Try.func12, Try.ntmps12
  go_wp2_with fail
  go_loop [1, 5] (fun q i => ∃ j : Nat, j ≤ n ∧ i = .int .i64 j ∧ q = .int .i64 (k + 2 * (j : Int))) (fun _ i => n - (intOf i).toNat)
  case atStart => exact ⟨0, Nat.zero_le _, rfl, by simp⟩
  case round =>
    obtain ⟨j, hj, rfl, rfl⟩ := hrel
    by_cases hlt : j < n
    · obtain ⟨hx, g, o, vs, rfl, hg, ⟨rfl, hw⟩, hcell⟩ := h.at_ hlt
      have hxe : (marksPick k n)[j] = mkPick (k + 2 * (j : Int)) := by simp [marksPick]
      rw [hxe] at hcell
      have cc0 := hcell 0 _ rfl
      have cc1 := hcell 1 _ rfl
      simp only [show (layPick).size = 2 from rfl, ← Nat.add_assoc, Nat.add_zero, Nat.mul_one, mkPick] at cc0 cc1
      clear hcell hw hxe
      have hz0 : 0 ≤ k + 2 * (j : Int) := by omega
      have hz1 : k + 2 * (j : Int) ≤ 33554432 := by omega
      have HZ := Lib.hid (show k + 2 * (j : Int) + 2 = k + 2 * ((j + 1 : Nat) : Int) by omega)
      generalize k + 2 * (j : Int) = z at *
      go_wp2_with fail
      go_round
      case rel => exact ⟨j + 1, by omega, by go_num, by rw [← HZ.out]; try go_num⟩
      case measure => simp [intOf]; omega
    · go_wp2_with fail
      go_ret
      obtain rfl : j = n := by omega
      exact ⟨rfl, rfl⟩

/-- The call marks the row: blocks that F holds turn alone. -/
def MarkedTPick (w : World) (F : Nat → Prop) (e : TypeId) (A : Option Addr) (n c : Nat) (k : Int) (en : Ending) (w' : World) : Prop :=
  en = .returned (.int .i64 (k + 2 * (n : Int))) ∧ TailR layPick e w' F A n c (marksPick k n) ∧ TurnedF F w w'

set_option maxRecDepth 100000 in
set_option maxHeartbeats 1000000 in
theorem markPickS_tail {w : World} {F : Nat → Prop} {e : TypeId} {A : Option Addr} {n c : Nat} {k : Int} {xs : List DPick} (h : TailR layPick e w F A n c xs) (hn : n ≤ 1048576) (hk0 : 0 ≤ k) (hk : k ≤ 16777216) :
    Calls Try.prog 11 #[.slice A n c, .int .i64 k] w (MarkedTPick w F e A n c k) := by
  have HL := Lib.hid h.1
  go_enter Try.func11, Try.ntmps11
  go_wp2_with fail
  go_loopw [1, 5] (fun q i wr => ∃ j : Nat, j ≤ n ∧ i = .int .i64 j ∧ q = .int .i64 (k + 2 * (j : Int)) ∧ TailR layPick e wr F A n c (marksPick k j ++ xs.drop j) ∧ TurnedF F w wr) (fun _ i _ => n - (intOf i).toNat)
  case atStart => exact ⟨0, Nat.zero_le _, rfl, by simp, by simpa [marksPick] using h, TurnedF.refl _ _⟩
  case round =>
    obtain ⟨j, hj, rfl, rfl, hown, ht⟩ := hrel
    by_cases hlt : j < n
    · obtain ⟨hx, g, o, G, vs, rfl, hFg, hGg, hGF, hgs, ⟨rfl, hw⟩, hcell, hfr, hput⟩ := hown.focus hlt
      have cc0 := hcell 0 _ (by decide) rfl
      have ff0 := hfr (o + (j * (layPick).size + 0))
      have cc1 := hcell 1 _ (by decide) rfl
      have ff1 := hfr (o + (j * (layPick).size + 1))
      simp only [show (layPick).size = 2 from rfl, ← Nat.add_assoc, Nat.add_zero, Nat.mul_one] at cc0 ff0 cc1 ff1
      generalize (marksPick k j ++ xs.drop j)[j] = x at *
      clear hcell hfr hw
      have hz0 : 0 ≤ k + 2 * (j : Int) := by omega
      have hz1 : k + 2 * (j : Int) ≤ 33554432 := by omega
      have HZ := Lib.hid (show k + 2 * (j : Int) + 2 = k + 2 * ((j + 1 : Nat) : Int) by omega)
      have HST := Lib.hid (marksPick_step (k := k) HL.out hlt)
      have HP := Lib.hid hput
      clear hput
      generalize k + 2 * (j : Int) = z at *
      go_wp2_with fail
      go_roundw
      case rel =>
        have hrow := HP.out (putCells wr g (o + j * 2) [.int .i64 z, .int .i64 (z + 1)]) (mkPick z) [.int .i64 z, .int .i64 (z + 1)] rfl ⟨rfl, ⟨wf_mark (z := z) (by omega) (by omega), wf_mark (z := (z + 1)) (by omega) (by omega)⟩⟩ (TurnedF.put _ _ _ (TurnedF.refl _ _) (Or.inr rfl)) rfl
        rw [HST.out] at hrow
        refine ⟨j + 1, by omega, by go_num, by rw [← HZ.out]; try go_num, by first | exact hrow | simpa [putCells] using hrow, ?_⟩
        have htu : TurnedF F w (putCells wr g (o + j * 2) [.int .i64 z, .int .i64 (z + 1)]) := TurnedF.put _ _ _ ht hFg
        first | exact htu | simpa [putCells] using htu
      case measure => simp [intOf]; omega
    · go_wp2_with fail
      go_ret
      obtain rfl : j = n := by omega
      refine ⟨rfl, ?_, ht⟩
      rw [List.drop_of_length_le (by rw [HL.out]; exact Nat.le_refl _), List.append_nil] at hown
      exact hown

end Go.Proofs.Ytegbnmlipajclaa
