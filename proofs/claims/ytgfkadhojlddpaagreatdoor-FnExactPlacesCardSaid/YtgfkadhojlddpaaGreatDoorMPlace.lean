
/- Marks of rows of Place: the contracts of markS and heldS. Laid by wip/tools/gen.py. -/

import Derived.Test.YtgfkadhojlddpaaGreatDoorDPlace

import Derived.Test.YtgfkadhojlddpaaGreatDoorBase

import Derived.Test.YtgfkadhojlddpaaGreatDoorTail

namespace Go.Proofs.YtgfkadhojlddpaaGreatDoor
set_option linter.unusedSimpArgs false
set_option linter.unusedVariables false
open Go.RowKit

/-- The mark of z. -/
def mkPlace (z : Int) : DPlace := ⟨z % 3 == 0, (z + 1), (z + 1 + 1) % 3 == 0, (z + 1 + 1 + 1), (z + 1 + 1 + 1 + 1), (z + 1 + 1 + 1 + 1 + 1)⟩
def marksPlace (k : Int) (n : Nat) : List DPlace := (List.range n).map fun (i : Nat) => mkPlace (k + 6 * (i : Int))
theorem marksPlace_length (k : Int) (n : Nat) : (marksPlace k n).length = n := by simp [marksPlace]
theorem marksPlace_step {xs : List DPlace} {k : Int} {n j : Nat} (hl : xs.length = n) (hj : j < n) :
    (marksPlace k j ++ xs.drop j).set j (mkPlace (k + 6 * (j : Int))) = marksPlace k (j + 1) ++ xs.drop (j + 1) := by
  apply List.ext_getElem?
  intro i
  simp only [marksPlace, List.getElem?_set, List.getElem?_map, List.getElem?_append, List.length_map, List.length_append, List.length_range, List.length_drop, List.getElem?_drop]
  rcases Nat.lt_trichotomy i j with h | h | h
  · simp [show ¬ j = i from by omega, h, show i < j + 1 from by omega]
  · subst h
    simp [show i < i + (xs.length - i) from by omega]
  · simp [show ¬ j = i from by omega, show ¬ i < j from by omega, show ¬ i < j + 1 from by omega, show j + (i - j) = i from by omega, show j + 1 + (i - (j + 1)) = i from by omega]

/-- The call marks the row: blocks that F holds turn alone. -/
def MarkedPlace (w : World) (F : Nat → Prop) (e : TypeId) (A : Option Addr) (n c : Nat) (k : Int) (en : Ending) (w' : World) : Prop :=
  en = .returned (.int .i64 (k + 6 * (n : Int))) ∧ OwnR layPlace e w' F A n c (marksPlace k n) ∧ TurnedF F w w'

set_option maxRecDepth 100000 in
set_option maxHeartbeats 1000000 in
theorem markPlaceS_any {w : World} {F : Nat → Prop} {e : TypeId} {A : Option Addr} {n c : Nat} {k : Int} {xs : List DPlace} (h : OwnR layPlace e w F A n c xs) (hn : n ≤ 1048576) (hk0 : 0 ≤ k) (hk : k ≤ 16777216) :
    Calls Tryz.prog 19 #[.slice A n c, .int .i64 k] w (MarkedPlace w F e A n c k) := by
  have HL := Lib.hid h.1
  go_enter Tryz.func19, Tryz.ntmps19
  go_wp2_with fail
  go_loopw [1, 5] (fun q i wr => ∃ j : Nat, j ≤ n ∧ i = .int .i64 j ∧ q = .int .i64 (k + 6 * (j : Int)) ∧ OwnR layPlace e wr F A n c (marksPlace k j ++ xs.drop j) ∧ TurnedF F w wr) (fun _ i _ => n - (intOf i).toNat)
  case atStart => exact ⟨0, Nat.zero_le _, rfl, by simp, by simpa [marksPlace] using h, TurnedF.refl _ _⟩
  case round =>
    obtain ⟨j, hj, rfl, rfl, hown, ht⟩ := hrel
    by_cases hlt : j < n
    · obtain ⟨hx, g, G, vs, rfl, hFg, hGg, hGF, hgs, ⟨rfl, hw⟩, hcell, hfr, hput⟩ := hown.focus hlt
      have cc0 := hcell 0 _ (by decide) rfl
      have ff0 := hfr (j * (layPlace).size + 0)
      have cc1 := hcell 1 _ (by decide) rfl
      have ff1 := hfr (j * (layPlace).size + 1)
      have cc2 := hcell 2 _ (by decide) rfl
      have ff2 := hfr (j * (layPlace).size + 2)
      have cc3 := hcell 3 _ (by decide) rfl
      have ff3 := hfr (j * (layPlace).size + 3)
      have cc4 := hcell 4 _ (by decide) rfl
      have ff4 := hfr (j * (layPlace).size + 4)
      have cc5 := hcell 5 _ (by decide) rfl
      have ff5 := hfr (j * (layPlace).size + 5)
      simp only [show (layPlace).size = 6 from rfl, Nat.add_zero, Nat.mul_one] at cc0 ff0 cc1 ff1 cc2 ff2 cc3 ff3 cc4 ff4 cc5 ff5
      generalize (marksPlace k j ++ xs.drop j)[j] = x at *
      clear hcell hfr hw
      have hz0 : 0 ≤ k + 6 * (j : Int) := by omega
      have hz1 : k + 6 * (j : Int) ≤ 33554432 := by omega
      have HZ := Lib.hid (show k + 6 * (j : Int) + 6 = k + 6 * ((j + 1 : Nat) : Int) by omega)
      have HST := Lib.hid (marksPlace_step (k := k) HL.out hlt)
      have HP := Lib.hid hput
      clear hput
      generalize k + 6 * (j : Int) = z at *
      go_wp2_with fail
      go_roundw
      case rel =>
        have hrow := HP.out (putCells wr g (j * 6) [.bool (z % 3 == 0), .int .i64 (z + 1), .bool ((z + 1 + 1) % 3 == 0), .int .i64 (z + 1 + 1 + 1), .int .i64 (z + 1 + 1 + 1 + 1), .int .i64 (z + 1 + 1 + 1 + 1 + 1)]) (mkPlace z) [.bool (z % 3 == 0), .int .i64 (z + 1), .bool ((z + 1 + 1) % 3 == 0), .int .i64 (z + 1 + 1 + 1), .int .i64 (z + 1 + 1 + 1 + 1), .int .i64 (z + 1 + 1 + 1 + 1 + 1)] rfl ⟨rfl, ⟨wf_mark (z := (z + 1)) (by omega) (by omega), wf_mark (z := (z + 1 + 1 + 1)) (by omega) (by omega), wf_mark (z := (z + 1 + 1 + 1 + 1)) (by omega) (by omega), wf_mark (z := (z + 1 + 1 + 1 + 1 + 1)) (by omega) (by omega)⟩⟩ (TurnedF.put _ _ _ (TurnedF.refl _ _) (Or.inr rfl)) rfl
        rw [HST.out] at hrow
        refine ⟨j + 1, by omega, by go_num, by rw [← HZ.out]; try go_num, by first | exact hrow | simpa [putCells] using hrow, ?_⟩
        have htu : TurnedF F w (putCells wr g (j * 6) [.bool (z % 3 == 0), .int .i64 (z + 1), .bool ((z + 1 + 1) % 3 == 0), .int .i64 (z + 1 + 1 + 1), .int .i64 (z + 1 + 1 + 1 + 1), .int .i64 (z + 1 + 1 + 1 + 1 + 1)]) := TurnedF.put _ _ _ ht hFg
        first | exact htu | simpa [putCells] using htu
      case measure => simp [intOf]; omega
    · go_wp2_with fail
      go_ret
      obtain rfl : j = n := by omega
      refine ⟨rfl, ?_, ht⟩
      rw [List.drop_of_length_le (by rw [HL.out]; exact Nat.le_refl _), List.append_nil] at hown
      exact hown

set_option maxRecDepth 100000 in
set_option maxHeartbeats 1000000 in
theorem heldPlaceS_any {w : World} {hi : Nat} {A : Option Addr} {n c : Nat} {k : Int} (h : SeenR layPlace w hi A n (marksPlace k n)) (hn : n ≤ 1048576) (hk0 : 0 ≤ k) (hk : k ≤ 16777216) :
    Calls Tryz.prog 20 #[.slice A n c, .int .i64 k] w fun e w' => e = .returned (.int .i64 (k + 6 * (n : Int))) ∧ w = w' := by
  go_enter Tryz.func20, Tryz.ntmps20
  go_wp2_with fail
  go_loop [1, 5] (fun q i => ∃ j : Nat, j ≤ n ∧ i = .int .i64 j ∧ q = .int .i64 (k + 6 * (j : Int))) (fun _ i => n - (intOf i).toNat)
  case atStart => exact ⟨0, Nat.zero_le _, rfl, by simp⟩
  case round =>
    obtain ⟨j, hj, rfl, rfl⟩ := hrel
    by_cases hlt : j < n
    · obtain ⟨hx, g, o, vs, rfl, hg, ⟨rfl, hw⟩, hcell⟩ := h.at_ hlt
      have hxe : (marksPlace k n)[j] = mkPlace (k + 6 * (j : Int)) := by simp [marksPlace]
      rw [hxe] at hcell
      have cc0 := hcell 0 _ rfl
      have cc1 := hcell 1 _ rfl
      have cc2 := hcell 2 _ rfl
      have cc3 := hcell 3 _ rfl
      have cc4 := hcell 4 _ rfl
      have cc5 := hcell 5 _ rfl
      simp only [show (layPlace).size = 6 from rfl, ← Nat.add_assoc, Nat.add_zero, Nat.mul_one, mkPlace] at cc0 cc1 cc2 cc3 cc4 cc5
      clear hcell hw hxe
      have hz0 : 0 ≤ k + 6 * (j : Int) := by omega
      have hz1 : k + 6 * (j : Int) ≤ 33554432 := by omega
      have HZ := Lib.hid (show k + 6 * (j : Int) + 6 = k + 6 * ((j + 1 : Nat) : Int) by omega)
      generalize k + 6 * (j : Int) = z at *
      go_wp2_with fail
      go_round
      case rel => exact ⟨j + 1, by omega, by go_num, by rw [← HZ.out]; try go_num⟩
      case measure => simp [intOf]; omega
    · go_wp2_with fail
      go_ret
      obtain rfl : j = n := by omega
      exact ⟨rfl, rfl⟩

/-- The call marks the row: blocks that F holds turn alone. -/
def MarkedTPlace (w : World) (F : Nat → Prop) (e : TypeId) (A : Option Addr) (n c : Nat) (k : Int) (en : Ending) (w' : World) : Prop :=
  en = .returned (.int .i64 (k + 6 * (n : Int))) ∧ TailR layPlace e w' F A n c (marksPlace k n) ∧ TurnedF F w w'

set_option maxRecDepth 100000 in
set_option maxHeartbeats 1000000 in
theorem markPlaceS_tail {w : World} {F : Nat → Prop} {e : TypeId} {A : Option Addr} {n c : Nat} {k : Int} {xs : List DPlace} (h : TailR layPlace e w F A n c xs) (hn : n ≤ 1048576) (hk0 : 0 ≤ k) (hk : k ≤ 16777216) :
    Calls Tryz.prog 19 #[.slice A n c, .int .i64 k] w (MarkedTPlace w F e A n c k) := by
  have HL := Lib.hid h.1
  go_enter Tryz.func19, Tryz.ntmps19
  go_wp2_with fail
  go_loopw [1, 5] (fun q i wr => ∃ j : Nat, j ≤ n ∧ i = .int .i64 j ∧ q = .int .i64 (k + 6 * (j : Int)) ∧ TailR layPlace e wr F A n c (marksPlace k j ++ xs.drop j) ∧ TurnedF F w wr) (fun _ i _ => n - (intOf i).toNat)
  case atStart => exact ⟨0, Nat.zero_le _, rfl, by simp, by simpa [marksPlace] using h, TurnedF.refl _ _⟩
  case round =>
    obtain ⟨j, hj, rfl, rfl, hown, ht⟩ := hrel
    by_cases hlt : j < n
    · obtain ⟨hx, g, o, G, vs, rfl, hFg, hGg, hGF, hgs, ⟨rfl, hw⟩, hcell, hfr, hput⟩ := hown.focus hlt
      have cc0 := hcell 0 _ (by decide) rfl
      have ff0 := hfr (o + (j * (layPlace).size + 0))
      have cc1 := hcell 1 _ (by decide) rfl
      have ff1 := hfr (o + (j * (layPlace).size + 1))
      have cc2 := hcell 2 _ (by decide) rfl
      have ff2 := hfr (o + (j * (layPlace).size + 2))
      have cc3 := hcell 3 _ (by decide) rfl
      have ff3 := hfr (o + (j * (layPlace).size + 3))
      have cc4 := hcell 4 _ (by decide) rfl
      have ff4 := hfr (o + (j * (layPlace).size + 4))
      have cc5 := hcell 5 _ (by decide) rfl
      have ff5 := hfr (o + (j * (layPlace).size + 5))
      simp only [show (layPlace).size = 6 from rfl, ← Nat.add_assoc, Nat.add_zero, Nat.mul_one] at cc0 ff0 cc1 ff1 cc2 ff2 cc3 ff3 cc4 ff4 cc5 ff5
      generalize (marksPlace k j ++ xs.drop j)[j] = x at *
      clear hcell hfr hw
      have hz0 : 0 ≤ k + 6 * (j : Int) := by omega
      have hz1 : k + 6 * (j : Int) ≤ 33554432 := by omega
      have HZ := Lib.hid (show k + 6 * (j : Int) + 6 = k + 6 * ((j + 1 : Nat) : Int) by omega)
      have HST := Lib.hid (marksPlace_step (k := k) HL.out hlt)
      have HP := Lib.hid hput
      clear hput
      generalize k + 6 * (j : Int) = z at *
      go_wp2_with fail
      go_roundw
      case rel =>
        have hrow := HP.out (putCells wr g (o + j * 6) [.bool (z % 3 == 0), .int .i64 (z + 1), .bool ((z + 1 + 1) % 3 == 0), .int .i64 (z + 1 + 1 + 1), .int .i64 (z + 1 + 1 + 1 + 1), .int .i64 (z + 1 + 1 + 1 + 1 + 1)]) (mkPlace z) [.bool (z % 3 == 0), .int .i64 (z + 1), .bool ((z + 1 + 1) % 3 == 0), .int .i64 (z + 1 + 1 + 1), .int .i64 (z + 1 + 1 + 1 + 1), .int .i64 (z + 1 + 1 + 1 + 1 + 1)] rfl ⟨rfl, ⟨wf_mark (z := (z + 1)) (by omega) (by omega), wf_mark (z := (z + 1 + 1 + 1)) (by omega) (by omega), wf_mark (z := (z + 1 + 1 + 1 + 1)) (by omega) (by omega), wf_mark (z := (z + 1 + 1 + 1 + 1 + 1)) (by omega) (by omega)⟩⟩ (TurnedF.put _ _ _ (TurnedF.refl _ _) (Or.inr rfl)) rfl
        rw [HST.out] at hrow
        refine ⟨j + 1, by omega, by go_num, by rw [← HZ.out]; try go_num, by first | exact hrow | simpa [putCells] using hrow, ?_⟩
        have htu : TurnedF F w (putCells wr g (o + j * 6) [.bool (z % 3 == 0), .int .i64 (z + 1), .bool ((z + 1 + 1) % 3 == 0), .int .i64 (z + 1 + 1 + 1), .int .i64 (z + 1 + 1 + 1 + 1), .int .i64 (z + 1 + 1 + 1 + 1 + 1)]) := TurnedF.put _ _ _ ht hFg
        first | exact htu | simpa [putCells] using htu
      case measure => simp [intOf]; omega
    · go_wp2_with fail
      go_ret
      obtain rfl : j = n := by omega
      refine ⟨rfl, ?_, ht⟩
      rw [List.drop_of_length_le (by rw [HL.out]; exact Nat.le_refl _), List.append_nil] at hown
      exact hown

end Go.Proofs.YtgfkadhojlddpaaGreatDoor
