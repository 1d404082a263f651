
/- Marks of rows of Case: the contracts of markS and heldS. Laid by wip/tools/gen.py. -/

import Derived.Test.YtllkbikhclfgpaaDoorDCase

import Derived.Test.YtllkbikhclfgpaaDoorBase

namespace Go.Proofs.YtllkbikhclfgpaaDoor
set_option linter.unusedSimpArgs false
set_option linter.unusedVariables false
open Go.RowKit

/-- The mark of z. -/
def mkCase (z : Int) : DCase := ⟨z % 3 == 0, (z + 1), (z + 1 + 1), (z + 1 + 1 + 1), (z + 1 + 1 + 1 + 1)⟩
def marksCase (k : Int) (n : Nat) : List DCase := (List.range n).map fun (i : Nat) => mkCase (k + 5 * (i : Int))
theorem marksCase_length (k : Int) (n : Nat) : (marksCase k n).length = n := by simp [marksCase]
theorem marksCase_step {xs : List DCase} {k : Int} {n j : Nat} (hl : xs.length = n) (hj : j < n) :
    (marksCase k j ++ xs.drop j).set j (mkCase (k + 5 * (j : Int))) = marksCase k (j + 1) ++ xs.drop (j + 1) := by
  apply List.ext_getElem?
  intro i
  simp only [marksCase, List.getElem?_set, List.getElem?_map, List.getElem?_append, List.length_map, List.length_append, List.length_range, List.length_drop, List.getElem?_drop]
  rcases Nat.lt_trichotomy i j with h | h | h
  · simp [show ¬ j = i from by omega, h, show i < j + 1 from by omega]
  · subst h
    simp [show i < i + (xs.length - i) from by omega]
  · simp [show ¬ j = i from by omega, show ¬ i < j from by omega, show ¬ i < j + 1 from by omega, show j + (i - j) = i from by omega, show j + 1 + (i - (j + 1)) = i from by omega]

/-- The call marks the row: blocks that F holds turn alone. -/
def MarkedCase (w : World) (F : Nat → Prop) (e : TypeId) (A : Option Addr) (n c : Nat) (k : Int) (en : Ending) (w' : World) : Prop :=
  en = .returned (.int .i64 (k + 5 * (n : Int))) ∧ OwnR layCase e w' F A n c (marksCase k n) ∧ TurnedF F w w'

set_option maxRecDepth 100000 in
set_option maxHeartbeats 1000000 in
theorem markCaseS_any {w : World} {F : Nat → Prop} {e : TypeId} {A : Option Addr} {n c : Nat} {k : Int} {xs : List DCase} (h : OwnR layCase e w F A n c xs) (hn : n ≤ 1048576) (hk0 : 0 ≤ k) (hk : k ≤ 16777216) :
    Calls Tryd.prog 44 #[.slice A n c, .int .i64 k] w (MarkedCase w F e A n c k) := by
  have HL := Lib.hid h.1
  go_enter Tryd.func44, Tryd.ntmps44
  go_wp2_with fail
  go_loopw [1, 5] (fun q i wr => ∃ j : Nat, j ≤ n ∧ i = .int .i64 j ∧ q = .int .i64 (k + 5 * (j : Int)) ∧ OwnR layCase e wr F A n c (marksCase k j ++ xs.drop j) ∧ TurnedF F w wr) (fun _ i _ => n - (intOf i).toNat)
  case atStart => exact ⟨0, Nat.zero_le _, rfl, by simp, by simpa [marksCase] using h, TurnedF.refl _ _⟩
  case round =>
    obtain ⟨j, hj, rfl, rfl, hown, ht⟩ := hrel
    by_cases hlt : j < n
    · obtain ⟨hx, g, G, vs, rfl, hFg, hGg, hGF, hgs, ⟨rfl, hw⟩, hcell, hfr, hput⟩ := hown.focus hlt
      have cc0 := hcell 0 _ (by decide) rfl
      have ff0 := hfr (j * (layCase).size + 0)
      have cc1 := hcell 1 _ (by decide) rfl
      have ff1 := hfr (j * (layCase).size + 1)
      have cc2 := hcell 2 _ (by decide) rfl
      have ff2 := hfr (j * (layCase).size + 2)
      have cc3 := hcell 3 _ (by decide) rfl
      have ff3 := hfr (j * (layCase).size + 3)
      have cc4 := hcell 4 _ (by decide) rfl
      have ff4 := hfr (j * (layCase).size + 4)
      simp only [show (layCase).size = 5 from rfl, Nat.add_zero, Nat.mul_one] at cc0 ff0 cc1 ff1 cc2 ff2 cc3 ff3 cc4 ff4
      generalize (marksCase k j ++ xs.drop j)[j] = x at *
      clear hcell hfr hw
      have hz0 : 0 ≤ k + 5 * (j : Int) := by omega
      have hz1 : k + 5 * (j : Int) ≤ 33554432 := by omega
      have HZ := Lib.hid (show k + 5 * (j : Int) + 5 = k + 5 * ((j + 1 : Nat) : Int) by omega)
      have HST := Lib.hid (marksCase_step (k := k) HL.out hlt)
      have HP := Lib.hid hput
      clear hput
      generalize k + 5 * (j : Int) = z at *
      go_wp2_with fail
      go_roundw
      case rel =>
        have hrow := HP.out (putCells wr g (j * 5) [.bool (z % 3 == 0), .int .i64 (z + 1), .int .i64 (z + 1 + 1), .int .i64 (z + 1 + 1 + 1), .int .i64 (z + 1 + 1 + 1 + 1)]) (mkCase z) [.bool (z % 3 == 0), .int .i64 (z + 1), .int .i64 (z + 1 + 1), .int .i64 (z + 1 + 1 + 1), .int .i64 (z + 1 + 1 + 1 + 1)] rfl ⟨rfl, ⟨wf_mark (z := (z + 1)) (by omega) (by omega), wf_mark (z := (z + 1 + 1)) (by omega) (by omega), wf_mark (z := (z + 1 + 1 + 1)) (by omega) (by omega), wf_mark (z := (z + 1 + 1 + 1 + 1)) (by omega) (by omega)⟩⟩ (TurnedF.put _ _ _ (TurnedF.refl _ _) (Or.inr rfl)) rfl
        rw [HST.out] at hrow
        refine ⟨j + 1, by omega, by go_num, by rw [← HZ.out]; try go_num, by first | exact hrow | simpa [putCells] using hrow, ?_⟩
        have htu : TurnedF F w (putCells wr g (j * 5) [.bool (z % 3 == 0), .int .i64 (z + 1), .int .i64 (z + 1 + 1), .int .i64 (z + 1 + 1 + 1), .int .i64 (z + 1 + 1 + 1 + 1)]) := TurnedF.put _ _ _ ht hFg
        first | exact htu | simpa [putCells] using htu
      case measure => simp [intOf]; omega
    · go_wp2_with fail
      go_ret
      obtain rfl : j = n := by omega
      refine ⟨rfl, ?_, ht⟩
      rw [List.drop_of_length_le (by rw [HL.out]; exact Nat.le_refl _), List.append_nil] at hown
      exact hown

set_option maxRecDepth 100000 in
set_option maxHeartbeats 1000000 in
theorem heldCaseS_any {w : World} {hi : Nat} {A : Option Addr} {n c : Nat} {k : Int} (h : SeenR layCase w hi A n (marksCase k n)) (hn : n ≤ 1048576) (hk0 : 0 ≤ k) (hk : k ≤ 16777216) :
    Calls Tryd.prog 45 #[.slice A n c, .int .i64 k] w fun e w' => e = .returned (.int .i64 (k + 5 * (n : Int))) ∧ w = w' := by
  go_enter Tryd.func45, Tryd.ntmps45
  go_wp2_with fail
  go_loop [1, 5] (fun q i => ∃ j : Nat, j ≤ n ∧ i = .int .i64 j ∧ q = .int .i64 (k + 5 * (j : Int))) (fun _ i => n - (intOf i).toNat)
  case atStart => exact ⟨0, Nat.zero_le _, rfl, by simp⟩
  case round =>
    obtain ⟨j, hj, rfl, rfl⟩ := hrel
    by_cases hlt : j < n
    · obtain ⟨hx, g, o, vs, rfl, hg, ⟨rfl, hw⟩, hcell⟩ := h.at_ hlt
      have hxe : (marksCase k n)[j] = mkCase (k + 5 * (j : Int)) := by simp [marksCase]
      rw [hxe] at hcell
      have cc0 := hcell 0 _ rfl
      have cc1 := hcell 1 _ rfl
      have cc2 := hcell 2 _ rfl
      have cc3 := hcell 3 _ rfl
      have cc4 := hcell 4 _ rfl
      simp only [show (layCase).size = 5 from rfl, ← Nat.add_assoc, Nat.add_zero, Nat.mul_one, mkCase] at cc0 cc1 cc2 cc3 cc4
      clear hcell hw hxe
      have hz0 : 0 ≤ k + 5 * (j : Int) := by omega
      have hz1 : k + 5 * (j : Int) ≤ 33554432 := by omega
      have HZ := Lib.hid (show k + 5 * (j : Int) + 5 = k + 5 * ((j + 1 : Nat) : Int) by omega)
      generalize k + 5 * (j : Int) = z at *
      go_wp2_with fail
      go_round
      case rel => exact ⟨j + 1, by omega, by go_num, by rw [← HZ.out]; try go_num⟩
      case measure => simp [intOf]; omega
    · go_wp2_with fail
      go_ret
      obtain rfl : j = n := by omega
      exact ⟨rfl, rfl⟩
end Go.Proofs.YtllkbikhclfgpaaDoor
