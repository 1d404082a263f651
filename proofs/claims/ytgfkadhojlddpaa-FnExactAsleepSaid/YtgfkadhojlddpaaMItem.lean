
/- Marks of rows of Item: the contracts of markS and heldS. Laid by wip/tools/gen.py. -/

import Derived.Test.YtgfkadhojlddpaaDItem

import Derived.Test.YtgfkadhojlddpaaBase

import Derived.Test.YtgfkadhojlddpaaTail

namespace Go.Proofs.Ytgfkadhojlddpaa
set_option linter.unusedSimpArgs false
set_option linter.unusedVariables false
open Go.RowKit

/-- The mark of z. -/
def mkItem (z : Int) : DItem := ⟨z, (z + 1), (z + 1 + 1), (z + 1 + 1 + 1) % 3 == 0⟩
def marksItem (k : Int) (n : Nat) : List DItem := (List.range n).map fun (i : Nat) => mkItem (k + 4 * (i : Int))
theorem marksItem_length (k : Int) (n : Nat) : (marksItem k n).length = n := by simp [marksItem]
theorem marksItem_step {xs : List DItem} {k : Int} {n j : Nat} (hl : xs.length = n) (hj : j < n) :
    (marksItem k j ++ xs.drop j).set j (mkItem (k + 4 * (j : Int))) = marksItem k (j + 1) ++ xs.drop (j + 1) := by
  apply List.ext_getElem?
  intro i
  simp only [marksItem, List.getElem?_set, List.getElem?_map, List.getElem?_append, List.length_map, List.length_append, List.length_range, List.length_drop, List.getElem?_drop]
  rcases Nat.lt_trichotomy i j with h | h | h
  · simp [show ¬ j = i from by omega, h, show i < j + 1 from by omega]
  · subst h
    simp [show i < i + (xs.length - i) from by omega]
  · simp [show ¬ j = i from by omega, show ¬ i < j from by omega, show ¬ i < j + 1 from by omega, show j + (i - j) = i from by omega, show j + 1 + (i - (j + 1)) = i from by omega]

/-- The call marks the row: blocks that F holds turn alone. -/
def MarkedItem (w : World) (F : Nat → Prop) (e : TypeId) (A : Option Addr) (n c : Nat) (k : Int) (en : Ending) (w' : World) : Prop :=
  en = .returned (.int .i64 (k + 4 * (n : Int))) ∧ OwnR layItem e w' F A n c (marksItem k n) ∧ TurnedF F w w'

set_option maxRecDepth 100000 in
set_option maxHeartbeats 1000000 in
theorem markItemS_any {w : World} {F : Nat → Prop} {e : TypeId} {A : Option Addr} {n c : Nat} {k : Int} {xs : List DItem} (h : OwnR layItem e w F A n c xs) (hn : n ≤ 1048580) (hk0 : 0 ≤ k) (hk : k ≤ 16777216) :
    Calls Try.prog 39 #[.slice A n c, .int .i64 k] w (MarkedItem w F e A n c k) := by
  have HL := Lib.hid h.1
  go_enter Try.func39, Try.ntmps39
  go_wp2_with fail
  go_loopw [1, 5] (fun q i wr => ∃ j : Nat, j ≤ n ∧ i = .int .i64 j ∧ q = .int .i64 (k + 4 * (j : Int)) ∧ OwnR layItem e wr F A n c (marksItem k j ++ xs.drop j) ∧ TurnedF F w wr) (fun _ i _ => n - (intOf i).toNat)
  case atStart => exact ⟨0, Nat.zero_le _, rfl, by simp, by simpa [marksItem] using h, TurnedF.refl _ _⟩
  case round =>
    obtain ⟨j, hj, rfl, rfl, hown, ht⟩ := hrel
    by_cases hlt : j < n
    · obtain ⟨hx, g, G, vs, rfl, hFg, hGg, hGF, hgs, ⟨rfl, hw⟩, hcell, hfr, hput⟩ := hown.focus hlt
      have cc0 := hcell 0 _ (by decide) rfl
      have ff0 := hfr (j * (layItem).size + 0)
      have cc1 := hcell 1 _ (by decide) rfl
      have ff1 := hfr (j * (layItem).size + 1)
      have cc2 := hcell 2 _ (by decide) rfl
      have ff2 := hfr (j * (layItem).size + 2)
      have cc3 := hcell 3 _ (by decide) rfl
      have ff3 := hfr (j * (layItem).size + 3)
      simp only [show (layItem).size = 4 from rfl, Nat.add_zero, Nat.mul_one] at cc0 ff0 cc1 ff1 cc2 ff2 cc3 ff3
      generalize (marksItem k j ++ xs.drop j)[j] = x at *
      clear hcell hfr hw
      have hz0 : 0 ≤ k + 4 * (j : Int) := by omega
      have hz1 : k + 4 * (j : Int) ≤ 33554432 := by omega
      have HZ := Lib.hid (show k + 4 * (j : Int) + 4 = k + 4 * ((j + 1 : Nat) : Int) by omega)
      have HST := Lib.hid (marksItem_step (k := k) HL.out hlt)
      have HP := Lib.hid hput
      clear hput
      generalize k + 4 * (j : Int) = z at *
      go_wp2_with fail
      go_roundw
      case rel =>
        have hrow := HP.out (putCells wr g (j * 4) [.int .i64 z, .int .i64 (z + 1), .int .i64 (z + 1 + 1), .bool ((z + 1 + 1 + 1) % 3 == 0)]) (mkItem z) [.int .i64 z, .int .i64 (z + 1), .int .i64 (z + 1 + 1), .bool ((z + 1 + 1 + 1) % 3 == 0)] rfl ⟨rfl, ⟨wf_mark (z := z) (by omega) (by omega), wf_mark (z := (z + 1)) (by omega) (by omega), wf_mark (z := (z + 1 + 1)) (by omega) (by omega)⟩⟩ (TurnedF.put _ _ _ (TurnedF.refl _ _) (Or.inr rfl)) rfl
        rw [HST.out] at hrow
        refine ⟨j + 1, by omega, by go_num, by rw [← HZ.out]; try go_num, by first | exact hrow | simpa [putCells] using hrow, ?_⟩
        have htu : TurnedF F w (putCells wr g (j * 4) [.int .i64 z, .int .i64 (z + 1), .int .i64 (z + 1 + 1), .bool ((z + 1 + 1 + 1) % 3 == 0)]) := TurnedF.put _ _ _ ht hFg
        first | exact htu | simpa [putCells] using htu
      case measure => simp [intOf]; omega
    · go_wp2_with fail
      go_ret
      obtain rfl : j = n := by omega
      refine ⟨rfl, ?_, ht⟩
      rw [List.drop_of_length_le (by rw [HL.out]; exact Nat.le_refl _), List.append_nil] at hown
      exact hown

/-- The call marks the row: blocks that F holds turn alone. -/
def MarkedTItem (w : World) (F : Nat → Prop) (e : TypeId) (A : Option Addr) (n c : Nat) (k : Int) (en : Ending) (w' : World) : Prop :=
  en = .returned (.int .i64 (k + 4 * (n : Int))) ∧ TailR layItem e w' F A n c (marksItem k n) ∧ TurnedF F w w'

set_option maxRecDepth 100000 in
set_option maxHeartbeats 1000000 in
theorem markItemS_tail {w : World} {F : Nat → Prop} {e : TypeId} {A : Option Addr} {n c : Nat} {k : Int} {xs : List DItem} (h : TailR layItem e w F A n c xs) (hn : n ≤ 1048580) (hk0 : 0 ≤ k) (hk : k ≤ 16777216) :
    Calls Try.prog 39 #[.slice A n c, .int .i64 k] w (MarkedTItem w F e A n c k) := by
  have HL := Lib.hid h.1
  go_enter Try.func39, Try.ntmps39
  go_wp2_with fail
  go_loopw [1, 5] (fun q i wr => ∃ j : Nat, j ≤ n ∧ i = .int .i64 j ∧ q = .int .i64 (k + 4 * (j : Int)) ∧ TailR layItem e wr F A n c (marksItem k j ++ xs.drop j) ∧ TurnedF F w wr) (fun _ i _ => n - (intOf i).toNat)
  case atStart => exact ⟨0, Nat.zero_le _, rfl, by simp, by simpa [marksItem] using h, TurnedF.refl _ _⟩
  case round =>
    obtain ⟨j, hj, rfl, rfl, hown, ht⟩ := hrel
    by_cases hlt : j < n
    · obtain ⟨hx, g, o, G, vs, rfl, hFg, hGg, hGF, hgs, ⟨rfl, hw⟩, hcell, hfr, hput⟩ := hown.focus hlt
      have cc0 := hcell 0 _ (by decide) rfl
      have ff0 := hfr (o + (j * (layItem).size + 0))
      have cc1 := hcell 1 _ (by decide) rfl
      have ff1 := hfr (o + (j * (layItem).size + 1))
      have cc2 := hcell 2 _ (by decide) rfl
      have ff2 := hfr (o + (j * (layItem).size + 2))
      have cc3 := hcell 3 _ (by decide) rfl
      have ff3 := hfr (o + (j * (layItem).size + 3))
      simp only [show (layItem).size = 4 from rfl, ← Nat.add_assoc, Nat.add_zero, Nat.mul_one] at cc0 ff0 cc1 ff1 cc2 ff2 cc3 ff3
      generalize (marksItem k j ++ xs.drop j)[j] = x at *
      clear hcell hfr hw
      have hz0 : 0 ≤ k + 4 * (j : Int) := by omega
      have hz1 : k + 4 * (j : Int) ≤ 33554432 := by omega
      have HZ := Lib.hid (show k + 4 * (j : Int) + 4 = k + 4 * ((j + 1 : Nat) : Int) by omega)
      have HST := Lib.hid (marksItem_step (k := k) HL.out hlt)
      have HP := Lib.hid hput
      clear hput
      generalize k + 4 * (j : Int) = z at *
      go_wp2_with fail
      go_roundw
      case rel =>
        have hrow := HP.out (putCells wr g (o + j * 4) [.int .i64 z, .int .i64 (z + 1), .int .i64 (z + 1 + 1), .bool ((z + 1 + 1 + 1) % 3 == 0)]) (mkItem z) [.int .i64 z, .int .i64 (z + 1), .int .i64 (z + 1 + 1), .bool ((z + 1 + 1 + 1) % 3 == 0)] rfl ⟨rfl, ⟨wf_mark (z := z) (by omega) (by omega), wf_mark (z := (z + 1)) (by omega) (by omega), wf_mark (z := (z + 1 + 1)) (by omega) (by omega)⟩⟩ (TurnedF.put _ _ _ (TurnedF.refl _ _) (Or.inr rfl)) rfl
        rw [HST.out] at hrow
        refine ⟨j + 1, by omega, by go_num, by rw [← HZ.out]; try go_num, by first | exact hrow | simpa [putCells] using hrow, ?_⟩
        have htu : TurnedF F w (putCells wr g (o + j * 4) [.int .i64 z, .int .i64 (z + 1), .int .i64 (z + 1 + 1), .bool ((z + 1 + 1 + 1) % 3 == 0)]) := TurnedF.put _ _ _ ht hFg
        first | exact htu | simpa [putCells] using htu
      case measure => simp [intOf]; omega
    · go_wp2_with fail
      go_ret
      obtain rfl : j = n := by omega
      refine ⟨rfl, ?_, ht⟩
      rw [List.drop_of_length_le (by rw [HL.out]; exact Nat.le_refl _), List.append_nil] at hown
      exact hown

end Go.Proofs.Ytgfkadhojlddpaa
