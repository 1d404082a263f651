
/- Marks of rows of Int: the contracts of markS and heldS. Laid by wip/tools/gen.py. -/

import Derived.Test.YtgfkadhojlddpaaDInt

import Derived.Test.YtgfkadhojlddpaaBase

import Derived.Test.YtgfkadhojlddpaaTail

namespace Go.Proofs.Ytgfkadhojlddpaa
set_option linter.unusedSimpArgs false
set_option linter.unusedVariables false
open Go.RowKit

/-- The mark of z. -/
def mkInt (z : Int) : Int := z
def marksInt (k : Int) (n : Nat) : List Int := (List.range n).map fun (i : Nat) => mkInt (k + 1 * (i : Int))
theorem marksInt_length (k : Int) (n : Nat) : (marksInt k n).length = n := by simp [marksInt]
theorem marksInt_step {xs : List Int} {k : Int} {n j : Nat} (hl : xs.length = n) (hj : j < n) :
    (marksInt k j ++ xs.drop j).set j (mkInt (k + 1 * (j : Int))) = marksInt k (j + 1) ++ xs.drop (j + 1) := by
  apply List.ext_getElem?
  intro i
  simp only [marksInt, List.getElem?_set, List.getElem?_map, List.getElem?_append, List.length_map, List.length_append, List.length_range, List.length_drop, List.getElem?_drop]
  rcases Nat.lt_trichotomy i j with h | h | h
  · simp [show ¬ j = i from by omega, h, show i < j + 1 from by omega]
  · subst h
    simp [show i < i + (xs.length - i) from by omega]
  · simp [show ¬ j = i from by omega, show ¬ i < j from by omega, show ¬ i < j + 1 from by omega, show j + (i - j) = i from by omega, show j + 1 + (i - (j + 1)) = i from by omega]

/-- The call marks the row: blocks that F holds turn alone. -/
def MarkedInt (w : World) (F : Nat → Prop) (e : TypeId) (A : Option Addr) (n c : Nat) (k : Int) (en : Ending) (w' : World) : Prop :=
  en = .returned (.int .i64 (k + 1 * (n : Int))) ∧ OwnR Lay.int e w' F A n c (marksInt k n) ∧ TurnedF F w w'

set_option maxRecDepth 100000 in
set_option maxHeartbeats 1000000 in
theorem markIntS_any {w : World} {F : Nat → Prop} {e : TypeId} {A : Option Addr} {n c : Nat} {k : Int} {xs : List Int} (h : OwnR Lay.int e w F A n c xs) (hn : n ≤ 1048580) (hk0 : 0 ≤ k) (hk : k ≤ 16777216) :
    Calls Try.prog 12 #[.slice A n c, .int .i64 k] w (MarkedInt w F e A n c k) := by
  have HL := Lib.hid h.1
  go_enter Try.func12, Try.ntmps12
  go_wp2_with fail
  go_loopw [1, 5] (fun q i wr => ∃ j : Nat, j ≤ n ∧ i = .int .i64 j ∧ q = .int .i64 (k + 1 * (j : Int)) ∧ OwnR Lay.int e wr F A n c (marksInt k j ++ xs.drop j) ∧ TurnedF F w wr) (fun _ i _ => n - (intOf i).toNat)
  case atStart => exact ⟨0, Nat.zero_le _, rfl, by simp, by simpa [marksInt] using h, TurnedF.refl _ _⟩
  case round =>
    obtain ⟨j, hj, rfl, rfl, hown, ht⟩ := hrel
    by_cases hlt : j < n
    · obtain ⟨hx, g, G, vs, rfl, hFg, hGg, hGF, hgs, ⟨rfl, hw⟩, hcell, hfr, hput⟩ := hown.focus hlt
      have cc0 := hcell 0 _ (by decide) rfl
      have ff0 := hfr (j * (Lay.int).size + 0)
      simp only [show (Lay.int).size = 1 from rfl, Nat.add_zero, Nat.mul_one] at cc0 ff0
      generalize (marksInt k j ++ xs.drop j)[j] = x at *
      clear hcell hfr hw
      have hz0 : 0 ≤ k + 1 * (j : Int) := by omega
      have hz1 : k + 1 * (j : Int) ≤ 33554432 := by omega
      have HZ := Lib.hid (show k + 1 * (j : Int) + 1 = k + 1 * ((j + 1 : Nat) : Int) by omega)
      have HST := Lib.hid (marksInt_step (k := k) HL.out hlt)
      have HP := Lib.hid hput
      clear hput
      generalize k + 1 * (j : Int) = z at *
      go_wp2_with fail
      go_roundw
      case rel =>
        have hrow := HP.out (putCells wr g (j * 1) [.int .i64 z]) (mkInt z) [.int .i64 z] rfl ⟨rfl, wf_mark (z := z) (by omega) (by omega)⟩ (TurnedF.put _ _ _ (TurnedF.refl _ _) (Or.inr rfl)) rfl
        rw [HST.out] at hrow
        refine ⟨j + 1, by omega, by go_num, by rw [← HZ.out]; try go_num, by first | exact hrow | simpa [putCells] using hrow, ?_⟩
        have htu : TurnedF F w (putCells wr g (j * 1) [.int .i64 z]) := TurnedF.put _ _ _ ht hFg
        first | exact htu | simpa [putCells] using htu
      case measure => simp [intOf]; omega
    · go_wp2_with fail
      go_ret
      obtain rfl : j = n := by omega
      refine ⟨rfl, ?_, ht⟩
      rw [List.drop_of_length_le (by rw [HL.out]; exact Nat.le_refl _), List.append_nil] at hown
      exact hown

set_option maxRecDepth 100000 in
set_option maxHeartbeats 1000000 in
theorem heldIntS_any {w : World} {hi : Nat} {A : Option Addr} {n c : Nat} {k : Int} (h : SeenR Lay.int w hi A n (marksInt k n)) (hn : n ≤ 1048580) (hk0 : 0 ≤ k) (hk : k ≤ 16777216) :
    Calls Try.prog 13 #[.slice A n c, .int .i64 k] w fun e w' => e = .returned (.int .i64 (k + 1 * (n : Int))) ∧ w = w' := by
  go_enter Try.func13, Try.ntmps13
  go_wp2_with fail
  go_loop [1, 5] (fun q i => ∃ j : Nat, j ≤ n ∧ i = .int .i64 j ∧ q = .int .i64 (k + 1 * (j : Int))) (fun _ i => n - (intOf i).toNat)
  case atStart => exact ⟨0, Nat.zero_le _, rfl, by simp⟩
  case round =>
    obtain ⟨j, hj, rfl, rfl⟩ := hrel
    by_cases hlt : j < n
    · obtain ⟨hx, g, o, vs, rfl, hg, ⟨rfl, hw⟩, hcell⟩ := h.at_ hlt
      have hxe : (marksInt k n)[j] = mkInt (k + 1 * (j : Int)) := by simp [marksInt]
      rw [hxe] at hcell
      have cc0 := hcell 0 _ rfl
      simp only [show (Lay.int).size = 1 from rfl, ← Nat.add_assoc, Nat.add_zero, Nat.mul_one, mkInt] at cc0
      clear hcell hw hxe
      have hz0 : 0 ≤ k + 1 * (j : Int) := by omega
      have hz1 : k + 1 * (j : Int) ≤ 33554432 := by omega
      have HZ := Lib.hid (show k + 1 * (j : Int) + 1 = k + 1 * ((j + 1 : Nat) : Int) by omega)
      generalize k + 1 * (j : Int) = z at *
      go_wp2_with fail
      go_round
      case rel => exact ⟨j + 1, by omega, by go_num, by rw [← HZ.out]; try go_num⟩
      case measure => simp [intOf]; omega
    · go_wp2_with fail
      go_ret
      obtain rfl : j = n := by omega
      exact ⟨rfl, rfl⟩

/-- The call marks the row: blocks that F holds turn alone. -/
def MarkedTInt (w : World) (F : Nat → Prop) (e : TypeId) (A : Option Addr) (n c : Nat) (k : Int) (en : Ending) (w' : World) : Prop :=
  en = .returned (.int .i64 (k + 1 * (n : Int))) ∧ TailR Lay.int e w' F A n c (marksInt k n) ∧ TurnedF F w w'

set_option maxRecDepth 100000 in
set_option maxHeartbeats 1000000 in
theorem markIntS_tail {w : World} {F : Nat → Prop} {e : TypeId} {A : Option Addr} {n c : Nat} {k : Int} {xs : List Int} (h : TailR Lay.int e w F A n c xs) (hn : n ≤ 1048580) (hk0 : 0 ≤ k) (hk : k ≤ 16777216) :
    Calls Try.prog 12 #[.slice A n c, .int .i64 k] w (MarkedTInt w F e A n c k) := by
  have HL := Lib.hid h.1
  go_enter Try.func12, Try.ntmps12
  go_wp2_with fail
  go_loopw [1, 5] (fun q i wr => ∃ j : Nat, j ≤ n ∧ i = .int .i64 j ∧ q = .int .i64 (k + 1 * (j : Int)) ∧ TailR Lay.int e wr F A n c (marksInt k j ++ xs.drop j) ∧ TurnedF F w wr) (fun _ i _ => n - (intOf i).toNat)
  case atStart => exact ⟨0, Nat.zero_le _, rfl, by simp, by simpa [marksInt] using h, TurnedF.refl _ _⟩
  case round =>
    obtain ⟨j, hj, rfl, rfl, hown, ht⟩ := hrel
    by_cases hlt : j < n
    · obtain ⟨hx, g, o, G, vs, rfl, hFg, hGg, hGF, hgs, ⟨rfl, hw⟩, hcell, hfr, hput⟩ := hown.focus hlt
      have cc0 := hcell 0 _ (by decide) rfl
      have ff0 := hfr (o + (j * (Lay.int).size + 0))
      simp only [show (Lay.int).size = 1 from rfl, ← Nat.add_assoc, Nat.add_zero, Nat.mul_one] at cc0 ff0
      generalize (marksInt k j ++ xs.drop j)[j] = x at *
      clear hcell hfr hw
      have hz0 : 0 ≤ k + 1 * (j : Int) := by omega
      have hz1 : k + 1 * (j : Int) ≤ 33554432 := by omega
      have HZ := Lib.hid (show k + 1 * (j : Int) + 1 = k + 1 * ((j + 1 : Nat) : Int) by omega)
      have HST := Lib.hid (marksInt_step (k := k) HL.out hlt)
      have HP := Lib.hid hput
      clear hput
      generalize k + 1 * (j : Int) = z at *
      go_wp2_with fail
      go_roundw
      case rel =>
        have hrow := HP.out (putCells wr g (o + j * 1) [.int .i64 z]) (mkInt z) [.int .i64 z] rfl ⟨rfl, wf_mark (z := z) (by omega) (by omega)⟩ (TurnedF.put _ _ _ (TurnedF.refl _ _) (Or.inr rfl)) rfl
        rw [HST.out] at hrow
        refine ⟨j + 1, by omega, by go_num, by rw [← HZ.out]; try go_num, by first | exact hrow | simpa [putCells] using hrow, ?_⟩
        have htu : TurnedF F w (putCells wr g (o + j * 1) [.int .i64 z]) := TurnedF.put _ _ _ ht hFg
        first | exact htu | simpa [putCells] using htu
      case measure => simp [intOf]; omega
    · go_wp2_with fail
      go_ret
      obtain rfl : j = n := by omega
      refine ⟨rfl, ?_, ht⟩
      rw [List.drop_of_length_le (by rw [HL.out]; exact Nat.le_refl _), List.append_nil] at hown
      exact hown


theorem markIntS_any1 {w : World} {F : Nat → Prop} {e : TypeId} {A : Option Addr} {n c : Nat} {k : Int} {xs : List Int} (h : OwnR Lay.int e w F A n c xs) (hn : n ≤ 1048580) (hk0 : 0 ≤ k) (hk : k ≤ 16777216) :
    Calls Try.prog 12 #[.slice A n c, .int .i64 k] w fun en w' => en = .returned (.int .i64 (k + (n : Int))) ∧ OwnR Lay.int e w' F A n c (marksInt k n) ∧ TurnedF F w w' :=
  (markIntS_any h hn hk0 hk).mono fun en w' hm => by have h1 := hm.1; rw [Int.one_mul] at h1; exact ⟨h1, hm.2⟩
theorem markIntS_tail1 {w : World} {F : Nat → Prop} {e : TypeId} {A : Option Addr} {n c : Nat} {k : Int} {xs : List Int} (h : TailR Lay.int e w F A n c xs) (hn : n ≤ 1048580) (hk0 : 0 ≤ k) (hk : k ≤ 16777216) :
    Calls Try.prog 12 #[.slice A n c, .int .i64 k] w fun en w' => en = .returned (.int .i64 (k + (n : Int))) ∧ TailR Lay.int e w' F A n c (marksInt k n) ∧ TurnedF F w w' :=
  (markIntS_tail h hn hk0 hk).mono fun en w' hm => by have h1 := hm.1; rw [Int.one_mul] at h1; exact ⟨h1, hm.2⟩
theorem heldIntS_any1 {w : World} {hi : Nat} {A : Option Addr} {n c : Nat} {k : Int} (h : SeenR Lay.int w hi A n (marksInt k n)) (hn : n ≤ 1048580) (hk0 : 0 ≤ k) (hk : k ≤ 16777216) :
    Calls Try.prog 13 #[.slice A n c, .int .i64 k] w fun e w' => e = .returned (.int .i64 (k + (n : Int))) ∧ w = w' :=
  (heldIntS_any h hn hk0 hk).mono fun en w' hm => by have h1 := hm.1; rw [Int.one_mul] at h1; exact ⟨h1, hm.2⟩
end Go.Proofs.Ytgfkadhojlddpaa
