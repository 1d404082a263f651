
/- MInt, MWaiter, MChan, MItem, MGor, MMutex, MEng, EngL, MCase, MSelect, MInstr, MProc, MProg, merged for claims. -/

import Derived.Test.YtghkdkagnibkgaaGreatDoorGBase

import Derived.Test.YtghkdkagnibkgaaGreatDoorGDEng

import Derived.Test.YtghkdkagnibkgaaGreatDoorGDProg

namespace Go.Proofs.YtghkdkagnibkgaaGreatDoor
set_option linter.unusedSimpArgs false
set_option linter.unusedVariables false
open Go.RowKit

/-- The mark of z. -/
def mkInt (z : Int) : Int := z
def marksInt (k : Int) (n : Nat) : List Int := (List.range n).map fun (i : Nat) => mkInt (k + 1 * (i : Int))
theorem marksInt_step {xs : List Int} {k : Int} {n j : Nat} (hl : xs.length = n) (hj : j < n) :
    (marksInt k j ++ xs.drop j).set j (mkInt (k + 1 * (j : Int))) = marksInt k (j + 1) ++ xs.drop (j + 1) := by
  apply List.ext_getElem?
  intro i
  simp only [marksInt, List.getElem?_set, List.getElem?_map, List.getElem?_append, List.length_map, List.length_append, List.length_range, List.length_drop, List.getElem?_drop]
  rcases Nat.lt_trichotomy i j with h | h | h
  · simp [show ¬ j = i from by omega, h, show i < j + 1 from by omega]
  · subst h
    simp [show i < i + (xs.length - i) from by omega]
  · simp [show ¬ j = i from by omega, show ¬ i < j from by omega, show ¬ i < j + 1 from by omega, show j + (i - j) = i from by omega, show j + 1 + (i - (j + 1)) = i from by omega]

/-- The call marks the row: blocks that F holds turn alone. -/
def MarkedInt (w : World) (F : Nat → Prop) (e : TypeId) (A : Option Addr) (n c : Nat) (k : Int) (en : Ending) (w' : World) : Prop :=
  en = .returned (.int .i64 (k + 1 * (n : Int))) ∧ OwnR Lay.int e w' F A n c (marksInt k n) ∧ TurnedF F w w'

set_option maxRecDepth 100000 in
set_option maxHeartbeats 1000000 in
theorem markIntS_any {w : World} {F : Nat → Prop} {e : TypeId} {A : Option Addr} {n c : Nat} {k : Int} {xs : List Int} (h : OwnR Lay.int e w F A n c xs) (hn : n ≤ 1048580) (hk0 : 0 ≤ k) (hk : k ≤ 16777216) :
    Calls Tryz.prog 17 #[.slice A n c, .int .i64 k] w (MarkedInt w F e A n c k) := by
  have HL := Lib.hid h.1
  go_enter Tryz.func17, Tryz.ntmps17
  go_wp2_with fail
  go_loopw [1, 5] (fun q i wr => ∃ j : Nat, j ≤ n ∧ i = .int .i64 j ∧ q = .int .i64 (k + 1 * (j : Int)) ∧ OwnR Lay.int e wr F A n c (marksInt k j ++ xs.drop j) ∧ TurnedF F w wr) (fun _ i _ => n - (intOf i).toNat)
  case atStart => exact ⟨0, Nat.zero_le _, rfl, by simp, by simpa [marksInt] using h, TurnedF.refl _ _⟩
  case round =>
    obtain ⟨j, hj, rfl, rfl, hown, ht⟩ := hrel
    by_cases hlt : j < n
    · obtain ⟨hx, g, G, vs, rfl, hFg, hGg, hGF, hgs, ⟨rfl, hw⟩, hcell, hfr, hput⟩ := hown.focus hlt
      have cc0 := hcell 0 _ (by decide) rfl
      have ff0 := hfr (j * (Lay.int).size + 0)
      simp only [show (Lay.int).size = 1 from rfl, Nat.add_zero, Nat.mul_one] at cc0 ff0
      generalize (marksInt k j ++ xs.drop j)[j] = x at *
      clear hcell hfr hw
      have hz0 : 0 ≤ k + 1 * (j : Int) := by omega
      have hz1 : k + 1 * (j : Int) ≤ 33554432 := by omega
      have HZ := Lib.hid (show k + 1 * (j : Int) + 1 = k + 1 * ((j + 1 : Nat) : Int) by omega)
      have HST := Lib.hid (marksInt_step (k := k) HL.out hlt)
      have HP := Lib.hid hput
      clear hput
      generalize k + 1 * (j : Int) = z at *
      go_wp2_with fail
      go_roundw
      case rel =>
        have hrow := HP.out (putCells wr g (j * 1) [.int .i64 z]) (mkInt z) [.int .i64 z] rfl ⟨rfl, wf_mark (z := z) (by omega) (by omega)⟩ (TurnedF.put _ _ _ (TurnedF.refl _ _) (Or.inr rfl)) rfl
        rw [HST.out] at hrow
        refine ⟨j + 1, by omega, by go_num, by rw [← HZ.out]; try go_num, by first | exact hrow | simpa [putCells] using hrow, ?_⟩
        have htu : TurnedF F w (putCells wr g (j * 1) [.int .i64 z]) := TurnedF.put _ _ _ ht hFg
        first | exact htu | simpa [putCells] using htu
      case measure => simp [intOf]; omega
    · go_wp2_with fail
      go_ret
      obtain rfl : j = n := by omega
      refine ⟨rfl, ?_, ht⟩
      rw [List.drop_of_length_le (by rw [HL.out]; exact Nat.le_refl _), List.append_nil] at hown
      exact hown

set_option maxRecDepth 100000 in
set_option maxHeartbeats 1000000 in
theorem heldIntS_any {w : World} {hi : Nat} {A : Option Addr} {n c : Nat} {k : Int} (h : SeenR Lay.int w hi A n (marksInt k n)) (hn : n ≤ 1048580) (hk0 : 0 ≤ k) (hk : k ≤ 16777216) :
    Calls Tryz.prog 18 #[.slice A n c, .int .i64 k] w fun e w' => e = .returned (.int .i64 (k + 1 * (n : Int))) ∧ w = w' := by
  go_enter Tryz.func18, Tryz.ntmps18
  go_wp2_with fail
  go_loop [1, 5] (fun q i => ∃ j : Nat, j ≤ n ∧ i = .int .i64 j ∧ q = .int .i64 (k + 1 * (j : Int))) (fun _ i => n - (intOf i).toNat)
  case atStart => exact ⟨0, Nat.zero_le _, rfl, by simp⟩
  case round =>
    obtain ⟨j, hj, rfl, rfl⟩ := hrel
    by_cases hlt : j < n
    · obtain ⟨hx, g, o, vs, rfl, hg, ⟨rfl, hw⟩, hcell⟩ := h.at_ hlt
      have hxe : (marksInt k n)[j] = mkInt (k + 1 * (j : Int)) := by simp [marksInt]
      rw [hxe] at hcell
      have cc0 := hcell 0 _ rfl
      simp only [show (Lay.int).size = 1 from rfl, ← Nat.add_assoc, Nat.add_zero, Nat.mul_one, mkInt] at cc0
      clear hcell hw hxe
      have hz0 : 0 ≤ k + 1 * (j : Int) := by omega
      have hz1 : k + 1 * (j : Int) ≤ 33554432 := by omega
      have HZ := Lib.hid (show k + 1 * (j : Int) + 1 = k + 1 * ((j + 1 : Nat) : Int) by omega)
      generalize k + 1 * (j : Int) = z at *
      go_wp2_with fail
      go_round
      case rel => exact ⟨j + 1, by omega, by go_num, by rw [← HZ.out]; try go_num⟩
      case measure => simp [intOf]; omega
    · go_wp2_with fail
      go_ret
      obtain rfl : j = n := by omega
      exact ⟨rfl, rfl⟩

/-- The call marks the row: blocks that F holds turn alone. -/
def MarkedTInt (w : World) (F : Nat → Prop) (e : TypeId) (A : Option Addr) (n c : Nat) (k : Int) (en : Ending) (w' : World) : Prop :=
  en = .returned (.int .i64 (k + 1 * (n : Int))) ∧ TailR Lay.int e w' F A n c (marksInt k n) ∧ TurnedF F w w'

set_option maxRecDepth 100000 in
set_option maxHeartbeats 1000000 in
theorem markIntS_tail {w : World} {F : Nat → Prop} {e : TypeId} {A : Option Addr} {n c : Nat} {k : Int} {xs : List Int} (h : TailR Lay.int e w F A n c xs) (hn : n ≤ 1048580) (hk0 : 0 ≤ k) (hk : k ≤ 16777216) :
    Calls Tryz.prog 17 #[.slice A n c, .int .i64 k] w (MarkedTInt w F e A n c k) := by
  have HL := Lib.hid h.1
  go_enter Tryz.func17, Tryz.ntmps17
  go_wp2_with fail
  go_loopw [1, 5] (fun q i wr => ∃ j : Nat, j ≤ n ∧ i = .int .i64 j ∧ q = .int .i64 (k + 1 * (j : Int)) ∧ TailR Lay.int e wr F A n c (marksInt k j ++ xs.drop j) ∧ TurnedF F w wr) (fun _ i _ => n - (intOf i).toNat)
  case atStart => exact ⟨0, Nat.zero_le _, rfl, by simp, by simpa [marksInt] using h, TurnedF.refl _ _⟩
  case round =>
    obtain ⟨j, hj, rfl, rfl, hown, ht⟩ := hrel
    by_cases hlt : j < n
    · obtain ⟨hx, g, o, G, vs, rfl, hFg, hGg, hGF, hgs, ⟨rfl, hw⟩, hcell, hfr, hput⟩ := hown.focus hlt
      have cc0 := hcell 0 _ (by decide) rfl
      have ff0 := hfr (o + (j * (Lay.int).size + 0))
      simp only [show (Lay.int).size = 1 from rfl, ← Nat.add_assoc, Nat.add_zero, Nat.mul_one] at cc0 ff0
      generalize (marksInt k j ++ xs.drop j)[j] = x at *
      clear hcell hfr hw
      have hz0 : 0 ≤ k + 1 * (j : Int) := by omega
      have hz1 : k + 1 * (j : Int) ≤ 33554432 := by omega
      have HZ := Lib.hid (show k + 1 * (j : Int) + 1 = k + 1 * ((j + 1 : Nat) : Int) by omega)
      have HST := Lib.hid (marksInt_step (k := k) HL.out hlt)
      have HP := Lib.hid hput
      clear hput
      generalize k + 1 * (j : Int) = z at *
      go_wp2_with fail
      go_roundw
      case rel =>
        have hrow := HP.out (putCells wr g (o + j * 1) [.int .i64 z]) (mkInt z) [.int .i64 z] rfl ⟨rfl, wf_mark (z := z) (by omega) (by omega)⟩ (TurnedF.put _ _ _ (TurnedF.refl _ _) (Or.inr rfl)) rfl
        rw [HST.out] at hrow
        refine ⟨j + 1, by omega, by go_num, by rw [← HZ.out]; try go_num, by first | exact hrow | simpa [putCells] using hrow, ?_⟩
        have htu : TurnedF F w (putCells wr g (o + j * 1) [.int .i64 z]) := TurnedF.put _ _ _ ht hFg
        first | exact htu | simpa [putCells] using htu
      case measure => simp [intOf]; omega
    · go_wp2_with fail
      go_ret
      obtain rfl : j = n := by omega
      refine ⟨rfl, ?_, ht⟩
      rw [List.drop_of_length_le (by rw [HL.out]; exact Nat.le_refl _), List.append_nil] at hown
      exact hown


theorem markIntS_any1 {w : World} {F : Nat → Prop} {e : TypeId} {A : Option Addr} {n c : Nat} {k : Int} {xs : List Int} (h : OwnR Lay.int e w F A n c xs) (hn : n ≤ 1048580) (hk0 : 0 ≤ k) (hk : k ≤ 16777216) :
    Calls Tryz.prog 17 #[.slice A n c, .int .i64 k] w fun en w' => en = .returned (.int .i64 (k + (n : Int))) ∧ OwnR Lay.int e w' F A n c (marksInt k n) ∧ TurnedF F w w' :=
  (markIntS_any h hn hk0 hk).mono fun en w' hm => by have h1 := hm.1; rw [Int.one_mul] at h1; exact ⟨h1, hm.2⟩
theorem markIntS_tail1 {w : World} {F : Nat → Prop} {e : TypeId} {A : Option Addr} {n c : Nat} {k : Int} {xs : List Int} (h : TailR Lay.int e w F A n c xs) (hn : n ≤ 1048580) (hk0 : 0 ≤ k) (hk : k ≤ 16777216) :
    Calls Tryz.prog 17 #[.slice A n c, .int .i64 k] w fun en w' => en = .returned (.int .i64 (k + (n : Int))) ∧ TailR Lay.int e w' F A n c (marksInt k n) ∧ TurnedF F w w' :=
  (markIntS_tail h hn hk0 hk).mono fun en w' hm => by have h1 := hm.1; rw [Int.one_mul] at h1; exact ⟨h1, hm.2⟩
theorem heldIntS_any1 {w : World} {hi : Nat} {A : Option Addr} {n c : Nat} {k : Int} (h : SeenR Lay.int w hi A n (marksInt k n)) (hn : n ≤ 1048580) (hk0 : 0 ≤ k) (hk : k ≤ 16777216) :
    Calls Tryz.prog 18 #[.slice A n c, .int .i64 k] w fun e w' => e = .returned (.int .i64 (k + (n : Int))) ∧ w = w' :=
  (heldIntS_any h hn hk0 hk).mono fun en w' hm => by have h1 := hm.1; rw [Int.one_mul] at h1; exact ⟨h1, hm.2⟩
end Go.Proofs.YtghkdkagnibkgaaGreatDoor

namespace Go.Proofs.YtghkdkagnibkgaaGreatDoor
set_option linter.unusedSimpArgs false
set_option linter.unusedVariables false
open Go.RowKit

/-- The mark of z. -/
def mkWaiter (z : Int) : DWaiter := ⟨z, (z + 1), (z + 1 + 1)⟩
def marksWaiter (k : Int) (n : Nat) : List DWaiter := (List.range n).map fun (i : Nat) => mkWaiter (k + 3 * (i : Int))
theorem marksWaiter_step {xs : List DWaiter} {k : Int} {n j : Nat} (hl : xs.length = n) (hj : j < n) :
    (marksWaiter k j ++ xs.drop j).set j (mkWaiter (k + 3 * (j : Int))) = marksWaiter k (j + 1) ++ xs.drop (j + 1) := by
  apply List.ext_getElem?
  intro i
  simp only [marksWaiter, List.getElem?_set, List.getElem?_map, List.getElem?_append, List.length_map, List.length_append, List.length_range, List.length_drop, List.getElem?_drop]
  rcases Nat.lt_trichotomy i j with h | h | h
  · simp [show ¬ j = i from by omega, h, show i < j + 1 from by omega]
  · subst h
    simp [show i < i + (xs.length - i) from by omega]
  · simp [show ¬ j = i from by omega, show ¬ i < j from by omega, show ¬ i < j + 1 from by omega, show j + (i - j) = i from by omega, show j + 1 + (i - (j + 1)) = i from by omega]

/-- The call marks the row: blocks that F holds turn alone. -/
def MarkedWaiter (w : World) (F : Nat → Prop) (e : TypeId) (A : Option Addr) (n c : Nat) (k : Int) (en : Ending) (w' : World) : Prop :=
  en = .returned (.int .i64 (k + 3 * (n : Int))) ∧ OwnR layWaiter e w' F A n c (marksWaiter k n) ∧ TurnedF F w w'

set_option maxRecDepth 100000 in
set_option maxHeartbeats 1000000 in
theorem markWaiterS_any {w : World} {F : Nat → Prop} {e : TypeId} {A : Option Addr} {n c : Nat} {k : Int} {xs : List DWaiter} (h : OwnR layWaiter e w F A n c xs) (hn : n ≤ 1048576) (hk0 : 0 ≤ k) (hk : k ≤ 16777216) :
    Calls Tryz.prog 76 #[.slice A n c, .int .i64 k] w (MarkedWaiter w F e A n c k) := by
  have HL := Lib.hid h.1
  go_enter Tryz.func76, Tryz.ntmps76
  go_wp2_with fail
  go_loopw [1, 5] (fun q i wr => ∃ j : Nat, j ≤ n ∧ i = .int .i64 j ∧ q = .int .i64 (k + 3 * (j : Int)) ∧ OwnR layWaiter e wr F A n c (marksWaiter k j ++ xs.drop j) ∧ TurnedF F w wr) (fun _ i _ => n - (intOf i).toNat)
  case atStart => exact ⟨0, Nat.zero_le _, rfl, by simp, by simpa [marksWaiter] using h, TurnedF.refl _ _⟩
  case round =>
    obtain ⟨j, hj, rfl, rfl, hown, ht⟩ := hrel
    by_cases hlt : j < n
    · obtain ⟨hx, g, G, vs, rfl, hFg, hGg, hGF, hgs, ⟨rfl, hw⟩, hcell, hfr, hput⟩ := hown.focus hlt
      have cc0 := hcell 0 _ (by decide) rfl
      have ff0 := hfr (j * (layWaiter).size + 0)
      have cc1 := hcell 1 _ (by decide) rfl
      have ff1 := hfr (j * (layWaiter).size + 1)
      have cc2 := hcell 2 _ (by decide) rfl
      have ff2 := hfr (j * (layWaiter).size + 2)
      simp only [show (layWaiter).size = 3 from rfl, Nat.add_zero, Nat.mul_one] at cc0 ff0 cc1 ff1 cc2 ff2
      generalize (marksWaiter k j ++ xs.drop j)[j] = x at *
      clear hcell hfr hw
      have hz0 : 0 ≤ k + 3 * (j : Int) := by omega
      have hz1 : k + 3 * (j : Int) ≤ 33554432 := by omega
      have HZ := Lib.hid (show k + 3 * (j : Int) + 3 = k + 3 * ((j + 1 : Nat) : Int) by omega)
      have HST := Lib.hid (marksWaiter_step (k := k) HL.out hlt)
      have HP := Lib.hid hput
      clear hput
      generalize k + 3 * (j : Int) = z at *
      go_wp2_with fail
      go_roundw
      case rel =>
        have hrow := HP.out (putCells wr g (j * 3) [.int .i64 z, .int .i64 (z + 1), .int .i64 (z + 1 + 1)]) (mkWaiter z) [.int .i64 z, .int .i64 (z + 1), .int .i64 (z + 1 + 1)] rfl ⟨rfl, ⟨wf_mark (z := z) (by omega) (by omega), wf_mark (z := (z + 1)) (by omega) (by omega), wf_mark (z := (z + 1 + 1)) (by omega) (by omega)⟩⟩ (TurnedF.put _ _ _ (TurnedF.refl _ _) (Or.inr rfl)) rfl
        rw [HST.out] at hrow
        refine ⟨j + 1, by omega, by go_num, by rw [← HZ.out]; try go_num, by first | exact hrow | simpa [putCells] using hrow, ?_⟩
        have htu : TurnedF F w (putCells wr g (j * 3) [.int .i64 z, .int .i64 (z + 1), .int .i64 (z + 1 + 1)]) := TurnedF.put _ _ _ ht hFg
        first | exact htu | simpa [putCells] using htu
      case measure => simp [intOf]; omega
    · go_wp2_with fail
      go_ret
      obtain rfl : j = n := by omega
      refine ⟨rfl, ?_, ht⟩
      rw [List.drop_of_length_le (by rw [HL.out]; exact Nat.le_refl _), List.append_nil] at hown
      exact hown

/-- The call marks the row: blocks that F holds turn alone. -/
def MarkedTWaiter (w : World) (F : Nat → Prop) (e : TypeId) (A : Option Addr) (n c : Nat) (k : Int) (en : Ending) (w' : World) : Prop :=
  en = .returned (.int .i64 (k + 3 * (n : Int))) ∧ TailR layWaiter e w' F A n c (marksWaiter k n) ∧ TurnedF F w w'

set_option maxRecDepth 100000 in
set_option maxHeartbeats 1000000 in
theorem markWaiterS_tail {w : World} {F : Nat → Prop} {e : TypeId} {A : Option Addr} {n c : Nat} {k : Int} {xs : List DWaiter} (h : TailR layWaiter e w F A n c xs) (hn : n ≤ 1048576) (hk0 : 0 ≤ k) (hk : k ≤ 16777216) :
    Calls Tryz.prog 76 #[.slice A n c, .int .i64 k] w (MarkedTWaiter w F e A n c k) := by
  have HL := Lib.hid h.1
  go_enter Tryz.func76, Tryz.ntmps76
  go_wp2_with fail
  go_loopw [1, 5] (fun q i wr => ∃ j : Nat, j ≤ n ∧ i = .int .i64 j ∧ q = .int .i64 (k + 3 * (j : Int)) ∧ TailR layWaiter e wr F A n c (marksWaiter k j ++ xs.drop j) ∧ TurnedF F w wr) (fun _ i _ => n - (intOf i).toNat)
  case atStart => exact ⟨0, Nat.zero_le _, rfl, by simp, by simpa [marksWaiter] using h, TurnedF.refl _ _⟩
  case round =>
    obtain ⟨j, hj, rfl, rfl, hown, ht⟩ := hrel
    by_cases hlt : j < n
    · obtain ⟨hx, g, o, G, vs, rfl, hFg, hGg, hGF, hgs, ⟨rfl, hw⟩, hcell, hfr, hput⟩ := hown.focus hlt
      have cc0 := hcell 0 _ (by decide) rfl
      have ff0 := hfr (o + (j * (layWaiter).size + 0))
      have cc1 := hcell 1 _ (by decide) rfl
      have ff1 := hfr (o + (j * (layWaiter).size + 1))
      have cc2 := hcell 2 _ (by decide) rfl
      have ff2 := hfr (o + (j * (layWaiter).size + 2))
      simp only [show (layWaiter).size = 3 from rfl, ← Nat.add_assoc, Nat.add_zero, Nat.mul_one] at cc0 ff0 cc1 ff1 cc2 ff2
      generalize (marksWaiter k j ++ xs.drop j)[j] = x at *
      clear hcell hfr hw
      have hz0 : 0 ≤ k + 3 * (j : Int) := by omega
      have hz1 : k + 3 * (j : Int) ≤ 33554432 := by omega
      have HZ := Lib.hid (show k + 3 * (j : Int) + 3 = k + 3 * ((j + 1 : Nat) : Int) by omega)
      have HST := Lib.hid (marksWaiter_step (k := k) HL.out hlt)
      have HP := Lib.hid hput
      clear hput
      generalize k + 3 * (j : Int) = z at *
      go_wp2_with fail
      go_roundw
      case rel =>
        have hrow := HP.out (putCells wr g (o + j * 3) [.int .i64 z, .int .i64 (z + 1), .int .i64 (z + 1 + 1)]) (mkWaiter z) [.int .i64 z, .int .i64 (z + 1), .int .i64 (z + 1 + 1)] rfl ⟨rfl, ⟨wf_mark (z := z) (by omega) (by omega), wf_mark (z := (z + 1)) (by omega) (by omega), wf_mark (z := (z + 1 + 1)) (by omega) (by omega)⟩⟩ (TurnedF.put _ _ _ (TurnedF.refl _ _) (Or.inr rfl)) rfl
        rw [HST.out] at hrow
        refine ⟨j + 1, by omega, by go_num, by rw [← HZ.out]; try go_num, by first | exact hrow | simpa [putCells] using hrow, ?_⟩
        have htu : TurnedF F w (putCells wr g (o + j * 3) [.int .i64 z, .int .i64 (z + 1), .int .i64 (z + 1 + 1)]) := TurnedF.put _ _ _ ht hFg
        first | exact htu | simpa [putCells] using htu
      case measure => simp [intOf]; omega
    · go_wp2_with fail
      go_ret
      obtain rfl : j = n := by omega
      refine ⟨rfl, ?_, ht⟩
      rw [List.drop_of_length_le (by rw [HL.out]; exact Nat.le_refl _), List.append_nil] at hown
      exact hown

end Go.Proofs.YtghkdkagnibkgaaGreatDoor

namespace Go.Proofs.YtghkdkagnibkgaaGreatDoor
set_option linter.unusedSimpArgs false
set_option linter.unusedVariables false
open Go.RowKit

theorem unownChan {w : World} {F : Nat → Prop} {x : DChan} {vs : List Value} (h : layChan.own w F x vs) : ∃ (A1 : Option Addr) (n1 c1 : Nat) (F1 : Nat → Prop) (A2 : Option Addr) (n2 c2 : Nat) (F2 : Nat → Prop) (A3 : Option Addr) (n3 c3 : Nat) (F3 : Nat → Prop), vs = [.int .i64 x.fCap, .slice A1 n1 c1, .slice A2 n2 c2, .slice A3 n3 c3, .bool x.fClosed] ∧ (Lit.int .i64 x.fCap).wf = true ∧ (TailR Lay.int 3 w F1 A1 n1 c1 x.fBuf ∧ ∀ g, F1 g → F g) ∧ (TailR layWaiter 166 w F2 A2 n2 c2 x.fSends ∧ ∀ g, F2 g → F g) ∧ (TailR layWaiter 166 w F3 A3 n3 c3 x.fRecvs ∧ ∀ g, F3 g → F g) ∧ (∀ g, F1 g → ¬ F2 g) ∧ (∀ g, F1 g → ¬ F3 g) ∧ (∀ g, F2 g → ¬ F3 g) := by
  obtain ⟨_, _, F0, R1, rfl, s0, ⟨_, _, F1, R2, rfl, s1, ⟨_, _, F2, R3, rfl, s2, ⟨_, _, F3, R4, rfl, s3, s4, k3, r3, d3⟩, k2, r2, d2⟩, k1, r1, d1⟩, k0, r0, d0⟩ := h
  obtain ⟨rfl, h0⟩ := s0
  obtain ⟨A1, n1, c1, rfl, h1⟩ := s1
  obtain ⟨A2, n2, c2, rfl, h2⟩ := s2
  obtain ⟨A3, n3, c3, rfl, h3⟩ := s3
  obtain ⟨rfl, h4⟩ := s4
  exact ⟨A1, n1, c1, F1, A2, n2, c2, F2, A3, n3, c3, F3, rfl, h0, ⟨h1, (fun g h => r0 g (k1 g h))⟩, ⟨h2, (fun g h => r0 g (r1 g (k2 g h)))⟩, ⟨h3, (fun g h => r0 g (r1 g (r2 g (k3 g h))))⟩, (fun g hi hj => d1 g hi ((fun g h => k2 g h) g hj)), (fun g hi hj => d1 g hi ((fun g h => r2 g (k3 g h)) g hj)), (fun g hi hj => d2 g hi ((fun g h => k3 g h) g hj))⟩

/-- How many marks it takes; what it is, marked from z on. -/
def cntChan (x : DChan) : Int := 1 + ((x.fBuf.length : Int)) + (3 * (x.fSends.length : Int)) + (3 * (x.fRecvs.length : Int)) + 1
def mkChan (z : Int) (x : DChan) : DChan := ⟨z, marksInt (z + 1) x.fBuf.length, marksWaiter (z + 1 + ((x.fBuf.length : Int))) x.fSends.length, marksWaiter (z + 1 + ((x.fBuf.length : Int)) + (3 * (x.fSends.length : Int))) x.fRecvs.length, (z + 1 + ((x.fBuf.length : Int)) + (3 * (x.fSends.length : Int)) + (3 * (x.fRecvs.length : Int))) % 3 == 0⟩
def marksChan : Int → List DChan → List DChan
  | _, [] => []
  | z, x :: r => mkChan z x :: marksChan (z + cntChan x) r
theorem marksChan_length (l : List DChan) : ∀ z, (marksChan z l).length = l.length := by
  induction l with
  | nil => intro z; rfl
  | cons x l ih => intro z; simp [marksChan, ih]
theorem marksChan_snoc (l : List DChan) (x : DChan) : ∀ z, marksChan z (l ++ [x]) = marksChan z l ++ [mkChan (z + (l.map cntChan).sum) x] := by
  induction l with
  | nil => intro z; simp [marksChan]
  | cons y l ih => intro z; simp [marksChan, ih, Int.add_assoc]
theorem marksChan_step {xs : List DChan} {k : Int} {j : Nat} {x : DChan} (hx : xs[j]? = some x) :
    (marksChan k (xs.take j) ++ xs.drop j).set j (mkChan (k + ((xs.take j).map cntChan).sum) x) = marksChan k (xs.take (j + 1)) ++ xs.drop (j + 1) := by
  obtain ⟨hj, rfl⟩ := List.getElem?_eq_some_iff.1 hx
  have hl : (marksChan k (xs.take j)).length = j := by rw [marksChan_length, List.length_take]; omega
  rw [List.take_succ_eq_append_getElem hj, marksChan_snoc, List.drop_eq_getElem_cons hj, List.set_append, if_neg (by omega), hl, Nat.sub_self, List.set_cons_zero, List.append_assoc]
  rfl

theorem cntChan_pos (x : DChan) : 0 ≤ cntChan x := by
  unfold cntChan
  omega

/-- The call marks the row: blocks that F holds turn alone. -/
def MarkedChan (w : World) (F : Nat → Prop) (e : TypeId) (A : Option Addr) (n c : Nat) (k : Int) (xs : List DChan) (en : Ending) (w' : World) : Prop :=
  en = .returned (.int .i64 (k + (xs.map cntChan).sum)) ∧ OwnR layChan e w' F A n c (marksChan k xs) ∧ TurnedF F w w'

set_option maxRecDepth 100000 in
set_option maxHeartbeats 2000000 in
theorem markChanS_any {w : World} {F : Nat → Prop} {e : TypeId} {A : Option Addr} {n c : Nat} {k : Int} {xs : List DChan} (h : OwnR layChan e w F A n c xs) (hn : n ≤ 1048576) (hs : ∀ x ∈ xs, szChan x ≤ 1048576) (hk0 : 0 ≤ k) (hk : k + (xs.map cntChan).sum ≤ 16777216) :
    Calls Tryz.prog 49 #[.slice A n c, .int .i64 k] w (MarkedChan w F e A n c k xs) := by
  have HL := Lib.hid h.1
  have HK := Lib.hid hk
  clear hk
  go_enter Tryz.func49, Tryz.ntmps49
  go_wp2_with fail
  go_loopw [1, 5] (fun q i wr => ∃ (j : Nat) (z : Int), j ≤ n ∧ i = .int .i64 j ∧ q = .int .i64 z ∧ Hid (z = k + ((xs.take j).map cntChan).sum) ∧ OwnR layChan e wr F A n c (marksChan k (xs.take j) ++ xs.drop j) ∧ TurnedF F w wr) (fun _ i _ => n - (intOf i).toNat)
  case atStart => exact ⟨0, k, Nat.zero_le _, rfl, rfl, Lib.hid (by simp), by simpa [marksChan] using h, TurnedF.refl _ _⟩
  case round =>
    obtain ⟨j, z, hj, rfl, rfl, HZ, hown, ht⟩ := hrel
    by_cases hlt : j < n
    · obtain ⟨hx, g, G, us, rfl, hgs, hrow, hel⟩ := hown.open_ hlt
      have hxj : j < xs.length := by rw [HL.out]; exact hlt
      have he : (marksChan k (xs.take j) ++ xs.drop j)[j] = xs[j] := by
        have hm : (marksChan k (xs.take j)).length = j := by rw [marksChan_length, List.length_take]; omega
        rw [List.getElem_append_right (by omega)]
        simp [hm]
      rw [he] at hel
      clear he hown hx
      have hdk := Lib.hid (List.getElem?_eq_getElem hxj)
      have hsx := hs _ (List.getElem_mem hxj)
      have hz0 : 0 ≤ z := by have := sum_pos cntChan_pos (xs.take j); have := HZ.out; omega
      have hcx : z + cntChan xs[j] ≤ 16777216 := by
        have h1 := sum_upto cntChan_pos hdk.out
        have := HZ.out
        have := HK.out
        omega
      have HST := Lib.hid (marksChan_step (k := k) hdk.out)
      have HZN := Lib.hid (sum_next cntChan hdk.out)
      rw [← HZ.out] at HST
      generalize xs[j] = x at *
      clear hxj
      obtain ⟨A1, n1, c1, F1, A2, n2, c2, F2, A3, n3, c3, F3, rfl, hw0, ⟨o1, k1⟩, ⟨o2, k2⟩, ⟨o3, k3⟩, d1_2, d1_3, d2_3⟩ := unownChan hel
      have l1 := o1.1
      subst l1
      have hg1 : ¬ F1 g := fun h => hrow.not (k1 g h)
      have l2 := o2.1
      subst l2
      have hg2 : ¬ F2 g := fun h => hrow.not (k2 g h)
      have l3 := o3.1
      subst l3
      have hg3 : ¬ F3 g := fun h => hrow.not (k3 g h)
      unfold szChan at hsx
      unfold cntChan at hcx
      have cc0 : wr.cell? ⟨g, j * 5 + 0, none⟩ = some (.int .i64 x.fCap) := hrow.cell (j := 0) rfl (by decide)
      have cc1 : wr.cell? ⟨g, j * 5 + 1, none⟩ = some (.slice A1 x.fBuf.length c1) := hrow.cell (j := 1) rfl (by decide)
      have cc2 : wr.cell? ⟨g, j * 5 + 2, none⟩ = some (.slice A2 x.fSends.length c2) := hrow.cell (j := 2) rfl (by decide)
      have cc3 : wr.cell? ⟨g, j * 5 + 3, none⟩ = some (.slice A3 x.fRecvs.length c3) := hrow.cell (j := 3) rfl (by decide)
      have cc4 : wr.cell? ⟨g, j * 5 + 4, none⟩ = some (.bool x.fClosed) := hrow.cell (j := 4) rfl (by decide)
      have ff := hrow.free
      simp only [Nat.add_zero, Nat.mul_one] at cc0 cc1 cc2 cc3 cc4
      go_wp2_with fail
      refine (markIntS_tail1 (F := F1) (by exact (o1).setCell hg1 _) (by omega) (by omega) (by omega)).mono ?_
      rintro e w1 ⟨rfl, q1, t1⟩
      have ht1 := (ht.setCell (p := ⟨g, j * 5 + 0, none⟩) hrow.here (.int .i64 z)).trans (t1.wide fun b hb => hrow.inF b (k1 b hb))
      have hrow1 := OpenRow.turned (hrow.set_ (o := 0) (by decide) (.int .i64 z)) t1 k1
      have o2_ := TailR.turnedF (TailR.setCell (o := j * 5 + 0) o2 hg2 (.int .i64 z)) t1 (fun b hb hb2 => d1_2 b hb2 hb)
      have o3_ := TailR.turnedF (TailR.setCell (o := j * 5 + 0) o3 hg3 (.int .i64 z)) t1 (fun b hb hb2 => d1_3 b hb2 hb)
      clear hrow ht t1 cc0 cc1 cc2 cc3 cc4 ff
      have hrow := hrow1
      clear hrow1
      have ht := ht1
      clear ht1
      clear o1
      have o1 := q1
      clear q1
      clear o2
      have o2 := o2_
      clear o2_
      clear o3
      have o3 := o3_
      clear o3_
      have cc0 : w1.cell? ⟨g, j * 5 + 0, none⟩ = some (.int .i64 z) := hrow.cell (j := 0) rfl (by decide)
      have cc1 : w1.cell? ⟨g, j * 5 + 1, none⟩ = some (.slice A1 x.fBuf.length c1) := hrow.cell (j := 1) rfl (by decide)
      have cc2 : w1.cell? ⟨g, j * 5 + 2, none⟩ = some (.slice A2 x.fSends.length c2) := hrow.cell (j := 2) rfl (by decide)
      have cc3 : w1.cell? ⟨g, j * 5 + 3, none⟩ = some (.slice A3 x.fRecvs.length c3) := hrow.cell (j := 3) rfl (by decide)
      have cc4 : w1.cell? ⟨g, j * 5 + 4, none⟩ = some (.bool x.fClosed) := hrow.cell (j := 4) rfl (by decide)
      have ff := hrow.free
      simp only [Nat.add_zero, Nat.mul_one] at cc0 cc1 cc2 cc3 cc4
      go_wp2_with fail
      refine (markWaiterS_tail (F := F2) (by exact o2) (by omega) (by omega) (by omega)).mono ?_
      rintro e w2 ⟨rfl, q2, t2⟩
      have ht2 := ht.trans (t2.wide fun b hb => hrow.inF b (k2 b hb))
      have hrow2 := OpenRow.turned hrow t2 k2
      have o1_ := TailR.turnedF o1 t2 (fun b hb hb2 => d1_2 b hb hb2)
      have o3_ := TailR.turnedF o3 t2 (fun b hb hb2 => d2_3 b hb2 hb)
      clear hrow ht t2 cc0 cc1 cc2 cc3 cc4 ff
      have hrow := hrow2
      clear hrow2
      have ht := ht2
      clear ht2
      clear o2
      have o2 := q2
      clear q2
      clear o1
      have o1 := o1_
      clear o1_
      clear o3
      have o3 := o3_
      clear o3_
      have cc0 : w2.cell? ⟨g, j * 5 + 0, none⟩ = some (.int .i64 z) := hrow.cell (j := 0) rfl (by decide)
      have cc1 : w2.cell? ⟨g, j * 5 + 1, none⟩ = some (.slice A1 x.fBuf.length c1) := hrow.cell (j := 1) rfl (by decide)
      have cc2 : w2.cell? ⟨g, j * 5 + 2, none⟩ = some (.slice A2 x.fSends.length c2) := hrow.cell (j := 2) rfl (by decide)
      have cc3 : w2.cell? ⟨g, j * 5 + 3, none⟩ = some (.slice A3 x.fRecvs.length c3) := hrow.cell (j := 3) rfl (by decide)
      have cc4 : w2.cell? ⟨g, j * 5 + 4, none⟩ = some (.bool x.fClosed) := hrow.cell (j := 4) rfl (by decide)
      have ff := hrow.free
      simp only [Nat.add_zero, Nat.mul_one] at cc0 cc1 cc2 cc3 cc4
      go_wp2_with fail
      refine (markWaiterS_tail (F := F3) (by exact o3) (by omega) (by omega) (by omega)).mono ?_
      rintro e w3 ⟨rfl, q3, t3⟩
      have ht3 := ht.trans (t3.wide fun b hb => hrow.inF b (k3 b hb))
      have hrow3 := OpenRow.turned hrow t3 k3
      have o1_ := TailR.turnedF o1 t3 (fun b hb hb2 => d1_3 b hb hb2)
      have o2_ := TailR.turnedF o2 t3 (fun b hb hb2 => d2_3 b hb hb2)
      clear hrow ht t3 cc0 cc1 cc2 cc3 cc4 ff
      have hrow := hrow3
      clear hrow3
      have ht := ht3
      clear ht3
      clear o3
      have o3 := q3
      clear q3
      clear o1
      have o1 := o1_
      clear o1_
      clear o2
      have o2 := o2_
      clear o2_
      have cc0 : w3.cell? ⟨g, j * 5 + 0, none⟩ = some (.int .i64 z) := hrow.cell (j := 0) rfl (by decide)
      have cc1 : w3.cell? ⟨g, j * 5 + 1, none⟩ = some (.slice A1 x.fBuf.length c1) := hrow.cell (j := 1) rfl (by decide)
      have cc2 : w3.cell? ⟨g, j * 5 + 2, none⟩ = some (.slice A2 x.fSends.length c2) := hrow.cell (j := 2) rfl (by decide)
      have cc3 : w3.cell? ⟨g, j * 5 + 3, none⟩ = some (.slice A3 x.fRecvs.length c3) := hrow.cell (j := 3) rfl (by decide)
      have cc4 : w3.cell? ⟨g, j * 5 + 4, none⟩ = some (.bool x.fClosed) := hrow.cell (j := 4) rfl (by decide)
      have ff := hrow.free
      simp only [Nat.add_zero, Nat.mul_one] at cc0 cc1 cc2 cc3 cc4
      go_wp2_with fail
      go_roundw
      case rel =>
        have hshut := OpenRow.shut (hrow.set_ (o := 4) (by decide) (.bool ((z + 1 + (x.fBuf.length : Int) + 3 * (x.fSends.length : Int) + 3 * (x.fRecvs.length : Int)) % 3 == 0))) (x' := mkChan z x) (ownChan (wf_mark (z := z) (by omega) (by omega)) (TailR.setCell (o := j * 5 + 4) o1 hg1 (.bool ((z + 1 + (x.fBuf.length : Int) + 3 * (x.fSends.length : Int) + 3 * (x.fRecvs.length : Int)) % 3 == 0))) (TailR.setCell (o := j * 5 + 4) o2 hg2 (.bool ((z + 1 + (x.fBuf.length : Int) + 3 * (x.fSends.length : Int) + 3 * (x.fRecvs.length : Int)) % 3 == 0))) (TailR.setCell (o := j * 5 + 4) o3 hg3 (.bool ((z + 1 + (x.fBuf.length : Int) + 3 * (x.fSends.length : Int) + 3 * (x.fRecvs.length : Int)) % 3 == 0))) k1 k2 k3 d1_2 d1_3 d2_3)
        rw [HST.out] at hshut
        exact ⟨j + 1, z + 1 + (x.fBuf.length : Int) + 3 * (x.fSends.length : Int) + 3 * (x.fRecvs.length : Int) + 1, by omega, by go_num, by go_num, Lib.hid (by rw [HZN.out]; have h1 := HZ.out; have h2 : cntChan x = 1 + (x.fBuf.length : Int) + 3 * (x.fSends.length : Int) + 3 * (x.fRecvs.length : Int) + 1 := rfl; omega), by first | exact hshut | (simp only [Int.add_mul_emod_self_left] at hshut; exact hshut), (ht.setCell (p := ⟨g, j * 5 + 4, none⟩) hrow.here _)⟩
      case measure => simp [intOf]; omega
    · go_wp2_with fail
      go_ret
      obtain rfl : j = n := by omega
      have e1 : xs.take j = xs := List.take_of_length_le (by rw [HL.out]; exact Nat.le_refl _)
      have hz := HZ.out
      rw [e1] at hown hz
      rw [List.drop_of_length_le (by rw [HL.out]; exact Nat.le_refl _), List.append_nil] at hown
      exact ⟨by rw [← hz]; rfl, hown, ht⟩

/-- How many marks it takes where it stands by itself: its slices alone; and what it is then. -/
def vcntChan (x : DChan) : Int := (x.fBuf.length : Int) + 3 * (x.fSends.length : Int) + 3 * (x.fRecvs.length : Int)
def mkvChan (k : Int) (x : DChan) : DChan := ⟨x.fCap, marksInt k x.fBuf.length, marksWaiter (k + (x.fBuf.length : Int)) x.fSends.length, marksWaiter (k + (x.fBuf.length : Int) + 3 * (x.fSends.length : Int)) x.fRecvs.length, x.fClosed⟩

end Go.Proofs.YtghkdkagnibkgaaGreatDoor

namespace Go.Proofs.YtghkdkagnibkgaaGreatDoor
set_option linter.unusedSimpArgs false
set_option linter.unusedVariables false
open Go.RowKit

/-- The mark of z. -/
def mkItem (z : Int) : DItem := ⟨z, (z + 1), (z + 1 + 1), (z + 1 + 1 + 1) % 3 == 0⟩
def marksItem (k : Int) (n : Nat) : List DItem := (List.range n).map fun (i : Nat) => mkItem (k + 4 * (i : Int))
theorem marksItem_step {xs : List DItem} {k : Int} {n j : Nat} (hl : xs.length = n) (hj : j < n) :
    (marksItem k j ++ xs.drop j).set j (mkItem (k + 4 * (j : Int))) = marksItem k (j + 1) ++ xs.drop (j + 1) := by
  apply List.ext_getElem?
  intro i
  simp only [marksItem, List.getElem?_set, List.getElem?_map, List.getElem?_append, List.length_map, List.length_append, List.length_range, List.length_drop, List.getElem?_drop]
  rcases Nat.lt_trichotomy i j with h | h | h
  · simp [show ¬ j = i from by omega, h, show i < j + 1 from by omega]
  · subst h
    simp [show i < i + (xs.length - i) from by omega]
  · simp [show ¬ j = i from by omega, show ¬ i < j from by omega, show ¬ i < j + 1 from by omega, show j + (i - j) = i from by omega, show j + 1 + (i - (j + 1)) = i from by omega]

/-- The call marks the row: blocks that F holds turn alone. -/
def MarkedItem (w : World) (F : Nat → Prop) (e : TypeId) (A : Option Addr) (n c : Nat) (k : Int) (en : Ending) (w' : World) : Prop :=
  en = .returned (.int .i64 (k + 4 * (n : Int))) ∧ OwnR layItem e w' F A n c (marksItem k n) ∧ TurnedF F w w'

set_option maxRecDepth 100000 in
set_option maxHeartbeats 1000000 in
theorem markItemS_any {w : World} {F : Nat → Prop} {e : TypeId} {A : Option Addr} {n c : Nat} {k : Int} {xs : List DItem} (h : OwnR layItem e w F A n c xs) (hn : n ≤ 1048580) (hk0 : 0 ≤ k) (hk : k ≤ 16777216) :
    Calls Tryz.prog 75 #[.slice A n c, .int .i64 k] w (MarkedItem w F e A n c k) := by
  have HL := Lib.hid h.1
  go_enter Tryz.func75, Tryz.ntmps75
  go_wp2_with fail
  go_loopw [1, 5] (fun q i wr => ∃ j : Nat, j ≤ n ∧ i = .int .i64 j ∧ q = .int .i64 (k + 4 * (j : Int)) ∧ OwnR layItem e wr F A n c (marksItem k j ++ xs.drop j) ∧ TurnedF F w wr) (fun _ i _ => n - (intOf i).toNat)
  case atStart => exact ⟨0, Nat.zero_le _, rfl, by simp, by simpa [marksItem] using h, TurnedF.refl _ _⟩
  case round =>
    obtain ⟨j, hj, rfl, rfl, hown, ht⟩ := hrel
    by_cases hlt : j < n
    · obtain ⟨hx, g, G, vs, rfl, hFg, hGg, hGF, hgs, ⟨rfl, hw⟩, hcell, hfr, hput⟩ := hown.focus hlt
      have cc0 := hcell 0 _ (by decide) rfl
      have ff0 := hfr (j * (layItem).size + 0)
      have cc1 := hcell 1 _ (by decide) rfl
      have ff1 := hfr (j * (layItem).size + 1)
      have cc2 := hcell 2 _ (by decide) rfl
      have ff2 := hfr (j * (layItem).size + 2)
      have cc3 := hcell 3 _ (by decide) rfl
      have ff3 := hfr (j * (layItem).size + 3)
      simp only [show (layItem).size = 4 from rfl, Nat.add_zero, Nat.mul_one] at cc0 ff0 cc1 ff1 cc2 ff2 cc3 ff3
      generalize (marksItem k j ++ xs.drop j)[j] = x at *
      clear hcell hfr hw
      have hz0 : 0 ≤ k + 4 * (j : Int) := by omega
      have hz1 : k + 4 * (j : Int) ≤ 33554432 := by omega
      have HZ := Lib.hid (show k + 4 * (j : Int) + 4 = k + 4 * ((j + 1 : Nat) : Int) by omega)
      have HST := Lib.hid (marksItem_step (k := k) HL.out hlt)
      have HP := Lib.hid hput
      clear hput
      generalize k + 4 * (j : Int) = z at *
      go_wp2_with fail
      go_roundw
      case rel =>
        have hrow := HP.out (putCells wr g (j * 4) [.int .i64 z, .int .i64 (z + 1), .int .i64 (z + 1 + 1), .bool ((z + 1 + 1 + 1) % 3 == 0)]) (mkItem z) [.int .i64 z, .int .i64 (z + 1), .int .i64 (z + 1 + 1), .bool ((z + 1 + 1 + 1) % 3 == 0)] rfl ⟨rfl, ⟨wf_mark (z := z) (by omega) (by omega), wf_mark (z := (z + 1)) (by omega) (by omega), wf_mark (z := (z + 1 + 1)) (by omega) (by omega)⟩⟩ (TurnedF.put _ _ _ (TurnedF.refl _ _) (Or.inr rfl)) rfl
        rw [HST.out] at hrow
        refine ⟨j + 1, by omega, by go_num, by rw [← HZ.out]; try go_num, by first | exact hrow | simpa [putCells] using hrow, ?_⟩
        have htu : TurnedF F w (putCells wr g (j * 4) [.int .i64 z, .int .i64 (z + 1), .int .i64 (z + 1 + 1), .bool ((z + 1 + 1 + 1) % 3 == 0)]) := TurnedF.put _ _ _ ht hFg
        first | exact htu | simpa [putCells] using htu
      case measure => simp [intOf]; omega
    · go_wp2_with fail
      go_ret
      obtain rfl : j = n := by omega
      refine ⟨rfl, ?_, ht⟩
      rw [List.drop_of_length_le (by rw [HL.out]; exact Nat.le_refl _), List.append_nil] at hown
      exact hown

/-- The call marks the row: blocks that F holds turn alone. -/
def MarkedTItem (w : World) (F : Nat → Prop) (e : TypeId) (A : Option Addr) (n c : Nat) (k : Int) (en : Ending) (w' : World) : Prop :=
  en = .returned (.int .i64 (k + 4 * (n : Int))) ∧ TailR layItem e w' F A n c (marksItem k n) ∧ TurnedF F w w'

set_option maxRecDepth 100000 in
set_option maxHeartbeats 1000000 in
theorem markItemS_tail {w : World} {F : Nat → Prop} {e : TypeId} {A : Option Addr} {n c : Nat} {k : Int} {xs : List DItem} (h : TailR layItem e w F A n c xs) (hn : n ≤ 1048580) (hk0 : 0 ≤ k) (hk : k ≤ 16777216) :
    Calls Tryz.prog 75 #[.slice A n c, .int .i64 k] w (MarkedTItem w F e A n c k) := by
  have HL := Lib.hid h.1
  go_enter Tryz.func75, Tryz.ntmps75
  go_wp2_with fail
  go_loopw [1, 5] (fun q i wr => ∃ j : Nat, j ≤ n ∧ i = .int .i64 j ∧ q = .int .i64 (k + 4 * (j : Int)) ∧ TailR layItem e wr F A n c (marksItem k j ++ xs.drop j) ∧ TurnedF F w wr) (fun _ i _ => n - (intOf i).toNat)
  case atStart => exact ⟨0, Nat.zero_le _, rfl, by simp, by simpa [marksItem] using h, TurnedF.refl _ _⟩
  case round =>
    obtain ⟨j, hj, rfl, rfl, hown, ht⟩ := hrel
    by_cases hlt : j < n
    · obtain ⟨hx, g, o, G, vs, rfl, hFg, hGg, hGF, hgs, ⟨rfl, hw⟩, hcell, hfr, hput⟩ := hown.focus hlt
      have cc0 := hcell 0 _ (by decide) rfl
      have ff0 := hfr (o + (j * (layItem).size + 0))
      have cc1 := hcell 1 _ (by decide) rfl
      have ff1 := hfr (o + (j * (layItem).size + 1))
      have cc2 := hcell 2 _ (by decide) rfl
      have ff2 := hfr (o + (j * (layItem).size + 2))
      have cc3 := hcell 3 _ (by decide) rfl
      have ff3 := hfr (o + (j * (layItem).size + 3))
      simp only [show (layItem).size = 4 from rfl, ← Nat.add_assoc, Nat.add_zero, Nat.mul_one] at cc0 ff0 cc1 ff1 cc2 ff2 cc3 ff3
      generalize (marksItem k j ++ xs.drop j)[j] = x at *
      clear hcell hfr hw
      have hz0 : 0 ≤ k + 4 * (j : Int) := by omega
      have hz1 : k + 4 * (j : Int) ≤ 33554432 := by omega
      have HZ := Lib.hid (show k + 4 * (j : Int) + 4 = k + 4 * ((j + 1 : Nat) : Int) by omega)
      have HST := Lib.hid (marksItem_step (k := k) HL.out hlt)
      have HP := Lib.hid hput
      clear hput
      generalize k + 4 * (j : Int) = z at *
      go_wp2_with fail
      go_roundw
      case rel =>
        have hrow := HP.out (putCells wr g (o + j * 4) [.int .i64 z, .int .i64 (z + 1), .int .i64 (z + 1 + 1), .bool ((z + 1 + 1 + 1) % 3 == 0)]) (mkItem z) [.int .i64 z, .int .i64 (z + 1), .int .i64 (z + 1 + 1), .bool ((z + 1 + 1 + 1) % 3 == 0)] rfl ⟨rfl, ⟨wf_mark (z := z) (by omega) (by omega), wf_mark (z := (z + 1)) (by omega) (by omega), wf_mark (z := (z + 1 + 1)) (by omega) (by omega)⟩⟩ (TurnedF.put _ _ _ (TurnedF.refl _ _) (Or.inr rfl)) rfl
        rw [HST.out] at hrow
        refine ⟨j + 1, by omega, by go_num, by rw [← HZ.out]; try go_num, by first | exact hrow | simpa [putCells] using hrow, ?_⟩
        have htu : TurnedF F w (putCells wr g (o + j * 4) [.int .i64 z, .int .i64 (z + 1), .int .i64 (z + 1 + 1), .bool ((z + 1 + 1 + 1) % 3 == 0)]) := TurnedF.put _ _ _ ht hFg
        first | exact htu | simpa [putCells] using htu
      case measure => simp [intOf]; omega
    · go_wp2_with fail
      go_ret
      obtain rfl : j = n := by omega
      refine ⟨rfl, ?_, ht⟩
      rw [List.drop_of_length_le (by rw [HL.out]; exact Nat.le_refl _), List.append_nil] at hown
      exact hown

end Go.Proofs.YtghkdkagnibkgaaGreatDoor

namespace Go.Proofs.YtghkdkagnibkgaaGreatDoor
set_option linter.unusedSimpArgs false
set_option linter.unusedVariables false
open Go.RowKit

theorem unownGor {w : World} {F : Nat → Prop} {x : DGor} {vs : List Value} (h : layGor.own w F x vs) : ∃ (A2 : Option Addr) (n2 c2 : Nat) (F2 : Nat → Prop) (A4 : Option Addr) (n4 c4 : Nat) (F4 : Nat → Prop), vs = [.int .i64 x.fProc, .int .i64 x.fPc, .slice A2 n2 c2, .int .i64 x.fState, .slice A4 n4 c4] ∧ (Lit.int .i64 x.fProc).wf = true ∧ (Lit.int .i64 x.fPc).wf = true ∧ (TailR Lay.int 3 w F2 A2 n2 c2 x.fRegs ∧ ∀ g, F2 g → F g) ∧ (Lit.int .i64 x.fState).wf = true ∧ (TailR layItem 164 w F4 A4 n4 c4 x.fTrace ∧ ∀ g, F4 g → F g) ∧ (∀ g, F2 g → ¬ F4 g) := by
  obtain ⟨_, _, F0, R1, rfl, s0, ⟨_, _, F1, R2, rfl, s1, ⟨_, _, F2, R3, rfl, s2, ⟨_, _, F3, R4, rfl, s3, s4, k3, r3, d3⟩, k2, r2, d2⟩, k1, r1, d1⟩, k0, r0, d0⟩ := h
  obtain ⟨rfl, h0⟩ := s0
  obtain ⟨rfl, h1⟩ := s1
  obtain ⟨A2, n2, c2, rfl, h2⟩ := s2
  obtain ⟨rfl, h3⟩ := s3
  obtain ⟨A4, n4, c4, rfl, h4⟩ := s4
  exact ⟨A2, n2, c2, F2, A4, n4, c4, R4, rfl, h0, h1, ⟨h2, (fun g h => r0 g (r1 g (k2 g h)))⟩, h3, ⟨h4, (fun g h => r0 g (r1 g (r2 g (r3 g h))))⟩, (fun g hi hj => d2 g hi ((fun g h => r3 g h) g hj))⟩

/-- How many marks it takes; what it is, marked from z on. -/
def cntGor (x : DGor) : Int := 1 + 1 + ((x.fRegs.length : Int)) + 1 + (4 * (x.fTrace.length : Int))
def mkGor (z : Int) (x : DGor) : DGor := ⟨z, z + 1, marksInt (z + 1 + 1) x.fRegs.length, z + 1 + 1 + ((x.fRegs.length : Int)), marksItem (z + 1 + 1 + ((x.fRegs.length : Int)) + 1) x.fTrace.length⟩
def marksGor : Int → List DGor → List DGor
  | _, [] => []
  | z, x :: r => mkGor z x :: marksGor (z + cntGor x) r
theorem marksGor_length (l : List DGor) : ∀ z, (marksGor z l).length = l.length := by
  induction l with
  | nil => intro z; rfl
  | cons x l ih => intro z; simp [marksGor, ih]
theorem marksGor_snoc (l : List DGor) (x : DGor) : ∀ z, marksGor z (l ++ [x]) = marksGor z l ++ [mkGor (z + (l.map cntGor).sum) x] := by
  induction l with
  | nil => intro z; simp [marksGor]
  | cons y l ih => intro z; simp [marksGor, ih, Int.add_assoc]
theorem marksGor_step {xs : List DGor} {k : Int} {j : Nat} {x : DGor} (hx : xs[j]? = some x) :
    (marksGor k (xs.take j) ++ xs.drop j).set j (mkGor (k + ((xs.take j).map cntGor).sum) x) = marksGor k (xs.take (j + 1)) ++ xs.drop (j + 1) := by
  obtain ⟨hj, rfl⟩ := List.getElem?_eq_some_iff.1 hx
  have hl : (marksGor k (xs.take j)).length = j := by rw [marksGor_length, List.length_take]; omega
  rw [List.take_succ_eq_append_getElem hj, marksGor_snoc, List.drop_eq_getElem_cons hj, List.set_append, if_neg (by omega), hl, Nat.sub_self, List.set_cons_zero, List.append_assoc]
  rfl

theorem cntGor_pos (x : DGor) : 0 ≤ cntGor x := by
  unfold cntGor
  omega

/-- The call marks the row: blocks that F holds turn alone. -/
def MarkedGor (w : World) (F : Nat → Prop) (e : TypeId) (A : Option Addr) (n c : Nat) (k : Int) (xs : List DGor) (en : Ending) (w' : World) : Prop :=
  en = .returned (.int .i64 (k + (xs.map cntGor).sum)) ∧ OwnR layGor e w' F A n c (marksGor k xs) ∧ TurnedF F w w'

set_option maxRecDepth 100000 in
set_option maxHeartbeats 2000000 in
theorem markGorS_any {w : World} {F : Nat → Prop} {e : TypeId} {A : Option Addr} {n c : Nat} {k : Int} {xs : List DGor} (h : OwnR layGor e w F A n c xs) (hn : n ≤ 1048580) (hs : ∀ x ∈ xs, szGor x ≤ 1048580) (hk0 : 0 ≤ k) (hk : k + (xs.map cntGor).sum ≤ 16777216) :
    Calls Tryz.prog 48 #[.slice A n c, .int .i64 k] w (MarkedGor w F e A n c k xs) := by
  have HL := Lib.hid h.1
  have HK := Lib.hid hk
  clear hk
  go_enter Tryz.func48, Tryz.ntmps48
  go_wp2_with fail
  go_loopw [1, 5] (fun q i wr => ∃ (j : Nat) (z : Int), j ≤ n ∧ i = .int .i64 j ∧ q = .int .i64 z ∧ Hid (z = k + ((xs.take j).map cntGor).sum) ∧ OwnR layGor e wr F A n c (marksGor k (xs.take j) ++ xs.drop j) ∧ TurnedF F w wr) (fun _ i _ => n - (intOf i).toNat)
  case atStart => exact ⟨0, k, Nat.zero_le _, rfl, rfl, Lib.hid (by simp), by simpa [marksGor] using h, TurnedF.refl _ _⟩
  case round =>
    obtain ⟨j, z, hj, rfl, rfl, HZ, hown, ht⟩ := hrel
    by_cases hlt : j < n
    · obtain ⟨hx, g, G, us, rfl, hgs, hrow, hel⟩ := hown.open_ hlt
      have hxj : j < xs.length := by rw [HL.out]; exact hlt
      have he : (marksGor k (xs.take j) ++ xs.drop j)[j] = xs[j] := by
        have hm : (marksGor k (xs.take j)).length = j := by rw [marksGor_length, List.length_take]; omega
        rw [List.getElem_append_right (by omega)]
        simp [hm]
      rw [he] at hel
      clear he hown hx
      have hdk := Lib.hid (List.getElem?_eq_getElem hxj)
      have hsx := hs _ (List.getElem_mem hxj)
      have hz0 : 0 ≤ z := by have := sum_pos cntGor_pos (xs.take j); have := HZ.out; omega
      have hcx : z + cntGor xs[j] ≤ 16777216 := by
        have h1 := sum_upto cntGor_pos hdk.out
        have := HZ.out
        have := HK.out
        omega
      have HST := Lib.hid (marksGor_step (k := k) hdk.out)
      have HZN := Lib.hid (sum_next cntGor hdk.out)
      rw [← HZ.out] at HST
      generalize xs[j] = x at *
      clear hxj
      obtain ⟨A2, n2, c2, F2, A4, n4, c4, F4, rfl, hw0, hw1, ⟨o2, k2⟩, hw3, ⟨o4, k4⟩, d2_4⟩ := unownGor hel
      have l2 := o2.1
      subst l2
      have hg2 : ¬ F2 g := fun h => hrow.not (k2 g h)
      have l4 := o4.1
      subst l4
      have hg4 : ¬ F4 g := fun h => hrow.not (k4 g h)
      unfold szGor at hsx
      unfold cntGor at hcx
      have cc0 : wr.cell? ⟨g, j * 5 + 0, none⟩ = some (.int .i64 x.fProc) := hrow.cell (j := 0) rfl (by decide)
      have cc1 : wr.cell? ⟨g, j * 5 + 1, none⟩ = some (.int .i64 x.fPc) := hrow.cell (j := 1) rfl (by decide)
      have cc2 : wr.cell? ⟨g, j * 5 + 2, none⟩ = some (.slice A2 x.fRegs.length c2) := hrow.cell (j := 2) rfl (by decide)
      have cc3 : wr.cell? ⟨g, j * 5 + 3, none⟩ = some (.int .i64 x.fState) := hrow.cell (j := 3) rfl (by decide)
      have cc4 : wr.cell? ⟨g, j * 5 + 4, none⟩ = some (.slice A4 x.fTrace.length c4) := hrow.cell (j := 4) rfl (by decide)
      have ff := hrow.free
      simp only [Nat.add_zero, Nat.mul_one] at cc0 cc1 cc2 cc3 cc4
      go_wp2_with fail
      refine (markIntS_tail1 (F := F2) (by exact ((o2).setCell hg2 _).setCell hg2 _) (by omega) (by omega) (by omega)).mono ?_
      rintro e w1 ⟨rfl, q2, t2⟩
      have ht1 := ((ht.setCell (p := ⟨g, j * 5 + 0, none⟩) hrow.here (.int .i64 z)).setCell (p := ⟨g, j * 5 + 1, none⟩) hrow.here (.int .i64 (z + 1))).trans (t2.wide fun b hb => hrow.inF b (k2 b hb))
      have hrow1 := OpenRow.turned ((hrow.set_ (o := 0) (by decide) (.int .i64 z)).set_ (o := 1) (by decide) (.int .i64 (z + 1))) t2 k2
      have o4_ := TailR.turnedF (TailR.setCell (o := j * 5 + 1) (TailR.setCell (o := j * 5 + 0) o4 hg4 (.int .i64 z)) hg4 (.int .i64 (z + 1))) t2 (fun b hb hb2 => d2_4 b hb2 hb)
      clear hrow ht t2 cc0 cc1 cc2 cc3 cc4 ff
      have hrow := hrow1
      clear hrow1
      have ht := ht1
      clear ht1
      clear o2
      have o2 := q2
      clear q2
      clear o4
      have o4 := o4_
      clear o4_
      have cc0 : w1.cell? ⟨g, j * 5 + 0, none⟩ = some (.int .i64 z) := hrow.cell (j := 0) rfl (by decide)
      have cc1 : w1.cell? ⟨g, j * 5 + 1, none⟩ = some (.int .i64 (z + 1)) := hrow.cell (j := 1) rfl (by decide)
      have cc2 : w1.cell? ⟨g, j * 5 + 2, none⟩ = some (.slice A2 x.fRegs.length c2) := hrow.cell (j := 2) rfl (by decide)
      have cc3 : w1.cell? ⟨g, j * 5 + 3, none⟩ = some (.int .i64 x.fState) := hrow.cell (j := 3) rfl (by decide)
      have cc4 : w1.cell? ⟨g, j * 5 + 4, none⟩ = some (.slice A4 x.fTrace.length c4) := hrow.cell (j := 4) rfl (by decide)
      have ff := hrow.free
      simp only [Nat.add_zero, Nat.mul_one] at cc0 cc1 cc2 cc3 cc4
      go_wp2_with fail
      refine (markItemS_tail (F := F4) (by exact (o4).setCell hg4 _) (by omega) (by omega) (by omega)).mono ?_
      rintro e w2 ⟨rfl, q4, t4⟩
      have ht2 := (ht.setCell (p := ⟨g, j * 5 + 3, none⟩) hrow.here (.int .i64 (z + 1 + 1 + (x.fRegs.length : Int)))).trans (t4.wide fun b hb => hrow.inF b (k4 b hb))
      have hrow2 := OpenRow.turned (hrow.set_ (o := 3) (by decide) (.int .i64 (z + 1 + 1 + (x.fRegs.length : Int)))) t4 k4
      have o2_ := TailR.turnedF (TailR.setCell (o := j * 5 + 3) o2 hg2 (.int .i64 (z + 1 + 1 + (x.fRegs.length : Int)))) t4 (fun b hb hb2 => d2_4 b hb hb2)
      clear hrow ht t4 cc0 cc1 cc2 cc3 cc4 ff
      have hrow := hrow2
      clear hrow2
      have ht := ht2
      clear ht2
      clear o4
      have o4 := q4
      clear q4
      clear o2
      have o2 := o2_
      clear o2_
      have cc0 : w2.cell? ⟨g, j * 5 + 0, none⟩ = some (.int .i64 z) := hrow.cell (j := 0) rfl (by decide)
      have cc1 : w2.cell? ⟨g, j * 5 + 1, none⟩ = some (.int .i64 (z + 1)) := hrow.cell (j := 1) rfl (by decide)
      have cc2 : w2.cell? ⟨g, j * 5 + 2, none⟩ = some (.slice A2 x.fRegs.length c2) := hrow.cell (j := 2) rfl (by decide)
      have cc3 : w2.cell? ⟨g, j * 5 + 3, none⟩ = some (.int .i64 (z + 1 + 1 + (x.fRegs.length : Int))) := hrow.cell (j := 3) rfl (by decide)
      have cc4 : w2.cell? ⟨g, j * 5 + 4, none⟩ = some (.slice A4 x.fTrace.length c4) := hrow.cell (j := 4) rfl (by decide)
      have ff := hrow.free
      simp only [Nat.add_zero, Nat.mul_one] at cc0 cc1 cc2 cc3 cc4
      go_wp2_with fail
      go_roundw
      case rel =>
        have hshut := OpenRow.shut hrow (x' := mkGor z x) (ownGor (wf_mark (z := z) (by omega) (by omega)) (wf_mark (z := z + 1) (by omega) (by omega)) o2 (wf_mark (z := z + 1 + 1 + (x.fRegs.length : Int)) (by omega) (by omega)) o4 k2 k4 d2_4)
        rw [HST.out] at hshut
        exact ⟨j + 1, z + 1 + 1 + (x.fRegs.length : Int) + 1 + 4 * (x.fTrace.length : Int), by omega, by go_num, by go_num, Lib.hid (by rw [HZN.out]; have h1 := HZ.out; have h2 : cntGor x = 1 + 1 + (x.fRegs.length : Int) + 1 + 4 * (x.fTrace.length : Int) := rfl; omega), hshut, ht⟩
      case measure => simp [intOf]; omega
    · go_wp2_with fail
      go_ret
      obtain rfl : j = n := by omega
      have e1 : xs.take j = xs := List.take_of_length_le (by rw [HL.out]; exact Nat.le_refl _)
      have hz := HZ.out
      rw [e1] at hown hz
      rw [List.drop_of_length_le (by rw [HL.out]; exact Nat.le_refl _), List.append_nil] at hown
      exact ⟨by rw [← hz]; rfl, hown, ht⟩

/-- How many marks it takes where it stands by itself: its slices alone; and what it is then. -/
def vcntGor (x : DGor) : Int := (x.fRegs.length : Int) + 4 * (x.fTrace.length : Int)
def mkvGor (k : Int) (x : DGor) : DGor := ⟨x.fProc, x.fPc, marksInt k x.fRegs.length, x.fState, marksItem (k + (x.fRegs.length : Int)) x.fTrace.length⟩

end Go.Proofs.YtghkdkagnibkgaaGreatDoor

namespace Go.Proofs.YtghkdkagnibkgaaGreatDoor
set_option linter.unusedSimpArgs false
set_option linter.unusedVariables false
open Go.RowKit

theorem unownMutex {w : World} {F : Nat → Prop} {x : DMutex} {vs : List Value} (h : layMutex.own w F x vs) : ∃ (A1 : Option Addr) (n1 c1 : Nat) (F1 : Nat → Prop), vs = [.int .i64 x.fOwner, .slice A1 n1 c1] ∧ (Lit.int .i64 x.fOwner).wf = true ∧ (TailR Lay.int 3 w F1 A1 n1 c1 x.fWait ∧ ∀ g, F1 g → F g) := by
  obtain ⟨_, _, F0, R1, rfl, s0, s1, k0, r0, d0⟩ := h
  obtain ⟨rfl, h0⟩ := s0
  obtain ⟨A1, n1, c1, rfl, h1⟩ := s1
  exact ⟨A1, n1, c1, R1, rfl, h0, ⟨h1, (fun g h => r0 g h)⟩⟩

/-- How many marks it takes; what it is, marked from z on. -/
def cntMutex (x : DMutex) : Int := 1 + ((x.fWait.length : Int))
def mkMutex (z : Int) (x : DMutex) : DMutex := ⟨z, marksInt (z + 1) x.fWait.length⟩
def marksMutex : Int → List DMutex → List DMutex
  | _, [] => []
  | z, x :: r => mkMutex z x :: marksMutex (z + cntMutex x) r
theorem marksMutex_length (l : List DMutex) : ∀ z, (marksMutex z l).length = l.length := by
  induction l with
  | nil => intro z; rfl
  | cons x l ih => intro z; simp [marksMutex, ih]
theorem marksMutex_snoc (l : List DMutex) (x : DMutex) : ∀ z, marksMutex z (l ++ [x]) = marksMutex z l ++ [mkMutex (z + (l.map cntMutex).sum) x] := by
  induction l with
  | nil => intro z; simp [marksMutex]
  | cons y l ih => intro z; simp [marksMutex, ih, Int.add_assoc]
theorem marksMutex_step {xs : List DMutex} {k : Int} {j : Nat} {x : DMutex} (hx : xs[j]? = some x) :
    (marksMutex k (xs.take j) ++ xs.drop j).set j (mkMutex (k + ((xs.take j).map cntMutex).sum) x) = marksMutex k (xs.take (j + 1)) ++ xs.drop (j + 1) := by
  obtain ⟨hj, rfl⟩ := List.getElem?_eq_some_iff.1 hx
  have hl : (marksMutex k (xs.take j)).length = j := by rw [marksMutex_length, List.length_take]; omega
  rw [List.take_succ_eq_append_getElem hj, marksMutex_snoc, List.drop_eq_getElem_cons hj, List.set_append, if_neg (by omega), hl, Nat.sub_self, List.set_cons_zero, List.append_assoc]
  rfl

theorem cntMutex_pos (x : DMutex) : 0 ≤ cntMutex x := by
  unfold cntMutex
  omega

/-- The call marks the row: blocks that F holds turn alone. -/
def MarkedMutex (w : World) (F : Nat → Prop) (e : TypeId) (A : Option Addr) (n c : Nat) (k : Int) (xs : List DMutex) (en : Ending) (w' : World) : Prop :=
  en = .returned (.int .i64 (k + (xs.map cntMutex).sum)) ∧ OwnR layMutex e w' F A n c (marksMutex k xs) ∧ TurnedF F w w'

set_option maxRecDepth 100000 in
set_option maxHeartbeats 2000000 in
theorem markMutexS_any {w : World} {F : Nat → Prop} {e : TypeId} {A : Option Addr} {n c : Nat} {k : Int} {xs : List DMutex} (h : OwnR layMutex e w F A n c xs) (hn : n ≤ 1048576) (hs : ∀ x ∈ xs, szMutex x ≤ 1048576) (hk0 : 0 ≤ k) (hk : k + (xs.map cntMutex).sum ≤ 16777216) :
    Calls Tryz.prog 50 #[.slice A n c, .int .i64 k] w (MarkedMutex w F e A n c k xs) := by
  have HL := Lib.hid h.1
  have HK := Lib.hid hk
  clear hk
  go_enter Tryz.func50, Tryz.ntmps50
  go_wp2_with fail
  go_loopw [1, 5] (fun q i wr => ∃ (j : Nat) (z : Int), j ≤ n ∧ i = .int .i64 j ∧ q = .int .i64 z ∧ Hid (z = k + ((xs.take j).map cntMutex).sum) ∧ OwnR layMutex e wr F A n c (marksMutex k (xs.take j) ++ xs.drop j) ∧ TurnedF F w wr) (fun _ i _ => n - (intOf i).toNat)
  case atStart => exact ⟨0, k, Nat.zero_le _, rfl, rfl, Lib.hid (by simp), by simpa [marksMutex] using h, TurnedF.refl _ _⟩
  case round =>
    obtain ⟨j, z, hj, rfl, rfl, HZ, hown, ht⟩ := hrel
    by_cases hlt : j < n
    · obtain ⟨hx, g, G, us, rfl, hgs, hrow, hel⟩ := hown.open_ hlt
      have hxj : j < xs.length := by rw [HL.out]; exact hlt
      have he : (marksMutex k (xs.take j) ++ xs.drop j)[j] = xs[j] := by
        have hm : (marksMutex k (xs.take j)).length = j := by rw [marksMutex_length, List.length_take]; omega
        rw [List.getElem_append_right (by omega)]
        simp [hm]
      rw [he] at hel
      clear he hown hx
      have hdk := Lib.hid (List.getElem?_eq_getElem hxj)
      have hsx := hs _ (List.getElem_mem hxj)
      have hz0 : 0 ≤ z := by have := sum_pos cntMutex_pos (xs.take j); have := HZ.out; omega
      have hcx : z + cntMutex xs[j] ≤ 16777216 := by
        have h1 := sum_upto cntMutex_pos hdk.out
        have := HZ.out
        have := HK.out
        omega
      have HST := Lib.hid (marksMutex_step (k := k) hdk.out)
      have HZN := Lib.hid (sum_next cntMutex hdk.out)
      rw [← HZ.out] at HST
      generalize xs[j] = x at *
      clear hxj
      obtain ⟨A1, n1, c1, F1, rfl, hw0, ⟨o1, k1⟩⟩ := unownMutex hel
      have l1 := o1.1
      subst l1
      have hg1 : ¬ F1 g := fun h => hrow.not (k1 g h)
      unfold szMutex at hsx
      unfold cntMutex at hcx
      have cc0 : wr.cell? ⟨g, j * 2 + 0, none⟩ = some (.int .i64 x.fOwner) := hrow.cell (j := 0) rfl (by decide)
      have cc1 : wr.cell? ⟨g, j * 2 + 1, none⟩ = some (.slice A1 x.fWait.length c1) := hrow.cell (j := 1) rfl (by decide)
      have ff := hrow.free
      simp only [Nat.add_zero, Nat.mul_one] at cc0 cc1
      go_wp2_with fail
      refine (markIntS_tail1 (F := F1) (by exact (o1).setCell hg1 _) (by omega) (by omega) (by omega)).mono ?_
      rintro e w1 ⟨rfl, q1, t1⟩
      have ht1 := (ht.setCell (p := ⟨g, j * 2 + 0, none⟩) hrow.here (.int .i64 z)).trans (t1.wide fun b hb => hrow.inF b (k1 b hb))
      have hrow1 := OpenRow.turned (hrow.set_ (o := 0) (by decide) (.int .i64 z)) t1 k1
      clear hrow ht t1 cc0 cc1 ff
      have hrow := hrow1
      clear hrow1
      have ht := ht1
      clear ht1
      clear o1
      have o1 := q1
      clear q1
      have cc0 : w1.cell? ⟨g, j * 2 + 0, none⟩ = some (.int .i64 z) := hrow.cell (j := 0) rfl (by decide)
      have cc1 : w1.cell? ⟨g, j * 2 + 1, none⟩ = some (.slice A1 x.fWait.length c1) := hrow.cell (j := 1) rfl (by decide)
      have ff := hrow.free
      simp only [Nat.add_zero, Nat.mul_one] at cc0 cc1
      go_wp2_with fail
      go_roundw
      case rel =>
        have hshut := OpenRow.shut hrow (x' := mkMutex z x) (ownMutex (wf_mark (z := z) (by omega) (by omega)) o1 k1)
        rw [HST.out] at hshut
        exact ⟨j + 1, z + 1 + (x.fWait.length : Int), by omega, by go_num, by go_num, Lib.hid (by rw [HZN.out]; have h1 := HZ.out; have h2 : cntMutex x = 1 + (x.fWait.length : Int) := rfl; omega), hshut, ht⟩
      case measure => simp [intOf]; omega
    · go_wp2_with fail
      go_ret
      obtain rfl : j = n := by omega
      have e1 : xs.take j = xs := List.take_of_length_le (by rw [HL.out]; exact Nat.le_refl _)
      have hz := HZ.out
      rw [e1] at hown hz
      rw [List.drop_of_length_le (by rw [HL.out]; exact Nat.le_refl _), List.append_nil] at hown
      exact ⟨by rw [← hz]; rfl, hown, ht⟩

/-- How many marks it takes where it stands by itself: its slices alone; and what it is then. -/
def vcntMutex (x : DMutex) : Int := (x.fWait.length : Int)
def mkvMutex (k : Int) (x : DMutex) : DMutex := ⟨x.fOwner, marksInt k x.fWait.length⟩

end Go.Proofs.YtghkdkagnibkgaaGreatDoor

namespace Go.Proofs.YtghkdkagnibkgaaGreatDoor
set_option linter.unusedSimpArgs false
set_option linter.unusedVariables false
open Go.RowKit

theorem unownEng {w : World} {F : Nat → Prop} {x : DEng} {vs : List Value} (h : layEng.own w F x vs) : ∃ (A0 : Option Addr) (n0 c0 : Nat) (F0 : Nat → Prop) (A1 : Option Addr) (n1 c1 : Nat) (F1 : Nat → Prop) (A2 : Option Addr) (n2 c2 : Nat) (F2 : Nat → Prop), vs = [.slice A0 n0 c0, .slice A1 n1 c1, .slice A2 n2 c2] ∧ (OwnR layGor 65 w F0 A0 n0 c0 x.fGs ∧ ∀ g, F0 g → F g) ∧ (OwnR layChan 124 w F1 A1 n1 c1 x.fChans ∧ ∀ g, F1 g → F g) ∧ (OwnR layMutex 91 w F2 A2 n2 c2 x.fMus ∧ ∀ g, F2 g → F g) ∧ (∀ g, F0 g → ¬ F1 g) ∧ (∀ g, F0 g → ¬ F2 g) ∧ (∀ g, F1 g → ¬ F2 g) := by
  obtain ⟨_, _, F0, R1, rfl, s0, ⟨_, _, F1, R2, rfl, s1, s2, k1, r1, d1⟩, k0, r0, d0⟩ := h
  obtain ⟨A0, n0, c0, rfl, h0⟩ := s0
  obtain ⟨A1, n1, c1, rfl, h1⟩ := s1
  obtain ⟨A2, n2, c2, rfl, h2⟩ := s2
  exact ⟨A0, n0, c0, F0, A1, n1, c1, F1, A2, n2, c2, R2, rfl, ⟨h0, (fun g h => k0 g h)⟩, ⟨h1, (fun g h => r0 g (k1 g h))⟩, ⟨h2, (fun g h => r0 g (r1 g h))⟩, (fun g hi hj => d0 g hi ((fun g h => k1 g h) g hj)), (fun g hi hj => d0 g hi ((fun g h => r1 g h) g hj)), (fun g hi hj => d1 g hi ((fun g h => h) g hj))⟩

/-- How many marks it takes; what it is, marked from z on. -/
def cntEng (x : DEng) : Int := (x.fGs.map cntGor).sum + (x.fChans.map cntChan).sum + (x.fMus.map cntMutex).sum
def mkEng (z : Int) (x : DEng) : DEng := ⟨marksGor z x.fGs, marksChan (z + (x.fGs.map cntGor).sum) x.fChans, marksMutex (z + (x.fGs.map cntGor).sum + (x.fChans.map cntChan).sum) x.fMus⟩
def marksEng : Int → List DEng → List DEng
  | _, [] => []
  | z, x :: r => mkEng z x :: marksEng (z + cntEng x) r
/-- The call marks the row: blocks that F holds turn alone. -/
def MarkedEng (w : World) (F : Nat → Prop) (e : TypeId) (A : Option Addr) (n c : Nat) (k : Int) (xs : List DEng) (en : Ending) (w' : World) : Prop :=
  en = .returned (.int .i64 (k + (xs.map cntEng).sum)) ∧ OwnR layEng e w' F A n c (marksEng k xs) ∧ TurnedF F w w'

/-- How many marks it takes where it stands by itself: its slices alone; and what it is then. -/
def vcntEng (x : DEng) : Int := (x.fGs.map cntGor).sum + (x.fChans.map cntChan).sum + (x.fMus.map cntMutex).sum
def mkvEng (k : Int) (x : DEng) : DEng := ⟨marksGor k x.fGs, marksChan (k + (x.fGs.map cntGor).sum) x.fChans, marksMutex (k + (x.fGs.map cntGor).sum + (x.fChans.map cntChan).sum) x.fMus⟩

set_option maxRecDepth 100000 in
set_option maxHeartbeats 2000000 in
theorem markEng_any {w : World} {F : Nat → Prop} {x : DEng} {vs : List Value} {k : Int} (h : layEng.own w F x vs) (hF : ∀ g, F g → g < w.heap.size) (hs : szEng x ≤ 1048576) (hk0 : 0 ≤ k) (hk : k + vcntEng x ≤ 16777216) :
    Calls Tryz.prog 16 #[.agg vs.toArray, .int .i64 k] w fun e w' => e = .returned (.int .i64 (k + vcntEng x)) ∧ layEng.own w' F (mkvEng k x) vs ∧ TurnedF F w w' := by
  obtain ⟨A0, n0, c0, F0, A1, n1, c1, F1, A2, n2, c2, F2, rfl, ⟨o0, k0⟩, ⟨o1, k1⟩, ⟨o2, k2⟩, d0_1, d0_2, d1_2⟩ := unownEng h
  have l0 := o0.1
  subst l0
  have hq0 := sum_pos cntGor_pos x.fGs
  have l1 := o1.1
  subst l1
  have hq1 := sum_pos cntChan_pos x.fChans
  have l2 := o2.1
  subst l2
  have hq2 := sum_pos cntMutex_pos x.fMus
  unfold szEng at hs
  have hk2 := hk
  unfold vcntEng at hk2
  have hs0 : ∀ y ∈ x.fGs, szGor y ≤ 1048576 := fun y hy => by have := sum_mem_le szGor hy; omega
  have hs1 : ∀ y ∈ x.fChans, szChan y ≤ 1048576 := fun y hy => by have := sum_mem_le szChan hy; omega
  have hs2 : ∀ y ∈ x.fMus, szMutex y ≤ 1048576 := fun y hy => by have := sum_mem_le szMutex hy; omega
  have HV := Lib.hid (show vcntEng x = vcntEng x from rfl)
  unfold vcntEng at HV
  clear hk h
  have ht : TurnedF F w (w.alloc (.cells #[.slice A0 x.fGs.length c0, .slice A1 x.fChans.length c1, .slice A2 x.fMus.length c2] 44)) := TurnedF.of_below ((Below.refl _ _).alloc (Nat.le_refl _) _) F
  replace o0 := o0.stay (w' := (w.alloc (.cells #[.slice A0 x.fGs.length c0, .slice A1 x.fChans.length c1, .slice A2 x.fMus.length c2] 44))) (fun b _ hlt => Below.heap_alloc w _ b hlt) (by simp)
  replace o1 := o1.stay (w' := (w.alloc (.cells #[.slice A0 x.fGs.length c0, .slice A1 x.fChans.length c1, .slice A2 x.fMus.length c2] 44))) (fun b _ hlt => Below.heap_alloc w _ b hlt) (by simp)
  replace o2 := o2.stay (w' := (w.alloc (.cells #[.slice A0 x.fGs.length c0, .slice A1 x.fChans.length c1, .slice A2 x.fMus.length c2] 44))) (fun b _ hlt => Below.heap_alloc w _ b hlt) (by simp)
  have hbx : ∀ o, (w.alloc (.cells #[.slice A0 x.fGs.length c0, .slice A1 x.fChans.length c1, .slice A2 x.fMus.length c2] 44)).cell? ⟨w.heap.size, o, none⟩ = (w.alloc (.cells #[.slice A0 x.fGs.length c0, .slice A1 x.fChans.length c1, .slice A2 x.fMus.length c2] 44)).cell? ⟨w.heap.size, o, none⟩ := fun _ => rfl
  have hz0 : w.heap.size < (w.alloc (.cells #[.slice A0 x.fGs.length c0, .slice A1 x.fChans.length c1, .slice A2 x.fMus.length c2] 44)).heap.size := by simp
  clear hbx
  go_enter Tryz.func16, Tryz.ntmps16
  go_wp2_with fail
  refine (markGorS_any (F := F0) o0 (by omega) (fun y hy => Nat.le_trans (hs0 y hy) (by decide)) (by omega) (by omega)).mono ?_
  rintro e w1 ⟨rfl, q0, t0⟩
  have hz1 : w.heap.size < w1.heap.size := Nat.lt_of_lt_of_le hz0 t0.size
  have hb1 : w1.heap[w.heap.size]? = (w.alloc (.cells #[.slice A0 x.fGs.length c0, .slice A1 x.fChans.length c1, .slice A2 x.fMus.length c2] 44)).heap[w.heap.size]? := t0.block _ hz0 (fun hb => Nat.lt_irrefl _ (hF _ (k0 _ hb)))
  have hcl1 : ∀ o, w1.cell? ⟨w.heap.size, o, none⟩ = (w.alloc (.cells #[.slice A0 x.fGs.length c0, .slice A1 x.fChans.length c1, .slice A2 x.fMus.length c2] 44)).cell? ⟨w.heap.size, o, none⟩ := fun o => World.cell?_of_block hb1
  replace ht := ht.trans (t0.wide k0)
  replace o1 := o1.turnedF t0 (fun b hb hb2 => d0_1 b hb2 hb)
  replace o2 := o2.turnedF t0 (fun b hb hb2 => d0_2 b hb2 hb)
  clear t0
  go_wp2_with fail
  refine (markChanS_any (F := F1) o1 (by omega) (fun y hy => Nat.le_trans (hs1 y hy) (by decide)) (by omega) (by omega)).mono ?_
  rintro e w2 ⟨rfl, q1, t1⟩
  have hz2 : w.heap.size < w2.heap.size := Nat.lt_of_lt_of_le hz1 t1.size
  have hb2 : w2.heap[w.heap.size]? = w1.heap[w.heap.size]? := t1.block _ hz1 (fun hb => Nat.lt_irrefl _ (hF _ (k1 _ hb)))
  replace hb2 := hb2.trans hb1
  have hcl2 : ∀ o, w2.cell? ⟨w.heap.size, o, none⟩ = (w.alloc (.cells #[.slice A0 x.fGs.length c0, .slice A1 x.fChans.length c1, .slice A2 x.fMus.length c2] 44)).cell? ⟨w.heap.size, o, none⟩ := fun o => World.cell?_of_block hb2
  replace ht := ht.trans (t1.wide k1)
  replace o2 := o2.turnedF t1 (fun b hb hb2 => d1_2 b hb2 hb)
  replace q0 := q0.turnedF t1 (fun b hb hb2 => d0_1 b hb hb2)
  clear t1
  go_wp2_with fail
  refine (markMutexS_any (F := F2) o2 (by omega) (fun y hy => Nat.le_trans (hs2 y hy) (by decide)) (by omega) (by omega)).mono ?_
  rintro e w3 ⟨rfl, q2, t2⟩
  have hz3 : w.heap.size < w3.heap.size := Nat.lt_of_lt_of_le hz2 t2.size
  have hb3 : w3.heap[w.heap.size]? = w2.heap[w.heap.size]? := t2.block _ hz2 (fun hb => Nat.lt_irrefl _ (hF _ (k2 _ hb)))
  replace hb3 := hb3.trans hb2
  have hcl3 : ∀ o, w3.cell? ⟨w.heap.size, o, none⟩ = (w.alloc (.cells #[.slice A0 x.fGs.length c0, .slice A1 x.fChans.length c1, .slice A2 x.fMus.length c2] 44)).cell? ⟨w.heap.size, o, none⟩ := fun o => World.cell?_of_block hb3
  replace ht := ht.trans (t2.wide k2)
  replace q0 := q0.turnedF t2 (fun b hb hb2 => d0_2 b hb hb2)
  replace q1 := q1.turnedF t2 (fun b hb hb2 => d1_2 b hb hb2)
  clear t2
  go_wp2_with fail
  go_ret
  exact ⟨by unfold vcntEng; go_num, ownEng (x := mkvEng k x) q0 q1 q2 k0 k1 k2 d0_1 d0_2 d1_2, ht⟩

end Go.Proofs.YtghkdkagnibkgaaGreatDoor

namespace Go.Proofs.YtghkdkagnibkgaaGreatDoor
set_option linter.unusedSimpArgs false
set_option linter.unusedVariables false
open Go.RowKit

theorem sum_bound {α : Type} {f : α → Int} {s : α → Nat} {a b : Int} (h : ∀ x, f x ≤ a + b * (s x : Int)) : ∀ l : List α, (l.map f).sum ≤ a * (l.length : Int) + b * ((l.map s).sum : Nat)
  | [] => by simp
  | x :: l => by
    have h1 := sum_bound h l
    have h2 := h x
    simp only [List.map_cons, List.sum_cons, List.length_cons, Int.natCast_add, Int.mul_add]
    omega
theorem vcntEng_le {x : DEng} (h : szEng x ≤ 1048580) : 0 ≤ vcntEng x ∧ vcntEng x ≤ 8388700 := by
  have g1 := sum_bound (f := cntGor) (s := szGor) (a := 4) (b := 4) (fun g => by unfold cntGor szGor; omega) x.fGs
  have g2 := sum_bound (f := cntChan) (s := szChan) (a := 4) (b := 4) (fun g => by unfold cntChan szChan; omega) x.fChans
  have g3 := sum_bound (f := cntMutex) (s := szMutex) (a := 4) (b := 4) (fun g => by unfold cntMutex szMutex; omega) x.fMus
  have p1 := sum_pos cntGor_pos x.fGs
  have p2 := sum_pos cntChan_pos x.fChans
  have p3 := sum_pos cntMutex_pos x.fMus
  unfold szEng at h
  unfold vcntEng
  omega
end Go.Proofs.YtghkdkagnibkgaaGreatDoor

namespace Go.Proofs.YtghkdkagnibkgaaGreatDoor
set_option linter.unusedSimpArgs false
set_option linter.unusedVariables false
open Go.RowKit

/-- The mark of z. -/
def mkCase (z : Int) : DCase := ⟨z % 3 == 0, (z + 1), (z + 1 + 1), (z + 1 + 1 + 1), (z + 1 + 1 + 1 + 1)⟩
def marksCase (k : Int) (n : Nat) : List DCase := (List.range n).map fun (i : Nat) => mkCase (k + 5 * (i : Int))
theorem marksCase_step {xs : List DCase} {k : Int} {n j : Nat} (hl : xs.length = n) (hj : j < n) :
    (marksCase k j ++ xs.drop j).set j (mkCase (k + 5 * (j : Int))) = marksCase k (j + 1) ++ xs.drop (j + 1) := by
  apply List.ext_getElem?
  intro i
  simp only [marksCase, List.getElem?_set, List.getElem?_map, List.getElem?_append, List.length_map, List.length_append, List.length_range, List.length_drop, List.getElem?_drop]
  rcases Nat.lt_trichotomy i j with h | h | h
  · simp [show ¬ j = i from by omega, h, show i < j + 1 from by omega]
  · subst h
    simp [show i < i + (xs.length - i) from by omega]
  · simp [show ¬ j = i from by omega, show ¬ i < j from by omega, show ¬ i < j + 1 from by omega, show j + (i - j) = i from by omega, show j + 1 + (i - (j + 1)) = i from by omega]

/-- The call marks the row: blocks that F holds turn alone. -/
def MarkedCase (w : World) (F : Nat → Prop) (e : TypeId) (A : Option Addr) (n c : Nat) (k : Int) (en : Ending) (w' : World) : Prop :=
  en = .returned (.int .i64 (k + 5 * (n : Int))) ∧ OwnR layCase e w' F A n c (marksCase k n) ∧ TurnedF F w w'

set_option maxRecDepth 100000 in
set_option maxHeartbeats 1000000 in
theorem markCaseS_any {w : World} {F : Nat → Prop} {e : TypeId} {A : Option Addr} {n c : Nat} {k : Int} {xs : List DCase} (h : OwnR layCase e w F A n c xs) (hn : n ≤ 1048576) (hk0 : 0 ≤ k) (hk : k ≤ 16777216) :
    Calls Tryz.prog 73 #[.slice A n c, .int .i64 k] w (MarkedCase w F e A n c k) := by
  have HL := Lib.hid h.1
  go_enter Tryz.func73, Tryz.ntmps73
  go_wp2_with fail
  go_loopw [1, 5] (fun q i wr => ∃ j : Nat, j ≤ n ∧ i = .int .i64 j ∧ q = .int .i64 (k + 5 * (j : Int)) ∧ OwnR layCase e wr F A n c (marksCase k j ++ xs.drop j) ∧ TurnedF F w wr) (fun _ i _ => n - (intOf i).toNat)
  case atStart => exact ⟨0, Nat.zero_le _, rfl, by simp, by simpa [marksCase] using h, TurnedF.refl _ _⟩
  case round =>
    obtain ⟨j, hj, rfl, rfl, hown, ht⟩ := hrel
    by_cases hlt : j < n
    · obtain ⟨hx, g, G, vs, rfl, hFg, hGg, hGF, hgs, ⟨rfl, hw⟩, hcell, hfr, hput⟩ := hown.focus hlt
      have cc0 := hcell 0 _ (by decide) rfl
      have ff0 := hfr (j * (layCase).size + 0)
      have cc1 := hcell 1 _ (by decide) rfl
      have ff1 := hfr (j * (layCase).size + 1)
      have cc2 := hcell 2 _ (by decide) rfl
      have ff2 := hfr (j * (layCase).size + 2)
      have cc3 := hcell 3 _ (by decide) rfl
      have ff3 := hfr (j * (layCase).size + 3)
      have cc4 := hcell 4 _ (by decide) rfl
      have ff4 := hfr (j * (layCase).size + 4)
      simp only [show (layCase).size = 5 from rfl, Nat.add_zero, Nat.mul_one] at cc0 ff0 cc1 ff1 cc2 ff2 cc3 ff3 cc4 ff4
      generalize (marksCase k j ++ xs.drop j)[j] = x at *
      clear hcell hfr hw
      have hz0 : 0 ≤ k + 5 * (j : Int) := by omega
      have hz1 : k + 5 * (j : Int) ≤ 33554432 := by omega
      have HZ := Lib.hid (show k + 5 * (j : Int) + 5 = k + 5 * ((j + 1 : Nat) : Int) by omega)
      have HST := Lib.hid (marksCase_step (k := k) HL.out hlt)
      have HP := Lib.hid hput
      clear hput
      generalize k + 5 * (j : Int) = z at *
      go_wp2_with fail
      go_roundw
      case rel =>
        have hrow := HP.out (putCells wr g (j * 5) [.bool (z % 3 == 0), .int .i64 (z + 1), .int .i64 (z + 1 + 1), .int .i64 (z + 1 + 1 + 1), .int .i64 (z + 1 + 1 + 1 + 1)]) (mkCase z) [.bool (z % 3 == 0), .int .i64 (z + 1), .int .i64 (z + 1 + 1), .int .i64 (z + 1 + 1 + 1), .int .i64 (z + 1 + 1 + 1 + 1)] rfl ⟨rfl, ⟨wf_mark (z := (z + 1)) (by omega) (by omega), wf_mark (z := (z + 1 + 1)) (by omega) (by omega), wf_mark (z := (z + 1 + 1 + 1)) (by omega) (by omega), wf_mark (z := (z + 1 + 1 + 1 + 1)) (by omega) (by omega)⟩⟩ (TurnedF.put _ _ _ (TurnedF.refl _ _) (Or.inr rfl)) rfl
        rw [HST.out] at hrow
        refine ⟨j + 1, by omega, by go_num, by rw [← HZ.out]; try go_num, by first | exact hrow | simpa [putCells] using hrow, ?_⟩
        have htu : TurnedF F w (putCells wr g (j * 5) [.bool (z % 3 == 0), .int .i64 (z + 1), .int .i64 (z + 1 + 1), .int .i64 (z + 1 + 1 + 1), .int .i64 (z + 1 + 1 + 1 + 1)]) := TurnedF.put _ _ _ ht hFg
        first | exact htu | simpa [putCells] using htu
      case measure => simp [intOf]; omega
    · go_wp2_with fail
      go_ret
      obtain rfl : j = n := by omega
      refine ⟨rfl, ?_, ht⟩
      rw [List.drop_of_length_le (by rw [HL.out]; exact Nat.le_refl _), List.append_nil] at hown
      exact hown

end Go.Proofs.YtghkdkagnibkgaaGreatDoor

namespace Go.Proofs.YtghkdkagnibkgaaGreatDoor
set_option linter.unusedSimpArgs false
set_option linter.unusedVariables false
open Go.RowKit

theorem unownSelect {w : World} {F : Nat → Prop} {x : DSelect} {vs : List Value} (h : laySelect.own w F x vs) : ∃ (A0 : Option Addr) (n0 c0 : Nat) (F0 : Nat → Prop), vs = [.slice A0 n0 c0, .int .i64 x.fElse] ∧ (OwnR layCase 89 w F0 A0 n0 c0 x.fCases ∧ ∀ g, F0 g → F g) ∧ (Lit.int .i64 x.fElse).wf = true := by
  obtain ⟨_, _, F0, R1, rfl, s0, s1, k0, r0, d0⟩ := h
  obtain ⟨A0, n0, c0, rfl, h0⟩ := s0
  obtain ⟨rfl, h1⟩ := s1
  exact ⟨A0, n0, c0, F0, rfl, ⟨h0, (fun g h => k0 g h)⟩, h1⟩

/-- How many marks it takes; what it is, marked from z on. -/
def cntSelect (x : DSelect) : Int := (5 * (x.fCases.length : Int)) + 1
def mkSelect (z : Int) (x : DSelect) : DSelect := ⟨marksCase z x.fCases.length, z + (5 * (x.fCases.length : Int))⟩
def marksSelect : Int → List DSelect → List DSelect
  | _, [] => []
  | z, x :: r => mkSelect z x :: marksSelect (z + cntSelect x) r
theorem marksSelect_length (l : List DSelect) : ∀ z, (marksSelect z l).length = l.length := by
  induction l with
  | nil => intro z; rfl
  | cons x l ih => intro z; simp [marksSelect, ih]
theorem marksSelect_snoc (l : List DSelect) (x : DSelect) : ∀ z, marksSelect z (l ++ [x]) = marksSelect z l ++ [mkSelect (z + (l.map cntSelect).sum) x] := by
  induction l with
  | nil => intro z; simp [marksSelect]
  | cons y l ih => intro z; simp [marksSelect, ih, Int.add_assoc]
theorem marksSelect_step {xs : List DSelect} {k : Int} {j : Nat} {x : DSelect} (hx : xs[j]? = some x) :
    (marksSelect k (xs.take j) ++ xs.drop j).set j (mkSelect (k + ((xs.take j).map cntSelect).sum) x) = marksSelect k (xs.take (j + 1)) ++ xs.drop (j + 1) := by
  obtain ⟨hj, rfl⟩ := List.getElem?_eq_some_iff.1 hx
  have hl : (marksSelect k (xs.take j)).length = j := by rw [marksSelect_length, List.length_take]; omega
  rw [List.take_succ_eq_append_getElem hj, marksSelect_snoc, List.drop_eq_getElem_cons hj, List.set_append, if_neg (by omega), hl, Nat.sub_self, List.set_cons_zero, List.append_assoc]
  rfl

theorem cntSelect_pos (x : DSelect) : 0 ≤ cntSelect x := by
  unfold cntSelect
  omega

/-- The call marks the row: blocks that F holds turn alone. -/
def MarkedSelect (w : World) (F : Nat → Prop) (e : TypeId) (A : Option Addr) (n c : Nat) (k : Int) (xs : List DSelect) (en : Ending) (w' : World) : Prop :=
  en = .returned (.int .i64 (k + (xs.map cntSelect).sum)) ∧ OwnR laySelect e w' F A n c (marksSelect k xs) ∧ TurnedF F w w'

set_option maxRecDepth 100000 in
set_option maxHeartbeats 2000000 in
theorem markSelectS_any {w : World} {F : Nat → Prop} {e : TypeId} {A : Option Addr} {n c : Nat} {k : Int} {xs : List DSelect} (h : OwnR laySelect e w F A n c xs) (hn : n ≤ 1048576) (hs : ∀ x ∈ xs, szSelect x ≤ 1048576) (hk0 : 0 ≤ k) (hk : k + (xs.map cntSelect).sum ≤ 16777216) :
    Calls Tryz.prog 46 #[.slice A n c, .int .i64 k] w (MarkedSelect w F e A n c k xs) := by
  have HL := Lib.hid h.1
  have HK := Lib.hid hk
  clear hk
  go_enter Tryz.func46, Tryz.ntmps46
  go_wp2_with fail
  go_loopw [1, 5] (fun q i wr => ∃ (j : Nat) (z : Int), j ≤ n ∧ i = .int .i64 j ∧ q = .int .i64 z ∧ Hid (z = k + ((xs.take j).map cntSelect).sum) ∧ OwnR laySelect e wr F A n c (marksSelect k (xs.take j) ++ xs.drop j) ∧ TurnedF F w wr) (fun _ i _ => n - (intOf i).toNat)
  case atStart => exact ⟨0, k, Nat.zero_le _, rfl, rfl, Lib.hid (by simp), by simpa [marksSelect] using h, TurnedF.refl _ _⟩
  case round =>
    obtain ⟨j, z, hj, rfl, rfl, HZ, hown, ht⟩ := hrel
    by_cases hlt : j < n
    · obtain ⟨hx, g, G, us, rfl, hgs, hrow, hel⟩ := hown.open_ hlt
      have hxj : j < xs.length := by rw [HL.out]; exact hlt
      have he : (marksSelect k (xs.take j) ++ xs.drop j)[j] = xs[j] := by
        have hm : (marksSelect k (xs.take j)).length = j := by rw [marksSelect_length, List.length_take]; omega
        rw [List.getElem_append_right (by omega)]
        simp [hm]
      rw [he] at hel
      clear he hown hx
      have hdk := Lib.hid (List.getElem?_eq_getElem hxj)
      have hsx := hs _ (List.getElem_mem hxj)
      have hz0 : 0 ≤ z := by have := sum_pos cntSelect_pos (xs.take j); have := HZ.out; omega
      have hcx : z + cntSelect xs[j] ≤ 16777216 := by
        have h1 := sum_upto cntSelect_pos hdk.out
        have := HZ.out
        have := HK.out
        omega
      have HST := Lib.hid (marksSelect_step (k := k) hdk.out)
      have HZN := Lib.hid (sum_next cntSelect hdk.out)
      rw [← HZ.out] at HST
      generalize xs[j] = x at *
      clear hxj
      obtain ⟨A0, n0, c0, F0, rfl, ⟨o0, k0⟩, hw1⟩ := unownSelect hel
      have l0 := o0.1
      subst l0
      have hg0 : ¬ F0 g := fun h => hrow.not (k0 g h)
      unfold szSelect at hsx
      unfold cntSelect at hcx
      have cc0 : wr.cell? ⟨g, j * 2 + 0, none⟩ = some (.slice A0 x.fCases.length c0) := hrow.cell (j := 0) rfl (by decide)
      have cc1 : wr.cell? ⟨g, j * 2 + 1, none⟩ = some (.int .i64 x.fElse) := hrow.cell (j := 1) rfl (by decide)
      have ff := hrow.free
      simp only [Nat.add_zero, Nat.mul_one] at cc0 cc1
      go_wp2_with fail
      refine (markCaseS_any (F := F0) (by exact o0) (by omega) (by omega) (by omega)).mono ?_
      rintro e w1 ⟨rfl, q0, t0⟩
      have ht1 := ht.trans (t0.wide fun b hb => hrow.inF b (k0 b hb))
      have hrow1 := OpenRow.turned hrow t0 k0
      clear hrow ht t0 cc0 cc1 ff
      have hrow := hrow1
      clear hrow1
      have ht := ht1
      clear ht1
      clear o0
      have o0 := q0
      clear q0
      have cc0 : w1.cell? ⟨g, j * 2 + 0, none⟩ = some (.slice A0 x.fCases.length c0) := hrow.cell (j := 0) rfl (by decide)
      have cc1 : w1.cell? ⟨g, j * 2 + 1, none⟩ = some (.int .i64 x.fElse) := hrow.cell (j := 1) rfl (by decide)
      have ff := hrow.free
      simp only [Nat.add_zero, Nat.mul_one] at cc0 cc1
      go_wp2_with fail
      go_roundw
      case rel =>
        have hshut := OpenRow.shut (hrow.set_ (o := 1) (by decide) (.int .i64 (z + 5 * (x.fCases.length : Int)))) (x' := mkSelect z x) (ownSelect (OwnR.setCell (o := j * 2 + 1) o0 hg0 (.int .i64 (z + 5 * (x.fCases.length : Int)))) (wf_mark (z := z + 5 * (x.fCases.length : Int)) (by omega) (by omega)) k0)
        rw [HST.out] at hshut
        exact ⟨j + 1, z + 5 * (x.fCases.length : Int) + 1, by omega, by go_num, by go_num, Lib.hid (by rw [HZN.out]; have h1 := HZ.out; have h2 : cntSelect x = 5 * (x.fCases.length : Int) + 1 := rfl; omega), by first | exact hshut | (simp only [Int.add_mul_emod_self_left] at hshut; exact hshut), (ht.setCell (p := ⟨g, j * 2 + 1, none⟩) hrow.here _)⟩
      case measure => simp [intOf]; omega
    · go_wp2_with fail
      go_ret
      obtain rfl : j = n := by omega
      have e1 : xs.take j = xs := List.take_of_length_le (by rw [HL.out]; exact Nat.le_refl _)
      have hz := HZ.out
      rw [e1] at hown hz
      rw [List.drop_of_length_le (by rw [HL.out]; exact Nat.le_refl _), List.append_nil] at hown
      exact ⟨by rw [← hz]; rfl, hown, ht⟩

/-- How many marks it takes where it stands by itself: its slices alone; and what it is then. -/
def vcntSelect (x : DSelect) : Int := 5 * (x.fCases.length : Int)
def mkvSelect (k : Int) (x : DSelect) : DSelect := ⟨marksCase k x.fCases.length, x.fElse⟩

end Go.Proofs.YtghkdkagnibkgaaGreatDoor

namespace Go.Proofs.YtghkdkagnibkgaaGreatDoor
set_option linter.unusedSimpArgs false
set_option linter.unusedVariables false
open Go.RowKit

/-- The mark of z. -/
def mkInstr (z : Int) : DInstr := ⟨z, (z + 1), (z + 1 + 1), (z + 1 + 1 + 1)⟩
def marksInstr (k : Int) (n : Nat) : List DInstr := (List.range n).map fun (i : Nat) => mkInstr (k + 4 * (i : Int))
theorem marksInstr_step {xs : List DInstr} {k : Int} {n j : Nat} (hl : xs.length = n) (hj : j < n) :
    (marksInstr k j ++ xs.drop j).set j (mkInstr (k + 4 * (j : Int))) = marksInstr k (j + 1) ++ xs.drop (j + 1) := by
  apply List.ext_getElem?
  intro i
  simp only [marksInstr, List.getElem?_set, List.getElem?_map, List.getElem?_append, List.length_map, List.length_append, List.length_range, List.length_drop, List.getElem?_drop]
  rcases Nat.lt_trichotomy i j with h | h | h
  · simp [show ¬ j = i from by omega, h, show i < j + 1 from by omega]
  · subst h
    simp [show i < i + (xs.length - i) from by omega]
  · simp [show ¬ j = i from by omega, show ¬ i < j from by omega, show ¬ i < j + 1 from by omega, show j + (i - j) = i from by omega, show j + 1 + (i - (j + 1)) = i from by omega]

/-- The call marks the row: blocks that F holds turn alone. -/
def MarkedInstr (w : World) (F : Nat → Prop) (e : TypeId) (A : Option Addr) (n c : Nat) (k : Int) (en : Ending) (w' : World) : Prop :=
  en = .returned (.int .i64 (k + 4 * (n : Int))) ∧ OwnR layInstr e w' F A n c (marksInstr k n) ∧ TurnedF F w w'

set_option maxRecDepth 100000 in
set_option maxHeartbeats 1000000 in
theorem markInstrS_any {w : World} {F : Nat → Prop} {e : TypeId} {A : Option Addr} {n c : Nat} {k : Int} {xs : List DInstr} (h : OwnR layInstr e w F A n c xs) (hn : n ≤ 1048576) (hk0 : 0 ≤ k) (hk : k ≤ 16777216) :
    Calls Tryz.prog 74 #[.slice A n c, .int .i64 k] w (MarkedInstr w F e A n c k) := by
  have HL := Lib.hid h.1
  go_enter Tryz.func74, Tryz.ntmps74
  go_wp2_with fail
  go_loopw [1, 5] (fun q i wr => ∃ j : Nat, j ≤ n ∧ i = .int .i64 j ∧ q = .int .i64 (k + 4 * (j : Int)) ∧ OwnR layInstr e wr F A n c (marksInstr k j ++ xs.drop j) ∧ TurnedF F w wr) (fun _ i _ => n - (intOf i).toNat)
  case atStart => exact ⟨0, Nat.zero_le _, rfl, by simp, by simpa [marksInstr] using h, TurnedF.refl _ _⟩
  case round =>
    obtain ⟨j, hj, rfl, rfl, hown, ht⟩ := hrel
    by_cases hlt : j < n
    · obtain ⟨hx, g, G, vs, rfl, hFg, hGg, hGF, hgs, ⟨rfl, hw⟩, hcell, hfr, hput⟩ := hown.focus hlt
      have cc0 := hcell 0 _ (by decide) rfl
      have ff0 := hfr (j * (layInstr).size + 0)
      have cc1 := hcell 1 _ (by decide) rfl
      have ff1 := hfr (j * (layInstr).size + 1)
      have cc2 := hcell 2 _ (by decide) rfl
      have ff2 := hfr (j * (layInstr).size + 2)
      have cc3 := hcell 3 _ (by decide) rfl
      have ff3 := hfr (j * (layInstr).size + 3)
      simp only [show (layInstr).size = 4 from rfl, Nat.add_zero, Nat.mul_one] at cc0 ff0 cc1 ff1 cc2 ff2 cc3 ff3
      generalize (marksInstr k j ++ xs.drop j)[j] = x at *
      clear hcell hfr hw
      have hz0 : 0 ≤ k + 4 * (j : Int) := by omega
      have hz1 : k + 4 * (j : Int) ≤ 33554432 := by omega
      have HZ := Lib.hid (show k + 4 * (j : Int) + 4 = k + 4 * ((j + 1 : Nat) : Int) by omega)
      have HST := Lib.hid (marksInstr_step (k := k) HL.out hlt)
      have HP := Lib.hid hput
      clear hput
      generalize k + 4 * (j : Int) = z at *
      go_wp2_with fail
      go_roundw
      case rel =>
        have hrow := HP.out (putCells wr g (j * 4) [.int .i64 z, .int .i64 (z + 1), .int .i64 (z + 1 + 1), .int .i64 (z + 1 + 1 + 1)]) (mkInstr z) [.int .i64 z, .int .i64 (z + 1), .int .i64 (z + 1 + 1), .int .i64 (z + 1 + 1 + 1)] rfl ⟨rfl, ⟨wf_mark (z := z) (by omega) (by omega), wf_mark (z := (z + 1)) (by omega) (by omega), wf_mark (z := (z + 1 + 1)) (by omega) (by omega), wf_mark (z := (z + 1 + 1 + 1)) (by omega) (by omega)⟩⟩ (TurnedF.put _ _ _ (TurnedF.refl _ _) (Or.inr rfl)) rfl
        rw [HST.out] at hrow
        refine ⟨j + 1, by omega, by go_num, by rw [← HZ.out]; try go_num, by first | exact hrow | simpa [putCells] using hrow, ?_⟩
        have htu : TurnedF F w (putCells wr g (j * 4) [.int .i64 z, .int .i64 (z + 1), .int .i64 (z + 1 + 1), .int .i64 (z + 1 + 1 + 1)]) := TurnedF.put _ _ _ ht hFg
        first | exact htu | simpa [putCells] using htu
      case measure => simp [intOf]; omega
    · go_wp2_with fail
      go_ret
      obtain rfl : j = n := by omega
      refine ⟨rfl, ?_, ht⟩
      rw [List.drop_of_length_le (by rw [HL.out]; exact Nat.le_refl _), List.append_nil] at hown
      exact hown

end Go.Proofs.YtghkdkagnibkgaaGreatDoor

namespace Go.Proofs.YtghkdkagnibkgaaGreatDoor
set_option linter.unusedSimpArgs false
set_option linter.unusedVariables false
open Go.RowKit

theorem unownProc {w : World} {F : Nat → Prop} {x : DProc} {vs : List Value} (h : layProc.own w F x vs) : ∃ (A0 : Option Addr) (n0 c0 : Nat) (F0 : Nat → Prop), vs = [.slice A0 n0 c0] ∧ (OwnR layInstr 61 w F0 A0 n0 c0 x.fCode ∧ ∀ g, F0 g → F g) := by
  have s0 := h
  obtain ⟨A0, n0, c0, rfl, h0⟩ := s0
  exact ⟨A0, n0, c0, F, rfl, ⟨h0, (fun g h => h)⟩⟩

/-- How many marks it takes; what it is, marked from z on. -/
def cntProc (x : DProc) : Int := (4 * (x.fCode.length : Int))
def mkProc (z : Int) (x : DProc) : DProc := ⟨marksInstr z x.fCode.length⟩
def marksProc : Int → List DProc → List DProc
  | _, [] => []
  | z, x :: r => mkProc z x :: marksProc (z + cntProc x) r
theorem marksProc_length (l : List DProc) : ∀ z, (marksProc z l).length = l.length := by
  induction l with
  | nil => intro z; rfl
  | cons x l ih => intro z; simp [marksProc, ih]
theorem marksProc_snoc (l : List DProc) (x : DProc) : ∀ z, marksProc z (l ++ [x]) = marksProc z l ++ [mkProc (z + (l.map cntProc).sum) x] := by
  induction l with
  | nil => intro z; simp [marksProc]
  | cons y l ih => intro z; simp [marksProc, ih, Int.add_assoc]
theorem marksProc_step {xs : List DProc} {k : Int} {j : Nat} {x : DProc} (hx : xs[j]? = some x) :
    (marksProc k (xs.take j) ++ xs.drop j).set j (mkProc (k + ((xs.take j).map cntProc).sum) x) = marksProc k (xs.take (j + 1)) ++ xs.drop (j + 1) := by
  obtain ⟨hj, rfl⟩ := List.getElem?_eq_some_iff.1 hx
  have hl : (marksProc k (xs.take j)).length = j := by rw [marksProc_length, List.length_take]; omega
  rw [List.take_succ_eq_append_getElem hj, marksProc_snoc, List.drop_eq_getElem_cons hj, List.set_append, if_neg (by omega), hl, Nat.sub_self, List.set_cons_zero, List.append_assoc]
  rfl

theorem cntProc_pos (x : DProc) : 0 ≤ cntProc x := by
  unfold cntProc
  omega

/-- The call marks the row: blocks that F holds turn alone. -/
def MarkedProc (w : World) (F : Nat → Prop) (e : TypeId) (A : Option Addr) (n c : Nat) (k : Int) (xs : List DProc) (en : Ending) (w' : World) : Prop :=
  en = .returned (.int .i64 (k + (xs.map cntProc).sum)) ∧ OwnR layProc e w' F A n c (marksProc k xs) ∧ TurnedF F w w'

set_option maxRecDepth 100000 in
set_option maxHeartbeats 2000000 in
theorem markProcS_any {w : World} {F : Nat → Prop} {e : TypeId} {A : Option Addr} {n c : Nat} {k : Int} {xs : List DProc} (h : OwnR layProc e w F A n c xs) (hn : n ≤ 1048576) (hs : ∀ x ∈ xs, szProc x ≤ 1048576) (hk0 : 0 ≤ k) (hk : k + (xs.map cntProc).sum ≤ 16777216) :
    Calls Tryz.prog 47 #[.slice A n c, .int .i64 k] w (MarkedProc w F e A n c k xs) := by
  have HL := Lib.hid h.1
  have HK := Lib.hid hk
  clear hk
  go_enter Tryz.func47, Tryz.ntmps47
  go_wp2_with fail
  go_loopw [1, 5] (fun q i wr => ∃ (j : Nat) (z : Int), j ≤ n ∧ i = .int .i64 j ∧ q = .int .i64 z ∧ Hid (z = k + ((xs.take j).map cntProc).sum) ∧ OwnR layProc e wr F A n c (marksProc k (xs.take j) ++ xs.drop j) ∧ TurnedF F w wr) (fun _ i _ => n - (intOf i).toNat)
  case atStart => exact ⟨0, k, Nat.zero_le _, rfl, rfl, Lib.hid (by simp), by simpa [marksProc] using h, TurnedF.refl _ _⟩
  case round =>
    obtain ⟨j, z, hj, rfl, rfl, HZ, hown, ht⟩ := hrel
    by_cases hlt : j < n
    · obtain ⟨hx, g, G, us, rfl, hgs, hrow, hel⟩ := hown.open_ hlt
      have hxj : j < xs.length := by rw [HL.out]; exact hlt
      have he : (marksProc k (xs.take j) ++ xs.drop j)[j] = xs[j] := by
        have hm : (marksProc k (xs.take j)).length = j := by rw [marksProc_length, List.length_take]; omega
        rw [List.getElem_append_right (by omega)]
        simp [hm]
      rw [he] at hel
      clear he hown hx
      have hdk := Lib.hid (List.getElem?_eq_getElem hxj)
      have hsx := hs _ (List.getElem_mem hxj)
      have hz0 : 0 ≤ z := by have := sum_pos cntProc_pos (xs.take j); have := HZ.out; omega
      have hcx : z + cntProc xs[j] ≤ 16777216 := by
        have h1 := sum_upto cntProc_pos hdk.out
        have := HZ.out
        have := HK.out
        omega
      have HST := Lib.hid (marksProc_step (k := k) hdk.out)
      have HZN := Lib.hid (sum_next cntProc hdk.out)
      rw [← HZ.out] at HST
      generalize xs[j] = x at *
      clear hxj
      obtain ⟨A0, n0, c0, F0, rfl, ⟨o0, k0⟩⟩ := unownProc hel
      have l0 := o0.1
      subst l0
      have hg0 : ¬ F0 g := fun h => hrow.not (k0 g h)
      unfold szProc at hsx
      unfold cntProc at hcx
      have cc0 : wr.cell? ⟨g, j * 1 + 0, none⟩ = some (.slice A0 x.fCode.length c0) := hrow.cell (j := 0) rfl (by decide)
      have ff := hrow.free
      simp only [Nat.add_zero, Nat.mul_one] at cc0
      go_wp2_with fail
      refine (markInstrS_any (F := F0) (by exact o0) (by omega) (by omega) (by omega)).mono ?_
      rintro e w1 ⟨rfl, q0, t0⟩
      have ht1 := ht.trans (t0.wide fun b hb => hrow.inF b (k0 b hb))
      have hrow1 := OpenRow.turned hrow t0 k0
      clear hrow ht t0 cc0 ff
      have hrow := hrow1
      clear hrow1
      have ht := ht1
      clear ht1
      clear o0
      have o0 := q0
      clear q0
      have cc0 : w1.cell? ⟨g, j * 1 + 0, none⟩ = some (.slice A0 x.fCode.length c0) := hrow.cell (j := 0) rfl (by decide)
      have ff := hrow.free
      simp only [Nat.add_zero, Nat.mul_one] at cc0
      go_wp2_with fail
      go_roundw
      case rel =>
        have hshut := OpenRow.shut hrow (x' := mkProc z x) (ownProc o0 k0)
        rw [HST.out] at hshut
        exact ⟨j + 1, z + 4 * (x.fCode.length : Int), by omega, by go_num, by go_num, Lib.hid (by rw [HZN.out]; have h1 := HZ.out; have h2 : cntProc x = 4 * (x.fCode.length : Int) := rfl; omega), by first | exact hshut | (simp only [Int.add_mul_emod_self_left] at hshut; exact hshut), ht⟩
      case measure => simp [intOf]; omega
    · go_wp2_with fail
      go_ret
      obtain rfl : j = n := by omega
      have e1 : xs.take j = xs := List.take_of_length_le (by rw [HL.out]; exact Nat.le_refl _)
      have hz := HZ.out
      rw [e1] at hown hz
      rw [List.drop_of_length_le (by rw [HL.out]; exact Nat.le_refl _), List.append_nil] at hown
      exact ⟨by rw [← hz]; rfl, hown, ht⟩

/-- How many marks it takes where it stands by itself: its slices alone; and what it is then. -/
def vcntProc (x : DProc) : Int := 4 * (x.fCode.length : Int)
def mkvProc (k : Int) (x : DProc) : DProc := ⟨marksInstr k x.fCode.length⟩

end Go.Proofs.YtghkdkagnibkgaaGreatDoor

namespace Go.Proofs.YtghkdkagnibkgaaGreatDoor
set_option linter.unusedSimpArgs false
set_option linter.unusedVariables false
open Go.RowKit

theorem unownProg {w : World} {F : Nat → Prop} {x : DProg} {vs : List Value} (h : layProg.own w F x vs) : ∃ (A0 : Option Addr) (n0 c0 : Nat) (F0 : Nat → Prop) (A2 : Option Addr) (n2 c2 : Nat) (F2 : Nat → Prop) (A3 : Option Addr) (n3 c3 : Nat) (F3 : Nat → Prop), vs = [.slice A0 n0 c0, .int .i64 x.fMus, .slice A2 n2 c2, .slice A3 n3 c3] ∧ (OwnR Lay.int 3 w F0 A0 n0 c0 x.fCaps ∧ ∀ g, F0 g → F g) ∧ (Lit.int .i64 x.fMus).wf = true ∧ (OwnR laySelect 93 w F2 A2 n2 c2 x.fSels ∧ ∀ g, F2 g → F g) ∧ (OwnR layProc 118 w F3 A3 n3 c3 x.fProcs ∧ ∀ g, F3 g → F g) ∧ (∀ g, F0 g → ¬ F2 g) ∧ (∀ g, F0 g → ¬ F3 g) ∧ (∀ g, F2 g → ¬ F3 g) := by
  obtain ⟨_, _, F0, R1, rfl, s0, ⟨_, _, F1, R2, rfl, s1, ⟨_, _, F2, R3, rfl, s2, s3, k2, r2, d2⟩, k1, r1, d1⟩, k0, r0, d0⟩ := h
  obtain ⟨A0, n0, c0, rfl, h0⟩ := s0
  obtain ⟨rfl, h1⟩ := s1
  obtain ⟨A2, n2, c2, rfl, h2⟩ := s2
  obtain ⟨A3, n3, c3, rfl, h3⟩ := s3
  exact ⟨A0, n0, c0, F0, A2, n2, c2, F2, A3, n3, c3, R3, rfl, ⟨h0, (fun g h => k0 g h)⟩, h1, ⟨h2, (fun g h => r0 g (r1 g (k2 g h)))⟩, ⟨h3, (fun g h => r0 g (r1 g (r2 g h)))⟩, (fun g hi hj => d0 g hi ((fun g h => r1 g (k2 g h)) g hj)), (fun g hi hj => d0 g hi ((fun g h => r1 g (r2 g h)) g hj)), (fun g hi hj => d2 g hi ((fun g h => h) g hj))⟩

/-- How many marks it takes; what it is, marked from z on. -/
def cntProg (x : DProg) : Int := ((x.fCaps.length : Int)) + 1 + (x.fSels.map cntSelect).sum + (x.fProcs.map cntProc).sum
def mkProg (z : Int) (x : DProg) : DProg := ⟨marksInt z x.fCaps.length, z + ((x.fCaps.length : Int)), marksSelect (z + ((x.fCaps.length : Int)) + 1) x.fSels, marksProc (z + ((x.fCaps.length : Int)) + 1 + (x.fSels.map cntSelect).sum) x.fProcs⟩
def marksProg : Int → List DProg → List DProg
  | _, [] => []
  | z, x :: r => mkProg z x :: marksProg (z + cntProg x) r
/-- The call marks the row: blocks that F holds turn alone. -/
def MarkedProg (w : World) (F : Nat → Prop) (e : TypeId) (A : Option Addr) (n c : Nat) (k : Int) (xs : List DProg) (en : Ending) (w' : World) : Prop :=
  en = .returned (.int .i64 (k + (xs.map cntProg).sum)) ∧ OwnR layProg e w' F A n c (marksProg k xs) ∧ TurnedF F w w'

/-- How many marks it takes where it stands by itself: its slices alone; and what it is then. -/
def vcntProg (x : DProg) : Int := (x.fCaps.length : Int) + (x.fSels.map cntSelect).sum + (x.fProcs.map cntProc).sum
def mkvProg (k : Int) (x : DProg) : DProg := ⟨marksInt k x.fCaps.length, x.fMus, marksSelect (k + (x.fCaps.length : Int)) x.fSels, marksProc (k + (x.fCaps.length : Int) + (x.fSels.map cntSelect).sum) x.fProcs⟩

set_option maxRecDepth 100000 in
set_option maxHeartbeats 2000000 in
theorem markProg_any {w : World} {F : Nat → Prop} {x : DProg} {vs : List Value} {k : Int} (h : layProg.own w F x vs) (hF : ∀ g, F g → g < w.heap.size) (hs : szProg x ≤ 1048576) (hk0 : 0 ≤ k) (hk : k + vcntProg x ≤ 16777216) :
    Calls Tryz.prog 15 #[.agg vs.toArray, .int .i64 k] w fun e w' => e = .returned (.int .i64 (k + vcntProg x)) ∧ layProg.own w' F (mkvProg k x) vs ∧ TurnedF F w w' := by
  obtain ⟨A0, n0, c0, F0, A2, n2, c2, F2, A3, n3, c3, F3, rfl, ⟨o0, k0⟩, hw1, ⟨o2, k2⟩, ⟨o3, k3⟩, d0_2, d0_3, d2_3⟩ := unownProg h
  have l0 := o0.1
  subst l0
  have l2 := o2.1
  subst l2
  have hq2 := sum_pos cntSelect_pos x.fSels
  have l3 := o3.1
  subst l3
  have hq3 := sum_pos cntProc_pos x.fProcs
  unfold szProg at hs
  have hk2 := hk
  unfold vcntProg at hk2
  have hs2 : ∀ y ∈ x.fSels, szSelect y ≤ 1048576 := fun y hy => by have := sum_mem_le szSelect hy; omega
  have hs3 : ∀ y ∈ x.fProcs, szProc y ≤ 1048576 := fun y hy => by have := sum_mem_le szProc hy; omega
  have HV := Lib.hid (show vcntProg x = vcntProg x from rfl)
  unfold vcntProg at HV
  clear hk h
  have ht : TurnedF F w (w.alloc (.cells #[.slice A0 x.fCaps.length c0, .int .i64 x.fMus, .slice A2 x.fSels.length c2, .slice A3 x.fProcs.length c3] 38)) := TurnedF.of_below ((Below.refl _ _).alloc (Nat.le_refl _) _) F
  replace o0 := o0.stay (w' := (w.alloc (.cells #[.slice A0 x.fCaps.length c0, .int .i64 x.fMus, .slice A2 x.fSels.length c2, .slice A3 x.fProcs.length c3] 38))) (fun b _ hlt => Below.heap_alloc w _ b hlt) (by simp)
  replace o2 := o2.stay (w' := (w.alloc (.cells #[.slice A0 x.fCaps.length c0, .int .i64 x.fMus, .slice A2 x.fSels.length c2, .slice A3 x.fProcs.length c3] 38))) (fun b _ hlt => Below.heap_alloc w _ b hlt) (by simp)
  replace o3 := o3.stay (w' := (w.alloc (.cells #[.slice A0 x.fCaps.length c0, .int .i64 x.fMus, .slice A2 x.fSels.length c2, .slice A3 x.fProcs.length c3] 38))) (fun b _ hlt => Below.heap_alloc w _ b hlt) (by simp)
  have hbx : ∀ o, (w.alloc (.cells #[.slice A0 x.fCaps.length c0, .int .i64 x.fMus, .slice A2 x.fSels.length c2, .slice A3 x.fProcs.length c3] 38)).cell? ⟨w.heap.size, o, none⟩ = (w.alloc (.cells #[.slice A0 x.fCaps.length c0, .int .i64 x.fMus, .slice A2 x.fSels.length c2, .slice A3 x.fProcs.length c3] 38)).cell? ⟨w.heap.size, o, none⟩ := fun _ => rfl
  have hz0 : w.heap.size < (w.alloc (.cells #[.slice A0 x.fCaps.length c0, .int .i64 x.fMus, .slice A2 x.fSels.length c2, .slice A3 x.fProcs.length c3] 38)).heap.size := by simp
  clear hbx
  go_enter Tryz.func15, Tryz.ntmps15
  go_wp2_with fail
  refine (markIntS_any1 (F := F0) o0 (by omega) (by omega) (by omega)).mono ?_
  rintro e w1 ⟨rfl, q0, t0⟩
  have hz1 : w.heap.size < w1.heap.size := Nat.lt_of_lt_of_le hz0 t0.size
  have hb1 : w1.heap[w.heap.size]? = (w.alloc (.cells #[.slice A0 x.fCaps.length c0, .int .i64 x.fMus, .slice A2 x.fSels.length c2, .slice A3 x.fProcs.length c3] 38)).heap[w.heap.size]? := t0.block _ hz0 (fun hb => Nat.lt_irrefl _ (hF _ (k0 _ hb)))
  have hcl1 : ∀ o, w1.cell? ⟨w.heap.size, o, none⟩ = (w.alloc (.cells #[.slice A0 x.fCaps.length c0, .int .i64 x.fMus, .slice A2 x.fSels.length c2, .slice A3 x.fProcs.length c3] 38)).cell? ⟨w.heap.size, o, none⟩ := fun o => World.cell?_of_block hb1
  replace ht := ht.trans (t0.wide k0)
  replace o2 := o2.turnedF t0 (fun b hb hb2 => d0_2 b hb2 hb)
  replace o3 := o3.turnedF t0 (fun b hb hb2 => d0_3 b hb2 hb)
  clear t0
  go_wp2_with fail
  refine (markSelectS_any (F := F2) o2 (by omega) hs2 (by omega) (by omega)).mono ?_
  rintro e w2 ⟨rfl, q2, t2⟩
  have hz2 : w.heap.size < w2.heap.size := Nat.lt_of_lt_of_le hz1 t2.size
  have hb2 : w2.heap[w.heap.size]? = w1.heap[w.heap.size]? := t2.block _ hz1 (fun hb => Nat.lt_irrefl _ (hF _ (k2 _ hb)))
  replace hb2 := hb2.trans hb1
  have hcl2 : ∀ o, w2.cell? ⟨w.heap.size, o, none⟩ = (w.alloc (.cells #[.slice A0 x.fCaps.length c0, .int .i64 x.fMus, .slice A2 x.fSels.length c2, .slice A3 x.fProcs.length c3] 38)).cell? ⟨w.heap.size, o, none⟩ := fun o => World.cell?_of_block hb2
  replace ht := ht.trans (t2.wide k2)
  replace o3 := o3.turnedF t2 (fun b hb hb2 => d2_3 b hb2 hb)
  replace q0 := q0.turnedF t2 (fun b hb hb2 => d0_2 b hb hb2)
  clear t2
  go_wp2_with fail
  refine (markProcS_any (F := F3) o3 (by omega) hs3 (by omega) (by omega)).mono ?_
  rintro e w3 ⟨rfl, q3, t3⟩
  have hz3 : w.heap.size < w3.heap.size := Nat.lt_of_lt_of_le hz2 t3.size
  have hb3 : w3.heap[w.heap.size]? = w2.heap[w.heap.size]? := t3.block _ hz2 (fun hb => Nat.lt_irrefl _ (hF _ (k3 _ hb)))
  replace hb3 := hb3.trans hb2
  have hcl3 : ∀ o, w3.cell? ⟨w.heap.size, o, none⟩ = (w.alloc (.cells #[.slice A0 x.fCaps.length c0, .int .i64 x.fMus, .slice A2 x.fSels.length c2, .slice A3 x.fProcs.length c3] 38)).cell? ⟨w.heap.size, o, none⟩ := fun o => World.cell?_of_block hb3
  replace ht := ht.trans (t3.wide k3)
  replace q0 := q0.turnedF t3 (fun b hb hb2 => d0_3 b hb hb2)
  replace q2 := q2.turnedF t3 (fun b hb hb2 => d2_3 b hb hb2)
  clear t3
  go_wp2_with fail
  go_ret
  exact ⟨by unfold vcntProg; go_num, ownProg (x := mkvProg k x) q0 hw1 q2 q3 k0 k2 k3 d0_2 d0_3 d2_3, ht⟩

end Go.Proofs.YtghkdkagnibkgaaGreatDoor
