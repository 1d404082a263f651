
/- MInt, MWaiter, MChan, MItem, MGor, MMutex, MEng, EngL, MCase, MSelect, MInstr, MProc, MProg, merged for claims. -/

import Derived.Test.YtapbjnfopniicaaGreatDoorDInt

import Derived.Test.YtapbjnfopniicaaGreatDoorBase

import Derived.Test.YtapbjnfopniicaaGreatDoorTail

import Derived.Test.YtapbjnfopniicaaGreatDoorGDEng

import Derived.Test.YtapbjnfopniicaaGreatDoorGDProg

namespace Go.Proofs.YtapbjnfopniicaaGreatDoor
set_option linter.unusedSimpArgs false
set_option linter.unusedVariables false
open Go.RowKit

/-- The mark of z. -/
def mkInt (z : Int) : Int := z
def marksInt (k : Int) (n : Nat) : List Int := (List.range n).map fun (i : Nat) => mkInt (k + 1 * (i : Int))
theorem marksInt_length (k : Int) (n : Nat) : (marksInt k n).length = n := by simp [marksInt]
theorem marksInt_step {xs : List Int} {k : Int} {n j : Nat} (hl : xs.length = n) (hj : j < n) :
    (marksInt k j ++ xs.drop j).set j (mkInt (k + 1 * (j : Int))) = marksInt k (j + 1) ++ xs.drop (j + 1) := by
  apply List.ext_getElem?
  intro i
  simp only [marksInt, List.getElem?_set, List.getElem?_map, List.getElem?_append, List.length_map, List.length_append, List.length_range, List.length_drop, List.getElem?_drop]
  rcases Nat.lt_trichotomy i j with h | h | h
  · simp [show ¬ j = i from by omega, h, show i < j + 1 from by omega]
  · subst h
    simp [show i < i + (xs.length - i) from by omega]
  · simp [show ¬ j = i from by omega, show ¬ i < j from by omega, show ¬ i < j + 1 from by omega, show j + (i - j) = i from by omega, show j + 1 + (i - (j + 1)) = i from by omega]

/-- The call marks the row: blocks that F holds turn alone. -/
def MarkedInt (w : World) (F : Nat → Prop) (e : TypeId) (A : Option Addr) (n c : Nat) (k : Int) (en : Ending) (w' : World) : Prop :=
  en = .returned (.int .i64 (k + 1 * (n : Int))) ∧ OwnR Lay.int e w' F A n c (marksInt k n) ∧ TurnedF F w w'

set_option maxRecDepth 100000 in
set_option maxHeartbeats 1000000 in
theorem markIntS_any {w : World} {F : Nat → Prop} {e : TypeId} {A : Option Addr} {n c : Nat} {k : Int} {xs : List Int} (h : OwnR Lay.int e w F A n c xs) (hn : n ≤ 1048580) (hk0 : 0 ≤ k) (hk : k ≤ 16777216) :
    Calls Tryz.prog 36 #[.slice A n c, .int .i64 k] w (MarkedInt w F e A n c k) := by
  have HL := Lib.hid h.1
  go_enter Tryz.func36, Tryz.ntmps36
  go_wp2_with fail
  go_loopw [1, 5] (fun q i wr => ∃ j : Nat, j ≤ n ∧ i = .int .i64 j ∧ q = .int .i64 (k + 1 * (j : Int)) ∧ OwnR Lay.int e wr F A n c (marksInt k j ++ xs.drop j) ∧ TurnedF F w wr) (fun _ i _ => n - (intOf i).toNat)
  case atStart => exact ⟨0, Nat.zero_le _, rfl, by simp, by simpa [marksInt] using h, TurnedF.refl _ _⟩
  case round =>
    obtain ⟨j, hj, rfl, rfl, hown, ht⟩ := hrel
    by_cases hlt : j < n
    · obtain ⟨hx, g, G, vs, rfl, hFg, hGg, hGF, hgs, ⟨rfl, hw⟩, hcell, hfr, hput⟩ := hown.focus hlt
      have cc0 := hcell 0 _ (by decide) rfl
      have ff0 := hfr (j * (Lay.int).size + 0)
      simp only [show (Lay.int).size = 1 from rfl, Nat.add_zero, Nat.mul_one] at cc0 ff0
      generalize (marksInt k j ++ xs.drop j)[j] = x at *
      clear hcell hfr hw
      have hz0 : 0 ≤ k + 1 * (j : Int) := by omega
      have hz1 : k + 1 * (j : Int) ≤ 33554432 := by omega
      have HZ := Lib.hid (show k + 1 * (j : Int) + 1 = k + 1 * ((j + 1 : Nat) : Int) by omega)
      have HST := Lib.hid (marksInt_step (k := k) HL.out hlt)
      have HP := Lib.hid hput
      clear hput
      generalize k + 1 * (j : Int) = z at *
      go_wp2_with fail
      go_roundw
      case rel =>
        have hrow := HP.out (putCells wr g (j * 1) [.int .i64 z]) (mkInt z) [.int .i64 z] rfl ⟨rfl, wf_mark (z := z) (by omega) (by omega)⟩ (TurnedF.put _ _ _ (TurnedF.refl _ _) (Or.inr rfl)) rfl
        rw [HST.out] at hrow
        refine ⟨j + 1, by omega, by go_num, by rw [← HZ.out]; try go_num, by first | exact hrow | simpa [putCells] using hrow, ?_⟩
        have htu : TurnedF F w (putCells wr g (j * 1) [.int .i64 z]) := TurnedF.put _ _ _ ht hFg
        first | exact htu | simpa [putCells] using htu
      case measure => simp [intOf]; omega
    · go_wp2_with fail
      go_ret
      obtain rfl : j = n := by omega
      refine ⟨rfl, ?_, ht⟩
      rw [List.drop_of_length_le (by rw [HL.out]; exact Nat.le_refl _), List.append_nil] at hown
      exact hown

set_option maxRecDepth 100000 in
set_option maxHeartbeats 1000000 in
theorem heldIntS_any {w : World} {hi : Nat} {A : Option Addr} {n c : Nat} {k : Int} (h : SeenR Lay.int w hi A n (marksInt k n)) (hn : n ≤ 1048580) (hk0 : 0 ≤ k) (hk : k ≤ 16777216) :
    Calls Tryz.prog 40 #[.slice A n c, .int .i64 k] w fun e w' => e = .returned (.int .i64 (k + 1 * (n : Int))) ∧ w = w' := by
  go_enter Tryz.func40, Tryz.ntmps40
  go_wp2_with fail
  go_loop [1, 5] (fun q i => ∃ j : Nat, j ≤ n ∧ i = .int .i64 j ∧ q = .int .i64 (k + 1 * (j : Int))) (fun _ i => n - (intOf i).toNat)
  case atStart => exact ⟨0, Nat.zero_le _, rfl, by simp⟩
  case round =>
    obtain ⟨j, hj, rfl, rfl⟩ := hrel
    by_cases hlt : j < n
    · obtain ⟨hx, g, o, vs, rfl, hg, ⟨rfl, hw⟩, hcell⟩ := h.at_ hlt
      have hxe : (marksInt k n)[j] = mkInt (k + 1 * (j : Int)) := by simp [marksInt]
      rw [hxe] at hcell
      have cc0 := hcell 0 _ rfl
      simp only [show (Lay.int).size = 1 from rfl, ← Nat.add_assoc, Nat.add_zero, Nat.mul_one, mkInt] at cc0
      clear hcell hw hxe
      have hz0 : 0 ≤ k + 1 * (j : Int) := by omega
      have hz1 : k + 1 * (j : Int) ≤ 33554432 := by omega
      have HZ := Lib.hid (show k + 1 * (j : Int) + 1 = k + 1 * ((j + 1 : Nat) : Int) by omega)
      generalize k + 1 * (j : Int) = z at *
      go_wp2_with fail
      go_round
      case rel => exact ⟨j + 1, by omega, by go_num, by rw [← HZ.out]; try go_num⟩
      case measure => simp [intOf]; omega
    · go_wp2_with fail
      go_ret
      obtain rfl : j = n := by omega
      exact ⟨rfl, rfl⟩

/-- The call marks the row: blocks that F holds turn alone. -/
def MarkedTInt (w : World) (F : Nat → Prop) (e : TypeId) (A : Option Addr) (n c : Nat) (k : Int) (en : Ending) (w' : World) : Prop :=
  en = .returned (.int .i64 (k + 1 * (n : Int))) ∧ TailR Lay.int e w' F A n c (marksInt k n) ∧ TurnedF F w w'

set_option maxRecDepth 100000 in
set_option maxHeartbeats 1000000 in
theorem markIntS_tail {w : World} {F : Nat → Prop} {e : TypeId} {A : Option Addr} {n c : Nat} {k : Int} {xs : List Int} (h : TailR Lay.int e w F A n c xs) (hn : n ≤ 1048580) (hk0 : 0 ≤ k) (hk : k ≤ 16777216) :
    Calls Tryz.prog 36 #[.slice A n c, .int .i64 k] w (MarkedTInt w F e A n c k) := by
  have HL := Lib.hid h.1
  go_enter Tryz.func36, Tryz.ntmps36
  go_wp2_with fail
  go_loopw [1, 5] (fun q i wr => ∃ j : Nat, j ≤ n ∧ i = .int .i64 j ∧ q = .int .i64 (k + 1 * (j : Int)) ∧ TailR Lay.int e wr F A n c (marksInt k j ++ xs.drop j) ∧ TurnedF F w wr) (fun _ i _ => n - (intOf i).toNat)
  case atStart => exact ⟨0, Nat.zero_le _, rfl, by simp, by simpa [marksInt] using h, TurnedF.refl _ _⟩
  case round =>
    obtain ⟨j, hj, rfl, rfl, hown, ht⟩ := hrel
    by_cases hlt : j < n
    · obtain ⟨hx, g, o, G, vs, rfl, hFg, hGg, hGF, hgs, ⟨rfl, hw⟩, hcell, hfr, hput⟩ := hown.focus hlt
      have cc0 := hcell 0 _ (by decide) rfl
      have ff0 := hfr (o + (j * (Lay.int).size + 0))
      simp only [show (Lay.int).size = 1 from rfl, ← Nat.add_assoc, Nat.add_zero, Nat.mul_one] at cc0 ff0
      generalize (marksInt k j ++ xs.drop j)[j] = x at *
      clear hcell hfr hw
      have hz0 : 0 ≤ k + 1 * (j : Int) := by omega
      have hz1 : k + 1 * (j : Int) ≤ 33554432 := by omega
      have HZ := Lib.hid (show k + 1 * (j : Int) + 1 = k + 1 * ((j + 1 : Nat) : Int) by omega)
      have HST := Lib.hid (marksInt_step (k := k) HL.out hlt)
      have HP := Lib.hid hput
      clear hput
      generalize k + 1 * (j : Int) = z at *
      go_wp2_with fail
      go_roundw
      case rel =>
        have hrow := HP.out (putCells wr g (o + j * 1) [.int .i64 z]) (mkInt z) [.int .i64 z] rfl ⟨rfl, wf_mark (z := z) (by omega) (by omega)⟩ (TurnedF.put _ _ _ (TurnedF.refl _ _) (Or.inr rfl)) rfl
        rw [HST.out] at hrow
        refine ⟨j + 1, by omega, by go_num, by rw [← HZ.out]; try go_num, by first | exact hrow | simpa [putCells] using hrow, ?_⟩
        have htu : TurnedF F w (putCells wr g (o + j * 1) [.int .i64 z]) := TurnedF.put _ _ _ ht hFg
        first | exact htu | simpa [putCells] using htu
      case measure => simp [intOf]; omega
    · go_wp2_with fail
      go_ret
      obtain rfl : j = n := by omega
      refine ⟨rfl, ?_, ht⟩
      rw [List.drop_of_length_le (by rw [HL.out]; exact Nat.le_refl _), List.append_nil] at hown
      exact hown


theorem markIntS_any1 {w : World} {F : Nat → Prop} {e : TypeId} {A : Option Addr} {n c : Nat} {k : Int} {xs : List Int} (h : OwnR Lay.int e w F A n c xs) (hn : n ≤ 1048580) (hk0 : 0 ≤ k) (hk : k ≤ 16777216) :
    Calls Tryz.prog 36 #[.slice A n c, .int .i64 k] w fun en w' => en = .returned (.int .i64 (k + (n : Int))) ∧ OwnR Lay.int e w' F A n c (marksInt k n) ∧ TurnedF F w w' :=
  (markIntS_any h hn hk0 hk).mono fun en w' hm => by have h1 := hm.1; rw [Int.one_mul] at h1; exact ⟨h1, hm.2⟩
theorem markIntS_tail1 {w : World} {F : Nat → Prop} {e : TypeId} {A : Option Addr} {n c : Nat} {k : Int} {xs : List Int} (h : TailR Lay.int e w F A n c xs) (hn : n ≤ 1048580) (hk0 : 0 ≤ k) (hk : k ≤ 16777216) :
    Calls Tryz.prog 36 #[.slice A n c, .int .i64 k] w fun en w' => en = .returned (.int .i64 (k + (n : Int))) ∧ TailR Lay.int e w' F A n c (marksInt k n) ∧ TurnedF F w w' :=
  (markIntS_tail h hn hk0 hk).mono fun en w' hm => by have h1 := hm.1; rw [Int.one_mul] at h1; exact ⟨h1, hm.2⟩
theorem heldIntS_any1 {w : World} {hi : Nat} {A : Option Addr} {n c : Nat} {k : Int} (h : SeenR Lay.int w hi A n (marksInt k n)) (hn : n ≤ 1048580) (hk0 : 0 ≤ k) (hk : k ≤ 16777216) :
    Calls Tryz.prog 40 #[.slice A n c, .int .i64 k] w fun e w' => e = .returned (.int .i64 (k + (n : Int))) ∧ w = w' :=
  (heldIntS_any h hn hk0 hk).mono fun en w' hm => by have h1 := hm.1; rw [Int.one_mul] at h1; exact ⟨h1, hm.2⟩
end Go.Proofs.YtapbjnfopniicaaGreatDoor

namespace Go.Proofs.YtapbjnfopniicaaGreatDoor
set_option linter.unusedSimpArgs false
set_option linter.unusedVariables false
open Go.RowKit

/-- The mark of z. -/
def mkWaiter (z : Int) : DWaiter := ⟨z, (z + 1), (z + 1 + 1)⟩
def marksWaiter (k : Int) (n : Nat) : List DWaiter := (List.range n).map fun (i : Nat) => mkWaiter (k + 3 * (i : Int))
theorem marksWaiter_length (k : Int) (n : Nat) : (marksWaiter k n).length = n := by simp [marksWaiter]
theorem marksWaiter_step {xs : List DWaiter} {k : Int} {n j : Nat} (hl : xs.length = n) (hj : j < n) :
    (marksWaiter k j ++ xs.drop j).set j (mkWaiter (k + 3 * (j : Int))) = marksWaiter k (j + 1) ++ xs.drop (j + 1) := by
  apply List.ext_getElem?
  intro i
  simp only [marksWaiter, List.getElem?_set, List.getElem?_map, List.getElem?_append, List.length_map, List.length_append, List.length_range, List.length_drop, List.getElem?_drop]
  rcases Nat.lt_trichotomy i j with h | h | h
  · simp [show ¬ j = i from by omega, h, show i < j + 1 from by omega]
  · subst h
    simp [show i < i + (xs.length - i) from by omega]
  · simp [show ¬ j = i from by omega, show ¬ i < j from by omega, show ¬ i < j + 1 from by omega, show j + (i - j) = i from by omega, show j + 1 + (i - (j + 1)) = i from by omega]

/-- The call marks the row: blocks that F holds turn alone. -/
def MarkedWaiter (w : World) (F : Nat → Prop) (e : TypeId) (A : Option Addr) (n c : Nat) (k : Int) (en : Ending) (w' : World) : Prop :=
  en = .returned (.int .i64 (k + 3 * (n : Int))) ∧ OwnR layWaiter e w' F A n c (marksWaiter k n) ∧ TurnedF F w w'

/-- The call marks the row: blocks that F holds turn alone. -/
def MarkedTWaiter (w : World) (F : Nat → Prop) (e : TypeId) (A : Option Addr) (n c : Nat) (k : Int) (en : Ending) (w' : World) : Prop :=
  en = .returned (.int .i64 (k + 3 * (n : Int))) ∧ TailR layWaiter e w' F A n c (marksWaiter k n) ∧ TurnedF F w w'

end Go.Proofs.YtapbjnfopniicaaGreatDoor

namespace Go.Proofs.YtapbjnfopniicaaGreatDoor
set_option linter.unusedSimpArgs false
set_option linter.unusedVariables false
open Go.RowKit

/-- How many marks it takes; what it is, marked from z on. -/
def cntChan (x : DChan) : Int := 1 + ((x.fBuf.length : Int)) + (3 * (x.fSends.length : Int)) + (3 * (x.fRecvs.length : Int)) + 1
def mkChan (z : Int) (x : DChan) : DChan := ⟨z, marksInt (z + 1) x.fBuf.length, marksWaiter (z + 1 + ((x.fBuf.length : Int))) x.fSends.length, marksWaiter (z + 1 + ((x.fBuf.length : Int)) + (3 * (x.fSends.length : Int))) x.fRecvs.length, (z + 1 + ((x.fBuf.length : Int)) + (3 * (x.fSends.length : Int)) + (3 * (x.fRecvs.length : Int))) % 3 == 0⟩
def marksChan : Int → List DChan → List DChan
  | _, [] => []
  | z, x :: r => mkChan z x :: marksChan (z + cntChan x) r
theorem marksChan_length (l : List DChan) : ∀ z, (marksChan z l).length = l.length := by
  induction l with
  | nil => intro z; rfl
  | cons x l ih => intro z; simp [marksChan, ih]
theorem marksChan_snoc (l : List DChan) (x : DChan) : ∀ z, marksChan z (l ++ [x]) = marksChan z l ++ [mkChan (z + (l.map cntChan).sum) x] := by
  induction l with
  | nil => intro z; simp [marksChan]
  | cons y l ih => intro z; simp [marksChan, ih, Int.add_assoc]
theorem marksChan_step {xs : List DChan} {k : Int} {j : Nat} {x : DChan} (hx : xs[j]? = some x) :
    (marksChan k (xs.take j) ++ xs.drop j).set j (mkChan (k + ((xs.take j).map cntChan).sum) x) = marksChan k (xs.take (j + 1)) ++ xs.drop (j + 1) := by
  obtain ⟨hj, rfl⟩ := List.getElem?_eq_some_iff.1 hx
  have hl : (marksChan k (xs.take j)).length = j := by rw [marksChan_length, List.length_take]; omega
  rw [List.take_succ_eq_append_getElem hj, marksChan_snoc, List.drop_eq_getElem_cons hj, List.set_append, if_neg (by omega), hl, Nat.sub_self, List.set_cons_zero, List.append_assoc]
  rfl

theorem cntChan_pos (x : DChan) : 0 ≤ cntChan x := by
  unfold cntChan
  omega

/-- How many marks it takes where it stands by itself: its slices alone; and what it is then. -/
def vcntChan (x : DChan) : Int := (x.fBuf.length : Int) + 3 * (x.fSends.length : Int) + 3 * (x.fRecvs.length : Int)
def mkvChan (k : Int) (x : DChan) : DChan := ⟨x.fCap, marksInt k x.fBuf.length, marksWaiter (k + (x.fBuf.length : Int)) x.fSends.length, marksWaiter (k + (x.fBuf.length : Int) + 3 * (x.fSends.length : Int)) x.fRecvs.length, x.fClosed⟩

theorem marksChan_get {x : DChan} : ∀ {xs : List DChan} {k : Int} {j : Nat}, xs[j]? = some x → (marksChan k xs)[j]? = some (mkChan (k + ((xs.take j).map cntChan).sum) x)
  | [], _, _, h => by simp at h
  | y :: xs, k, 0, h => by
    simp at h
    subst h
    simp [marksChan]
  | y :: xs, k, j + 1, h => by
    have := marksChan_get (xs := xs) (k := k + cntChan y) (j := j) (by simpa using h)
    simp only [marksChan, List.getElem?_cons_succ, this, List.take_succ_cons, List.map_cons, List.sum_cons, Int.add_assoc]

end Go.Proofs.YtapbjnfopniicaaGreatDoor

namespace Go.Proofs.YtapbjnfopniicaaGreatDoor
set_option linter.unusedSimpArgs false
set_option linter.unusedVariables false
open Go.RowKit

/-- The mark of z. -/
def mkItem (z : Int) : DItem := ⟨z, (z + 1), (z + 1 + 1), (z + 1 + 1 + 1) % 3 == 0⟩
def marksItem (k : Int) (n : Nat) : List DItem := (List.range n).map fun (i : Nat) => mkItem (k + 4 * (i : Int))
theorem marksItem_length (k : Int) (n : Nat) : (marksItem k n).length = n := by simp [marksItem]
theorem marksItem_step {xs : List DItem} {k : Int} {n j : Nat} (hl : xs.length = n) (hj : j < n) :
    (marksItem k j ++ xs.drop j).set j (mkItem (k + 4 * (j : Int))) = marksItem k (j + 1) ++ xs.drop (j + 1) := by
  apply List.ext_getElem?
  intro i
  simp only [marksItem, List.getElem?_set, List.getElem?_map, List.getElem?_append, List.length_map, List.length_append, List.length_range, List.length_drop, List.getElem?_drop]
  rcases Nat.lt_trichotomy i j with h | h | h
  · simp [show ¬ j = i from by omega, h, show i < j + 1 from by omega]
  · subst h
    simp [show i < i + (xs.length - i) from by omega]
  · simp [show ¬ j = i from by omega, show ¬ i < j from by omega, show ¬ i < j + 1 from by omega, show j + (i - j) = i from by omega, show j + 1 + (i - (j + 1)) = i from by omega]

/-- The call marks the row: blocks that F holds turn alone. -/
def MarkedItem (w : World) (F : Nat → Prop) (e : TypeId) (A : Option Addr) (n c : Nat) (k : Int) (en : Ending) (w' : World) : Prop :=
  en = .returned (.int .i64 (k + 4 * (n : Int))) ∧ OwnR layItem e w' F A n c (marksItem k n) ∧ TurnedF F w w'

set_option maxRecDepth 100000 in
set_option maxHeartbeats 1000000 in
theorem markItemS_any {w : World} {F : Nat → Prop} {e : TypeId} {A : Option Addr} {n c : Nat} {k : Int} {xs : List DItem} (h : OwnR layItem e w F A n c xs) (hn : n ≤ 1048580) (hk0 : 0 ≤ k) (hk : k ≤ 16777216) :
    Calls Tryz.prog 39 #[.slice A n c, .int .i64 k] w (MarkedItem w F e A n c k) := by
  have HL := Lib.hid h.1
  go_enter Tryz.func39, Tryz.ntmps39
  go_wp2_with fail
  go_loopw [1, 5] (fun q i wr => ∃ j : Nat, j ≤ n ∧ i = .int .i64 j ∧ q = .int .i64 (k + 4 * (j : Int)) ∧ OwnR layItem e wr F A n c (marksItem k j ++ xs.drop j) ∧ TurnedF F w wr) (fun _ i _ => n - (intOf i).toNat)
  case atStart => exact ⟨0, Nat.zero_le _, rfl, by simp, by simpa [marksItem] using h, TurnedF.refl _ _⟩
  case round =>
    obtain ⟨j, hj, rfl, rfl, hown, ht⟩ := hrel
    by_cases hlt : j < n
    · obtain ⟨hx, g, G, vs, rfl, hFg, hGg, hGF, hgs, ⟨rfl, hw⟩, hcell, hfr, hput⟩ := hown.focus hlt
      have cc0 := hcell 0 _ (by decide) rfl
      have ff0 := hfr (j * (layItem).size + 0)
      have cc1 := hcell 1 _ (by decide) rfl
      have ff1 := hfr (j * (layItem).size + 1)
      have cc2 := hcell 2 _ (by decide) rfl
      have ff2 := hfr (j * (layItem).size + 2)
      have cc3 := hcell 3 _ (by decide) rfl
      have ff3 := hfr (j * (layItem).size + 3)
      simp only [show (layItem).size = 4 from rfl, Nat.add_zero, Nat.mul_one] at cc0 ff0 cc1 ff1 cc2 ff2 cc3 ff3
      generalize (marksItem k j ++ xs.drop j)[j] = x at *
      clear hcell hfr hw
      have hz0 : 0 ≤ k + 4 * (j : Int) := by omega
      have hz1 : k + 4 * (j : Int) ≤ 33554432 := by omega
      have HZ := Lib.hid (show k + 4 * (j : Int) + 4 = k + 4 * ((j + 1 : Nat) : Int) by omega)
      have HST := Lib.hid (marksItem_step (k := k) HL.out hlt)
      have HP := Lib.hid hput
      clear hput
      generalize k + 4 * (j : Int) = z at *
      go_wp2_with fail
      go_roundw
      case rel =>
        have hrow := HP.out (putCells wr g (j * 4) [.int .i64 z, .int .i64 (z + 1), .int .i64 (z + 1 + 1), .bool ((z + 1 + 1 + 1) % 3 == 0)]) (mkItem z) [.int .i64 z, .int .i64 (z + 1), .int .i64 (z + 1 + 1), .bool ((z + 1 + 1 + 1) % 3 == 0)] rfl ⟨rfl, ⟨wf_mark (z := z) (by omega) (by omega), wf_mark (z := (z + 1)) (by omega) (by omega), wf_mark (z := (z + 1 + 1)) (by omega) (by omega)⟩⟩ (TurnedF.put _ _ _ (TurnedF.refl _ _) (Or.inr rfl)) rfl
        rw [HST.out] at hrow
        refine ⟨j + 1, by omega, by go_num, by rw [← HZ.out]; try go_num, by first | exact hrow | simpa [putCells] using hrow, ?_⟩
        have htu : TurnedF F w (putCells wr g (j * 4) [.int .i64 z, .int .i64 (z + 1), .int .i64 (z + 1 + 1), .bool ((z + 1 + 1 + 1) % 3 == 0)]) := TurnedF.put _ _ _ ht hFg
        first | exact htu | simpa [putCells] using htu
      case measure => simp [intOf]; omega
    · go_wp2_with fail
      go_ret
      obtain rfl : j = n := by omega
      refine ⟨rfl, ?_, ht⟩
      rw [List.drop_of_length_le (by rw [HL.out]; exact Nat.le_refl _), List.append_nil] at hown
      exact hown

set_option maxRecDepth 100000 in
set_option maxHeartbeats 1000000 in
theorem heldItemS_any {w : World} {hi : Nat} {A : Option Addr} {n c : Nat} {k : Int} (h : SeenR layItem w hi A n (marksItem k n)) (hn : n ≤ 1048580) (hk0 : 0 ≤ k) (hk : k ≤ 16777216) :
    Calls Tryz.prog 41 #[.slice A n c, .int .i64 k] w fun e w' => e = .returned (.int .i64 (k + 4 * (n : Int))) ∧ w = w' := by
  go_enter Tryz.func41, Tryz.ntmps41
  go_wp2_with fail
  go_loop [1, 5] (fun q i => ∃ j : Nat, j ≤ n ∧ i = .int .i64 j ∧ q = .int .i64 (k + 4 * (j : Int))) (fun _ i => n - (intOf i).toNat)
  case atStart => exact ⟨0, Nat.zero_le _, rfl, by simp⟩
  case round =>
    obtain ⟨j, hj, rfl, rfl⟩ := hrel
    by_cases hlt : j < n
    · obtain ⟨hx, g, o, vs, rfl, hg, ⟨rfl, hw⟩, hcell⟩ := h.at_ hlt
      have hxe : (marksItem k n)[j] = mkItem (k + 4 * (j : Int)) := by simp [marksItem]
      rw [hxe] at hcell
      have cc0 := hcell 0 _ rfl
      have cc1 := hcell 1 _ rfl
      have cc2 := hcell 2 _ rfl
      have cc3 := hcell 3 _ rfl
      simp only [show (layItem).size = 4 from rfl, ← Nat.add_assoc, Nat.add_zero, Nat.mul_one, mkItem] at cc0 cc1 cc2 cc3
      clear hcell hw hxe
      have hz0 : 0 ≤ k + 4 * (j : Int) := by omega
      have hz1 : k + 4 * (j : Int) ≤ 33554432 := by omega
      have HZ := Lib.hid (show k + 4 * (j : Int) + 4 = k + 4 * ((j + 1 : Nat) : Int) by omega)
      generalize k + 4 * (j : Int) = z at *
      go_wp2_with fail
      go_round
      case rel => exact ⟨j + 1, by omega, by go_num, by rw [← HZ.out]; try go_num⟩
      case measure => simp [intOf]; omega
    · go_wp2_with fail
      go_ret
      obtain rfl : j = n := by omega
      exact ⟨rfl, rfl⟩

/-- The call marks the row: blocks that F holds turn alone. -/
def MarkedTItem (w : World) (F : Nat → Prop) (e : TypeId) (A : Option Addr) (n c : Nat) (k : Int) (en : Ending) (w' : World) : Prop :=
  en = .returned (.int .i64 (k + 4 * (n : Int))) ∧ TailR layItem e w' F A n c (marksItem k n) ∧ TurnedF F w w'

set_option maxRecDepth 100000 in
set_option maxHeartbeats 1000000 in
theorem markItemS_tail {w : World} {F : Nat → Prop} {e : TypeId} {A : Option Addr} {n c : Nat} {k : Int} {xs : List DItem} (h : TailR layItem e w F A n c xs) (hn : n ≤ 1048580) (hk0 : 0 ≤ k) (hk : k ≤ 16777216) :
    Calls Tryz.prog 39 #[.slice A n c, .int .i64 k] w (MarkedTItem w F e A n c k) := by
  have HL := Lib.hid h.1
  go_enter Tryz.func39, Tryz.ntmps39
  go_wp2_with fail
  go_loopw [1, 5] (fun q i wr => ∃ j : Nat, j ≤ n ∧ i = .int .i64 j ∧ q = .int .i64 (k + 4 * (j : Int)) ∧ TailR layItem e wr F A n c (marksItem k j ++ xs.drop j) ∧ TurnedF F w wr) (fun _ i _ => n - (intOf i).toNat)
  case atStart => exact ⟨0, Nat.zero_le _, rfl, by simp, by simpa [marksItem] using h, TurnedF.refl _ _⟩
  case round =>
    obtain ⟨j, hj, rfl, rfl, hown, ht⟩ := hrel
    by_cases hlt : j < n
    · obtain ⟨hx, g, o, G, vs, rfl, hFg, hGg, hGF, hgs, ⟨rfl, hw⟩, hcell, hfr, hput⟩ := hown.focus hlt
      have cc0 := hcell 0 _ (by decide) rfl
      have ff0 := hfr (o + (j * (layItem).size + 0))
      have cc1 := hcell 1 _ (by decide) rfl
      have ff1 := hfr (o + (j * (layItem).size + 1))
      have cc2 := hcell 2 _ (by decide) rfl
      have ff2 := hfr (o + (j * (layItem).size + 2))
      have cc3 := hcell 3 _ (by decide) rfl
      have ff3 := hfr (o + (j * (layItem).size + 3))
      simp only [show (layItem).size = 4 from rfl, ← Nat.add_assoc, Nat.add_zero, Nat.mul_one] at cc0 ff0 cc1 ff1 cc2 ff2 cc3 ff3
      generalize (marksItem k j ++ xs.drop j)[j] = x at *
      clear hcell hfr hw
      have hz0 : 0 ≤ k + 4 * (j : Int) := by omega
      have hz1 : k + 4 * (j : Int) ≤ 33554432 := by omega
      have HZ := Lib.hid (show k + 4 * (j : Int) + 4 = k + 4 * ((j + 1 : Nat) : Int) by omega)
      have HST := Lib.hid (marksItem_step (k := k) HL.out hlt)
      have HP := Lib.hid hput
      clear hput
      generalize k + 4 * (j : Int) = z at *
      go_wp2_with fail
      go_roundw
      case rel =>
        have hrow := HP.out (putCells wr g (o + j * 4) [.int .i64 z, .int .i64 (z + 1), .int .i64 (z + 1 + 1), .bool ((z + 1 + 1 + 1) % 3 == 0)]) (mkItem z) [.int .i64 z, .int .i64 (z + 1), .int .i64 (z + 1 + 1), .bool ((z + 1 + 1 + 1) % 3 == 0)] rfl ⟨rfl, ⟨wf_mark (z := z) (by omega) (by omega), wf_mark (z := (z + 1)) (by omega) (by omega), wf_mark (z := (z + 1 + 1)) (by omega) (by omega)⟩⟩ (TurnedF.put _ _ _ (TurnedF.refl _ _) (Or.inr rfl)) rfl
        rw [HST.out] at hrow
        refine ⟨j + 1, by omega, by go_num, by rw [← HZ.out]; try go_num, by first | exact hrow | simpa [putCells] using hrow, ?_⟩
        have htu : TurnedF F w (putCells wr g (o + j * 4) [.int .i64 z, .int .i64 (z + 1), .int .i64 (z + 1 + 1), .bool ((z + 1 + 1 + 1) % 3 == 0)]) := TurnedF.put _ _ _ ht hFg
        first | exact htu | simpa [putCells] using htu
      case measure => simp [intOf]; omega
    · go_wp2_with fail
      go_ret
      obtain rfl : j = n := by omega
      refine ⟨rfl, ?_, ht⟩
      rw [List.drop_of_length_le (by rw [HL.out]; exact Nat.le_refl _), List.append_nil] at hown
      exact hown

end Go.Proofs.YtapbjnfopniicaaGreatDoor

namespace Go.Proofs.YtapbjnfopniicaaGreatDoor
set_option linter.unusedSimpArgs false
set_option linter.unusedVariables false
open Go.RowKit

theorem unownGor {w : World} {F : Nat → Prop} {x : DGor} {vs : List Value} (h : layGor.own w F x vs) : ∃ (A2 : Option Addr) (n2 c2 : Nat) (F2 : Nat → Prop) (A4 : Option Addr) (n4 c4 : Nat) (F4 : Nat → Prop), vs = [.int .i64 x.fProc, .int .i64 x.fPc, .slice A2 n2 c2, .int .i64 x.fState, .slice A4 n4 c4] ∧ (Lit.int .i64 x.fProc).wf = true ∧ (Lit.int .i64 x.fPc).wf = true ∧ (TailR Lay.int 3 w F2 A2 n2 c2 x.fRegs ∧ ∀ g, F2 g → F g) ∧ (Lit.int .i64 x.fState).wf = true ∧ (TailR layItem 96 w F4 A4 n4 c4 x.fTrace ∧ ∀ g, F4 g → F g) ∧ (∀ g, F2 g → ¬ F4 g) := by
  obtain ⟨_, _, F0, R1, rfl, s0, ⟨_, _, F1, R2, rfl, s1, ⟨_, _, F2, R3, rfl, s2, ⟨_, _, F3, R4, rfl, s3, s4, k3, r3, d3⟩, k2, r2, d2⟩, k1, r1, d1⟩, k0, r0, d0⟩ := h
  obtain ⟨rfl, h0⟩ := s0
  obtain ⟨rfl, h1⟩ := s1
  obtain ⟨A2, n2, c2, rfl, h2⟩ := s2
  obtain ⟨rfl, h3⟩ := s3
  obtain ⟨A4, n4, c4, rfl, h4⟩ := s4
  exact ⟨A2, n2, c2, F2, A4, n4, c4, R4, rfl, h0, h1, ⟨h2, (fun g h => r0 g (r1 g (k2 g h)))⟩, h3, ⟨h4, (fun g h => r0 g (r1 g (r2 g (r3 g h))))⟩, (fun g hi hj => d2 g hi ((fun g h => r3 g h) g hj))⟩

/-- How many marks it takes; what it is, marked from z on. -/
def cntGor (x : DGor) : Int := 1 + 1 + ((x.fRegs.length : Int)) + 1 + (4 * (x.fTrace.length : Int))
def mkGor (z : Int) (x : DGor) : DGor := ⟨z, z + 1, marksInt (z + 1 + 1) x.fRegs.length, z + 1 + 1 + ((x.fRegs.length : Int)), marksItem (z + 1 + 1 + ((x.fRegs.length : Int)) + 1) x.fTrace.length⟩
def marksGor : Int → List DGor → List DGor
  | _, [] => []
  | z, x :: r => mkGor z x :: marksGor (z + cntGor x) r
theorem marksGor_length (l : List DGor) : ∀ z, (marksGor z l).length = l.length := by
  induction l with
  | nil => intro z; rfl
  | cons x l ih => intro z; simp [marksGor, ih]
theorem marksGor_snoc (l : List DGor) (x : DGor) : ∀ z, marksGor z (l ++ [x]) = marksGor z l ++ [mkGor (z + (l.map cntGor).sum) x] := by
  induction l with
  | nil => intro z; simp [marksGor]
  | cons y l ih => intro z; simp [marksGor, ih, Int.add_assoc]
theorem marksGor_step {xs : List DGor} {k : Int} {j : Nat} {x : DGor} (hx : xs[j]? = some x) :
    (marksGor k (xs.take j) ++ xs.drop j).set j (mkGor (k + ((xs.take j).map cntGor).sum) x) = marksGor k (xs.take (j + 1)) ++ xs.drop (j + 1) := by
  obtain ⟨hj, rfl⟩ := List.getElem?_eq_some_iff.1 hx
  have hl : (marksGor k (xs.take j)).length = j := by rw [marksGor_length, List.length_take]; omega
  rw [List.take_succ_eq_append_getElem hj, marksGor_snoc, List.drop_eq_getElem_cons hj, List.set_append, if_neg (by omega), hl, Nat.sub_self, List.set_cons_zero, List.append_assoc]
  rfl

theorem cntGor_pos (x : DGor) : 0 ≤ cntGor x := by
  unfold cntGor
  omega

/-- The call marks the row: blocks that F holds turn alone. -/
def MarkedGor (w : World) (F : Nat → Prop) (e : TypeId) (A : Option Addr) (n c : Nat) (k : Int) (xs : List DGor) (en : Ending) (w' : World) : Prop :=
  en = .returned (.int .i64 (k + (xs.map cntGor).sum)) ∧ OwnR layGor e w' F A n c (marksGor k xs) ∧ TurnedF F w w'

/-- How many marks it takes where it stands by itself: its slices alone; and what it is then. -/
def vcntGor (x : DGor) : Int := (x.fRegs.length : Int) + 4 * (x.fTrace.length : Int)
def mkvGor (k : Int) (x : DGor) : DGor := ⟨x.fProc, x.fPc, marksInt k x.fRegs.length, x.fState, marksItem (k + (x.fRegs.length : Int)) x.fTrace.length⟩

set_option maxRecDepth 100000 in
set_option maxHeartbeats 2000000 in
theorem markGor_any {w : World} {F : Nat → Prop} {x : DGor} {vs : List Value} {k : Int} (h : layGor.own w F x vs) (hF : ∀ g, F g → g < w.heap.size) (hs : szGor x ≤ 1048580) (hk0 : 0 ≤ k) (hk : k + vcntGor x ≤ 16777216) :
    Calls Tryz.prog 15 #[.agg vs.toArray, .int .i64 k] w fun e w' => e = .returned (.int .i64 (k + vcntGor x)) ∧ layGor.own w' F (mkvGor k x) vs ∧ TurnedF F w w' := by
  obtain ⟨A2, n2, c2, F2, A4, n4, c4, F4, rfl, hw0, hw1, ⟨o2, k2⟩, hw3, ⟨o4, k4⟩, d2_4⟩ := unownGor h
  have l2 := o2.1
  subst l2
  have l4 := o4.1
  subst l4
  unfold szGor at hs
  have hk2 := hk
  unfold vcntGor at hk2
  have HV := Lib.hid (show vcntGor x = vcntGor x from rfl)
  unfold vcntGor at HV
  clear hk h
  have ht : TurnedF F w (w.alloc (.cells #[.int .i64 x.fProc, .int .i64 x.fPc, .slice A2 x.fRegs.length c2, .int .i64 x.fState, .slice A4 x.fTrace.length c4] 34)) := TurnedF.of_below ((Below.refl _ _).alloc (Nat.le_refl _) _) F
  replace o2 := o2.stay (w' := (w.alloc (.cells #[.int .i64 x.fProc, .int .i64 x.fPc, .slice A2 x.fRegs.length c2, .int .i64 x.fState, .slice A4 x.fTrace.length c4] 34))) (fun b _ hlt => Below.heap_alloc w _ b hlt) (by simp)
  replace o4 := o4.stay (w' := (w.alloc (.cells #[.int .i64 x.fProc, .int .i64 x.fPc, .slice A2 x.fRegs.length c2, .int .i64 x.fState, .slice A4 x.fTrace.length c4] 34))) (fun b _ hlt => Below.heap_alloc w _ b hlt) (by simp)
  have hbx : ∀ o, (w.alloc (.cells #[.int .i64 x.fProc, .int .i64 x.fPc, .slice A2 x.fRegs.length c2, .int .i64 x.fState, .slice A4 x.fTrace.length c4] 34)).cell? ⟨w.heap.size, o, none⟩ = (w.alloc (.cells #[.int .i64 x.fProc, .int .i64 x.fPc, .slice A2 x.fRegs.length c2, .int .i64 x.fState, .slice A4 x.fTrace.length c4] 34)).cell? ⟨w.heap.size, o, none⟩ := fun _ => rfl
  have hz0 : w.heap.size < (w.alloc (.cells #[.int .i64 x.fProc, .int .i64 x.fPc, .slice A2 x.fRegs.length c2, .int .i64 x.fState, .slice A4 x.fTrace.length c4] 34)).heap.size := by simp
  clear hbx
  go_enter Tryz.func15, Tryz.ntmps15
  go_wp2_with fail
  refine (markIntS_tail1 (F := F2) o2 (by omega) (by omega) (by omega)).mono ?_
  rintro e w1 ⟨rfl, q2, t2⟩
  have hz1 : w.heap.size < w1.heap.size := Nat.lt_of_lt_of_le hz0 t2.size
  have hb1 : w1.heap[w.heap.size]? = (w.alloc (.cells #[.int .i64 x.fProc, .int .i64 x.fPc, .slice A2 x.fRegs.length c2, .int .i64 x.fState, .slice A4 x.fTrace.length c4] 34)).heap[w.heap.size]? := t2.block _ hz0 (fun hb => Nat.lt_irrefl _ (hF _ (k2 _ hb)))
  have hcl1 : ∀ o, w1.cell? ⟨w.heap.size, o, none⟩ = (w.alloc (.cells #[.int .i64 x.fProc, .int .i64 x.fPc, .slice A2 x.fRegs.length c2, .int .i64 x.fState, .slice A4 x.fTrace.length c4] 34)).cell? ⟨w.heap.size, o, none⟩ := fun o => World.cell?_of_block hb1
  replace ht := ht.trans (t2.wide k2)
  replace o4 := o4.turnedF t2 (fun b hb hb2 => d2_4 b hb2 hb)
  clear t2
  go_wp2_with fail
  refine (markItemS_tail (F := F4) o4 (by omega) (by omega) (by omega)).mono ?_
  rintro e w2 ⟨rfl, q4, t4⟩
  have hz2 : w.heap.size < w2.heap.size := Nat.lt_of_lt_of_le hz1 t4.size
  have hb2 : w2.heap[w.heap.size]? = w1.heap[w.heap.size]? := t4.block _ hz1 (fun hb => Nat.lt_irrefl _ (hF _ (k4 _ hb)))
  replace hb2 := hb2.trans hb1
  have hcl2 : ∀ o, w2.cell? ⟨w.heap.size, o, none⟩ = (w.alloc (.cells #[.int .i64 x.fProc, .int .i64 x.fPc, .slice A2 x.fRegs.length c2, .int .i64 x.fState, .slice A4 x.fTrace.length c4] 34)).cell? ⟨w.heap.size, o, none⟩ := fun o => World.cell?_of_block hb2
  replace ht := ht.trans (t4.wide k4)
  replace q2 := q2.turnedF t4 (fun b hb hb2 => d2_4 b hb hb2)
  clear t4
  go_wp2_with fail
  go_ret
  exact ⟨by unfold vcntGor; go_num, ownGor (x := mkvGor k x) hw0 hw1 q2 hw3 q4 k2 k4 d2_4, ht⟩

theorem marksGor_get {x : DGor} : ∀ {xs : List DGor} {k : Int} {j : Nat}, xs[j]? = some x → (marksGor k xs)[j]? = some (mkGor (k + ((xs.take j).map cntGor).sum) x)
  | [], _, _, h => by simp at h
  | y :: xs, k, 0, h => by
    simp at h
    subst h
    simp [marksGor]
  | y :: xs, k, j + 1, h => by
    have := marksGor_get (xs := xs) (k := k + cntGor y) (j := j) (by simpa using h)
    simp only [marksGor, List.getElem?_cons_succ, this, List.take_succ_cons, List.map_cons, List.sum_cons, Int.add_assoc]

set_option maxRecDepth 100000 in
set_option maxHeartbeats 2000000 in
theorem heldGor_any {w : World} {hi : Nat} {x : DGor} {vs : List Value} {k : Int} (h : layGor.see w hi (mkvGor k x) vs) (hhi : hi ≤ w.heap.size) (hs : szGor x ≤ 1048580) (hk0 : 0 ≤ k) (hk : k + vcntGor x ≤ 16777216) :
    Calls Tryz.prog 16 #[.agg vs.toArray, .int .i64 k] w fun e w' => e = .returned (.int .i64 (k + vcntGor x)) ∧ Below w.heap.size w w' := by
  obtain ⟨A2, n2, c2, A4, n4, c4, rfl, hw0, hw1, ⟨hc2, hm2, s2⟩, hw3, ⟨hc4, hm4, s4⟩⟩ := seeGor h
  have l2 : x.fRegs.length = n2 := by have h1 := s2.1; simpa [mkvGor, marksInt_length] using h1
  subst l2
  have l4 : x.fTrace.length = n4 := by have h1 := s4.1; simpa [mkvGor, marksItem_length] using h1
  subst l4
  replace s2 : SeenR Lay.int (w.alloc (.cells #[.int .i64 x.fProc, .int .i64 x.fPc, .slice A2 x.fRegs.length c2, .int .i64 x.fState, .slice A4 x.fTrace.length c4] 34)) hi A2 x.fRegs.length (marksInt (k) x.fRegs.length) := s2.below ((Below.refl _ _).alloc (Nat.le_refl _) _) hhi
  replace s4 : SeenR layItem (w.alloc (.cells #[.int .i64 x.fProc, .int .i64 x.fPc, .slice A2 x.fRegs.length c2, .int .i64 x.fState, .slice A4 x.fTrace.length c4] 34)) hi A4 x.fTrace.length (marksItem (k + (x.fRegs.length : Int)) x.fTrace.length) := s4.below ((Below.refl _ _).alloc (Nat.le_refl _) _) hhi
  unfold szGor at hs
  have hk2 := hk
  unfold vcntGor at hk2
  clear hk h
  go_enter Tryz.func16, Tryz.ntmps16
  have hd2 : decide (k + (x.fRegs.length : Int) < 0) = false := decide_eq_false (by omega)
  go_wp2_with fail
  refine (heldIntS_any1 s2 (by omega) (by omega) (by omega)).mono ?_
  rintro e w' ⟨rfl, rfl⟩
  have hd4 : decide (k + (x.fRegs.length : Int) + 4 * (x.fTrace.length : Int) < 0) = false := decide_eq_false (by omega)
  go_wp2_with fail
  refine (heldItemS_any s4 (by omega) (by omega) (by omega)).mono ?_
  rintro e w' ⟨rfl, rfl⟩
  go_wp2_with fail
  go_ret
  exact ⟨by unfold vcntGor; go_num, by go_grown⟩
end Go.Proofs.YtapbjnfopniicaaGreatDoor

namespace Go.Proofs.YtapbjnfopniicaaGreatDoor
set_option linter.unusedSimpArgs false
set_option linter.unusedVariables false
open Go.RowKit

theorem unownMutex {w : World} {F : Nat → Prop} {x : DMutex} {vs : List Value} (h : layMutex.own w F x vs) : ∃ (A1 : Option Addr) (n1 c1 : Nat) (F1 : Nat → Prop), vs = [.int .i64 x.fOwner, .slice A1 n1 c1] ∧ (Lit.int .i64 x.fOwner).wf = true ∧ (TailR Lay.int 3 w F1 A1 n1 c1 x.fWait ∧ ∀ g, F1 g → F g) := by
  obtain ⟨_, _, F0, R1, rfl, s0, s1, k0, r0, d0⟩ := h
  obtain ⟨rfl, h0⟩ := s0
  obtain ⟨A1, n1, c1, rfl, h1⟩ := s1
  exact ⟨A1, n1, c1, R1, rfl, h0, ⟨h1, (fun g h => r0 g h)⟩⟩

/-- How many marks it takes; what it is, marked from z on. -/
def cntMutex (x : DMutex) : Int := 1 + ((x.fWait.length : Int))
def mkMutex (z : Int) (x : DMutex) : DMutex := ⟨z, marksInt (z + 1) x.fWait.length⟩
def marksMutex : Int → List DMutex → List DMutex
  | _, [] => []
  | z, x :: r => mkMutex z x :: marksMutex (z + cntMutex x) r
theorem marksMutex_length (l : List DMutex) : ∀ z, (marksMutex z l).length = l.length := by
  induction l with
  | nil => intro z; rfl
  | cons x l ih => intro z; simp [marksMutex, ih]
theorem marksMutex_snoc (l : List DMutex) (x : DMutex) : ∀ z, marksMutex z (l ++ [x]) = marksMutex z l ++ [mkMutex (z + (l.map cntMutex).sum) x] := by
  induction l with
  | nil => intro z; simp [marksMutex]
  | cons y l ih => intro z; simp [marksMutex, ih, Int.add_assoc]
theorem marksMutex_step {xs : List DMutex} {k : Int} {j : Nat} {x : DMutex} (hx : xs[j]? = some x) :
    (marksMutex k (xs.take j) ++ xs.drop j).set j (mkMutex (k + ((xs.take j).map cntMutex).sum) x) = marksMutex k (xs.take (j + 1)) ++ xs.drop (j + 1) := by
  obtain ⟨hj, rfl⟩ := List.getElem?_eq_some_iff.1 hx
  have hl : (marksMutex k (xs.take j)).length = j := by rw [marksMutex_length, List.length_take]; omega
  rw [List.take_succ_eq_append_getElem hj, marksMutex_snoc, List.drop_eq_getElem_cons hj, List.set_append, if_neg (by omega), hl, Nat.sub_self, List.set_cons_zero, List.append_assoc]
  rfl

theorem cntMutex_pos (x : DMutex) : 0 ≤ cntMutex x := by
  unfold cntMutex
  omega

/-- The call marks the row: blocks that F holds turn alone. -/
def MarkedMutex (w : World) (F : Nat → Prop) (e : TypeId) (A : Option Addr) (n c : Nat) (k : Int) (xs : List DMutex) (en : Ending) (w' : World) : Prop :=
  en = .returned (.int .i64 (k + (xs.map cntMutex).sum)) ∧ OwnR layMutex e w' F A n c (marksMutex k xs) ∧ TurnedF F w w'

/-- How many marks it takes where it stands by itself: its slices alone; and what it is then. -/
def vcntMutex (x : DMutex) : Int := (x.fWait.length : Int)
def mkvMutex (k : Int) (x : DMutex) : DMutex := ⟨x.fOwner, marksInt k x.fWait.length⟩

theorem marksMutex_get {x : DMutex} : ∀ {xs : List DMutex} {k : Int} {j : Nat}, xs[j]? = some x → (marksMutex k xs)[j]? = some (mkMutex (k + ((xs.take j).map cntMutex).sum) x)
  | [], _, _, h => by simp at h
  | y :: xs, k, 0, h => by
    simp at h
    subst h
    simp [marksMutex]
  | y :: xs, k, j + 1, h => by
    have := marksMutex_get (xs := xs) (k := k + cntMutex y) (j := j) (by simpa using h)
    simp only [marksMutex, List.getElem?_cons_succ, this, List.take_succ_cons, List.map_cons, List.sum_cons, Int.add_assoc]

end Go.Proofs.YtapbjnfopniicaaGreatDoor

namespace Go.Proofs.YtapbjnfopniicaaGreatDoor
set_option linter.unusedSimpArgs false
set_option linter.unusedVariables false
open Go.RowKit

/-- How many marks it takes; what it is, marked from z on. -/
def cntEng (x : DEng) : Int := (x.fGs.map cntGor).sum + (x.fChans.map cntChan).sum + (x.fMus.map cntMutex).sum
def mkEng (z : Int) (x : DEng) : DEng := ⟨marksGor z x.fGs, marksChan (z + (x.fGs.map cntGor).sum) x.fChans, marksMutex (z + (x.fGs.map cntGor).sum + (x.fChans.map cntChan).sum) x.fMus⟩
def marksEng : Int → List DEng → List DEng
  | _, [] => []
  | z, x :: r => mkEng z x :: marksEng (z + cntEng x) r
theorem marksEng_length (l : List DEng) : ∀ z, (marksEng z l).length = l.length := by
  induction l with
  | nil => intro z; rfl
  | cons x l ih => intro z; simp [marksEng, ih]
theorem marksEng_snoc (l : List DEng) (x : DEng) : ∀ z, marksEng z (l ++ [x]) = marksEng z l ++ [mkEng (z + (l.map cntEng).sum) x] := by
  induction l with
  | nil => intro z; simp [marksEng]
  | cons y l ih => intro z; simp [marksEng, ih, Int.add_assoc]
theorem marksEng_step {xs : List DEng} {k : Int} {j : Nat} {x : DEng} (hx : xs[j]? = some x) :
    (marksEng k (xs.take j) ++ xs.drop j).set j (mkEng (k + ((xs.take j).map cntEng).sum) x) = marksEng k (xs.take (j + 1)) ++ xs.drop (j + 1) := by
  obtain ⟨hj, rfl⟩ := List.getElem?_eq_some_iff.1 hx
  have hl : (marksEng k (xs.take j)).length = j := by rw [marksEng_length, List.length_take]; omega
  rw [List.take_succ_eq_append_getElem hj, marksEng_snoc, List.drop_eq_getElem_cons hj, List.set_append, if_neg (by omega), hl, Nat.sub_self, List.set_cons_zero, List.append_assoc]
  rfl

theorem cntEng_pos (x : DEng) : 0 ≤ cntEng x := by
  unfold cntEng
  have hq0 := sum_pos cntGor_pos x.fGs
  have hq1 := sum_pos cntChan_pos x.fChans
  have hq2 := sum_pos cntMutex_pos x.fMus
  omega

/-- How many marks it takes where it stands by itself: its slices alone; and what it is then. -/
def vcntEng (x : DEng) : Int := (x.fGs.map cntGor).sum + (x.fChans.map cntChan).sum + (x.fMus.map cntMutex).sum
def mkvEng (k : Int) (x : DEng) : DEng := ⟨marksGor k x.fGs, marksChan (k + (x.fGs.map cntGor).sum) x.fChans, marksMutex (k + (x.fGs.map cntGor).sum + (x.fChans.map cntChan).sum) x.fMus⟩

theorem marksEng_get {x : DEng} : ∀ {xs : List DEng} {k : Int} {j : Nat}, xs[j]? = some x → (marksEng k xs)[j]? = some (mkEng (k + ((xs.take j).map cntEng).sum) x)
  | [], _, _, h => by simp at h
  | y :: xs, k, 0, h => by
    simp at h
    subst h
    simp [marksEng]
  | y :: xs, k, j + 1, h => by
    have := marksEng_get (xs := xs) (k := k + cntEng y) (j := j) (by simpa using h)
    simp only [marksEng, List.getElem?_cons_succ, this, List.take_succ_cons, List.map_cons, List.sum_cons, Int.add_assoc]

end Go.Proofs.YtapbjnfopniicaaGreatDoor

namespace Go.Proofs.YtapbjnfopniicaaGreatDoor
set_option linter.unusedSimpArgs false
set_option linter.unusedVariables false
open Go.RowKit

theorem sum_bound {α : Type} {f : α → Int} {s : α → Nat} {a b : Int} (h : ∀ x, f x ≤ a + b * (s x : Int)) : ∀ l : List α, (l.map f).sum ≤ a * (l.length : Int) + b * ((l.map s).sum : Nat)
  | [] => by simp
  | x :: l => by
    have h1 := sum_bound h l
    have h2 := h x
    simp only [List.map_cons, List.sum_cons, List.length_cons, Int.natCast_add, Int.mul_add]
    omega
theorem vcntEng_le {x : DEng} (h : szEng x ≤ 1048580) : 0 ≤ vcntEng x ∧ vcntEng x ≤ 8388700 := by
  have g1 := sum_bound (f := cntGor) (s := szGor) (a := 4) (b := 4) (fun g => by unfold cntGor szGor; omega) x.fGs
  have g2 := sum_bound (f := cntChan) (s := szChan) (a := 4) (b := 4) (fun g => by unfold cntChan szChan; omega) x.fChans
  have g3 := sum_bound (f := cntMutex) (s := szMutex) (a := 4) (b := 4) (fun g => by unfold cntMutex szMutex; omega) x.fMus
  have p1 := sum_pos cntGor_pos x.fGs
  have p2 := sum_pos cntChan_pos x.fChans
  have p3 := sum_pos cntMutex_pos x.fMus
  unfold szEng at h
  unfold vcntEng
  omega
end Go.Proofs.YtapbjnfopniicaaGreatDoor

namespace Go.Proofs.YtapbjnfopniicaaGreatDoor
set_option linter.unusedSimpArgs false
set_option linter.unusedVariables false
open Go.RowKit

/-- The mark of z. -/
def mkCase (z : Int) : DCase := ⟨z % 3 == 0, (z + 1), (z + 1 + 1), (z + 1 + 1 + 1), (z + 1 + 1 + 1 + 1)⟩
def marksCase (k : Int) (n : Nat) : List DCase := (List.range n).map fun (i : Nat) => mkCase (k + 5 * (i : Int))
theorem marksCase_length (k : Int) (n : Nat) : (marksCase k n).length = n := by simp [marksCase]
theorem marksCase_step {xs : List DCase} {k : Int} {n j : Nat} (hl : xs.length = n) (hj : j < n) :
    (marksCase k j ++ xs.drop j).set j (mkCase (k + 5 * (j : Int))) = marksCase k (j + 1) ++ xs.drop (j + 1) := by
  apply List.ext_getElem?
  intro i
  simp only [marksCase, List.getElem?_set, List.getElem?_map, List.getElem?_append, List.length_map, List.length_append, List.length_range, List.length_drop, List.getElem?_drop]
  rcases Nat.lt_trichotomy i j with h | h | h
  · simp [show ¬ j = i from by omega, h, show i < j + 1 from by omega]
  · subst h
    simp [show i < i + (xs.length - i) from by omega]
  · simp [show ¬ j = i from by omega, show ¬ i < j from by omega, show ¬ i < j + 1 from by omega, show j + (i - j) = i from by omega, show j + 1 + (i - (j + 1)) = i from by omega]

/-- The call marks the row: blocks that F holds turn alone. -/
def MarkedCase (w : World) (F : Nat → Prop) (e : TypeId) (A : Option Addr) (n c : Nat) (k : Int) (en : Ending) (w' : World) : Prop :=
  en = .returned (.int .i64 (k + 5 * (n : Int))) ∧ OwnR layCase e w' F A n c (marksCase k n) ∧ TurnedF F w w'

set_option maxRecDepth 100000 in
set_option maxHeartbeats 1000000 in
theorem markCaseS_any {w : World} {F : Nat → Prop} {e : TypeId} {A : Option Addr} {n c : Nat} {k : Int} {xs : List DCase} (h : OwnR layCase e w F A n c xs) (hn : n ≤ 1048576) (hk0 : 0 ≤ k) (hk : k ≤ 16777216) :
    Calls Tryz.prog 64 #[.slice A n c, .int .i64 k] w (MarkedCase w F e A n c k) := by
  have HL := Lib.hid h.1
  go_enter Tryz.func64, Tryz.ntmps64
  go_wp2_with fail
  go_loopw [1, 5] (fun q i wr => ∃ j : Nat, j ≤ n ∧ i = .int .i64 j ∧ q = .int .i64 (k + 5 * (j : Int)) ∧ OwnR layCase e wr F A n c (marksCase k j ++ xs.drop j) ∧ TurnedF F w wr) (fun _ i _ => n - (intOf i).toNat)
  case atStart => exact ⟨0, Nat.zero_le _, rfl, by simp, by simpa [marksCase] using h, TurnedF.refl _ _⟩
  case round =>
    obtain ⟨j, hj, rfl, rfl, hown, ht⟩ := hrel
    by_cases hlt : j < n
    · obtain ⟨hx, g, G, vs, rfl, hFg, hGg, hGF, hgs, ⟨rfl, hw⟩, hcell, hfr, hput⟩ := hown.focus hlt
      have cc0 := hcell 0 _ (by decide) rfl
      have ff0 := hfr (j * (layCase).size + 0)
      have cc1 := hcell 1 _ (by decide) rfl
      have ff1 := hfr (j * (layCase).size + 1)
      have cc2 := hcell 2 _ (by decide) rfl
      have ff2 := hfr (j * (layCase).size + 2)
      have cc3 := hcell 3 _ (by decide) rfl
      have ff3 := hfr (j * (layCase).size + 3)
      have cc4 := hcell 4 _ (by decide) rfl
      have ff4 := hfr (j * (layCase).size + 4)
      simp only [show (layCase).size = 5 from rfl, Nat.add_zero, Nat.mul_one] at cc0 ff0 cc1 ff1 cc2 ff2 cc3 ff3 cc4 ff4
      generalize (marksCase k j ++ xs.drop j)[j] = x at *
      clear hcell hfr hw
      have hz0 : 0 ≤ k + 5 * (j : Int) := by omega
      have hz1 : k + 5 * (j : Int) ≤ 33554432 := by omega
      have HZ := Lib.hid (show k + 5 * (j : Int) + 5 = k + 5 * ((j + 1 : Nat) : Int) by omega)
      have HST := Lib.hid (marksCase_step (k := k) HL.out hlt)
      have HP := Lib.hid hput
      clear hput
      generalize k + 5 * (j : Int) = z at *
      go_wp2_with fail
      go_roundw
      case rel =>
        have hrow := HP.out (putCells wr g (j * 5) [.bool (z % 3 == 0), .int .i64 (z + 1), .int .i64 (z + 1 + 1), .int .i64 (z + 1 + 1 + 1), .int .i64 (z + 1 + 1 + 1 + 1)]) (mkCase z) [.bool (z % 3 == 0), .int .i64 (z + 1), .int .i64 (z + 1 + 1), .int .i64 (z + 1 + 1 + 1), .int .i64 (z + 1 + 1 + 1 + 1)] rfl ⟨rfl, ⟨wf_mark (z := (z + 1)) (by omega) (by omega), wf_mark (z := (z + 1 + 1)) (by omega) (by omega), wf_mark (z := (z + 1 + 1 + 1)) (by omega) (by omega), wf_mark (z := (z + 1 + 1 + 1 + 1)) (by omega) (by omega)⟩⟩ (TurnedF.put _ _ _ (TurnedF.refl _ _) (Or.inr rfl)) rfl
        rw [HST.out] at hrow
        refine ⟨j + 1, by omega, by go_num, by rw [← HZ.out]; try go_num, by first | exact hrow | simpa [putCells] using hrow, ?_⟩
        have htu : TurnedF F w (putCells wr g (j * 5) [.bool (z % 3 == 0), .int .i64 (z + 1), .int .i64 (z + 1 + 1), .int .i64 (z + 1 + 1 + 1), .int .i64 (z + 1 + 1 + 1 + 1)]) := TurnedF.put _ _ _ ht hFg
        first | exact htu | simpa [putCells] using htu
      case measure => simp [intOf]; omega
    · go_wp2_with fail
      go_ret
      obtain rfl : j = n := by omega
      refine ⟨rfl, ?_, ht⟩
      rw [List.drop_of_length_le (by rw [HL.out]; exact Nat.le_refl _), List.append_nil] at hown
      exact hown

end Go.Proofs.YtapbjnfopniicaaGreatDoor

namespace Go.Proofs.YtapbjnfopniicaaGreatDoor
set_option linter.unusedSimpArgs false
set_option linter.unusedVariables false
open Go.RowKit

theorem unownSelect {w : World} {F : Nat → Prop} {x : DSelect} {vs : List Value} (h : laySelect.own w F x vs) : ∃ (A0 : Option Addr) (n0 c0 : Nat) (F0 : Nat → Prop), vs = [.slice A0 n0 c0, .int .i64 x.fElse] ∧ (OwnR layCase 117 w F0 A0 n0 c0 x.fCases ∧ ∀ g, F0 g → F g) ∧ (Lit.int .i64 x.fElse).wf = true := by
  obtain ⟨_, _, F0, R1, rfl, s0, s1, k0, r0, d0⟩ := h
  obtain ⟨A0, n0, c0, rfl, h0⟩ := s0
  obtain ⟨rfl, h1⟩ := s1
  exact ⟨A0, n0, c0, F0, rfl, ⟨h0, (fun g h => k0 g h)⟩, h1⟩

/-- How many marks it takes; what it is, marked from z on. -/
def cntSelect (x : DSelect) : Int := (5 * (x.fCases.length : Int)) + 1
def mkSelect (z : Int) (x : DSelect) : DSelect := ⟨marksCase z x.fCases.length, z + (5 * (x.fCases.length : Int))⟩
def marksSelect : Int → List DSelect → List DSelect
  | _, [] => []
  | z, x :: r => mkSelect z x :: marksSelect (z + cntSelect x) r
theorem marksSelect_length (l : List DSelect) : ∀ z, (marksSelect z l).length = l.length := by
  induction l with
  | nil => intro z; rfl
  | cons x l ih => intro z; simp [marksSelect, ih]
theorem marksSelect_snoc (l : List DSelect) (x : DSelect) : ∀ z, marksSelect z (l ++ [x]) = marksSelect z l ++ [mkSelect (z + (l.map cntSelect).sum) x] := by
  induction l with
  | nil => intro z; simp [marksSelect]
  | cons y l ih => intro z; simp [marksSelect, ih, Int.add_assoc]
theorem marksSelect_step {xs : List DSelect} {k : Int} {j : Nat} {x : DSelect} (hx : xs[j]? = some x) :
    (marksSelect k (xs.take j) ++ xs.drop j).set j (mkSelect (k + ((xs.take j).map cntSelect).sum) x) = marksSelect k (xs.take (j + 1)) ++ xs.drop (j + 1) := by
  obtain ⟨hj, rfl⟩ := List.getElem?_eq_some_iff.1 hx
  have hl : (marksSelect k (xs.take j)).length = j := by rw [marksSelect_length, List.length_take]; omega
  rw [List.take_succ_eq_append_getElem hj, marksSelect_snoc, List.drop_eq_getElem_cons hj, List.set_append, if_neg (by omega), hl, Nat.sub_self, List.set_cons_zero, List.append_assoc]
  rfl

theorem cntSelect_pos (x : DSelect) : 0 ≤ cntSelect x := by
  unfold cntSelect
  omega

/-- The call marks the row: blocks that F holds turn alone. -/
def MarkedSelect (w : World) (F : Nat → Prop) (e : TypeId) (A : Option Addr) (n c : Nat) (k : Int) (xs : List DSelect) (en : Ending) (w' : World) : Prop :=
  en = .returned (.int .i64 (k + (xs.map cntSelect).sum)) ∧ OwnR laySelect e w' F A n c (marksSelect k xs) ∧ TurnedF F w w'

set_option maxRecDepth 100000 in
set_option maxHeartbeats 2000000 in
theorem markSelectS_any {w : World} {F : Nat → Prop} {e : TypeId} {A : Option Addr} {n c : Nat} {k : Int} {xs : List DSelect} (h : OwnR laySelect e w F A n c xs) (hn : n ≤ 1048576) (hs : ∀ x ∈ xs, szSelect x ≤ 1048576) (hk0 : 0 ≤ k) (hk : k + (xs.map cntSelect).sum ≤ 16777216) :
    Calls Tryz.prog 37 #[.slice A n c, .int .i64 k] w (MarkedSelect w F e A n c k xs) := by
  have HL := Lib.hid h.1
  have HK := Lib.hid hk
  clear hk
  go_enter Tryz.func37, Tryz.ntmps37
  go_wp2_with fail
  go_loopw [1, 5] (fun q i wr => ∃ (j : Nat) (z : Int), j ≤ n ∧ i = .int .i64 j ∧ q = .int .i64 z ∧ Hid (z = k + ((xs.take j).map cntSelect).sum) ∧ OwnR laySelect e wr F A n c (marksSelect k (xs.take j) ++ xs.drop j) ∧ TurnedF F w wr) (fun _ i _ => n - (intOf i).toNat)
  case atStart => exact ⟨0, k, Nat.zero_le _, rfl, rfl, Lib.hid (by simp), by simpa [marksSelect] using h, TurnedF.refl _ _⟩
  case round =>
    obtain ⟨j, z, hj, rfl, rfl, HZ, hown, ht⟩ := hrel
    by_cases hlt : j < n
    · obtain ⟨hx, g, G, us, rfl, hgs, hrow, hel⟩ := hown.open_ hlt
      have hxj : j < xs.length := by rw [HL.out]; exact hlt
      have he : (marksSelect k (xs.take j) ++ xs.drop j)[j] = xs[j] := by
        have hm : (marksSelect k (xs.take j)).length = j := by rw [marksSelect_length, List.length_take]; omega
        rw [List.getElem_append_right (by omega)]
        simp [hm]
      rw [he] at hel
      clear he hown hx
      have hdk := Lib.hid (List.getElem?_eq_getElem hxj)
      have hsx := hs _ (List.getElem_mem hxj)
      have hz0 : 0 ≤ z := by have := sum_pos cntSelect_pos (xs.take j); have := HZ.out; omega
      have hcx : z + cntSelect xs[j] ≤ 16777216 := by
        have h1 := sum_upto cntSelect_pos hdk.out
        have := HZ.out
        have := HK.out
        omega
      have HST := Lib.hid (marksSelect_step (k := k) hdk.out)
      have HZN := Lib.hid (sum_next cntSelect hdk.out)
      rw [← HZ.out] at HST
      generalize xs[j] = x at *
      clear hxj
      obtain ⟨A0, n0, c0, F0, rfl, ⟨o0, k0⟩, hw1⟩ := unownSelect hel
      have l0 := o0.1
      subst l0
      have hg0 : ¬ F0 g := fun h => hrow.not (k0 g h)
      unfold szSelect at hsx
      unfold cntSelect at hcx
      have cc0 : wr.cell? ⟨g, j * 2 + 0, none⟩ = some (.slice A0 x.fCases.length c0) := hrow.cell (j := 0) rfl (by decide)
      have cc1 : wr.cell? ⟨g, j * 2 + 1, none⟩ = some (.int .i64 x.fElse) := hrow.cell (j := 1) rfl (by decide)
      have ff := hrow.free
      simp only [Nat.add_zero, Nat.mul_one] at cc0 cc1
      go_wp2_with fail
      refine (markCaseS_any (F := F0) (by exact o0) (by omega) (by omega) (by omega)).mono ?_
      rintro e w1 ⟨rfl, q0, t0⟩
      have ht1 := ht.trans (t0.wide fun b hb => hrow.inF b (k0 b hb))
      have hrow1 := OpenRow.turned hrow t0 k0
      clear hrow ht t0 cc0 cc1 ff
      have hrow := hrow1
      clear hrow1
      have ht := ht1
      clear ht1
      clear o0
      have o0 := q0
      clear q0
      have cc0 : w1.cell? ⟨g, j * 2 + 0, none⟩ = some (.slice A0 x.fCases.length c0) := hrow.cell (j := 0) rfl (by decide)
      have cc1 : w1.cell? ⟨g, j * 2 + 1, none⟩ = some (.int .i64 x.fElse) := hrow.cell (j := 1) rfl (by decide)
      have ff := hrow.free
      simp only [Nat.add_zero, Nat.mul_one] at cc0 cc1
      go_wp2_with fail
      go_roundw
      case rel =>
        have hshut := OpenRow.shut (hrow.set_ (o := 1) (by decide) (.int .i64 (z + 5 * (x.fCases.length : Int)))) (x' := mkSelect z x) (ownSelect (OwnR.setCell (o := j * 2 + 1) o0 hg0 (.int .i64 (z + 5 * (x.fCases.length : Int)))) (wf_mark (z := z + 5 * (x.fCases.length : Int)) (by omega) (by omega)) k0)
        rw [HST.out] at hshut
        exact ⟨j + 1, z + 5 * (x.fCases.length : Int) + 1, by omega, by go_num, by go_num, Lib.hid (by rw [HZN.out]; have h1 := HZ.out; have h2 : cntSelect x = 5 * (x.fCases.length : Int) + 1 := rfl; omega), by first | exact hshut | (simp only [Int.add_mul_emod_self_left] at hshut; exact hshut), (ht.setCell (p := ⟨g, j * 2 + 1, none⟩) hrow.here _)⟩
      case measure => simp [intOf]; omega
    · go_wp2_with fail
      go_ret
      obtain rfl : j = n := by omega
      have e1 : xs.take j = xs := List.take_of_length_le (by rw [HL.out]; exact Nat.le_refl _)
      have hz := HZ.out
      rw [e1] at hown hz
      rw [List.drop_of_length_le (by rw [HL.out]; exact Nat.le_refl _), List.append_nil] at hown
      exact ⟨by rw [← hz]; rfl, hown, ht⟩

/-- How many marks it takes where it stands by itself: its slices alone; and what it is then. -/
def vcntSelect (x : DSelect) : Int := 5 * (x.fCases.length : Int)
def mkvSelect (k : Int) (x : DSelect) : DSelect := ⟨marksCase k x.fCases.length, x.fElse⟩

theorem marksSelect_get {x : DSelect} : ∀ {xs : List DSelect} {k : Int} {j : Nat}, xs[j]? = some x → (marksSelect k xs)[j]? = some (mkSelect (k + ((xs.take j).map cntSelect).sum) x)
  | [], _, _, h => by simp at h
  | y :: xs, k, 0, h => by
    simp at h
    subst h
    simp [marksSelect]
  | y :: xs, k, j + 1, h => by
    have := marksSelect_get (xs := xs) (k := k + cntSelect y) (j := j) (by simpa using h)
    simp only [marksSelect, List.getElem?_cons_succ, this, List.take_succ_cons, List.map_cons, List.sum_cons, Int.add_assoc]

end Go.Proofs.YtapbjnfopniicaaGreatDoor

namespace Go.Proofs.YtapbjnfopniicaaGreatDoor
set_option linter.unusedSimpArgs false
set_option linter.unusedVariables false
open Go.RowKit

/-- The mark of z. -/
def mkInstr (z : Int) : DInstr := ⟨z, (z + 1), (z + 1 + 1), (z + 1 + 1 + 1)⟩
def marksInstr (k : Int) (n : Nat) : List DInstr := (List.range n).map fun (i : Nat) => mkInstr (k + 4 * (i : Int))
theorem marksInstr_length (k : Int) (n : Nat) : (marksInstr k n).length = n := by simp [marksInstr]
theorem marksInstr_step {xs : List DInstr} {k : Int} {n j : Nat} (hl : xs.length = n) (hj : j < n) :
    (marksInstr k j ++ xs.drop j).set j (mkInstr (k + 4 * (j : Int))) = marksInstr k (j + 1) ++ xs.drop (j + 1) := by
  apply List.ext_getElem?
  intro i
  simp only [marksInstr, List.getElem?_set, List.getElem?_map, List.getElem?_append, List.length_map, List.length_append, List.length_range, List.length_drop, List.getElem?_drop]
  rcases Nat.lt_trichotomy i j with h | h | h
  · simp [show ¬ j = i from by omega, h, show i < j + 1 from by omega]
  · subst h
    simp [show i < i + (xs.length - i) from by omega]
  · simp [show ¬ j = i from by omega, show ¬ i < j from by omega, show ¬ i < j + 1 from by omega, show j + (i - j) = i from by omega, show j + 1 + (i - (j + 1)) = i from by omega]

/-- The call marks the row: blocks that F holds turn alone. -/
def MarkedInstr (w : World) (F : Nat → Prop) (e : TypeId) (A : Option Addr) (n c : Nat) (k : Int) (en : Ending) (w' : World) : Prop :=
  en = .returned (.int .i64 (k + 4 * (n : Int))) ∧ OwnR layInstr e w' F A n c (marksInstr k n) ∧ TurnedF F w w'

set_option maxRecDepth 100000 in
set_option maxHeartbeats 1000000 in
theorem markInstrS_any {w : World} {F : Nat → Prop} {e : TypeId} {A : Option Addr} {n c : Nat} {k : Int} {xs : List DInstr} (h : OwnR layInstr e w F A n c xs) (hn : n ≤ 1048576) (hk0 : 0 ≤ k) (hk : k ≤ 16777216) :
    Calls Tryz.prog 65 #[.slice A n c, .int .i64 k] w (MarkedInstr w F e A n c k) := by
  have HL := Lib.hid h.1
  go_enter Tryz.func65, Tryz.ntmps65
  go_wp2_with fail
  go_loopw [1, 5] (fun q i wr => ∃ j : Nat, j ≤ n ∧ i = .int .i64 j ∧ q = .int .i64 (k + 4 * (j : Int)) ∧ OwnR layInstr e wr F A n c (marksInstr k j ++ xs.drop j) ∧ TurnedF F w wr) (fun _ i _ => n - (intOf i).toNat)
  case atStart => exact ⟨0, Nat.zero_le _, rfl, by simp, by simpa [marksInstr] using h, TurnedF.refl _ _⟩
  case round =>
    obtain ⟨j, hj, rfl, rfl, hown, ht⟩ := hrel
    by_cases hlt : j < n
    · obtain ⟨hx, g, G, vs, rfl, hFg, hGg, hGF, hgs, ⟨rfl, hw⟩, hcell, hfr, hput⟩ := hown.focus hlt
      have cc0 := hcell 0 _ (by decide) rfl
      have ff0 := hfr (j * (layInstr).size + 0)
      have cc1 := hcell 1 _ (by decide) rfl
      have ff1 := hfr (j * (layInstr).size + 1)
      have cc2 := hcell 2 _ (by decide) rfl
      have ff2 := hfr (j * (layInstr).size + 2)
      have cc3 := hcell 3 _ (by decide) rfl
      have ff3 := hfr (j * (layInstr).size + 3)
      simp only [show (layInstr).size = 4 from rfl, Nat.add_zero, Nat.mul_one] at cc0 ff0 cc1 ff1 cc2 ff2 cc3 ff3
      generalize (marksInstr k j ++ xs.drop j)[j] = x at *
      clear hcell hfr hw
      have hz0 : 0 ≤ k + 4 * (j : Int) := by omega
      have hz1 : k + 4 * (j : Int) ≤ 33554432 := by omega
      have HZ := Lib.hid (show k + 4 * (j : Int) + 4 = k + 4 * ((j + 1 : Nat) : Int) by omega)
      have HST := Lib.hid (marksInstr_step (k := k) HL.out hlt)
      have HP := Lib.hid hput
      clear hput
      generalize k + 4 * (j : Int) = z at *
      go_wp2_with fail
      go_roundw
      case rel =>
        have hrow := HP.out (putCells wr g (j * 4) [.int .i64 z, .int .i64 (z + 1), .int .i64 (z + 1 + 1), .int .i64 (z + 1 + 1 + 1)]) (mkInstr z) [.int .i64 z, .int .i64 (z + 1), .int .i64 (z + 1 + 1), .int .i64 (z + 1 + 1 + 1)] rfl ⟨rfl, ⟨wf_mark (z := z) (by omega) (by omega), wf_mark (z := (z + 1)) (by omega) (by omega), wf_mark (z := (z + 1 + 1)) (by omega) (by omega), wf_mark (z := (z + 1 + 1 + 1)) (by omega) (by omega)⟩⟩ (TurnedF.put _ _ _ (TurnedF.refl _ _) (Or.inr rfl)) rfl
        rw [HST.out] at hrow
        refine ⟨j + 1, by omega, by go_num, by rw [← HZ.out]; try go_num, by first | exact hrow | simpa [putCells] using hrow, ?_⟩
        have htu : TurnedF F w (putCells wr g (j * 4) [.int .i64 z, .int .i64 (z + 1), .int .i64 (z + 1 + 1), .int .i64 (z + 1 + 1 + 1)]) := TurnedF.put _ _ _ ht hFg
        first | exact htu | simpa [putCells] using htu
      case measure => simp [intOf]; omega
    · go_wp2_with fail
      go_ret
      obtain rfl : j = n := by omega
      refine ⟨rfl, ?_, ht⟩
      rw [List.drop_of_length_le (by rw [HL.out]; exact Nat.le_refl _), List.append_nil] at hown
      exact hown

end Go.Proofs.YtapbjnfopniicaaGreatDoor

namespace Go.Proofs.YtapbjnfopniicaaGreatDoor
set_option linter.unusedSimpArgs false
set_option linter.unusedVariables false
open Go.RowKit

theorem unownProc {w : World} {F : Nat → Prop} {x : DProc} {vs : List Value} (h : layProc.own w F x vs) : ∃ (A0 : Option Addr) (n0 c0 : Nat) (F0 : Nat → Prop), vs = [.slice A0 n0 c0] ∧ (OwnR layInstr 52 w F0 A0 n0 c0 x.fCode ∧ ∀ g, F0 g → F g) := by
  have s0 := h
  obtain ⟨A0, n0, c0, rfl, h0⟩ := s0
  exact ⟨A0, n0, c0, F, rfl, ⟨h0, (fun g h => h)⟩⟩

/-- How many marks it takes; what it is, marked from z on. -/
def cntProc (x : DProc) : Int := (4 * (x.fCode.length : Int))
def mkProc (z : Int) (x : DProc) : DProc := ⟨marksInstr z x.fCode.length⟩
def marksProc : Int → List DProc → List DProc
  | _, [] => []
  | z, x :: r => mkProc z x :: marksProc (z + cntProc x) r
theorem marksProc_length (l : List DProc) : ∀ z, (marksProc z l).length = l.length := by
  induction l with
  | nil => intro z; rfl
  | cons x l ih => intro z; simp [marksProc, ih]
theorem marksProc_snoc (l : List DProc) (x : DProc) : ∀ z, marksProc z (l ++ [x]) = marksProc z l ++ [mkProc (z + (l.map cntProc).sum) x] := by
  induction l with
  | nil => intro z; simp [marksProc]
  | cons y l ih => intro z; simp [marksProc, ih, Int.add_assoc]
theorem marksProc_step {xs : List DProc} {k : Int} {j : Nat} {x : DProc} (hx : xs[j]? = some x) :
    (marksProc k (xs.take j) ++ xs.drop j).set j (mkProc (k + ((xs.take j).map cntProc).sum) x) = marksProc k (xs.take (j + 1)) ++ xs.drop (j + 1) := by
  obtain ⟨hj, rfl⟩ := List.getElem?_eq_some_iff.1 hx
  have hl : (marksProc k (xs.take j)).length = j := by rw [marksProc_length, List.length_take]; omega
  rw [List.take_succ_eq_append_getElem hj, marksProc_snoc, List.drop_eq_getElem_cons hj, List.set_append, if_neg (by omega), hl, Nat.sub_self, List.set_cons_zero, List.append_assoc]
  rfl

theorem cntProc_pos (x : DProc) : 0 ≤ cntProc x := by
  unfold cntProc
  omega

/-- The call marks the row: blocks that F holds turn alone. -/
def MarkedProc (w : World) (F : Nat → Prop) (e : TypeId) (A : Option Addr) (n c : Nat) (k : Int) (xs : List DProc) (en : Ending) (w' : World) : Prop :=
  en = .returned (.int .i64 (k + (xs.map cntProc).sum)) ∧ OwnR layProc e w' F A n c (marksProc k xs) ∧ TurnedF F w w'

set_option maxRecDepth 100000 in
set_option maxHeartbeats 2000000 in
theorem markProcS_any {w : World} {F : Nat → Prop} {e : TypeId} {A : Option Addr} {n c : Nat} {k : Int} {xs : List DProc} (h : OwnR layProc e w F A n c xs) (hn : n ≤ 1048576) (hs : ∀ x ∈ xs, szProc x ≤ 1048576) (hk0 : 0 ≤ k) (hk : k + (xs.map cntProc).sum ≤ 16777216) :
    Calls Tryz.prog 38 #[.slice A n c, .int .i64 k] w (MarkedProc w F e A n c k xs) := by
  have HL := Lib.hid h.1
  have HK := Lib.hid hk
  clear hk
  go_enter Tryz.func38, Tryz.ntmps38
  go_wp2_with fail
  go_loopw [1, 5] (fun q i wr => ∃ (j : Nat) (z : Int), j ≤ n ∧ i = .int .i64 j ∧ q = .int .i64 z ∧ Hid (z = k + ((xs.take j).map cntProc).sum) ∧ OwnR layProc e wr F A n c (marksProc k (xs.take j) ++ xs.drop j) ∧ TurnedF F w wr) (fun _ i _ => n - (intOf i).toNat)
  case atStart => exact ⟨0, k, Nat.zero_le _, rfl, rfl, Lib.hid (by simp), by simpa [marksProc] using h, TurnedF.refl _ _⟩
  case round =>
    obtain ⟨j, z, hj, rfl, rfl, HZ, hown, ht⟩ := hrel
    by_cases hlt : j < n
    · obtain ⟨hx, g, G, us, rfl, hgs, hrow, hel⟩ := hown.open_ hlt
      have hxj : j < xs.length := by rw [HL.out]; exact hlt
      have he : (marksProc k (xs.take j) ++ xs.drop j)[j] = xs[j] := by
        have hm : (marksProc k (xs.take j)).length = j := by rw [marksProc_length, List.length_take]; omega
        rw [List.getElem_append_right (by omega)]
        simp [hm]
      rw [he] at hel
      clear he hown hx
      have hdk := Lib.hid (List.getElem?_eq_getElem hxj)
      have hsx := hs _ (List.getElem_mem hxj)
      have hz0 : 0 ≤ z := by have := sum_pos cntProc_pos (xs.take j); have := HZ.out; omega
      have hcx : z + cntProc xs[j] ≤ 16777216 := by
        have h1 := sum_upto cntProc_pos hdk.out
        have := HZ.out
        have := HK.out
        omega
      have HST := Lib.hid (marksProc_step (k := k) hdk.out)
      have HZN := Lib.hid (sum_next cntProc hdk.out)
      rw [← HZ.out] at HST
      generalize xs[j] = x at *
      clear hxj
      obtain ⟨A0, n0, c0, F0, rfl, ⟨o0, k0⟩⟩ := unownProc hel
      have l0 := o0.1
      subst l0
      have hg0 : ¬ F0 g := fun h => hrow.not (k0 g h)
      unfold szProc at hsx
      unfold cntProc at hcx
      have cc0 : wr.cell? ⟨g, j * 1 + 0, none⟩ = some (.slice A0 x.fCode.length c0) := hrow.cell (j := 0) rfl (by decide)
      have ff := hrow.free
      simp only [Nat.add_zero, Nat.mul_one] at cc0
      go_wp2_with fail
      refine (markInstrS_any (F := F0) (by exact o0) (by omega) (by omega) (by omega)).mono ?_
      rintro e w1 ⟨rfl, q0, t0⟩
      have ht1 := ht.trans (t0.wide fun b hb => hrow.inF b (k0 b hb))
      have hrow1 := OpenRow.turned hrow t0 k0
      clear hrow ht t0 cc0 ff
      have hrow := hrow1
      clear hrow1
      have ht := ht1
      clear ht1
      clear o0
      have o0 := q0
      clear q0
      have cc0 : w1.cell? ⟨g, j * 1 + 0, none⟩ = some (.slice A0 x.fCode.length c0) := hrow.cell (j := 0) rfl (by decide)
      have ff := hrow.free
      simp only [Nat.add_zero, Nat.mul_one] at cc0
      go_wp2_with fail
      go_roundw
      case rel =>
        have hshut := OpenRow.shut hrow (x' := mkProc z x) (ownProc o0 k0)
        rw [HST.out] at hshut
        exact ⟨j + 1, z + 4 * (x.fCode.length : Int), by omega, by go_num, by go_num, Lib.hid (by rw [HZN.out]; have h1 := HZ.out; have h2 : cntProc x = 4 * (x.fCode.length : Int) := rfl; omega), by first | exact hshut | (simp only [Int.add_mul_emod_self_left] at hshut; exact hshut), ht⟩
      case measure => simp [intOf]; omega
    · go_wp2_with fail
      go_ret
      obtain rfl : j = n := by omega
      have e1 : xs.take j = xs := List.take_of_length_le (by rw [HL.out]; exact Nat.le_refl _)
      have hz := HZ.out
      rw [e1] at hown hz
      rw [List.drop_of_length_le (by rw [HL.out]; exact Nat.le_refl _), List.append_nil] at hown
      exact ⟨by rw [← hz]; rfl, hown, ht⟩

/-- How many marks it takes where it stands by itself: its slices alone; and what it is then. -/
def vcntProc (x : DProc) : Int := 4 * (x.fCode.length : Int)
def mkvProc (k : Int) (x : DProc) : DProc := ⟨marksInstr k x.fCode.length⟩

theorem marksProc_get {x : DProc} : ∀ {xs : List DProc} {k : Int} {j : Nat}, xs[j]? = some x → (marksProc k xs)[j]? = some (mkProc (k + ((xs.take j).map cntProc).sum) x)
  | [], _, _, h => by simp at h
  | y :: xs, k, 0, h => by
    simp at h
    subst h
    simp [marksProc]
  | y :: xs, k, j + 1, h => by
    have := marksProc_get (xs := xs) (k := k + cntProc y) (j := j) (by simpa using h)
    simp only [marksProc, List.getElem?_cons_succ, this, List.take_succ_cons, List.map_cons, List.sum_cons, Int.add_assoc]

end Go.Proofs.YtapbjnfopniicaaGreatDoor

namespace Go.Proofs.YtapbjnfopniicaaGreatDoor
set_option linter.unusedSimpArgs false
set_option linter.unusedVariables false
open Go.RowKit

theorem unownProg {w : World} {F : Nat → Prop} {x : DProg} {vs : List Value} (h : layProg.own w F x vs) : ∃ (A0 : Option Addr) (n0 c0 : Nat) (F0 : Nat → Prop) (A2 : Option Addr) (n2 c2 : Nat) (F2 : Nat → Prop) (A3 : Option Addr) (n3 c3 : Nat) (F3 : Nat → Prop), vs = [.slice A0 n0 c0, .int .i64 x.fMus, .slice A2 n2 c2, .slice A3 n3 c3] ∧ (OwnR Lay.int 3 w F0 A0 n0 c0 x.fCaps ∧ ∀ g, F0 g → F g) ∧ (Lit.int .i64 x.fMus).wf = true ∧ (OwnR laySelect 89 w F2 A2 n2 c2 x.fSels ∧ ∀ g, F2 g → F g) ∧ (OwnR layProc 93 w F3 A3 n3 c3 x.fProcs ∧ ∀ g, F3 g → F g) ∧ (∀ g, F0 g → ¬ F2 g) ∧ (∀ g, F0 g → ¬ F3 g) ∧ (∀ g, F2 g → ¬ F3 g) := by
  obtain ⟨_, _, F0, R1, rfl, s0, ⟨_, _, F1, R2, rfl, s1, ⟨_, _, F2, R3, rfl, s2, s3, k2, r2, d2⟩, k1, r1, d1⟩, k0, r0, d0⟩ := h
  obtain ⟨A0, n0, c0, rfl, h0⟩ := s0
  obtain ⟨rfl, h1⟩ := s1
  obtain ⟨A2, n2, c2, rfl, h2⟩ := s2
  obtain ⟨A3, n3, c3, rfl, h3⟩ := s3
  exact ⟨A0, n0, c0, F0, A2, n2, c2, F2, A3, n3, c3, R3, rfl, ⟨h0, (fun g h => k0 g h)⟩, h1, ⟨h2, (fun g h => r0 g (r1 g (k2 g h)))⟩, ⟨h3, (fun g h => r0 g (r1 g (r2 g h)))⟩, (fun g hi hj => d0 g hi ((fun g h => r1 g (k2 g h)) g hj)), (fun g hi hj => d0 g hi ((fun g h => r1 g (r2 g h)) g hj)), (fun g hi hj => d2 g hi ((fun g h => h) g hj))⟩

/-- How many marks it takes; what it is, marked from z on. -/
def cntProg (x : DProg) : Int := ((x.fCaps.length : Int)) + 1 + (x.fSels.map cntSelect).sum + (x.fProcs.map cntProc).sum
def mkProg (z : Int) (x : DProg) : DProg := ⟨marksInt z x.fCaps.length, z + ((x.fCaps.length : Int)), marksSelect (z + ((x.fCaps.length : Int)) + 1) x.fSels, marksProc (z + ((x.fCaps.length : Int)) + 1 + (x.fSels.map cntSelect).sum) x.fProcs⟩
def marksProg : Int → List DProg → List DProg
  | _, [] => []
  | z, x :: r => mkProg z x :: marksProg (z + cntProg x) r
theorem marksProg_length (l : List DProg) : ∀ z, (marksProg z l).length = l.length := by
  induction l with
  | nil => intro z; rfl
  | cons x l ih => intro z; simp [marksProg, ih]
theorem marksProg_snoc (l : List DProg) (x : DProg) : ∀ z, marksProg z (l ++ [x]) = marksProg z l ++ [mkProg (z + (l.map cntProg).sum) x] := by
  induction l with
  | nil => intro z; simp [marksProg]
  | cons y l ih => intro z; simp [marksProg, ih, Int.add_assoc]
theorem marksProg_step {xs : List DProg} {k : Int} {j : Nat} {x : DProg} (hx : xs[j]? = some x) :
    (marksProg k (xs.take j) ++ xs.drop j).set j (mkProg (k + ((xs.take j).map cntProg).sum) x) = marksProg k (xs.take (j + 1)) ++ xs.drop (j + 1) := by
  obtain ⟨hj, rfl⟩ := List.getElem?_eq_some_iff.1 hx
  have hl : (marksProg k (xs.take j)).length = j := by rw [marksProg_length, List.length_take]; omega
  rw [List.take_succ_eq_append_getElem hj, marksProg_snoc, List.drop_eq_getElem_cons hj, List.set_append, if_neg (by omega), hl, Nat.sub_self, List.set_cons_zero, List.append_assoc]
  rfl

theorem cntProg_pos (x : DProg) : 0 ≤ cntProg x := by
  unfold cntProg
  have hq2 := sum_pos cntSelect_pos x.fSels
  have hq3 := sum_pos cntProc_pos x.fProcs
  omega

/-- The call marks the row: blocks that F holds turn alone. -/
def MarkedProg (w : World) (F : Nat → Prop) (e : TypeId) (A : Option Addr) (n c : Nat) (k : Int) (xs : List DProg) (en : Ending) (w' : World) : Prop :=
  en = .returned (.int .i64 (k + (xs.map cntProg).sum)) ∧ OwnR layProg e w' F A n c (marksProg k xs) ∧ TurnedF F w w'

/-- How many marks it takes where it stands by itself: its slices alone; and what it is then. -/
def vcntProg (x : DProg) : Int := (x.fCaps.length : Int) + (x.fSels.map cntSelect).sum + (x.fProcs.map cntProc).sum
def mkvProg (k : Int) (x : DProg) : DProg := ⟨marksInt k x.fCaps.length, x.fMus, marksSelect (k + (x.fCaps.length : Int)) x.fSels, marksProc (k + (x.fCaps.length : Int) + (x.fSels.map cntSelect).sum) x.fProcs⟩

set_option maxRecDepth 100000 in
set_option maxHeartbeats 2000000 in
theorem markProg_any {w : World} {F : Nat → Prop} {x : DProg} {vs : List Value} {k : Int} (h : layProg.own w F x vs) (hF : ∀ g, F g → g < w.heap.size) (hs : szProg x ≤ 1048576) (hk0 : 0 ≤ k) (hk : k + vcntProg x ≤ 16777216) :
    Calls Tryz.prog 14 #[.agg vs.toArray, .int .i64 k] w fun e w' => e = .returned (.int .i64 (k + vcntProg x)) ∧ layProg.own w' F (mkvProg k x) vs ∧ TurnedF F w w' := by
  obtain ⟨A0, n0, c0, F0, A2, n2, c2, F2, A3, n3, c3, F3, rfl, ⟨o0, k0⟩, hw1, ⟨o2, k2⟩, ⟨o3, k3⟩, d0_2, d0_3, d2_3⟩ := unownProg h
  have l0 := o0.1
  subst l0
  have l2 := o2.1
  subst l2
  have hq2 := sum_pos cntSelect_pos x.fSels
  have l3 := o3.1
  subst l3
  have hq3 := sum_pos cntProc_pos x.fProcs
  unfold szProg at hs
  have hk2 := hk
  unfold vcntProg at hk2
  have hs2 : ∀ y ∈ x.fSels, szSelect y ≤ 1048576 := fun y hy => by have := sum_mem_le szSelect hy; omega
  have hs3 : ∀ y ∈ x.fProcs, szProc y ≤ 1048576 := fun y hy => by have := sum_mem_le szProc hy; omega
  have HV := Lib.hid (show vcntProg x = vcntProg x from rfl)
  unfold vcntProg at HV
  clear hk h
  have ht : TurnedF F w (w.alloc (.cells #[.slice A0 x.fCaps.length c0, .int .i64 x.fMus, .slice A2 x.fSels.length c2, .slice A3 x.fProcs.length c3] 40)) := TurnedF.of_below ((Below.refl _ _).alloc (Nat.le_refl _) _) F
  replace o0 := o0.stay (w' := (w.alloc (.cells #[.slice A0 x.fCaps.length c0, .int .i64 x.fMus, .slice A2 x.fSels.length c2, .slice A3 x.fProcs.length c3] 40))) (fun b _ hlt => Below.heap_alloc w _ b hlt) (by simp)
  replace o2 := o2.stay (w' := (w.alloc (.cells #[.slice A0 x.fCaps.length c0, .int .i64 x.fMus, .slice A2 x.fSels.length c2, .slice A3 x.fProcs.length c3] 40))) (fun b _ hlt => Below.heap_alloc w _ b hlt) (by simp)
  replace o3 := o3.stay (w' := (w.alloc (.cells #[.slice A0 x.fCaps.length c0, .int .i64 x.fMus, .slice A2 x.fSels.length c2, .slice A3 x.fProcs.length c3] 40))) (fun b _ hlt => Below.heap_alloc w _ b hlt) (by simp)
  have hbx : ∀ o, (w.alloc (.cells #[.slice A0 x.fCaps.length c0, .int .i64 x.fMus, .slice A2 x.fSels.length c2, .slice A3 x.fProcs.length c3] 40)).cell? ⟨w.heap.size, o, none⟩ = (w.alloc (.cells #[.slice A0 x.fCaps.length c0, .int .i64 x.fMus, .slice A2 x.fSels.length c2, .slice A3 x.fProcs.length c3] 40)).cell? ⟨w.heap.size, o, none⟩ := fun _ => rfl
  have hz0 : w.heap.size < (w.alloc (.cells #[.slice A0 x.fCaps.length c0, .int .i64 x.fMus, .slice A2 x.fSels.length c2, .slice A3 x.fProcs.length c3] 40)).heap.size := by simp
  clear hbx
  go_enter Tryz.func14, Tryz.ntmps14
  go_wp2_with fail
  refine (markIntS_any1 (F := F0) o0 (by omega) (by omega) (by omega)).mono ?_
  rintro e w1 ⟨rfl, q0, t0⟩
  have hz1 : w.heap.size < w1.heap.size := Nat.lt_of_lt_of_le hz0 t0.size
  have hb1 : w1.heap[w.heap.size]? = (w.alloc (.cells #[.slice A0 x.fCaps.length c0, .int .i64 x.fMus, .slice A2 x.fSels.length c2, .slice A3 x.fProcs.length c3] 40)).heap[w.heap.size]? := t0.block _ hz0 (fun hb => Nat.lt_irrefl _ (hF _ (k0 _ hb)))
  have hcl1 : ∀ o, w1.cell? ⟨w.heap.size, o, none⟩ = (w.alloc (.cells #[.slice A0 x.fCaps.length c0, .int .i64 x.fMus, .slice A2 x.fSels.length c2, .slice A3 x.fProcs.length c3] 40)).cell? ⟨w.heap.size, o, none⟩ := fun o => World.cell?_of_block hb1
  replace ht := ht.trans (t0.wide k0)
  replace o2 := o2.turnedF t0 (fun b hb hb2 => d0_2 b hb2 hb)
  replace o3 := o3.turnedF t0 (fun b hb hb2 => d0_3 b hb2 hb)
  clear t0
  go_wp2_with fail
  refine (markSelectS_any (F := F2) o2 (by omega) hs2 (by omega) (by omega)).mono ?_
  rintro e w2 ⟨rfl, q2, t2⟩
  have hz2 : w.heap.size < w2.heap.size := Nat.lt_of_lt_of_le hz1 t2.size
  have hb2 : w2.heap[w.heap.size]? = w1.heap[w.heap.size]? := t2.block _ hz1 (fun hb => Nat.lt_irrefl _ (hF _ (k2 _ hb)))
  replace hb2 := hb2.trans hb1
  have hcl2 : ∀ o, w2.cell? ⟨w.heap.size, o, none⟩ = (w.alloc (.cells #[.slice A0 x.fCaps.length c0, .int .i64 x.fMus, .slice A2 x.fSels.length c2, .slice A3 x.fProcs.length c3] 40)).cell? ⟨w.heap.size, o, none⟩ := fun o => World.cell?_of_block hb2
  replace ht := ht.trans (t2.wide k2)
  replace o3 := o3.turnedF t2 (fun b hb hb2 => d2_3 b hb2 hb)
  replace q0 := q0.turnedF t2 (fun b hb hb2 => d0_2 b hb hb2)
  clear t2
  go_wp2_with fail
  refine (markProcS_any (F := F3) o3 (by omega) hs3 (by omega) (by omega)).mono ?_
  rintro e w3 ⟨rfl, q3, t3⟩
  have hz3 : w.heap.size < w3.heap.size := Nat.lt_of_lt_of_le hz2 t3.size
  have hb3 : w3.heap[w.heap.size]? = w2.heap[w.heap.size]? := t3.block _ hz2 (fun hb => Nat.lt_irrefl _ (hF _ (k3 _ hb)))
  replace hb3 := hb3.trans hb2
  have hcl3 : ∀ o, w3.cell? ⟨w.heap.size, o, none⟩ = (w.alloc (.cells #[.slice A0 x.fCaps.length c0, .int .i64 x.fMus, .slice A2 x.fSels.length c2, .slice A3 x.fProcs.length c3] 40)).cell? ⟨w.heap.size, o, none⟩ := fun o => World.cell?_of_block hb3
  replace ht := ht.trans (t3.wide k3)
  replace q0 := q0.turnedF t3 (fun b hb hb2 => d0_3 b hb hb2)
  replace q2 := q2.turnedF t3 (fun b hb hb2 => d2_3 b hb hb2)
  clear t3
  go_wp2_with fail
  go_ret
  exact ⟨by unfold vcntProg; go_num, ownProg (x := mkvProg k x) q0 hw1 q2 q3 k0 k2 k3 d0_2 d0_3 d2_3, ht⟩

theorem marksProg_get {x : DProg} : ∀ {xs : List DProg} {k : Int} {j : Nat}, xs[j]? = some x → (marksProg k xs)[j]? = some (mkProg (k + ((xs.take j).map cntProg).sum) x)
  | [], _, _, h => by simp at h
  | y :: xs, k, 0, h => by
    simp at h
    subst h
    simp [marksProg]
  | y :: xs, k, j + 1, h => by
    have := marksProg_get (xs := xs) (k := k + cntProg y) (j := j) (by simpa using h)
    simp only [marksProg, List.getElem?_cons_succ, this, List.take_succ_cons, List.map_cons, List.sum_cons, Int.add_assoc]

end Go.Proofs.YtapbjnfopniicaaGreatDoor
