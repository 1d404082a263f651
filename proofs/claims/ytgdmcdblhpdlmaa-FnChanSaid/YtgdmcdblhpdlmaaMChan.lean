
/- Marks of rows of Chan: the contracts of markS and heldS. Laid by wip/tools/gen.py. -/

import Derived.Test.YtgdmcdblhpdlmaaDChan

import Derived.Test.YtgdmcdblhpdlmaaBase

import Derived.Test.YtgdmcdblhpdlmaaTail

import Derived.Test.YtgdmcdblhpdlmaaMInt

import Derived.Test.YtgdmcdblhpdlmaaMWaiter

namespace Go.Proofs.Ytgdmcdblhpdlmaa
set_option linter.unusedSimpArgs false
set_option linter.unusedVariables false
open Go.RowKit

theorem unownChan {w : World} {F : Nat → Prop} {x : DChan} {vs : List Value} (h : layChan.own w F x vs) : ∃ (A1 : Option Addr) (n1 c1 : Nat) (F1 : Nat → Prop) (A2 : Option Addr) (n2 c2 : Nat) (F2 : Nat → Prop) (A3 : Option Addr) (n3 c3 : Nat) (F3 : Nat → Prop), vs = [.int .i64 x.fCap, .slice A1 n1 c1, .slice A2 n2 c2, .slice A3 n3 c3, .bool x.fClosed] ∧ (Lit.int .i64 x.fCap).wf = true ∧ (TailR Lay.int 3 w F1 A1 n1 c1 x.fBuf ∧ ∀ g, F1 g → F g) ∧ (TailR layWaiter 29 w F2 A2 n2 c2 x.fSends ∧ ∀ g, F2 g → F g) ∧ (TailR layWaiter 29 w F3 A3 n3 c3 x.fRecvs ∧ ∀ g, F3 g → F g) ∧ (∀ g, F1 g → ¬ F2 g) ∧ (∀ g, F1 g → ¬ F3 g) ∧ (∀ g, F2 g → ¬ F3 g) := by
  obtain ⟨_, _, F0, R1, rfl, s0, ⟨_, _, F1, R2, rfl, s1, ⟨_, _, F2, R3, rfl, s2, ⟨_, _, F3, R4, rfl, s3, s4, k3, r3, d3⟩, k2, r2, d2⟩, k1, r1, d1⟩, k0, r0, d0⟩ := h
  obtain ⟨rfl, h0⟩ := s0
  obtain ⟨A1, n1, c1, rfl, h1⟩ := s1
  obtain ⟨A2, n2, c2, rfl, h2⟩ := s2
  obtain ⟨A3, n3, c3, rfl, h3⟩ := s3
  obtain ⟨rfl, h4⟩ := s4
  exact ⟨A1, n1, c1, F1, A2, n2, c2, F2, A3, n3, c3, F3, rfl, h0, ⟨h1, (fun g h => r0 g (k1 g h))⟩, ⟨h2, (fun g h => r0 g (r1 g (k2 g h)))⟩, ⟨h3, (fun g h => r0 g (r1 g (r2 g (k3 g h))))⟩, (fun g hi hj => d1 g hi ((fun g h => k2 g h) g hj)), (fun g hi hj => d1 g hi ((fun g h => r2 g (k3 g h)) g hj)), (fun g hi hj => d2 g hi ((fun g h => k3 g h) g hj))⟩

/-- How many marks it takes; what it is, marked from z on. -/
def cntChan (x : DChan) : Int := 1 + ((x.fBuf.length : Int)) + (3 * (x.fSends.length : Int)) + (3 * (x.fRecvs.length : Int)) + 1
def mkChan (z : Int) (x : DChan) : DChan := ⟨z, marksInt (z + 1) x.fBuf.length, marksWaiter (z + 1 + ((x.fBuf.length : Int))) x.fSends.length, marksWaiter (z + 1 + ((x.fBuf.length : Int)) + (3 * (x.fSends.length : Int))) x.fRecvs.length, (z + 1 + ((x.fBuf.length : Int)) + (3 * (x.fSends.length : Int)) + (3 * (x.fRecvs.length : Int))) % 3 == 0⟩
def marksChan : Int → List DChan → List DChan
  | _, [] => []
  | z, x :: r => mkChan z x :: marksChan (z + cntChan x) r
theorem marksChan_length (l : List DChan) : ∀ z, (marksChan z l).length = l.length := by
  induction l with
  | nil => intro z; rfl
  | cons x l ih => intro z; simp [marksChan, ih]
theorem marksChan_snoc (l : List DChan) (x : DChan) : ∀ z, marksChan z (l ++ [x]) = marksChan z l ++ [mkChan (z + (l.map cntChan).sum) x] := by
  induction l with
  | nil => intro z; simp [marksChan]
  | cons y l ih => intro z; simp [marksChan, ih, Int.add_assoc]
theorem marksChan_step {xs : List DChan} {k : Int} {j : Nat} {x : DChan} (hx : xs[j]? = some x) :
    (marksChan k (xs.take j) ++ xs.drop j).set j (mkChan (k + ((xs.take j).map cntChan).sum) x) = marksChan k (xs.take (j + 1)) ++ xs.drop (j + 1) := by
  obtain ⟨hj, rfl⟩ := List.getElem?_eq_some_iff.1 hx
  have hl : (marksChan k (xs.take j)).length = j := by rw [marksChan_length, List.length_take]; omega
  rw [List.take_succ_eq_append_getElem hj, marksChan_snoc, List.drop_eq_getElem_cons hj, List.set_append, if_neg (by omega), hl, Nat.sub_self, List.set_cons_zero, List.append_assoc]
  rfl

theorem cntChan_pos (x : DChan) : 0 ≤ cntChan x := by
  unfold cntChan
  omega

/-- The call marks the row: blocks that F holds turn alone. -/
def MarkedChan (w : World) (F : Nat → Prop) (e : TypeId) (A : Option Addr) (n c : Nat) (k : Int) (xs : List DChan) (en : Ending) (w' : World) : Prop :=
  en = .returned (.int .i64 (k + (xs.map cntChan).sum)) ∧ OwnR layChan e w' F A n c (marksChan k xs) ∧ TurnedF F w w'

/-- How many marks it takes where it stands by itself: its slices alone; and what it is then. -/
def vcntChan (x : DChan) : Int := (x.fBuf.length : Int) + 3 * (x.fSends.length : Int) + 3 * (x.fRecvs.length : Int)
def mkvChan (k : Int) (x : DChan) : DChan := ⟨x.fCap, marksInt k x.fBuf.length, marksWaiter (k + (x.fBuf.length : Int)) x.fSends.length, marksWaiter (k + (x.fBuf.length : Int) + 3 * (x.fSends.length : Int)) x.fRecvs.length, x.fClosed⟩

set_option maxRecDepth 100000 in
set_option maxHeartbeats 2000000 in
theorem markChan_any {w : World} {F : Nat → Prop} {x : DChan} {vs : List Value} {k : Int} (h : layChan.own w F x vs) (hF : ∀ g, F g → g < w.heap.size) (hs : szChan x ≤ 1048576) (hk0 : 0 ≤ k) (hk : k + vcntChan x ≤ 16777216) :
    Calls Try.prog 28 #[.agg vs.toArray, .int .i64 k] w fun e w' => e = .returned (.int .i64 (k + vcntChan x)) ∧ layChan.own w' F (mkvChan k x) vs ∧ TurnedF F w w' := by
  obtain ⟨A1, n1, c1, F1, A2, n2, c2, F2, A3, n3, c3, F3, rfl, hw0, ⟨o1, k1⟩, ⟨o2, k2⟩, ⟨o3, k3⟩, d1_2, d1_3, d2_3⟩ := unownChan h
  have l1 := o1.1
  subst l1
  have l2 := o2.1
  subst l2
  have l3 := o3.1
  subst l3
  unfold szChan at hs
  have hk2 := hk
  unfold vcntChan at hk2
  have HV := Lib.hid (show vcntChan x = vcntChan x from rfl)
  unfold vcntChan at HV
  clear hk h
  have ht : TurnedF F w (w.alloc (.cells #[.int .i64 x.fCap, .slice A1 x.fBuf.length c1, .slice A2 x.fSends.length c2, .slice A3 x.fRecvs.length c3, .bool x.fClosed] 26)) := TurnedF.of_below ((Below.refl _ _).alloc (Nat.le_refl _) _) F
  replace o1 := o1.stay (w' := (w.alloc (.cells #[.int .i64 x.fCap, .slice A1 x.fBuf.length c1, .slice A2 x.fSends.length c2, .slice A3 x.fRecvs.length c3, .bool x.fClosed] 26))) (fun b _ hlt => Below.heap_alloc w _ b hlt) (by simp)
  replace o2 := o2.stay (w' := (w.alloc (.cells #[.int .i64 x.fCap, .slice A1 x.fBuf.length c1, .slice A2 x.fSends.length c2, .slice A3 x.fRecvs.length c3, .bool x.fClosed] 26))) (fun b _ hlt => Below.heap_alloc w _ b hlt) (by simp)
  replace o3 := o3.stay (w' := (w.alloc (.cells #[.int .i64 x.fCap, .slice A1 x.fBuf.length c1, .slice A2 x.fSends.length c2, .slice A3 x.fRecvs.length c3, .bool x.fClosed] 26))) (fun b _ hlt => Below.heap_alloc w _ b hlt) (by simp)
  have hbx : ∀ o, (w.alloc (.cells #[.int .i64 x.fCap, .slice A1 x.fBuf.length c1, .slice A2 x.fSends.length c2, .slice A3 x.fRecvs.length c3, .bool x.fClosed] 26)).cell? ⟨w.heap.size, o, none⟩ = (w.alloc (.cells #[.int .i64 x.fCap, .slice A1 x.fBuf.length c1, .slice A2 x.fSends.length c2, .slice A3 x.fRecvs.length c3, .bool x.fClosed] 26)).cell? ⟨w.heap.size, o, none⟩ := fun _ => rfl
  have hz0 : w.heap.size < (w.alloc (.cells #[.int .i64 x.fCap, .slice A1 x.fBuf.length c1, .slice A2 x.fSends.length c2, .slice A3 x.fRecvs.length c3, .bool x.fClosed] 26)).heap.size := by simp
  clear hbx
  go_enter Try.func28, Try.ntmps28
  go_wp2_with fail
  refine (markIntS_tail1 (F := F1) o1 (by omega) (by omega) (by omega)).mono ?_
  rintro e w1 ⟨rfl, q1, t1⟩
  have hz1 : w.heap.size < w1.heap.size := Nat.lt_of_lt_of_le hz0 t1.size
  have hb1 : w1.heap[w.heap.size]? = (w.alloc (.cells #[.int .i64 x.fCap, .slice A1 x.fBuf.length c1, .slice A2 x.fSends.length c2, .slice A3 x.fRecvs.length c3, .bool x.fClosed] 26)).heap[w.heap.size]? := t1.block _ hz0 (fun hb => Nat.lt_irrefl _ (hF _ (k1 _ hb)))
  have hcl1 : ∀ o, w1.cell? ⟨w.heap.size, o, none⟩ = (w.alloc (.cells #[.int .i64 x.fCap, .slice A1 x.fBuf.length c1, .slice A2 x.fSends.length c2, .slice A3 x.fRecvs.length c3, .bool x.fClosed] 26)).cell? ⟨w.heap.size, o, none⟩ := fun o => World.cell?_of_block hb1
  replace ht := ht.trans (t1.wide k1)
  replace o2 := o2.turnedF t1 (fun b hb hb2 => d1_2 b hb2 hb)
  replace o3 := o3.turnedF t1 (fun b hb hb2 => d1_3 b hb2 hb)
  clear t1
  go_wp2_with fail
  refine (markWaiterS_tail (F := F2) o2 (by omega) (by omega) (by omega)).mono ?_
  rintro e w2 ⟨rfl, q2, t2⟩
  have hz2 : w.heap.size < w2.heap.size := Nat.lt_of_lt_of_le hz1 t2.size
  have hb2 : w2.heap[w.heap.size]? = w1.heap[w.heap.size]? := t2.block _ hz1 (fun hb => Nat.lt_irrefl _ (hF _ (k2 _ hb)))
  replace hb2 := hb2.trans hb1
  have hcl2 : ∀ o, w2.cell? ⟨w.heap.size, o, none⟩ = (w.alloc (.cells #[.int .i64 x.fCap, .slice A1 x.fBuf.length c1, .slice A2 x.fSends.length c2, .slice A3 x.fRecvs.length c3, .bool x.fClosed] 26)).cell? ⟨w.heap.size, o, none⟩ := fun o => World.cell?_of_block hb2
  replace ht := ht.trans (t2.wide k2)
  replace o3 := o3.turnedF t2 (fun b hb hb2 => d2_3 b hb2 hb)
  replace q1 := q1.turnedF t2 (fun b hb hb2 => d1_2 b hb hb2)
  clear t2
  go_wp2_with fail
  refine (markWaiterS_tail (F := F3) o3 (by omega) (by omega) (by omega)).mono ?_
  rintro e w3 ⟨rfl, q3, t3⟩
  have hz3 : w.heap.size < w3.heap.size := Nat.lt_of_lt_of_le hz2 t3.size
  have hb3 : w3.heap[w.heap.size]? = w2.heap[w.heap.size]? := t3.block _ hz2 (fun hb => Nat.lt_irrefl _ (hF _ (k3 _ hb)))
  replace hb3 := hb3.trans hb2
  have hcl3 : ∀ o, w3.cell? ⟨w.heap.size, o, none⟩ = (w.alloc (.cells #[.int .i64 x.fCap, .slice A1 x.fBuf.length c1, .slice A2 x.fSends.length c2, .slice A3 x.fRecvs.length c3, .bool x.fClosed] 26)).cell? ⟨w.heap.size, o, none⟩ := fun o => World.cell?_of_block hb3
  replace ht := ht.trans (t3.wide k3)
  replace q1 := q1.turnedF t3 (fun b hb hb2 => d1_3 b hb hb2)
  replace q2 := q2.turnedF t3 (fun b hb hb2 => d2_3 b hb hb2)
  clear t3
  go_wp2_with fail
  go_ret
  exact ⟨by unfold vcntChan; go_num, ownChan (x := mkvChan k x) hw0 q1 q2 q3 k1 k2 k3 d1_2 d1_3 d2_3, ht⟩

theorem marksChan_get {x : DChan} : ∀ {xs : List DChan} {k : Int} {j : Nat}, xs[j]? = some x → (marksChan k xs)[j]? = some (mkChan (k + ((xs.take j).map cntChan).sum) x)
  | [], _, _, h => by simp at h
  | y :: xs, k, 0, h => by
    simp at h
    subst h
    simp [marksChan]
  | y :: xs, k, j + 1, h => by
    have := marksChan_get (xs := xs) (k := k + cntChan y) (j := j) (by simpa using h)
    simp only [marksChan, List.getElem?_cons_succ, this, List.take_succ_cons, List.map_cons, List.sum_cons, Int.add_assoc]

set_option maxRecDepth 100000 in
set_option maxHeartbeats 2000000 in
theorem heldChan_any {w : World} {hi : Nat} {x : DChan} {vs : List Value} {k : Int} (h : layChan.see w hi (mkvChan k x) vs) (hhi : hi ≤ w.heap.size) (hs : szChan x ≤ 1048576) (hk0 : 0 ≤ k) (hk : k + vcntChan x ≤ 16777216) :
    Calls Try.prog 29 #[.agg vs.toArray, .int .i64 k] w fun e w' => e = .returned (.int .i64 (k + vcntChan x)) ∧ Below w.heap.size w w' := by
  obtain ⟨A1, n1, c1, A2, n2, c2, A3, n3, c3, rfl, hw0, ⟨hc1, hm1, s1⟩, ⟨hc2, hm2, s2⟩, ⟨hc3, hm3, s3⟩⟩ := seeChan h
  have l1 : x.fBuf.length = n1 := by have h1 := s1.1; simpa [mkvChan, marksInt_length] using h1
  subst l1
  have l2 : x.fSends.length = n2 := by have h1 := s2.1; simpa [mkvChan, marksWaiter_length] using h1
  subst l2
  have l3 : x.fRecvs.length = n3 := by have h1 := s3.1; simpa [mkvChan, marksWaiter_length] using h1
  subst l3
  replace s1 : SeenR Lay.int (w.alloc (.cells #[.int .i64 x.fCap, .slice A1 x.fBuf.length c1, .slice A2 x.fSends.length c2, .slice A3 x.fRecvs.length c3, .bool x.fClosed] 26)) hi A1 x.fBuf.length (marksInt (k) x.fBuf.length) := s1.below ((Below.refl _ _).alloc (Nat.le_refl _) _) hhi
  replace s2 : SeenR layWaiter (w.alloc (.cells #[.int .i64 x.fCap, .slice A1 x.fBuf.length c1, .slice A2 x.fSends.length c2, .slice A3 x.fRecvs.length c3, .bool x.fClosed] 26)) hi A2 x.fSends.length (marksWaiter (k + (x.fBuf.length : Int)) x.fSends.length) := s2.below ((Below.refl _ _).alloc (Nat.le_refl _) _) hhi
  replace s3 : SeenR layWaiter (w.alloc (.cells #[.int .i64 x.fCap, .slice A1 x.fBuf.length c1, .slice A2 x.fSends.length c2, .slice A3 x.fRecvs.length c3, .bool x.fClosed] 26)) hi A3 x.fRecvs.length (marksWaiter (k + (x.fBuf.length : Int) + 3 * (x.fSends.length : Int)) x.fRecvs.length) := s3.below ((Below.refl _ _).alloc (Nat.le_refl _) _) hhi
  unfold szChan at hs
  have hk2 := hk
  unfold vcntChan at hk2
  clear hk h
  go_enter Try.func29, Try.ntmps29
  have hd1 : decide (k + (x.fBuf.length : Int) < 0) = false := decide_eq_false (by omega)
  go_wp2_with fail
  refine (heldIntS_any1 s1 (by omega) (by omega) (by omega)).mono ?_
  rintro e w' ⟨rfl, rfl⟩
  have hd2 : decide (k + (x.fBuf.length : Int) + 3 * (x.fSends.length : Int) < 0) = false := decide_eq_false (by omega)
  go_wp2_with fail
  refine (heldWaiterS_any s2 (by omega) (by omega) (by omega)).mono ?_
  rintro e w' ⟨rfl, rfl⟩
  have hd3 : decide (k + (x.fBuf.length : Int) + 3 * (x.fSends.length : Int) + 3 * (x.fRecvs.length : Int) < 0) = false := decide_eq_false (by omega)
  go_wp2_with fail
  refine (heldWaiterS_any s3 (by omega) (by omega) (by omega)).mono ?_
  rintro e w' ⟨rfl, rfl⟩
  go_wp2_with fail
  go_ret
  exact ⟨by unfold vcntChan; go_num, by go_grown⟩
end Go.Proofs.Ytgdmcdblhpdlmaa
