
/- Marks of rows of Gor: the contracts of markS and heldS. Laid by wip/tools/gen.py. -/

import Derived.Test.YtakogbpjijbpeaaDGor

import Derived.Test.YtakogbpjijbpeaaBase

import Derived.Test.YtakogbpjijbpeaaTail

import Derived.Test.YtakogbpjijbpeaaMInt

import Derived.Test.YtakogbpjijbpeaaMItem

namespace Go.Proofs.Ytakogbpjijbpeaa
set_option linter.unusedSimpArgs false
set_option linter.unusedVariables false
open Go.RowKit

theorem unownGor {w : World} {F : Nat → Prop} {x : DGor} {vs : List Value} (h : layGor.own w F x vs) : ∃ (A2 : Option Addr) (n2 c2 : Nat) (F2 : Nat → Prop) (A4 : Option Addr) (n4 c4 : Nat) (F4 : Nat → Prop), vs = [.int .i64 x.fProc, .int .i64 x.fPc, .slice A2 n2 c2, .int .i64 x.fState, .slice A4 n4 c4] ∧ (Lit.int .i64 x.fProc).wf = true ∧ (Lit.int .i64 x.fPc).wf = true ∧ (TailR Lay.int 3 w F2 A2 n2 c2 x.fRegs ∧ ∀ g, F2 g → F g) ∧ (Lit.int .i64 x.fState).wf = true ∧ (TailR layItem 41 w F4 A4 n4 c4 x.fTrace ∧ ∀ g, F4 g → F g) ∧ (∀ g, F2 g → ¬ F4 g) := by
  obtain ⟨_, _, F0, R1, rfl, s0, ⟨_, _, F1, R2, rfl, s1, ⟨_, _, F2, R3, rfl, s2, ⟨_, _, F3, R4, rfl, s3, s4, k3, r3, d3⟩, k2, r2, d2⟩, k1, r1, d1⟩, k0, r0, d0⟩ := h
  obtain ⟨rfl, h0⟩ := s0
  obtain ⟨rfl, h1⟩ := s1
  obtain ⟨A2, n2, c2, rfl, h2⟩ := s2
  obtain ⟨rfl, h3⟩ := s3
  obtain ⟨A4, n4, c4, rfl, h4⟩ := s4
  exact ⟨A2, n2, c2, F2, A4, n4, c4, R4, rfl, h0, h1, ⟨h2, (fun g h => r0 g (r1 g (k2 g h)))⟩, h3, ⟨h4, (fun g h => r0 g (r1 g (r2 g (r3 g h))))⟩, (fun g hi hj => d2 g hi ((fun g h => r3 g h) g hj))⟩

/-- How many marks it takes; what it is, marked from z on. -/
def cntGor (x : DGor) : Int := 1 + 1 + ((x.fRegs.length : Int)) + 1 + (4 * (x.fTrace.length : Int))
def mkGor (z : Int) (x : DGor) : DGor := ⟨z, z + 1, marksInt (z + 1 + 1) x.fRegs.length, z + 1 + 1 + ((x.fRegs.length : Int)), marksItem (z + 1 + 1 + ((x.fRegs.length : Int)) + 1) x.fTrace.length⟩
def marksGor : Int → List DGor → List DGor
  | _, [] => []
  | z, x :: r => mkGor z x :: marksGor (z + cntGor x) r
theorem marksGor_length (l : List DGor) : ∀ z, (marksGor z l).length = l.length := by
  induction l with
  | nil => intro z; rfl
  | cons x l ih => intro z; simp [marksGor, ih]
theorem marksGor_snoc (l : List DGor) (x : DGor) : ∀ z, marksGor z (l ++ [x]) = marksGor z l ++ [mkGor (z + (l.map cntGor).sum) x] := by
  induction l with
  | nil => intro z; simp [marksGor]
  | cons y l ih => intro z; simp [marksGor, ih, Int.add_assoc]
theorem marksGor_step {xs : List DGor} {k : Int} {j : Nat} {x : DGor} (hx : xs[j]? = some x) :
    (marksGor k (xs.take j) ++ xs.drop j).set j (mkGor (k + ((xs.take j).map cntGor).sum) x) = marksGor k (xs.take (j + 1)) ++ xs.drop (j + 1) := by
  obtain ⟨hj, rfl⟩ := List.getElem?_eq_some_iff.1 hx
  have hl : (marksGor k (xs.take j)).length = j := by rw [marksGor_length, List.length_take]; omega
  rw [List.take_succ_eq_append_getElem hj, marksGor_snoc, List.drop_eq_getElem_cons hj, List.set_append, if_neg (by omega), hl, Nat.sub_self, List.set_cons_zero, List.append_assoc]
  rfl

theorem cntGor_pos (x : DGor) : 0 ≤ cntGor x := by
  unfold cntGor
  omega

/-- The call marks the row: blocks that F holds turn alone. -/
def MarkedGor (w : World) (F : Nat → Prop) (e : TypeId) (A : Option Addr) (n c : Nat) (k : Int) (xs : List DGor) (en : Ending) (w' : World) : Prop :=
  en = .returned (.int .i64 (k + (xs.map cntGor).sum)) ∧ OwnR layGor e w' F A n c (marksGor k xs) ∧ TurnedF F w w'

/-- How many marks it takes where it stands by itself: its slices alone; and what it is then. -/
def vcntGor (x : DGor) : Int := (x.fRegs.length : Int) + 4 * (x.fTrace.length : Int)
def mkvGor (k : Int) (x : DGor) : DGor := ⟨x.fProc, x.fPc, marksInt k x.fRegs.length, x.fState, marksItem (k + (x.fRegs.length : Int)) x.fTrace.length⟩

set_option maxRecDepth 100000 in
set_option maxHeartbeats 2000000 in
theorem markGor_any {w : World} {F : Nat → Prop} {x : DGor} {vs : List Value} {k : Int} (h : layGor.own w F x vs) (hF : ∀ g, F g → g < w.heap.size) (hs : szGor x ≤ 1048580) (hk0 : 0 ≤ k) (hk : k + vcntGor x ≤ 16777216) :
    Calls Try.prog 11 #[.agg vs.toArray, .int .i64 k] w fun e w' => e = .returned (.int .i64 (k + vcntGor x)) ∧ layGor.own w' F (mkvGor k x) vs ∧ TurnedF F w w' := by
  obtain ⟨A2, n2, c2, F2, A4, n4, c4, F4, rfl, hw0, hw1, ⟨o2, k2⟩, hw3, ⟨o4, k4⟩, d2_4⟩ := unownGor h
  have l2 := o2.1
  subst l2
  have l4 := o4.1
  subst l4
  unfold szGor at hs
  have hk2 := hk
  unfold vcntGor at hk2
  have HV := Lib.hid (show vcntGor x = vcntGor x from rfl)
  unfold vcntGor at HV
  clear hk h
  have ht : TurnedF F w (w.alloc (.cells #[.int .i64 x.fProc, .int .i64 x.fPc, .slice A2 x.fRegs.length c2, .int .i64 x.fState, .slice A4 x.fTrace.length c4] 25)) := TurnedF.of_below ((Below.refl _ _).alloc (Nat.le_refl _) _) F
  replace o2 := o2.stay (w' := (w.alloc (.cells #[.int .i64 x.fProc, .int .i64 x.fPc, .slice A2 x.fRegs.length c2, .int .i64 x.fState, .slice A4 x.fTrace.length c4] 25))) (fun b _ hlt => Below.heap_alloc w _ b hlt) (by simp)
  replace o4 := o4.stay (w' := (w.alloc (.cells #[.int .i64 x.fProc, .int .i64 x.fPc, .slice A2 x.fRegs.length c2, .int .i64 x.fState, .slice A4 x.fTrace.length c4] 25))) (fun b _ hlt => Below.heap_alloc w _ b hlt) (by simp)
  have hbx : ∀ o, (w.alloc (.cells #[.int .i64 x.fProc, .int .i64 x.fPc, .slice A2 x.fRegs.length c2, .int .i64 x.fState, .slice A4 x.fTrace.length c4] 25)).cell? ⟨w.heap.size, o, none⟩ = (w.alloc (.cells #[.int .i64 x.fProc, .int .i64 x.fPc, .slice A2 x.fRegs.length c2, .int .i64 x.fState, .slice A4 x.fTrace.length c4] 25)).cell? ⟨w.heap.size, o, none⟩ := fun _ => rfl
  have hz0 : w.heap.size < (w.alloc (.cells #[.int .i64 x.fProc, .int .i64 x.fPc, .slice A2 x.fRegs.length c2, .int .i64 x.fState, .slice A4 x.fTrace.length c4] 25)).heap.size := by simp
  clear hbx
  go_enter Try.func11, Try.ntmps11
  go_wp2_with fail
  refine (markIntS_tail1 (F := F2) o2 (by omega) (by omega) (by omega)).mono ?_
  rintro e w1 ⟨rfl, q2, t2⟩
  have hz1 : w.heap.size < w1.heap.size := Nat.lt_of_lt_of_le hz0 t2.size
  have hb1 : w1.heap[w.heap.size]? = (w.alloc (.cells #[.int .i64 x.fProc, .int .i64 x.fPc, .slice A2 x.fRegs.length c2, .int .i64 x.fState, .slice A4 x.fTrace.length c4] 25)).heap[w.heap.size]? := t2.block _ hz0 (fun hb => Nat.lt_irrefl _ (hF _ (k2 _ hb)))
  have hcl1 : ∀ o, w1.cell? ⟨w.heap.size, o, none⟩ = (w.alloc (.cells #[.int .i64 x.fProc, .int .i64 x.fPc, .slice A2 x.fRegs.length c2, .int .i64 x.fState, .slice A4 x.fTrace.length c4] 25)).cell? ⟨w.heap.size, o, none⟩ := fun o => World.cell?_of_block hb1
  replace ht := ht.trans (t2.wide k2)
  replace o4 := o4.turnedF t2 (fun b hb hb2 => d2_4 b hb2 hb)
  clear t2
  go_wp2_with fail
  refine (markItemS_tail (F := F4) o4 (by omega) (by omega) (by omega)).mono ?_
  rintro e w2 ⟨rfl, q4, t4⟩
  have hz2 : w.heap.size < w2.heap.size := Nat.lt_of_lt_of_le hz1 t4.size
  have hb2 : w2.heap[w.heap.size]? = w1.heap[w.heap.size]? := t4.block _ hz1 (fun hb => Nat.lt_irrefl _ (hF _ (k4 _ hb)))
  replace hb2 := hb2.trans hb1
  have hcl2 : ∀ o, w2.cell? ⟨w.heap.size, o, none⟩ = (w.alloc (.cells #[.int .i64 x.fProc, .int .i64 x.fPc, .slice A2 x.fRegs.length c2, .int .i64 x.fState, .slice A4 x.fTrace.length c4] 25)).cell? ⟨w.heap.size, o, none⟩ := fun o => World.cell?_of_block hb2
  replace ht := ht.trans (t4.wide k4)
  replace q2 := q2.turnedF t4 (fun b hb hb2 => d2_4 b hb hb2)
  clear t4
  go_wp2_with fail
  go_ret
  exact ⟨by unfold vcntGor; go_num, ownGor (x := mkvGor k x) hw0 hw1 q2 hw3 q4 k2 k4 d2_4, ht⟩

theorem marksGor_get {x : DGor} : ∀ {xs : List DGor} {k : Int} {j : Nat}, xs[j]? = some x → (marksGor k xs)[j]? = some (mkGor (k + ((xs.take j).map cntGor).sum) x)
  | [], _, _, h => by simp at h
  | y :: xs, k, 0, h => by
    simp at h
    subst h
    simp [marksGor]
  | y :: xs, k, j + 1, h => by
    have := marksGor_get (xs := xs) (k := k + cntGor y) (j := j) (by simpa using h)
    simp only [marksGor, List.getElem?_cons_succ, this, List.take_succ_cons, List.map_cons, List.sum_cons, Int.add_assoc]

set_option maxRecDepth 100000 in
set_option maxHeartbeats 2000000 in
theorem heldGor_any {w : World} {hi : Nat} {x : DGor} {vs : List Value} {k : Int} (h : layGor.see w hi (mkvGor k x) vs) (hhi : hi ≤ w.heap.size) (hs : szGor x ≤ 1048580) (hk0 : 0 ≤ k) (hk : k + vcntGor x ≤ 16777216) :
    Calls Try.prog 12 #[.agg vs.toArray, .int .i64 k] w fun e w' => e = .returned (.int .i64 (k + vcntGor x)) ∧ Below w.heap.size w w' := by
  obtain ⟨A2, n2, c2, A4, n4, c4, rfl, hw0, hw1, ⟨hc2, hm2, s2⟩, hw3, ⟨hc4, hm4, s4⟩⟩ := seeGor h
  have l2 : x.fRegs.length = n2 := by have h1 := s2.1; simpa [mkvGor, marksInt_length] using h1
  subst l2
  have l4 : x.fTrace.length = n4 := by have h1 := s4.1; simpa [mkvGor, marksItem_length] using h1
  subst l4
  replace s2 : SeenR Lay.int (w.alloc (.cells #[.int .i64 x.fProc, .int .i64 x.fPc, .slice A2 x.fRegs.length c2, .int .i64 x.fState, .slice A4 x.fTrace.length c4] 25)) hi A2 x.fRegs.length (marksInt (k) x.fRegs.length) := s2.below ((Below.refl _ _).alloc (Nat.le_refl _) _) hhi
  replace s4 : SeenR layItem (w.alloc (.cells #[.int .i64 x.fProc, .int .i64 x.fPc, .slice A2 x.fRegs.length c2, .int .i64 x.fState, .slice A4 x.fTrace.length c4] 25)) hi A4 x.fTrace.length (marksItem (k + (x.fRegs.length : Int)) x.fTrace.length) := s4.below ((Below.refl _ _).alloc (Nat.le_refl _) _) hhi
  unfold szGor at hs
  have hk2 := hk
  unfold vcntGor at hk2
  clear hk h
  go_enter Try.func12, Try.ntmps12
  have hd2 : decide (k + (x.fRegs.length : Int) < 0) = false := decide_eq_false (by omega)
  go_wp2_with fail
  refine (heldIntS_any1 s2 (by omega) (by omega) (by omega)).mono ?_
  rintro e w' ⟨rfl, rfl⟩
  have hd4 : decide (k + (x.fRegs.length : Int) + 4 * (x.fTrace.length : Int) < 0) = false := decide_eq_false (by omega)
  go_wp2_with fail
  refine (heldItemS_any s4 (by omega) (by omega) (by omega)).mono ?_
  rintro e w' ⟨rfl, rfl⟩
  go_wp2_with fail
  go_ret
  exact ⟨by unfold vcntGor; go_num, by go_grown⟩
end Go.Proofs.Ytakogbpjijbpeaa
