
/- Marks of rows of Mutex: the contracts of markS and heldS. Laid by wip/tools/gen.py. -/

import Derived.Test.YtalbbhnfdbacdaaDMutex

import Derived.Test.YtalbbhnfdbacdaaBase

import Derived.Test.YtalbbhnfdbacdaaTail

import Derived.Test.YtalbbhnfdbacdaaMInt

namespace Go.Proofs.Ytalbbhnfdbacdaa
set_option linter.unusedSimpArgs false
set_option linter.unusedVariables false
open Go.RowKit

theorem unownMutex {w : World} {F : Nat → Prop} {x : DMutex} {vs : List Value} (h : layMutex.own w F x vs) : ∃ (A1 : Option Addr) (n1 c1 : Nat) (F1 : Nat → Prop), vs = [.int .i64 x.fOwner, .slice A1 n1 c1] ∧ (Lit.int .i64 x.fOwner).wf = true ∧ (TailR Lay.int 3 w F1 A1 n1 c1 x.fWait ∧ ∀ g, F1 g → F g) := by
  obtain ⟨_, _, F0, R1, rfl, s0, s1, k0, r0, d0⟩ := h
  obtain ⟨rfl, h0⟩ := s0
  obtain ⟨A1, n1, c1, rfl, h1⟩ := s1
  exact ⟨A1, n1, c1, R1, rfl, h0, ⟨h1, (fun g h => r0 g h)⟩⟩

/-- How many marks it takes; what it is, marked from z on. -/
def cntMutex (x : DMutex) : Int := 1 + ((x.fWait.length : Int))
def mkMutex (z : Int) (x : DMutex) : DMutex := ⟨z, marksInt (z + 1) x.fWait.length⟩
def marksMutex : Int → List DMutex → List DMutex
  | _, [] => []
  | z, x :: r => mkMutex z x :: marksMutex (z + cntMutex x) r
theorem marksMutex_length (l : List DMutex) : ∀ z, (marksMutex z l).length = l.length := by
  induction l with
  | nil => intro z; rfl
  | cons x l ih => intro z; simp [marksMutex, ih]
theorem marksMutex_snoc (l : List DMutex) (x : DMutex) : ∀ z, marksMutex z (l ++ [x]) = marksMutex z l ++ [mkMutex (z + (l.map cntMutex).sum) x] := by
  induction l with
  | nil => intro z; simp [marksMutex]
  | cons y l ih => intro z; simp [marksMutex, ih, Int.add_assoc]
theorem marksMutex_step {xs : List DMutex} {k : Int} {j : Nat} {x : DMutex} (hx : xs[j]? = some x) :
    (marksMutex k (xs.take j) ++ xs.drop j).set j (mkMutex (k + ((xs.take j).map cntMutex).sum) x) = marksMutex k (xs.take (j + 1)) ++ xs.drop (j + 1) := by
  obtain ⟨hj, rfl⟩ := List.getElem?_eq_some_iff.1 hx
  have hl : (marksMutex k (xs.take j)).length = j := by rw [marksMutex_length, List.length_take]; omega
  rw [List.take_succ_eq_append_getElem hj, marksMutex_snoc, List.drop_eq_getElem_cons hj, List.set_append, if_neg (by omega), hl, Nat.sub_self, List.set_cons_zero, List.append_assoc]
  rfl

theorem cntMutex_pos (x : DMutex) : 0 ≤ cntMutex x := by
  unfold cntMutex
  omega

/-- The call marks the row: blocks that F holds turn alone. -/
def MarkedMutex (w : World) (F : Nat → Prop) (e : TypeId) (A : Option Addr) (n c : Nat) (k : Int) (xs : List DMutex) (en : Ending) (w' : World) : Prop :=
  en = .returned (.int .i64 (k + (xs.map cntMutex).sum)) ∧ OwnR layMutex e w' F A n c (marksMutex k xs) ∧ TurnedF F w w'

/-- How many marks it takes where it stands by itself: its slices alone; and what it is then. -/
def vcntMutex (x : DMutex) : Int := (x.fWait.length : Int)
def mkvMutex (k : Int) (x : DMutex) : DMutex := ⟨x.fOwner, marksInt k x.fWait.length⟩

set_option maxRecDepth 100000 in
set_option maxHeartbeats 2000000 in
theorem markMutex_any {w : World} {F : Nat → Prop} {x : DMutex} {vs : List Value} {k : Int} (h : layMutex.own w F x vs) (hF : ∀ g, F g → g < w.heap.size) (hs : szMutex x ≤ 1048580) (hk0 : 0 ≤ k) (hk : k + vcntMutex x ≤ 16777216) :
    Calls Try.prog 18 #[.agg vs.toArray, .int .i64 k] w fun e w' => e = .returned (.int .i64 (k + vcntMutex x)) ∧ layMutex.own w' F (mkvMutex k x) vs ∧ TurnedF F w w' := by
  obtain ⟨A1, n1, c1, F1, rfl, hw0, ⟨o1, k1⟩⟩ := unownMutex h
  have l1 := o1.1
  subst l1
  unfold szMutex at hs
  have hk2 := hk
  unfold vcntMutex at hk2
  have HV := Lib.hid (show vcntMutex x = vcntMutex x from rfl)
  unfold vcntMutex at HV
  clear hk h
  have ht : TurnedF F w (w.alloc (.cells #[.int .i64 x.fOwner, .slice A1 x.fWait.length c1] 25)) := TurnedF.of_below ((Below.refl _ _).alloc (Nat.le_refl _) _) F
  replace o1 := o1.stay (w' := (w.alloc (.cells #[.int .i64 x.fOwner, .slice A1 x.fWait.length c1] 25))) (fun b _ hlt => Below.heap_alloc w _ b hlt) (by simp)
  have hbx : ∀ o, (w.alloc (.cells #[.int .i64 x.fOwner, .slice A1 x.fWait.length c1] 25)).cell? ⟨w.heap.size, o, none⟩ = (w.alloc (.cells #[.int .i64 x.fOwner, .slice A1 x.fWait.length c1] 25)).cell? ⟨w.heap.size, o, none⟩ := fun _ => rfl
  have hz0 : w.heap.size < (w.alloc (.cells #[.int .i64 x.fOwner, .slice A1 x.fWait.length c1] 25)).heap.size := by simp
  clear hbx
  go_enter Try.func18, Try.ntmps18
  go_wp2_with fail
  refine (markIntS_tail1 (F := F1) o1 (by omega) (by omega) (by omega)).mono ?_
  rintro e w1 ⟨rfl, q1, t1⟩
  have hz1 : w.heap.size < w1.heap.size := Nat.lt_of_lt_of_le hz0 t1.size
  have hb1 : w1.heap[w.heap.size]? = (w.alloc (.cells #[.int .i64 x.fOwner, .slice A1 x.fWait.length c1] 25)).heap[w.heap.size]? := t1.block _ hz0 (fun hb => Nat.lt_irrefl _ (hF _ (k1 _ hb)))
  have hcl1 : ∀ o, w1.cell? ⟨w.heap.size, o, none⟩ = (w.alloc (.cells #[.int .i64 x.fOwner, .slice A1 x.fWait.length c1] 25)).cell? ⟨w.heap.size, o, none⟩ := fun o => World.cell?_of_block hb1
  replace ht := ht.trans (t1.wide k1)
  clear t1
  go_wp2_with fail
  go_ret
  exact ⟨by unfold vcntMutex; go_num, ownMutex (x := mkvMutex k x) hw0 q1 k1, ht⟩

theorem marksMutex_get {x : DMutex} : ∀ {xs : List DMutex} {k : Int} {j : Nat}, xs[j]? = some x → (marksMutex k xs)[j]? = some (mkMutex (k + ((xs.take j).map cntMutex).sum) x)
  | [], _, _, h => by simp at h
  | y :: xs, k, 0, h => by
    simp at h
    subst h
    simp [marksMutex]
  | y :: xs, k, j + 1, h => by
    have := marksMutex_get (xs := xs) (k := k + cntMutex y) (j := j) (by simpa using h)
    simp only [marksMutex, List.getElem?_cons_succ, this, List.take_succ_cons, List.map_cons, List.sum_cons, Int.add_assoc]

set_option maxRecDepth 100000 in
set_option maxHeartbeats 2000000 in
theorem heldMutex_any {w : World} {hi : Nat} {x : DMutex} {vs : List Value} {k : Int} (h : layMutex.see w hi (mkvMutex k x) vs) (hhi : hi ≤ w.heap.size) (hs : szMutex x ≤ 1048580) (hk0 : 0 ≤ k) (hk : k + vcntMutex x ≤ 16777216) :
    Calls Try.prog 19 #[.agg vs.toArray, .int .i64 k] w fun e w' => e = .returned (.int .i64 (k + vcntMutex x)) ∧ Below w.heap.size w w' := by
  obtain ⟨A1, n1, c1, rfl, hw0, ⟨hc1, hm1, s1⟩⟩ := seeMutex h
  have l1 : x.fWait.length = n1 := by have h1 := s1.1; simpa [mkvMutex, marksInt_length] using h1
  subst l1
  replace s1 : SeenR Lay.int (w.alloc (.cells #[.int .i64 x.fOwner, .slice A1 x.fWait.length c1] 25)) hi A1 x.fWait.length (marksInt (k) x.fWait.length) := s1.below ((Below.refl _ _).alloc (Nat.le_refl _) _) hhi
  unfold szMutex at hs
  have hk2 := hk
  unfold vcntMutex at hk2
  clear hk h
  go_enter Try.func19, Try.ntmps19
  have hd1 : decide (k + (x.fWait.length : Int) < 0) = false := decide_eq_false (by omega)
  go_wp2_with fail
  refine (heldIntS_any1 s1 (by omega) (by omega) (by omega)).mono ?_
  rintro e w' ⟨rfl, rfl⟩
  go_wp2_with fail
  go_ret
  exact ⟨by unfold vcntMutex; go_num, by go_grown⟩
end Go.Proofs.Ytalbbhnfdbacdaa
