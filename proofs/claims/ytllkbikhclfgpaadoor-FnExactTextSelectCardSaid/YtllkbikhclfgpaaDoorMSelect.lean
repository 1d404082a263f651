
/- Marks of rows of Select: the contracts of markS and heldS. Laid by wip/tools/gen.py. -/

import Derived.Test.YtllkbikhclfgpaaDoorDSelect

import Derived.Test.YtllkbikhclfgpaaDoorBase

import Derived.Test.YtllkbikhclfgpaaDoorMCase

namespace Go.Proofs.YtllkbikhclfgpaaDoor
set_option linter.unusedSimpArgs false
set_option linter.unusedVariables false
open Go.RowKit

theorem unownSelect {w : World} {F : Nat → Prop} {x : DSelect} {vs : List Value} (h : laySelect.own w F x vs) : ∃ (A0 : Option Addr) (n0 c0 : Nat) (F0 : Nat → Prop), vs = [.slice A0 n0 c0, .int .i64 x.fElse] ∧ (OwnR layCase 64 w F0 A0 n0 c0 x.fCases ∧ ∀ g, F0 g → F g) ∧ (Lit.int .i64 x.fElse).wf = true := by
  obtain ⟨_, _, F0, R1, rfl, s0, s1, k0, r0, d0⟩ := h
  obtain ⟨A0, n0, c0, rfl, h0⟩ := s0
  obtain ⟨rfl, h1⟩ := s1
  exact ⟨A0, n0, c0, F0, rfl, ⟨h0, (fun g h => k0 g h)⟩, h1⟩

/-- How many marks it takes; what it is, marked from z on. -/
def cntSelect (x : DSelect) : Int := (5 * (x.fCases.length : Int)) + 1
def mkSelect (z : Int) (x : DSelect) : DSelect := ⟨marksCase z x.fCases.length, z + (5 * (x.fCases.length : Int))⟩
def marksSelect : Int → List DSelect → List DSelect
  | _, [] => []
  | z, x :: r => mkSelect z x :: marksSelect (z + cntSelect x) r
theorem marksSelect_length (l : List DSelect) : ∀ z, (marksSelect z l).length = l.length := by
  induction l with
  | nil => intro z; rfl
  | cons x l ih => intro z; simp [marksSelect, ih]
theorem marksSelect_snoc (l : List DSelect) (x : DSelect) : ∀ z, marksSelect z (l ++ [x]) = marksSelect z l ++ [mkSelect (z + (l.map cntSelect).sum) x] := by
  induction l with
  | nil => intro z; simp [marksSelect]
  | cons y l ih => intro z; simp [marksSelect, ih, Int.add_assoc]
theorem marksSelect_step {xs : List DSelect} {k : Int} {j : Nat} {x : DSelect} (hx : xs[j]? = some x) :
    (marksSelect k (xs.take j) ++ xs.drop j).set j (mkSelect (k + ((xs.take j).map cntSelect).sum) x) = marksSelect k (xs.take (j + 1)) ++ xs.drop (j + 1) := by
  obtain ⟨hj, rfl⟩ := List.getElem?_eq_some_iff.1 hx
  have hl : (marksSelect k (xs.take j)).length = j := by rw [marksSelect_length, List.length_take]; omega
  rw [List.take_succ_eq_append_getElem hj, marksSelect_snoc, List.drop_eq_getElem_cons hj, List.set_append, if_neg (by omega), hl, Nat.sub_self, List.set_cons_zero, List.append_assoc]
  rfl

theorem cntSelect_pos (x : DSelect) : 0 ≤ cntSelect x := by
  unfold cntSelect
  omega

/-- The call marks the row: blocks that F holds turn alone. -/
def MarkedSelect (w : World) (F : Nat → Prop) (e : TypeId) (A : Option Addr) (n c : Nat) (k : Int) (xs : List DSelect) (en : Ending) (w' : World) : Prop :=
  en = .returned (.int .i64 (k + (xs.map cntSelect).sum)) ∧ OwnR laySelect e w' F A n c (marksSelect k xs) ∧ TurnedF F w w'

/-- How many marks it takes where it stands by itself: its slices alone; and what it is then. -/
def vcntSelect (x : DSelect) : Int := 5 * (x.fCases.length : Int)
def mkvSelect (k : Int) (x : DSelect) : DSelect := ⟨marksCase k x.fCases.length, x.fElse⟩

set_option maxRecDepth 100000 in
set_option maxHeartbeats 2000000 in
theorem markSelect_any {w : World} {F : Nat → Prop} {x : DSelect} {vs : List Value} {k : Int} (h : laySelect.own w F x vs) (hF : ∀ g, F g → g < w.heap.size) (hs : szSelect x ≤ 1048576) (hk0 : 0 ≤ k) (hk : k + vcntSelect x ≤ 16777216) :
    Calls Tryd.prog 20 #[.agg vs.toArray, .int .i64 k] w fun e w' => e = .returned (.int .i64 (k + vcntSelect x)) ∧ laySelect.own w' F (mkvSelect k x) vs ∧ TurnedF F w w' := by
  obtain ⟨A0, n0, c0, F0, rfl, ⟨o0, k0⟩, hw1⟩ := unownSelect h
  have l0 := o0.1
  subst l0
  unfold szSelect at hs
  have hk2 := hk
  unfold vcntSelect at hk2
  have HV := Lib.hid (show vcntSelect x = vcntSelect x from rfl)
  unfold vcntSelect at HV
  clear hk h
  have ht : TurnedF F w (w.alloc (.cells #[.slice A0 x.fCases.length c0, .int .i64 x.fElse] 39)) := TurnedF.of_below ((Below.refl _ _).alloc (Nat.le_refl _) _) F
  replace o0 := o0.stay (w' := (w.alloc (.cells #[.slice A0 x.fCases.length c0, .int .i64 x.fElse] 39))) (fun b _ hlt => Below.heap_alloc w _ b hlt) (by simp)
  have hbx : ∀ o, (w.alloc (.cells #[.slice A0 x.fCases.length c0, .int .i64 x.fElse] 39)).cell? ⟨w.heap.size, o, none⟩ = (w.alloc (.cells #[.slice A0 x.fCases.length c0, .int .i64 x.fElse] 39)).cell? ⟨w.heap.size, o, none⟩ := fun _ => rfl
  have hz0 : w.heap.size < (w.alloc (.cells #[.slice A0 x.fCases.length c0, .int .i64 x.fElse] 39)).heap.size := by simp
  clear hbx
  go_enter Tryd.func20, Tryd.ntmps20
  go_wp2_with fail
  refine (markCaseS_any (F := F0) o0 (by omega) (by omega) (by omega)).mono ?_
  rintro e w1 ⟨rfl, q0, t0⟩
  have hz1 : w.heap.size < w1.heap.size := Nat.lt_of_lt_of_le hz0 t0.size
  have hb1 : w1.heap[w.heap.size]? = (w.alloc (.cells #[.slice A0 x.fCases.length c0, .int .i64 x.fElse] 39)).heap[w.heap.size]? := t0.block _ hz0 (fun hb => Nat.lt_irrefl _ (hF _ (k0 _ hb)))
  have hcl1 : ∀ o, w1.cell? ⟨w.heap.size, o, none⟩ = (w.alloc (.cells #[.slice A0 x.fCases.length c0, .int .i64 x.fElse] 39)).cell? ⟨w.heap.size, o, none⟩ := fun o => World.cell?_of_block hb1
  replace ht := ht.trans (t0.wide k0)
  clear t0
  go_wp2_with fail
  go_ret
  exact ⟨by unfold vcntSelect; go_num, ownSelect q0 hw1 k0, ht⟩

theorem marksSelect_get {x : DSelect} : ∀ {xs : List DSelect} {k : Int} {j : Nat}, xs[j]? = some x → (marksSelect k xs)[j]? = some (mkSelect (k + ((xs.take j).map cntSelect).sum) x)
  | [], _, _, h => by simp at h
  | y :: xs, k, 0, h => by
    simp at h
    subst h
    simp [marksSelect]
  | y :: xs, k, j + 1, h => by
    have := marksSelect_get (xs := xs) (k := k + cntSelect y) (j := j) (by simpa using h)
    simp only [marksSelect, List.getElem?_cons_succ, this, List.take_succ_cons, List.map_cons, List.sum_cons, Int.add_assoc]

set_option maxRecDepth 100000 in
set_option maxHeartbeats 2000000 in
theorem heldSelect_any {w : World} {hi : Nat} {x : DSelect} {vs : List Value} {k : Int} (h : laySelect.see w hi (mkvSelect k x) vs) (hhi : hi ≤ w.heap.size) (hs : szSelect x ≤ 1048576) (hk0 : 0 ≤ k) (hk : k + vcntSelect x ≤ 16777216) :
    Calls Tryd.prog 21 #[.agg vs.toArray, .int .i64 k] w fun e w' => e = .returned (.int .i64 (k + vcntSelect x)) ∧ Below w.heap.size w w' := by
  obtain ⟨A0, n0, c0, rfl, ⟨hc0, hm0, s0⟩, hw1⟩ := seeSelect h
  have l0 : x.fCases.length = n0 := by have h1 := s0.1; simpa [mkvSelect, marksCase_length] using h1
  subst l0
  replace s0 : SeenR layCase (w.alloc (.cells #[.slice A0 x.fCases.length c0, .int .i64 x.fElse] 39)) hi A0 x.fCases.length (marksCase (k) x.fCases.length) := s0.below ((Below.refl _ _).alloc (Nat.le_refl _) _) hhi
  unfold szSelect at hs
  have hk2 := hk
  unfold vcntSelect at hk2
  clear hk h
  go_enter Tryd.func21, Tryd.ntmps21
  have hd0 : decide (k + 5 * (x.fCases.length : Int) < 0) = false := decide_eq_false (by omega)
  go_wp2_with fail
  refine (heldCaseS_any s0 (by omega) (by omega) (by omega)).mono ?_
  rintro e w' ⟨rfl, rfl⟩
  go_wp2_with fail
  go_ret
  exact ⟨by unfold vcntSelect; go_num, by go_grown⟩
end Go.Proofs.YtllkbikhclfgpaaDoor
