
/- Marks of rows of Prog: the contracts of markS and heldS. Laid by wip/tools/gen.py. -/

import Derived.Test.YtikcoplihfoiiaaDoorDProg

import Derived.Test.YtikcoplihfoiiaaDoorOpenRow

import Derived.Test.YtikcoplihfoiiaaDoorMInt

import Derived.Test.YtikcoplihfoiiaaDoorMSelect

import Derived.Test.YtikcoplihfoiiaaDoorMProc

namespace Go.Proofs.YtikcoplihfoiiaaDoor
set_option linter.unusedSimpArgs false
set_option linter.unusedVariables false
open Go.RowKit

theorem unownProg {w : World} {F : Nat → Prop} {x : DProg} {vs : List Value} (h : layProg.own w F x vs) : ∃ (A0 : Option Addr) (n0 c0 : Nat) (F0 : Nat → Prop) (A2 : Option Addr) (n2 c2 : Nat) (F2 : Nat → Prop) (A3 : Option Addr) (n3 c3 : Nat) (F3 : Nat → Prop), vs = [.slice A0 n0 c0, .int .i64 x.fMus, .slice A2 n2 c2, .slice A3 n3 c3] ∧ (OwnR Lay.int 3 w F0 A0 n0 c0 x.fCaps ∧ ∀ g, F0 g → F g) ∧ (Lit.int .i64 x.fMus).wf = true ∧ (OwnR laySelect 45 w F2 A2 n2 c2 x.fSels ∧ ∀ g, F2 g → F g) ∧ (OwnR layProc 49 w F3 A3 n3 c3 x.fProcs ∧ ∀ g, F3 g → F g) ∧ (∀ g, F0 g → ¬ F2 g) ∧ (∀ g, F0 g → ¬ F3 g) ∧ (∀ g, F2 g → ¬ F3 g) := by
  obtain ⟨_, _, F0, R1, rfl, s0, ⟨_, _, F1, R2, rfl, s1, ⟨_, _, F2, R3, rfl, s2, s3, k2, r2, d2⟩, k1, r1, d1⟩, k0, r0, d0⟩ := h
  obtain ⟨A0, n0, c0, rfl, h0⟩ := s0
  obtain ⟨rfl, h1⟩ := s1
  obtain ⟨A2, n2, c2, rfl, h2⟩ := s2
  obtain ⟨A3, n3, c3, rfl, h3⟩ := s3
  exact ⟨A0, n0, c0, F0, A2, n2, c2, F2, A3, n3, c3, R3, rfl, ⟨h0, (fun g h => k0 g h)⟩, h1, ⟨h2, (fun g h => r0 g (r1 g (k2 g h)))⟩, ⟨h3, (fun g h => r0 g (r1 g (r2 g h)))⟩, (fun g hi hj => d0 g hi ((fun g h => r1 g (k2 g h)) g hj)), (fun g hi hj => d0 g hi ((fun g h => r1 g (r2 g h)) g hj)), (fun g hi hj => d2 g hi ((fun g h => h) g hj))⟩

/-- How many marks it takes; what it is, marked from z on. -/
def cntProg (x : DProg) : Int := (1 * (x.fCaps.length : Int)) + 1 + (x.fSels.map cntSelect).sum + (x.fProcs.map cntProc).sum
def mkProg (z : Int) (x : DProg) : DProg := ⟨marksInt z x.fCaps.length, z + (1 * (x.fCaps.length : Int)), marksSelect (z + (1 * (x.fCaps.length : Int)) + 1) x.fSels, marksProc (z + (1 * (x.fCaps.length : Int)) + 1 + (x.fSels.map cntSelect).sum) x.fProcs⟩
def marksProg : Int → List DProg → List DProg
  | _, [] => []
  | z, x :: r => mkProg z x :: marksProg (z + cntProg x) r
theorem marksProg_length (l : List DProg) : ∀ z, (marksProg z l).length = l.length := by
  induction l with
  | nil => intro z; rfl
  | cons x l ih => intro z; simp [marksProg, ih]
theorem marksProg_snoc (l : List DProg) (x : DProg) : ∀ z, marksProg z (l ++ [x]) = marksProg z l ++ [mkProg (z + (l.map cntProg).sum) x] := by
  induction l with
  | nil => intro z; simp [marksProg]
  | cons y l ih => intro z; simp [marksProg, ih, Int.add_assoc]
theorem marksProg_step {xs : List DProg} {k : Int} {j : Nat} {x : DProg} (hx : xs[j]? = some x) :
    (marksProg k (xs.take j) ++ xs.drop j).set j (mkProg (k + ((xs.take j).map cntProg).sum) x) = marksProg k (xs.take (j + 1)) ++ xs.drop (j + 1) := by
  obtain ⟨hj, rfl⟩ := List.getElem?_eq_some_iff.1 hx
  have hl : (marksProg k (xs.take j)).length = j := by rw [marksProg_length, List.length_take]; omega
  rw [List.take_succ_eq_append_getElem hj, marksProg_snoc, List.drop_eq_getElem_cons hj, List.set_append, if_neg (by omega), hl, Nat.sub_self, List.set_cons_zero, List.append_assoc]
  rfl

theorem cntProg_pos (x : DProg) : 0 ≤ cntProg x := by
  unfold cntProg
  have hq2 := sum_pos cntSelect_pos x.fSels
  have hq3 := sum_pos cntProc_pos x.fProcs
  omega

/-- The call marks the row: blocks that F holds turn alone. -/
def MarkedProg (w : World) (F : Nat → Prop) (e : TypeId) (A : Option Addr) (n c : Nat) (k : Int) (xs : List DProg) (en : Ending) (w' : World) : Prop :=
  en = .returned (.int .i64 (k + (xs.map cntProg).sum)) ∧ OwnR layProg e w' F A n c (marksProg k xs) ∧ TurnedF F w w'

/-- How many marks it takes where it stands by itself: its slices alone. -/
def vcntProg (x : DProg) : Int := 1 * (x.fCaps.length : Int) + (x.fSels.map cntSelect).sum + (x.fProcs.map cntProc).sum

set_option maxRecDepth 100000 in
set_option maxHeartbeats 2000000 in
theorem markProg_any {w : World} {F : Nat → Prop} {x : DProg} {vs : List Value} {k : Int} (h : layProg.own w F x vs) (hF : ∀ g, F g → g < w.heap.size) (hs : szProg x ≤ 1048576) (hk0 : 0 ≤ k) (hk : k + vcntProg x ≤ 16777216) :
    Calls Tryd.prog 14 #[.agg vs.toArray, .int .i64 k] w fun e w' => e = .returned (.int .i64 (k + vcntProg x)) ∧ TurnedF F w w' := by
  obtain ⟨A0, n0, c0, F0, A2, n2, c2, F2, A3, n3, c3, F3, rfl, ⟨o0, k0⟩, hw1, ⟨o2, k2⟩, ⟨o3, k3⟩, d0_2, d0_3, d2_3⟩ := unownProg h
  have l0 := o0.1
  subst l0
  have l2 := o2.1
  subst l2
  have hq2 := sum_pos cntSelect_pos x.fSels
  have l3 := o3.1
  subst l3
  have hq3 := sum_pos cntProc_pos x.fProcs
  unfold szProg at hs
  have hk2 := hk
  unfold vcntProg at hk2
  have hs2 : ∀ y ∈ x.fSels, szSelect y ≤ 1048576 := fun y hy => by have := sum_mem_le szSelect hy; omega
  have hs3 : ∀ y ∈ x.fProcs, szProc y ≤ 1048576 := fun y hy => by have := sum_mem_le szProc hy; omega
  have HV := Lib.hid (show vcntProg x = vcntProg x from rfl)
  unfold vcntProg at HV
  clear hk h
  have ht : TurnedF F w (w.alloc (.cells #[.slice A0 x.fCaps.length c0, .int .i64 x.fMus, .slice A2 x.fSels.length c2, .slice A3 x.fProcs.length c3] 32)) := TurnedF.of_below ((Below.refl _ _).alloc (Nat.le_refl _) _) F
  replace o0 := o0.stay (w' := (w.alloc (.cells #[.slice A0 x.fCaps.length c0, .int .i64 x.fMus, .slice A2 x.fSels.length c2, .slice A3 x.fProcs.length c3] 32))) (fun b _ hlt => Below.heap_alloc w _ b hlt) (by simp)
  replace o2 := o2.stay (w' := (w.alloc (.cells #[.slice A0 x.fCaps.length c0, .int .i64 x.fMus, .slice A2 x.fSels.length c2, .slice A3 x.fProcs.length c3] 32))) (fun b _ hlt => Below.heap_alloc w _ b hlt) (by simp)
  replace o3 := o3.stay (w' := (w.alloc (.cells #[.slice A0 x.fCaps.length c0, .int .i64 x.fMus, .slice A2 x.fSels.length c2, .slice A3 x.fProcs.length c3] 32))) (fun b _ hlt => Below.heap_alloc w _ b hlt) (by simp)
  have hbx : ∀ o, (w.alloc (.cells #[.slice A0 x.fCaps.length c0, .int .i64 x.fMus, .slice A2 x.fSels.length c2, .slice A3 x.fProcs.length c3] 32)).cell? ⟨w.heap.size, o, none⟩ = (w.alloc (.cells #[.slice A0 x.fCaps.length c0, .int .i64 x.fMus, .slice A2 x.fSels.length c2, .slice A3 x.fProcs.length c3] 32)).cell? ⟨w.heap.size, o, none⟩ := fun _ => rfl
  have hz0 : w.heap.size < (w.alloc (.cells #[.slice A0 x.fCaps.length c0, .int .i64 x.fMus, .slice A2 x.fSels.length c2, .slice A3 x.fProcs.length c3] 32)).heap.size := by simp
  clear hbx
  go_enter Tryd.func14, Tryd.ntmps14
  go_wp2_with fail
  refine (markIntS_any (F := F0) o0 (by omega) (by omega) (by omega)).mono ?_
  rintro e w1 ⟨rfl, q0, t0⟩
  have hz1 : w.heap.size < w1.heap.size := Nat.lt_of_lt_of_le hz0 t0.size
  have hb1 : w1.heap[w.heap.size]? = (w.alloc (.cells #[.slice A0 x.fCaps.length c0, .int .i64 x.fMus, .slice A2 x.fSels.length c2, .slice A3 x.fProcs.length c3] 32)).heap[w.heap.size]? := t0.block _ hz0 (fun hb => Nat.lt_irrefl _ (hF _ (k0 _ hb)))
  have hcl1 : ∀ o, w1.cell? ⟨w.heap.size, o, none⟩ = (w.alloc (.cells #[.slice A0 x.fCaps.length c0, .int .i64 x.fMus, .slice A2 x.fSels.length c2, .slice A3 x.fProcs.length c3] 32)).cell? ⟨w.heap.size, o, none⟩ := fun o => World.cell?_of_block hb1
  replace ht := ht.trans (t0.wide k0)
  replace o2 := o2.turnedF t0 (fun b hb hb2 => d0_2 b hb2 hb)
  replace o3 := o3.turnedF t0 (fun b hb hb2 => d0_3 b hb2 hb)
  clear t0 q0
  go_wp2_with fail
  refine (markSelectS_any (F := F2) o2 (by omega) hs2 (by omega) (by omega)).mono ?_
  rintro e w2 ⟨rfl, q2, t2⟩
  have hz2 : w.heap.size < w2.heap.size := Nat.lt_of_lt_of_le hz1 t2.size
  have hb2 : w2.heap[w.heap.size]? = w1.heap[w.heap.size]? := t2.block _ hz1 (fun hb => Nat.lt_irrefl _ (hF _ (k2 _ hb)))
  replace hb2 := hb2.trans hb1
  have hcl2 : ∀ o, w2.cell? ⟨w.heap.size, o, none⟩ = (w.alloc (.cells #[.slice A0 x.fCaps.length c0, .int .i64 x.fMus, .slice A2 x.fSels.length c2, .slice A3 x.fProcs.length c3] 32)).cell? ⟨w.heap.size, o, none⟩ := fun o => World.cell?_of_block hb2
  replace ht := ht.trans (t2.wide k2)
  replace o3 := o3.turnedF t2 (fun b hb hb2 => d2_3 b hb2 hb)
  clear t2 q2
  go_wp2_with fail
  refine (markProcS_any (F := F3) o3 (by omega) hs3 (by omega) (by omega)).mono ?_
  rintro e w3 ⟨rfl, q3, t3⟩
  have hz3 : w.heap.size < w3.heap.size := Nat.lt_of_lt_of_le hz2 t3.size
  have hb3 : w3.heap[w.heap.size]? = w2.heap[w.heap.size]? := t3.block _ hz2 (fun hb => Nat.lt_irrefl _ (hF _ (k3 _ hb)))
  replace hb3 := hb3.trans hb2
  have hcl3 : ∀ o, w3.cell? ⟨w.heap.size, o, none⟩ = (w.alloc (.cells #[.slice A0 x.fCaps.length c0, .int .i64 x.fMus, .slice A2 x.fSels.length c2, .slice A3 x.fProcs.length c3] 32)).cell? ⟨w.heap.size, o, none⟩ := fun o => World.cell?_of_block hb3
  replace ht := ht.trans (t3.wide k3)
  clear t3 q3
  go_wp2_with fail
  go_ret
  exact ⟨by unfold vcntProg; go_num, ht⟩
end Go.Proofs.YtikcoplihfoiiaaDoor
