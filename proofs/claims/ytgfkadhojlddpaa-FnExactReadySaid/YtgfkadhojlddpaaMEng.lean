
/- Marks of rows of Eng: the contracts of markS and heldS. Laid by wip/tools/gen.py. -/

import Derived.Test.YtgfkadhojlddpaaDEng

import Derived.Test.YtgfkadhojlddpaaBase

import Derived.Test.YtgfkadhojlddpaaTail

import Derived.Test.YtgfkadhojlddpaaMGor

import Derived.Test.YtgfkadhojlddpaaMChan

import Derived.Test.YtgfkadhojlddpaaMMutex

namespace Go.Proofs.Ytgfkadhojlddpaa
set_option linter.unusedSimpArgs false
set_option linter.unusedVariables false
open Go.RowKit

theorem unownEng {w : World} {F : Nat → Prop} {x : DEng} {vs : List Value} (h : layEng.own w F x vs) : ∃ (A0 : Option Addr) (n0 c0 : Nat) (F0 : Nat → Prop) (A1 : Option Addr) (n1 c1 : Nat) (F1 : Nat → Prop) (A2 : Option Addr) (n2 c2 : Nat) (F2 : Nat → Prop), vs = [.slice A0 n0 c0, .slice A1 n1 c1, .slice A2 n2 c2] ∧ (OwnR layGor 67 w F0 A0 n0 c0 x.fGs ∧ ∀ g, F0 g → F g) ∧ (OwnR layChan 71 w F1 A1 n1 c1 x.fChans ∧ ∀ g, F1 g → F g) ∧ (OwnR layMutex 73 w F2 A2 n2 c2 x.fMus ∧ ∀ g, F2 g → F g) ∧ (∀ g, F0 g → ¬ F1 g) ∧ (∀ g, F0 g → ¬ F2 g) ∧ (∀ g, F1 g → ¬ F2 g) := by
  obtain ⟨_, _, F0, R1, rfl, s0, ⟨_, _, F1, R2, rfl, s1, s2, k1, r1, d1⟩, k0, r0, d0⟩ := h
  obtain ⟨A0, n0, c0, rfl, h0⟩ := s0
  obtain ⟨A1, n1, c1, rfl, h1⟩ := s1
  obtain ⟨A2, n2, c2, rfl, h2⟩ := s2
  exact ⟨A0, n0, c0, F0, A1, n1, c1, F1, A2, n2, c2, R2, rfl, ⟨h0, (fun g h => k0 g h)⟩, ⟨h1, (fun g h => r0 g (k1 g h))⟩, ⟨h2, (fun g h => r0 g (r1 g h))⟩, (fun g hi hj => d0 g hi ((fun g h => k1 g h) g hj)), (fun g hi hj => d0 g hi ((fun g h => r1 g h) g hj)), (fun g hi hj => d1 g hi ((fun g h => h) g hj))⟩

/-- How many marks it takes; what it is, marked from z on. -/
def cntEng (x : DEng) : Int := (x.fGs.map cntGor).sum + (x.fChans.map cntChan).sum + (x.fMus.map cntMutex).sum
def mkEng (z : Int) (x : DEng) : DEng := ⟨marksGor z x.fGs, marksChan (z + (x.fGs.map cntGor).sum) x.fChans, marksMutex (z + (x.fGs.map cntGor).sum + (x.fChans.map cntChan).sum) x.fMus⟩
def marksEng : Int → List DEng → List DEng
  | _, [] => []
  | z, x :: r => mkEng z x :: marksEng (z + cntEng x) r
theorem marksEng_length (l : List DEng) : ∀ z, (marksEng z l).length = l.length := by
  induction l with
  | nil => intro z; rfl
  | cons x l ih => intro z; simp [marksEng, ih]
theorem marksEng_snoc (l : List DEng) (x : DEng) : ∀ z, marksEng z (l ++ [x]) = marksEng z l ++ [mkEng (z + (l.map cntEng).sum) x] := by
  induction l with
  | nil => intro z; simp [marksEng]
  | cons y l ih => intro z; simp [marksEng, ih, Int.add_assoc]
theorem marksEng_step {xs : List DEng} {k : Int} {j : Nat} {x : DEng} (hx : xs[j]? = some x) :
    (marksEng k (xs.take j) ++ xs.drop j).set j (mkEng (k + ((xs.take j).map cntEng).sum) x) = marksEng k (xs.take (j + 1)) ++ xs.drop (j + 1) := by
  obtain ⟨hj, rfl⟩ := List.getElem?_eq_some_iff.1 hx
  have hl : (marksEng k (xs.take j)).length = j := by rw [marksEng_length, List.length_take]; omega
  rw [List.take_succ_eq_append_getElem hj, marksEng_snoc, List.drop_eq_getElem_cons hj, List.set_append, if_neg (by omega), hl, Nat.sub_self, List.set_cons_zero, List.append_assoc]
  rfl

theorem cntEng_pos (x : DEng) : 0 ≤ cntEng x := by
  unfold cntEng
  have hq0 := sum_pos cntGor_pos x.fGs
  have hq1 := sum_pos cntChan_pos x.fChans
  have hq2 := sum_pos cntMutex_pos x.fMus
  omega

/-- The call marks the row: blocks that F holds turn alone. -/
def MarkedEng (w : World) (F : Nat → Prop) (e : TypeId) (A : Option Addr) (n c : Nat) (k : Int) (xs : List DEng) (en : Ending) (w' : World) : Prop :=
  en = .returned (.int .i64 (k + (xs.map cntEng).sum)) ∧ OwnR layEng e w' F A n c (marksEng k xs) ∧ TurnedF F w w'

/-- How many marks it takes where it stands by itself: its slices alone; and what it is then. -/
def vcntEng (x : DEng) : Int := (x.fGs.map cntGor).sum + (x.fChans.map cntChan).sum + (x.fMus.map cntMutex).sum
def mkvEng (k : Int) (x : DEng) : DEng := ⟨marksGor k x.fGs, marksChan (k + (x.fGs.map cntGor).sum) x.fChans, marksMutex (k + (x.fGs.map cntGor).sum + (x.fChans.map cntChan).sum) x.fMus⟩

set_option maxRecDepth 100000 in
set_option maxHeartbeats 2000000 in
theorem markEng_any {w : World} {F : Nat → Prop} {x : DEng} {vs : List Value} {k : Int} (h : layEng.own w F x vs) (hF : ∀ g, F g → g < w.heap.size) (hs : szEng x ≤ 1048576) (hk0 : 0 ≤ k) (hk : k + vcntEng x ≤ 16777216) :
    Calls Try.prog 11 #[.agg vs.toArray, .int .i64 k] w fun e w' => e = .returned (.int .i64 (k + vcntEng x)) ∧ layEng.own w' F (mkvEng k x) vs ∧ TurnedF F w w' := by
  obtain ⟨A0, n0, c0, F0, A1, n1, c1, F1, A2, n2, c2, F2, rfl, ⟨o0, k0⟩, ⟨o1, k1⟩, ⟨o2, k2⟩, d0_1, d0_2, d1_2⟩ := unownEng h
  have l0 := o0.1
  subst l0
  have hq0 := sum_pos cntGor_pos x.fGs
  have l1 := o1.1
  subst l1
  have hq1 := sum_pos cntChan_pos x.fChans
  have l2 := o2.1
  subst l2
  have hq2 := sum_pos cntMutex_pos x.fMus
  unfold szEng at hs
  have hk2 := hk
  unfold vcntEng at hk2
  have hs0 : ∀ y ∈ x.fGs, szGor y ≤ 1048576 := fun y hy => by have := sum_mem_le szGor hy; omega
  have hs1 : ∀ y ∈ x.fChans, szChan y ≤ 1048576 := fun y hy => by have := sum_mem_le szChan hy; omega
  have hs2 : ∀ y ∈ x.fMus, szMutex y ≤ 1048576 := fun y hy => by have := sum_mem_le szMutex hy; omega
  have HV := Lib.hid (show vcntEng x = vcntEng x from rfl)
  unfold vcntEng at HV
  clear hk h
  have ht : TurnedF F w (w.alloc (.cells #[.slice A0 x.fGs.length c0, .slice A1 x.fChans.length c1, .slice A2 x.fMus.length c2] 34)) := TurnedF.of_below ((Below.refl _ _).alloc (Nat.le_refl _) _) F
  replace o0 := o0.stay (w' := (w.alloc (.cells #[.slice A0 x.fGs.length c0, .slice A1 x.fChans.length c1, .slice A2 x.fMus.length c2] 34))) (fun b _ hlt => Below.heap_alloc w _ b hlt) (by simp)
  replace o1 := o1.stay (w' := (w.alloc (.cells #[.slice A0 x.fGs.length c0, .slice A1 x.fChans.length c1, .slice A2 x.fMus.length c2] 34))) (fun b _ hlt => Below.heap_alloc w _ b hlt) (by simp)
  replace o2 := o2.stay (w' := (w.alloc (.cells #[.slice A0 x.fGs.length c0, .slice A1 x.fChans.length c1, .slice A2 x.fMus.length c2] 34))) (fun b _ hlt => Below.heap_alloc w _ b hlt) (by simp)
  have hbx : ∀ o, (w.alloc (.cells #[.slice A0 x.fGs.length c0, .slice A1 x.fChans.length c1, .slice A2 x.fMus.length c2] 34)).cell? ⟨w.heap.size, o, none⟩ = (w.alloc (.cells #[.slice A0 x.fGs.length c0, .slice A1 x.fChans.length c1, .slice A2 x.fMus.length c2] 34)).cell? ⟨w.heap.size, o, none⟩ := fun _ => rfl
  have hz0 : w.heap.size < (w.alloc (.cells #[.slice A0 x.fGs.length c0, .slice A1 x.fChans.length c1, .slice A2 x.fMus.length c2] 34)).heap.size := by simp
  clear hbx
  go_enter Try.func11, Try.ntmps11
  go_wp2_with fail
  refine (markGorS_any (F := F0) o0 (by omega) (fun y hy => Nat.le_trans (hs0 y hy) (by decide)) (by omega) (by omega)).mono ?_
  rintro e w1 ⟨rfl, q0, t0⟩
  have hz1 : w.heap.size < w1.heap.size := Nat.lt_of_lt_of_le hz0 t0.size
  have hb1 : w1.heap[w.heap.size]? = (w.alloc (.cells #[.slice A0 x.fGs.length c0, .slice A1 x.fChans.length c1, .slice A2 x.fMus.length c2] 34)).heap[w.heap.size]? := t0.block _ hz0 (fun hb => Nat.lt_irrefl _ (hF _ (k0 _ hb)))
  have hcl1 : ∀ o, w1.cell? ⟨w.heap.size, o, none⟩ = (w.alloc (.cells #[.slice A0 x.fGs.length c0, .slice A1 x.fChans.length c1, .slice A2 x.fMus.length c2] 34)).cell? ⟨w.heap.size, o, none⟩ := fun o => World.cell?_of_block hb1
  replace ht := ht.trans (t0.wide k0)
  replace o1 := o1.turnedF t0 (fun b hb hb2 => d0_1 b hb2 hb)
  replace o2 := o2.turnedF t0 (fun b hb hb2 => d0_2 b hb2 hb)
  clear t0
  go_wp2_with fail
  refine (markChanS_any (F := F1) o1 (by omega) (fun y hy => Nat.le_trans (hs1 y hy) (by decide)) (by omega) (by omega)).mono ?_
  rintro e w2 ⟨rfl, q1, t1⟩
  have hz2 : w.heap.size < w2.heap.size := Nat.lt_of_lt_of_le hz1 t1.size
  have hb2 : w2.heap[w.heap.size]? = w1.heap[w.heap.size]? := t1.block _ hz1 (fun hb => Nat.lt_irrefl _ (hF _ (k1 _ hb)))
  replace hb2 := hb2.trans hb1
  have hcl2 : ∀ o, w2.cell? ⟨w.heap.size, o, none⟩ = (w.alloc (.cells #[.slice A0 x.fGs.length c0, .slice A1 x.fChans.length c1, .slice A2 x.fMus.length c2] 34)).cell? ⟨w.heap.size, o, none⟩ := fun o => World.cell?_of_block hb2
  replace ht := ht.trans (t1.wide k1)
  replace o2 := o2.turnedF t1 (fun b hb hb2 => d1_2 b hb2 hb)
  replace q0 := q0.turnedF t1 (fun b hb hb2 => d0_1 b hb hb2)
  clear t1
  go_wp2_with fail
  refine (markMutexS_any (F := F2) o2 (by omega) (fun y hy => Nat.le_trans (hs2 y hy) (by decide)) (by omega) (by omega)).mono ?_
  rintro e w3 ⟨rfl, q2, t2⟩
  have hz3 : w.heap.size < w3.heap.size := Nat.lt_of_lt_of_le hz2 t2.size
  have hb3 : w3.heap[w.heap.size]? = w2.heap[w.heap.size]? := t2.block _ hz2 (fun hb => Nat.lt_irrefl _ (hF _ (k2 _ hb)))
  replace hb3 := hb3.trans hb2
  have hcl3 : ∀ o, w3.cell? ⟨w.heap.size, o, none⟩ = (w.alloc (.cells #[.slice A0 x.fGs.length c0, .slice A1 x.fChans.length c1, .slice A2 x.fMus.length c2] 34)).cell? ⟨w.heap.size, o, none⟩ := fun o => World.cell?_of_block hb3
  replace ht := ht.trans (t2.wide k2)
  replace q0 := q0.turnedF t2 (fun b hb hb2 => d0_2 b hb hb2)
  replace q1 := q1.turnedF t2 (fun b hb hb2 => d1_2 b hb hb2)
  clear t2
  go_wp2_with fail
  go_ret
  exact ⟨by unfold vcntEng; go_num, ownEng (x := mkvEng k x) q0 q1 q2 k0 k1 k2 d0_1 d0_2 d1_2, ht⟩

theorem marksEng_get {x : DEng} : ∀ {xs : List DEng} {k : Int} {j : Nat}, xs[j]? = some x → (marksEng k xs)[j]? = some (mkEng (k + ((xs.take j).map cntEng).sum) x)
  | [], _, _, h => by simp at h
  | y :: xs, k, 0, h => by
    simp at h
    subst h
    simp [marksEng]
  | y :: xs, k, j + 1, h => by
    have := marksEng_get (xs := xs) (k := k + cntEng y) (j := j) (by simpa using h)
    simp only [marksEng, List.getElem?_cons_succ, this, List.take_succ_cons, List.map_cons, List.sum_cons, Int.add_assoc]

end Go.Proofs.Ytgfkadhojlddpaa
