
/- MInt, MWaiter, MChan, MItem, MGor, MMutex, MEng, EngL, MCase, MSelect, MInstr, MProc, MProg, merged for claims. -/

import Derived.Test.YtghkdkagnibkgaaDInt

import Derived.Test.YtghkdkagnibkgaaBase

import Derived.Test.YtghkdkagnibkgaaTail

import Derived.Test.YtghkdkagnibkgaaGDEng

import Derived.Test.YtghkdkagnibkgaaGDProg

namespace Go.Proofs.Ytghkdkagnibkgaa
set_option linter.unusedSimpArgs false
set_option linter.unusedVariables false
open Go.RowKit

/-- The mark of z. -/
def mkInt (z : Int) : Int := z
def marksInt (k : Int) (n : Nat) : List Int := (List.range n).map fun (i : Nat) => mkInt (k + 1 * (i : Int))
theorem marksInt_length (k : Int) (n : Nat) : (marksInt k n).length = n := by simp [marksInt]
theorem marksInt_step {xs : List Int} {k : Int} {n j : Nat} (hl : xs.length = n) (hj : j < n) :
    (marksInt k j ++ xs.drop j).set j (mkInt (k + 1 * (j : Int))) = marksInt k (j + 1) ++ xs.drop (j + 1) := by
  apply List.ext_getElem?
  intro i
  simp only [marksInt, List.getElem?_set, List.getElem?_map, List.getElem?_append, List.length_map, List.length_append, List.length_range, List.length_drop, List.getElem?_drop]
  rcases Nat.lt_trichotomy i j with h | h | h
  · simp [show ¬ j = i from by omega, h, show i < j + 1 from by omega]
  · subst h
    simp [show i < i + (xs.length - i) from by omega]
  · simp [show ¬ j = i from by omega, show ¬ i < j from by omega, show ¬ i < j + 1 from by omega, show j + (i - j) = i from by omega, show j + 1 + (i - (j + 1)) = i from by omega]

/-- The call marks the row: blocks that F holds turn alone. -/
def MarkedInt (w : World) (F : Nat → Prop) (e : TypeId) (A : Option Addr) (n c : Nat) (k : Int) (en : Ending) (w' : World) : Prop :=
  en = .returned (.int .i64 (k + 1 * (n : Int))) ∧ OwnR Lay.int e w' F A n c (marksInt k n) ∧ TurnedF F w w'

/-- The call marks the row: blocks that F holds turn alone. -/
def MarkedTInt (w : World) (F : Nat → Prop) (e : TypeId) (A : Option Addr) (n c : Nat) (k : Int) (en : Ending) (w' : World) : Prop :=
  en = .returned (.int .i64 (k + 1 * (n : Int))) ∧ TailR Lay.int e w' F A n c (marksInt k n) ∧ TurnedF F w w'

end Go.Proofs.Ytghkdkagnibkgaa

namespace Go.Proofs.Ytghkdkagnibkgaa
set_option linter.unusedSimpArgs false
set_option linter.unusedVariables false
open Go.RowKit

/-- The mark of z. -/
def mkWaiter (z : Int) : DWaiter := ⟨z, (z + 1), (z + 1 + 1)⟩
def marksWaiter (k : Int) (n : Nat) : List DWaiter := (List.range n).map fun (i : Nat) => mkWaiter (k + 3 * (i : Int))
theorem marksWaiter_length (k : Int) (n : Nat) : (marksWaiter k n).length = n := by simp [marksWaiter]
theorem marksWaiter_step {xs : List DWaiter} {k : Int} {n j : Nat} (hl : xs.length = n) (hj : j < n) :
    (marksWaiter k j ++ xs.drop j).set j (mkWaiter (k + 3 * (j : Int))) = marksWaiter k (j + 1) ++ xs.drop (j + 1) := by
  apply List.ext_getElem?
  intro i
  simp only [marksWaiter, List.getElem?_set, List.getElem?_map, List.getElem?_append, List.length_map, List.length_append, List.length_range, List.length_drop, List.getElem?_drop]
  rcases Nat.lt_trichotomy i j with h | h | h
  · simp [show ¬ j = i from by omega, h, show i < j + 1 from by omega]
  · subst h
    simp [show i < i + (xs.length - i) from by omega]
  · simp [show ¬ j = i from by omega, show ¬ i < j from by omega, show ¬ i < j + 1 from by omega, show j + (i - j) = i from by omega, show j + 1 + (i - (j + 1)) = i from by omega]

/-- The call marks the row: blocks that F holds turn alone. -/
def MarkedWaiter (w : World) (F : Nat → Prop) (e : TypeId) (A : Option Addr) (n c : Nat) (k : Int) (en : Ending) (w' : World) : Prop :=
  en = .returned (.int .i64 (k + 3 * (n : Int))) ∧ OwnR layWaiter e w' F A n c (marksWaiter k n) ∧ TurnedF F w w'

/-- The call marks the row: blocks that F holds turn alone. -/
def MarkedTWaiter (w : World) (F : Nat → Prop) (e : TypeId) (A : Option Addr) (n c : Nat) (k : Int) (en : Ending) (w' : World) : Prop :=
  en = .returned (.int .i64 (k + 3 * (n : Int))) ∧ TailR layWaiter e w' F A n c (marksWaiter k n) ∧ TurnedF F w w'

end Go.Proofs.Ytghkdkagnibkgaa

namespace Go.Proofs.Ytghkdkagnibkgaa
set_option linter.unusedSimpArgs false
set_option linter.unusedVariables false
open Go.RowKit

theorem unownChan {w : World} {F : Nat → Prop} {x : DChan} {vs : List Value} (h : layChan.own w F x vs) : ∃ (A1 : Option Addr) (n1 c1 : Nat) (F1 : Nat → Prop) (A2 : Option Addr) (n2 c2 : Nat) (F2 : Nat → Prop) (A3 : Option Addr) (n3 c3 : Nat) (F3 : Nat → Prop), vs = [.int .i64 x.fCap, .slice A1 n1 c1, .slice A2 n2 c2, .slice A3 n3 c3, .bool x.fClosed] ∧ (Lit.int .i64 x.fCap).wf = true ∧ (TailR Lay.int 3 w F1 A1 n1 c1 x.fBuf ∧ ∀ g, F1 g → F g) ∧ (TailR layWaiter 92 w F2 A2 n2 c2 x.fSends ∧ ∀ g, F2 g → F g) ∧ (TailR layWaiter 92 w F3 A3 n3 c3 x.fRecvs ∧ ∀ g, F3 g → F g) ∧ (∀ g, F1 g → ¬ F2 g) ∧ (∀ g, F1 g → ¬ F3 g) ∧ (∀ g, F2 g → ¬ F3 g) := by
  obtain ⟨_, _, F0, R1, rfl, s0, ⟨_, _, F1, R2, rfl, s1, ⟨_, _, F2, R3, rfl, s2, ⟨_, _, F3, R4, rfl, s3, s4, k3, r3, d3⟩, k2, r2, d2⟩, k1, r1, d1⟩, k0, r0, d0⟩ := h
  obtain ⟨rfl, h0⟩ := s0
  obtain ⟨A1, n1, c1, rfl, h1⟩ := s1
  obtain ⟨A2, n2, c2, rfl, h2⟩ := s2
  obtain ⟨A3, n3, c3, rfl, h3⟩ := s3
  obtain ⟨rfl, h4⟩ := s4
  exact ⟨A1, n1, c1, F1, A2, n2, c2, F2, A3, n3, c3, F3, rfl, h0, ⟨h1, (fun g h => r0 g (k1 g h))⟩, ⟨h2, (fun g h => r0 g (r1 g (k2 g h)))⟩, ⟨h3, (fun g h => r0 g (r1 g (r2 g (k3 g h))))⟩, (fun g hi hj => d1 g hi ((fun g h => k2 g h) g hj)), (fun g hi hj => d1 g hi ((fun g h => r2 g (k3 g h)) g hj)), (fun g hi hj => d2 g hi ((fun g h => k3 g h) g hj))⟩

/-- How many marks it takes; what it is, marked from z on. -/
def cntChan (x : DChan) : Int := 1 + ((x.fBuf.length : Int)) + (3 * (x.fSends.length : Int)) + (3 * (x.fRecvs.length : Int)) + 1
def mkChan (z : Int) (x : DChan) : DChan := ⟨z, marksInt (z + 1) x.fBuf.length, marksWaiter (z + 1 + ((x.fBuf.length : Int))) x.fSends.length, marksWaiter (z + 1 + ((x.fBuf.length : Int)) + (3 * (x.fSends.length : Int))) x.fRecvs.length, (z + 1 + ((x.fBuf.length : Int)) + (3 * (x.fSends.length : Int)) + (3 * (x.fRecvs.length : Int))) % 3 == 0⟩
def marksChan : Int → List DChan → List DChan
  | _, [] => []
  | z, x :: r => mkChan z x :: marksChan (z + cntChan x) r
theorem marksChan_length (l : List DChan) : ∀ z, (marksChan z l).length = l.length := by
  induction l with
  | nil => intro z; rfl
  | cons x l ih => intro z; simp [marksChan, ih]
theorem marksChan_snoc (l : List DChan) (x : DChan) : ∀ z, marksChan z (l ++ [x]) = marksChan z l ++ [mkChan (z + (l.map cntChan).sum) x] := by
  induction l with
  | nil => intro z; simp [marksChan]
  | cons y l ih => intro z; simp [marksChan, ih, Int.add_assoc]
theorem marksChan_step {xs : List DChan} {k : Int} {j : Nat} {x : DChan} (hx : xs[j]? = some x) :
    (marksChan k (xs.take j) ++ xs.drop j).set j (mkChan (k + ((xs.take j).map cntChan).sum) x) = marksChan k (xs.take (j + 1)) ++ xs.drop (j + 1) := by
  obtain ⟨hj, rfl⟩ := List.getElem?_eq_some_iff.1 hx
  have hl : (marksChan k (xs.take j)).length = j := by rw [marksChan_length, List.length_take]; omega
  rw [List.take_succ_eq_append_getElem hj, marksChan_snoc, List.drop_eq_getElem_cons hj, List.set_append, if_neg (by omega), hl, Nat.sub_self, List.set_cons_zero, List.append_assoc]
  rfl

theorem cntChan_pos (x : DChan) : 0 ≤ cntChan x := by
  unfold cntChan
  omega

/-- The call marks the row: blocks that F holds turn alone. -/
def MarkedChan (w : World) (F : Nat → Prop) (e : TypeId) (A : Option Addr) (n c : Nat) (k : Int) (xs : List DChan) (en : Ending) (w' : World) : Prop :=
  en = .returned (.int .i64 (k + (xs.map cntChan).sum)) ∧ OwnR layChan e w' F A n c (marksChan k xs) ∧ TurnedF F w w'

/-- How many marks it takes where it stands by itself: its slices alone; and what it is then. -/
def vcntChan (x : DChan) : Int := (x.fBuf.length : Int) + 3 * (x.fSends.length : Int) + 3 * (x.fRecvs.length : Int)
def mkvChan (k : Int) (x : DChan) : DChan := ⟨x.fCap, marksInt k x.fBuf.length, marksWaiter (k + (x.fBuf.length : Int)) x.fSends.length, marksWaiter (k + (x.fBuf.length : Int) + 3 * (x.fSends.length : Int)) x.fRecvs.length, x.fClosed⟩

theorem marksChan_get {x : DChan} : ∀ {xs : List DChan} {k : Int} {j : Nat}, xs[j]? = some x → (marksChan k xs)[j]? = some (mkChan (k + ((xs.take j).map cntChan).sum) x)
  | [], _, _, h => by simp at h
  | y :: xs, k, 0, h => by
    simp at h
    subst h
    simp [marksChan]
  | y :: xs, k, j + 1, h => by
    have := marksChan_get (xs := xs) (k := k + cntChan y) (j := j) (by simpa using h)
    simp only [marksChan, List.getElem?_cons_succ, this, List.take_succ_cons, List.map_cons, List.sum_cons, Int.add_assoc]

end Go.Proofs.Ytghkdkagnibkgaa

namespace Go.Proofs.Ytghkdkagnibkgaa
set_option linter.unusedSimpArgs false
set_option linter.unusedVariables false
open Go.RowKit

/-- The mark of z. -/
def mkItem (z : Int) : DItem := ⟨z, (z + 1), (z + 1 + 1), (z + 1 + 1 + 1) % 3 == 0⟩
def marksItem (k : Int) (n : Nat) : List DItem := (List.range n).map fun (i : Nat) => mkItem (k + 4 * (i : Int))
theorem marksItem_length (k : Int) (n : Nat) : (marksItem k n).length = n := by simp [marksItem]
theorem marksItem_step {xs : List DItem} {k : Int} {n j : Nat} (hl : xs.length = n) (hj : j < n) :
    (marksItem k j ++ xs.drop j).set j (mkItem (k + 4 * (j : Int))) = marksItem k (j + 1) ++ xs.drop (j + 1) := by
  apply List.ext_getElem?
  intro i
  simp only [marksItem, List.getElem?_set, List.getElem?_map, List.getElem?_append, List.length_map, List.length_append, List.length_range, List.length_drop, List.getElem?_drop]
  rcases Nat.lt_trichotomy i j with h | h | h
  · simp [show ¬ j = i from by omega, h, show i < j + 1 from by omega]
  · subst h
    simp [show i < i + (xs.length - i) from by omega]
  · simp [show ¬ j = i from by omega, show ¬ i < j from by omega, show ¬ i < j + 1 from by omega, show j + (i - j) = i from by omega, show j + 1 + (i - (j + 1)) = i from by omega]

/-- The call marks the row: blocks that F holds turn alone. -/
def MarkedItem (w : World) (F : Nat → Prop) (e : TypeId) (A : Option Addr) (n c : Nat) (k : Int) (en : Ending) (w' : World) : Prop :=
  en = .returned (.int .i64 (k + 4 * (n : Int))) ∧ OwnR layItem e w' F A n c (marksItem k n) ∧ TurnedF F w w'

/-- The call marks the row: blocks that F holds turn alone. -/
def MarkedTItem (w : World) (F : Nat → Prop) (e : TypeId) (A : Option Addr) (n c : Nat) (k : Int) (en : Ending) (w' : World) : Prop :=
  en = .returned (.int .i64 (k + 4 * (n : Int))) ∧ TailR layItem e w' F A n c (marksItem k n) ∧ TurnedF F w w'

end Go.Proofs.Ytghkdkagnibkgaa

namespace Go.Proofs.Ytghkdkagnibkgaa
set_option linter.unusedSimpArgs false
set_option linter.unusedVariables false
open Go.RowKit

theorem unownGor {w : World} {F : Nat → Prop} {x : DGor} {vs : List Value} (h : layGor.own w F x vs) : ∃ (A2 : Option Addr) (n2 c2 : Nat) (F2 : Nat → Prop) (A4 : Option Addr) (n4 c4 : Nat) (F4 : Nat → Prop), vs = [.int .i64 x.fProc, .int .i64 x.fPc, .slice A2 n2 c2, .int .i64 x.fState, .slice A4 n4 c4] ∧ (Lit.int .i64 x.fProc).wf = true ∧ (Lit.int .i64 x.fPc).wf = true ∧ (TailR Lay.int 3 w F2 A2 n2 c2 x.fRegs ∧ ∀ g, F2 g → F g) ∧ (Lit.int .i64 x.fState).wf = true ∧ (TailR layItem 94 w F4 A4 n4 c4 x.fTrace ∧ ∀ g, F4 g → F g) ∧ (∀ g, F2 g → ¬ F4 g) := by
  obtain ⟨_, _, F0, R1, rfl, s0, ⟨_, _, F1, R2, rfl, s1, ⟨_, _, F2, R3, rfl, s2, ⟨_, _, F3, R4, rfl, s3, s4, k3, r3, d3⟩, k2, r2, d2⟩, k1, r1, d1⟩, k0, r0, d0⟩ := h
  obtain ⟨rfl, h0⟩ := s0
  obtain ⟨rfl, h1⟩ := s1
  obtain ⟨A2, n2, c2, rfl, h2⟩ := s2
  obtain ⟨rfl, h3⟩ := s3
  obtain ⟨A4, n4, c4, rfl, h4⟩ := s4
  exact ⟨A2, n2, c2, F2, A4, n4, c4, R4, rfl, h0, h1, ⟨h2, (fun g h => r0 g (r1 g (k2 g h)))⟩, h3, ⟨h4, (fun g h => r0 g (r1 g (r2 g (r3 g h))))⟩, (fun g hi hj => d2 g hi ((fun g h => r3 g h) g hj))⟩

/-- How many marks it takes; what it is, marked from z on. -/
def cntGor (x : DGor) : Int := 1 + 1 + ((x.fRegs.length : Int)) + 1 + (4 * (x.fTrace.length : Int))
def mkGor (z : Int) (x : DGor) : DGor := ⟨z, z + 1, marksInt (z + 1 + 1) x.fRegs.length, z + 1 + 1 + ((x.fRegs.length : Int)), marksItem (z + 1 + 1 + ((x.fRegs.length : Int)) + 1) x.fTrace.length⟩
def marksGor : Int → List DGor → List DGor
  | _, [] => []
  | z, x :: r => mkGor z x :: marksGor (z + cntGor x) r
theorem marksGor_length (l : List DGor) : ∀ z, (marksGor z l).length = l.length := by
  induction l with
  | nil => intro z; rfl
  | cons x l ih => intro z; simp [marksGor, ih]
theorem marksGor_snoc (l : List DGor) (x : DGor) : ∀ z, marksGor z (l ++ [x]) = marksGor z l ++ [mkGor (z + (l.map cntGor).sum) x] := by
  induction l with
  | nil => intro z; simp [marksGor]
  | cons y l ih => intro z; simp [marksGor, ih, Int.add_assoc]
theorem marksGor_step {xs : List DGor} {k : Int} {j : Nat} {x : DGor} (hx : xs[j]? = some x) :
    (marksGor k (xs.take j) ++ xs.drop j).set j (mkGor (k + ((xs.take j).map cntGor).sum) x) = marksGor k (xs.take (j + 1)) ++ xs.drop (j + 1) := by
  obtain ⟨hj, rfl⟩ := List.getElem?_eq_some_iff.1 hx
  have hl : (marksGor k (xs.take j)).length = j := by rw [marksGor_length, List.length_take]; omega
  rw [List.take_succ_eq_append_getElem hj, marksGor_snoc, List.drop_eq_getElem_cons hj, List.set_append, if_neg (by omega), hl, Nat.sub_self, List.set_cons_zero, List.append_assoc]
  rfl

theorem cntGor_pos (x : DGor) : 0 ≤ cntGor x := by
  unfold cntGor
  omega

/-- The call marks the row: blocks that F holds turn alone. -/
def MarkedGor (w : World) (F : Nat → Prop) (e : TypeId) (A : Option Addr) (n c : Nat) (k : Int) (xs : List DGor) (en : Ending) (w' : World) : Prop :=
  en = .returned (.int .i64 (k + (xs.map cntGor).sum)) ∧ OwnR layGor e w' F A n c (marksGor k xs) ∧ TurnedF F w w'

/-- How many marks it takes where it stands by itself: its slices alone; and what it is then. -/
def vcntGor (x : DGor) : Int := (x.fRegs.length : Int) + 4 * (x.fTrace.length : Int)
def mkvGor (k : Int) (x : DGor) : DGor := ⟨x.fProc, x.fPc, marksInt k x.fRegs.length, x.fState, marksItem (k + (x.fRegs.length : Int)) x.fTrace.length⟩

theorem marksGor_get {x : DGor} : ∀ {xs : List DGor} {k : Int} {j : Nat}, xs[j]? = some x → (marksGor k xs)[j]? = some (mkGor (k + ((xs.take j).map cntGor).sum) x)
  | [], _, _, h => by simp at h
  | y :: xs, k, 0, h => by
    simp at h
    subst h
    simp [marksGor]
  | y :: xs, k, j + 1, h => by
    have := marksGor_get (xs := xs) (k := k + cntGor y) (j := j) (by simpa using h)
    simp only [marksGor, List.getElem?_cons_succ, this, List.take_succ_cons, List.map_cons, List.sum_cons, Int.add_assoc]

end Go.Proofs.Ytghkdkagnibkgaa

namespace Go.Proofs.Ytghkdkagnibkgaa
set_option linter.unusedSimpArgs false
set_option linter.unusedVariables false
open Go.RowKit

theorem unownMutex {w : World} {F : Nat → Prop} {x : DMutex} {vs : List Value} (h : layMutex.own w F x vs) : ∃ (A1 : Option Addr) (n1 c1 : Nat) (F1 : Nat → Prop), vs = [.int .i64 x.fOwner, .slice A1 n1 c1] ∧ (Lit.int .i64 x.fOwner).wf = true ∧ (TailR Lay.int 3 w F1 A1 n1 c1 x.fWait ∧ ∀ g, F1 g → F g) := by
  obtain ⟨_, _, F0, R1, rfl, s0, s1, k0, r0, d0⟩ := h
  obtain ⟨rfl, h0⟩ := s0
  obtain ⟨A1, n1, c1, rfl, h1⟩ := s1
  exact ⟨A1, n1, c1, R1, rfl, h0, ⟨h1, (fun g h => r0 g h)⟩⟩

/-- How many marks it takes; what it is, marked from z on. -/
def cntMutex (x : DMutex) : Int := 1 + ((x.fWait.length : Int))
def mkMutex (z : Int) (x : DMutex) : DMutex := ⟨z, marksInt (z + 1) x.fWait.length⟩
def marksMutex : Int → List DMutex → List DMutex
  | _, [] => []
  | z, x :: r => mkMutex z x :: marksMutex (z + cntMutex x) r
theorem marksMutex_length (l : List DMutex) : ∀ z, (marksMutex z l).length = l.length := by
  induction l with
  | nil => intro z; rfl
  | cons x l ih => intro z; simp [marksMutex, ih]
theorem marksMutex_snoc (l : List DMutex) (x : DMutex) : ∀ z, marksMutex z (l ++ [x]) = marksMutex z l ++ [mkMutex (z + (l.map cntMutex).sum) x] := by
  induction l with
  | nil => intro z; simp [marksMutex]
  | cons y l ih => intro z; simp [marksMutex, ih, Int.add_assoc]
theorem marksMutex_step {xs : List DMutex} {k : Int} {j : Nat} {x : DMutex} (hx : xs[j]? = some x) :
    (marksMutex k (xs.take j) ++ xs.drop j).set j (mkMutex (k + ((xs.take j).map cntMutex).sum) x) = marksMutex k (xs.take (j + 1)) ++ xs.drop (j + 1) := by
  obtain ⟨hj, rfl⟩ := List.getElem?_eq_some_iff.1 hx
  have hl : (marksMutex k (xs.take j)).length = j := by rw [marksMutex_length, List.length_take]; omega
  rw [List.take_succ_eq_append_getElem hj, marksMutex_snoc, List.drop_eq_getElem_cons hj, List.set_append, if_neg (by omega), hl, Nat.sub_self, List.set_cons_zero, List.append_assoc]
  rfl

theorem cntMutex_pos (x : DMutex) : 0 ≤ cntMutex x := by
  unfold cntMutex
  omega

/-- The call marks the row: blocks that F holds turn alone. -/
def MarkedMutex (w : World) (F : Nat → Prop) (e : TypeId) (A : Option Addr) (n c : Nat) (k : Int) (xs : List DMutex) (en : Ending) (w' : World) : Prop :=
  en = .returned (.int .i64 (k + (xs.map cntMutex).sum)) ∧ OwnR layMutex e w' F A n c (marksMutex k xs) ∧ TurnedF F w w'

/-- How many marks it takes where it stands by itself: its slices alone; and what it is then. -/
def vcntMutex (x : DMutex) : Int := (x.fWait.length : Int)
def mkvMutex (k : Int) (x : DMutex) : DMutex := ⟨x.fOwner, marksInt k x.fWait.length⟩

theorem marksMutex_get {x : DMutex} : ∀ {xs : List DMutex} {k : Int} {j : Nat}, xs[j]? = some x → (marksMutex k xs)[j]? = some (mkMutex (k + ((xs.take j).map cntMutex).sum) x)
  | [], _, _, h => by simp at h
  | y :: xs, k, 0, h => by
    simp at h
    subst h
    simp [marksMutex]
  | y :: xs, k, j + 1, h => by
    have := marksMutex_get (xs := xs) (k := k + cntMutex y) (j := j) (by simpa using h)
    simp only [marksMutex, List.getElem?_cons_succ, this, List.take_succ_cons, List.map_cons, List.sum_cons, Int.add_assoc]

end Go.Proofs.Ytghkdkagnibkgaa

namespace Go.Proofs.Ytghkdkagnibkgaa
set_option linter.unusedSimpArgs false
set_option linter.unusedVariables false
open Go.RowKit

theorem unownEng {w : World} {F : Nat → Prop} {x : DEng} {vs : List Value} (h : layEng.own w F x vs) : ∃ (A0 : Option Addr) (n0 c0 : Nat) (F0 : Nat → Prop) (A1 : Option Addr) (n1 c1 : Nat) (F1 : Nat → Prop) (A2 : Option Addr) (n2 c2 : Nat) (F2 : Nat → Prop), vs = [.slice A0 n0 c0, .slice A1 n1 c1, .slice A2 n2 c2] ∧ (OwnR layGor 71 w F0 A0 n0 c0 x.fGs ∧ ∀ g, F0 g → F g) ∧ (OwnR layChan 48 w F1 A1 n1 c1 x.fChans ∧ ∀ g, F1 g → F g) ∧ (OwnR layMutex 74 w F2 A2 n2 c2 x.fMus ∧ ∀ g, F2 g → F g) ∧ (∀ g, F0 g → ¬ F1 g) ∧ (∀ g, F0 g → ¬ F2 g) ∧ (∀ g, F1 g → ¬ F2 g) := by
  obtain ⟨_, _, F0, R1, rfl, s0, ⟨_, _, F1, R2, rfl, s1, s2, k1, r1, d1⟩, k0, r0, d0⟩ := h
  obtain ⟨A0, n0, c0, rfl, h0⟩ := s0
  obtain ⟨A1, n1, c1, rfl, h1⟩ := s1
  obtain ⟨A2, n2, c2, rfl, h2⟩ := s2
  exact ⟨A0, n0, c0, F0, A1, n1, c1, F1, A2, n2, c2, R2, rfl, ⟨h0, (fun g h => k0 g h)⟩, ⟨h1, (fun g h => r0 g (k1 g h))⟩, ⟨h2, (fun g h => r0 g (r1 g h))⟩, (fun g hi hj => d0 g hi ((fun g h => k1 g h) g hj)), (fun g hi hj => d0 g hi ((fun g h => r1 g h) g hj)), (fun g hi hj => d1 g hi ((fun g h => h) g hj))⟩

/-- How many marks it takes; what it is, marked from z on. -/
def cntEng (x : DEng) : Int := (x.fGs.map cntGor).sum + (x.fChans.map cntChan).sum + (x.fMus.map cntMutex).sum
def mkEng (z : Int) (x : DEng) : DEng := ⟨marksGor z x.fGs, marksChan (z + (x.fGs.map cntGor).sum) x.fChans, marksMutex (z + (x.fGs.map cntGor).sum + (x.fChans.map cntChan).sum) x.fMus⟩
def marksEng : Int → List DEng → List DEng
  | _, [] => []
  | z, x :: r => mkEng z x :: marksEng (z + cntEng x) r
theorem marksEng_length (l : List DEng) : ∀ z, (marksEng z l).length = l.length := by
  induction l with
  | nil => intro z; rfl
  | cons x l ih => intro z; simp [marksEng, ih]
theorem marksEng_snoc (l : List DEng) (x : DEng) : ∀ z, marksEng z (l ++ [x]) = marksEng z l ++ [mkEng (z + (l.map cntEng).sum) x] := by
  induction l with
  | nil => intro z; simp [marksEng]
  | cons y l ih => intro z; simp [marksEng, ih, Int.add_assoc]
theorem marksEng_step {xs : List DEng} {k : Int} {j : Nat} {x : DEng} (hx : xs[j]? = some x) :
    (marksEng k (xs.take j) ++ xs.drop j).set j (mkEng (k + ((xs.take j).map cntEng).sum) x) = marksEng k (xs.take (j + 1)) ++ xs.drop (j + 1) := by
  obtain ⟨hj, rfl⟩ := List.getElem?_eq_some_iff.1 hx
  have hl : (marksEng k (xs.take j)).length = j := by rw [marksEng_length, List.length_take]; omega
  rw [List.take_succ_eq_append_getElem hj, marksEng_snoc, List.drop_eq_getElem_cons hj, List.set_append, if_neg (by omega), hl, Nat.sub_self, List.set_cons_zero, List.append_assoc]
  rfl

theorem cntEng_pos (x : DEng) : 0 ≤ cntEng x := by
  unfold cntEng
  have hq0 := sum_pos cntGor_pos x.fGs
  have hq1 := sum_pos cntChan_pos x.fChans
  have hq2 := sum_pos cntMutex_pos x.fMus
  omega

/-- The call marks the row: blocks that F holds turn alone. -/
def MarkedEng (w : World) (F : Nat → Prop) (e : TypeId) (A : Option Addr) (n c : Nat) (k : Int) (xs : List DEng) (en : Ending) (w' : World) : Prop :=
  en = .returned (.int .i64 (k + (xs.map cntEng).sum)) ∧ OwnR layEng e w' F A n c (marksEng k xs) ∧ TurnedF F w w'

/-- How many marks it takes where it stands by itself: its slices alone; and what it is then. -/
def vcntEng (x : DEng) : Int := (x.fGs.map cntGor).sum + (x.fChans.map cntChan).sum + (x.fMus.map cntMutex).sum
def mkvEng (k : Int) (x : DEng) : DEng := ⟨marksGor k x.fGs, marksChan (k + (x.fGs.map cntGor).sum) x.fChans, marksMutex (k + (x.fGs.map cntGor).sum + (x.fChans.map cntChan).sum) x.fMus⟩

theorem marksEng_get {x : DEng} : ∀ {xs : List DEng} {k : Int} {j : Nat}, xs[j]? = some x → (marksEng k xs)[j]? = some (mkEng (k + ((xs.take j).map cntEng).sum) x)
  | [], _, _, h => by simp at h
  | y :: xs, k, 0, h => by
    simp at h
    subst h
    simp [marksEng]
  | y :: xs, k, j + 1, h => by
    have := marksEng_get (xs := xs) (k := k + cntEng y) (j := j) (by simpa using h)
    simp only [marksEng, List.getElem?_cons_succ, this, List.take_succ_cons, List.map_cons, List.sum_cons, Int.add_assoc]

end Go.Proofs.Ytghkdkagnibkgaa

namespace Go.Proofs.Ytghkdkagnibkgaa
set_option linter.unusedSimpArgs false
set_option linter.unusedVariables false
open Go.RowKit

theorem sum_bound {α : Type} {f : α → Int} {s : α → Nat} {a b : Int} (h : ∀ x, f x ≤ a + b * (s x : Int)) : ∀ l : List α, (l.map f).sum ≤ a * (l.length : Int) + b * ((l.map s).sum : Nat)
  | [] => by simp
  | x :: l => by
    have h1 := sum_bound h l
    have h2 := h x
    simp only [List.map_cons, List.sum_cons, List.length_cons, Int.natCast_add, Int.mul_add]
    omega
theorem vcntEng_le {x : DEng} (h : szEng x ≤ 1048580) : 0 ≤ vcntEng x ∧ vcntEng x ≤ 8388700 := by
  have g1 := sum_bound (f := cntGor) (s := szGor) (a := 4) (b := 4) (fun g => by unfold cntGor szGor; omega) x.fGs
  have g2 := sum_bound (f := cntChan) (s := szChan) (a := 4) (b := 4) (fun g => by unfold cntChan szChan; omega) x.fChans
  have g3 := sum_bound (f := cntMutex) (s := szMutex) (a := 4) (b := 4) (fun g => by unfold cntMutex szMutex; omega) x.fMus
  have p1 := sum_pos cntGor_pos x.fGs
  have p2 := sum_pos cntChan_pos x.fChans
  have p3 := sum_pos cntMutex_pos x.fMus
  unfold szEng at h
  unfold vcntEng
  omega
end Go.Proofs.Ytghkdkagnibkgaa

namespace Go.Proofs.Ytghkdkagnibkgaa
set_option linter.unusedSimpArgs false
set_option linter.unusedVariables false
open Go.RowKit

/-- The mark of z. -/
def mkCase (z : Int) : DCase := ⟨z % 3 == 0, (z + 1), (z + 1 + 1), (z + 1 + 1 + 1), (z + 1 + 1 + 1 + 1)⟩
def marksCase (k : Int) (n : Nat) : List DCase := (List.range n).map fun (i : Nat) => mkCase (k + 5 * (i : Int))
theorem marksCase_length (k : Int) (n : Nat) : (marksCase k n).length = n := by simp [marksCase]
theorem marksCase_step {xs : List DCase} {k : Int} {n j : Nat} (hl : xs.length = n) (hj : j < n) :
    (marksCase k j ++ xs.drop j).set j (mkCase (k + 5 * (j : Int))) = marksCase k (j + 1) ++ xs.drop (j + 1) := by
  apply List.ext_getElem?
  intro i
  simp only [marksCase, List.getElem?_set, List.getElem?_map, List.getElem?_append, List.length_map, List.length_append, List.length_range, List.length_drop, List.getElem?_drop]
  rcases Nat.lt_trichotomy i j with h | h | h
  · simp [show ¬ j = i from by omega, h, show i < j + 1 from by omega]
  · subst h
    simp [show i < i + (xs.length - i) from by omega]
  · simp [show ¬ j = i from by omega, show ¬ i < j from by omega, show ¬ i < j + 1 from by omega, show j + (i - j) = i from by omega, show j + 1 + (i - (j + 1)) = i from by omega]

/-- The call marks the row: blocks that F holds turn alone. -/
def MarkedCase (w : World) (F : Nat → Prop) (e : TypeId) (A : Option Addr) (n c : Nat) (k : Int) (en : Ending) (w' : World) : Prop :=
  en = .returned (.int .i64 (k + 5 * (n : Int))) ∧ OwnR layCase e w' F A n c (marksCase k n) ∧ TurnedF F w w'

end Go.Proofs.Ytghkdkagnibkgaa

namespace Go.Proofs.Ytghkdkagnibkgaa
set_option linter.unusedSimpArgs false
set_option linter.unusedVariables false
open Go.RowKit

theorem unownSelect {w : World} {F : Nat → Prop} {x : DSelect} {vs : List Value} (h : laySelect.own w F x vs) : ∃ (A0 : Option Addr) (n0 c0 : Nat) (F0 : Nat → Prop), vs = [.slice A0 n0 c0, .int .i64 x.fElse] ∧ (OwnR layCase 37 w F0 A0 n0 c0 x.fCases ∧ ∀ g, F0 g → F g) ∧ (Lit.int .i64 x.fElse).wf = true := by
  obtain ⟨_, _, F0, R1, rfl, s0, s1, k0, r0, d0⟩ := h
  obtain ⟨A0, n0, c0, rfl, h0⟩ := s0
  obtain ⟨rfl, h1⟩ := s1
  exact ⟨A0, n0, c0, F0, rfl, ⟨h0, (fun g h => k0 g h)⟩, h1⟩

/-- How many marks it takes; what it is, marked from z on. -/
def cntSelect (x : DSelect) : Int := (5 * (x.fCases.length : Int)) + 1
def mkSelect (z : Int) (x : DSelect) : DSelect := ⟨marksCase z x.fCases.length, z + (5 * (x.fCases.length : Int))⟩
def marksSelect : Int → List DSelect → List DSelect
  | _, [] => []
  | z, x :: r => mkSelect z x :: marksSelect (z + cntSelect x) r
theorem marksSelect_length (l : List DSelect) : ∀ z, (marksSelect z l).length = l.length := by
  induction l with
  | nil => intro z; rfl
  | cons x l ih => intro z; simp [marksSelect, ih]
theorem marksSelect_snoc (l : List DSelect) (x : DSelect) : ∀ z, marksSelect z (l ++ [x]) = marksSelect z l ++ [mkSelect (z + (l.map cntSelect).sum) x] := by
  induction l with
  | nil => intro z; simp [marksSelect]
  | cons y l ih => intro z; simp [marksSelect, ih, Int.add_assoc]
theorem marksSelect_step {xs : List DSelect} {k : Int} {j : Nat} {x : DSelect} (hx : xs[j]? = some x) :
    (marksSelect k (xs.take j) ++ xs.drop j).set j (mkSelect (k + ((xs.take j).map cntSelect).sum) x) = marksSelect k (xs.take (j + 1)) ++ xs.drop (j + 1) := by
  obtain ⟨hj, rfl⟩ := List.getElem?_eq_some_iff.1 hx
  have hl : (marksSelect k (xs.take j)).length = j := by rw [marksSelect_length, List.length_take]; omega
  rw [List.take_succ_eq_append_getElem hj, marksSelect_snoc, List.drop_eq_getElem_cons hj, List.set_append, if_neg (by omega), hl, Nat.sub_self, List.set_cons_zero, List.append_assoc]
  rfl

theorem cntSelect_pos (x : DSelect) : 0 ≤ cntSelect x := by
  unfold cntSelect
  omega

/-- The call marks the row: blocks that F holds turn alone. -/
def MarkedSelect (w : World) (F : Nat → Prop) (e : TypeId) (A : Option Addr) (n c : Nat) (k : Int) (xs : List DSelect) (en : Ending) (w' : World) : Prop :=
  en = .returned (.int .i64 (k + (xs.map cntSelect).sum)) ∧ OwnR laySelect e w' F A n c (marksSelect k xs) ∧ TurnedF F w w'

/-- How many marks it takes where it stands by itself: its slices alone; and what it is then. -/
def vcntSelect (x : DSelect) : Int := 5 * (x.fCases.length : Int)
def mkvSelect (k : Int) (x : DSelect) : DSelect := ⟨marksCase k x.fCases.length, x.fElse⟩

theorem marksSelect_get {x : DSelect} : ∀ {xs : List DSelect} {k : Int} {j : Nat}, xs[j]? = some x → (marksSelect k xs)[j]? = some (mkSelect (k + ((xs.take j).map cntSelect).sum) x)
  | [], _, _, h => by simp at h
  | y :: xs, k, 0, h => by
    simp at h
    subst h
    simp [marksSelect]
  | y :: xs, k, j + 1, h => by
    have := marksSelect_get (xs := xs) (k := k + cntSelect y) (j := j) (by simpa using h)
    simp only [marksSelect, List.getElem?_cons_succ, this, List.take_succ_cons, List.map_cons, List.sum_cons, Int.add_assoc]

end Go.Proofs.Ytghkdkagnibkgaa

namespace Go.Proofs.Ytghkdkagnibkgaa
set_option linter.unusedSimpArgs false
set_option linter.unusedVariables false
open Go.RowKit

/-- The mark of z. -/
def mkInstr (z : Int) : DInstr := ⟨z, (z + 1), (z + 1 + 1), (z + 1 + 1 + 1)⟩
def marksInstr (k : Int) (n : Nat) : List DInstr := (List.range n).map fun (i : Nat) => mkInstr (k + 4 * (i : Int))
theorem marksInstr_length (k : Int) (n : Nat) : (marksInstr k n).length = n := by simp [marksInstr]
theorem marksInstr_step {xs : List DInstr} {k : Int} {n j : Nat} (hl : xs.length = n) (hj : j < n) :
    (marksInstr k j ++ xs.drop j).set j (mkInstr (k + 4 * (j : Int))) = marksInstr k (j + 1) ++ xs.drop (j + 1) := by
  apply List.ext_getElem?
  intro i
  simp only [marksInstr, List.getElem?_set, List.getElem?_map, List.getElem?_append, List.length_map, List.length_append, List.length_range, List.length_drop, List.getElem?_drop]
  rcases Nat.lt_trichotomy i j with h | h | h
  · simp [show ¬ j = i from by omega, h, show i < j + 1 from by omega]
  · subst h
    simp [show i < i + (xs.length - i) from by omega]
  · simp [show ¬ j = i from by omega, show ¬ i < j from by omega, show ¬ i < j + 1 from by omega, show j + (i - j) = i from by omega, show j + 1 + (i - (j + 1)) = i from by omega]

/-- The call marks the row: blocks that F holds turn alone. -/
def MarkedInstr (w : World) (F : Nat → Prop) (e : TypeId) (A : Option Addr) (n c : Nat) (k : Int) (en : Ending) (w' : World) : Prop :=
  en = .returned (.int .i64 (k + 4 * (n : Int))) ∧ OwnR layInstr e w' F A n c (marksInstr k n) ∧ TurnedF F w w'

end Go.Proofs.Ytghkdkagnibkgaa

namespace Go.Proofs.Ytghkdkagnibkgaa
set_option linter.unusedSimpArgs false
set_option linter.unusedVariables false
open Go.RowKit

/-- How many marks it takes; what it is, marked from z on. -/
def cntProc (x : DProc) : Int := (4 * (x.fCode.length : Int))
def mkProc (z : Int) (x : DProc) : DProc := ⟨marksInstr z x.fCode.length⟩
def marksProc : Int → List DProc → List DProc
  | _, [] => []
  | z, x :: r => mkProc z x :: marksProc (z + cntProc x) r
theorem marksProc_length (l : List DProc) : ∀ z, (marksProc z l).length = l.length := by
  induction l with
  | nil => intro z; rfl
  | cons x l ih => intro z; simp [marksProc, ih]
theorem marksProc_snoc (l : List DProc) (x : DProc) : ∀ z, marksProc z (l ++ [x]) = marksProc z l ++ [mkProc (z + (l.map cntProc).sum) x] := by
  induction l with
  | nil => intro z; simp [marksProc]
  | cons y l ih => intro z; simp [marksProc, ih, Int.add_assoc]
theorem marksProc_step {xs : List DProc} {k : Int} {j : Nat} {x : DProc} (hx : xs[j]? = some x) :
    (marksProc k (xs.take j) ++ xs.drop j).set j (mkProc (k + ((xs.take j).map cntProc).sum) x) = marksProc k (xs.take (j + 1)) ++ xs.drop (j + 1) := by
  obtain ⟨hj, rfl⟩ := List.getElem?_eq_some_iff.1 hx
  have hl : (marksProc k (xs.take j)).length = j := by rw [marksProc_length, List.length_take]; omega
  rw [List.take_succ_eq_append_getElem hj, marksProc_snoc, List.drop_eq_getElem_cons hj, List.set_append, if_neg (by omega), hl, Nat.sub_self, List.set_cons_zero, List.append_assoc]
  rfl

theorem cntProc_pos (x : DProc) : 0 ≤ cntProc x := by
  unfold cntProc
  omega

/-- How many marks it takes where it stands by itself: its slices alone; and what it is then. -/
def vcntProc (x : DProc) : Int := 4 * (x.fCode.length : Int)
def mkvProc (k : Int) (x : DProc) : DProc := ⟨marksInstr k x.fCode.length⟩

theorem marksProc_get {x : DProc} : ∀ {xs : List DProc} {k : Int} {j : Nat}, xs[j]? = some x → (marksProc k xs)[j]? = some (mkProc (k + ((xs.take j).map cntProc).sum) x)
  | [], _, _, h => by simp at h
  | y :: xs, k, 0, h => by
    simp at h
    subst h
    simp [marksProc]
  | y :: xs, k, j + 1, h => by
    have := marksProc_get (xs := xs) (k := k + cntProc y) (j := j) (by simpa using h)
    simp only [marksProc, List.getElem?_cons_succ, this, List.take_succ_cons, List.map_cons, List.sum_cons, Int.add_assoc]

end Go.Proofs.Ytghkdkagnibkgaa

namespace Go.Proofs.Ytghkdkagnibkgaa
set_option linter.unusedSimpArgs false
set_option linter.unusedVariables false
open Go.RowKit

/-- How many marks it takes; what it is, marked from z on. -/
def cntProg (x : DProg) : Int := ((x.fCaps.length : Int)) + 1 + (x.fSels.map cntSelect).sum + (x.fProcs.map cntProc).sum
def mkProg (z : Int) (x : DProg) : DProg := ⟨marksInt z x.fCaps.length, z + ((x.fCaps.length : Int)), marksSelect (z + ((x.fCaps.length : Int)) + 1) x.fSels, marksProc (z + ((x.fCaps.length : Int)) + 1 + (x.fSels.map cntSelect).sum) x.fProcs⟩
def marksProg : Int → List DProg → List DProg
  | _, [] => []
  | z, x :: r => mkProg z x :: marksProg (z + cntProg x) r
theorem marksProg_length (l : List DProg) : ∀ z, (marksProg z l).length = l.length := by
  induction l with
  | nil => intro z; rfl
  | cons x l ih => intro z; simp [marksProg, ih]
theorem marksProg_snoc (l : List DProg) (x : DProg) : ∀ z, marksProg z (l ++ [x]) = marksProg z l ++ [mkProg (z + (l.map cntProg).sum) x] := by
  induction l with
  | nil => intro z; simp [marksProg]
  | cons y l ih => intro z; simp [marksProg, ih, Int.add_assoc]
theorem marksProg_step {xs : List DProg} {k : Int} {j : Nat} {x : DProg} (hx : xs[j]? = some x) :
    (marksProg k (xs.take j) ++ xs.drop j).set j (mkProg (k + ((xs.take j).map cntProg).sum) x) = marksProg k (xs.take (j + 1)) ++ xs.drop (j + 1) := by
  obtain ⟨hj, rfl⟩ := List.getElem?_eq_some_iff.1 hx
  have hl : (marksProg k (xs.take j)).length = j := by rw [marksProg_length, List.length_take]; omega
  rw [List.take_succ_eq_append_getElem hj, marksProg_snoc, List.drop_eq_getElem_cons hj, List.set_append, if_neg (by omega), hl, Nat.sub_self, List.set_cons_zero, List.append_assoc]
  rfl

theorem cntProg_pos (x : DProg) : 0 ≤ cntProg x := by
  unfold cntProg
  have hq2 := sum_pos cntSelect_pos x.fSels
  have hq3 := sum_pos cntProc_pos x.fProcs
  omega

/-- How many marks it takes where it stands by itself: its slices alone; and what it is then. -/
def vcntProg (x : DProg) : Int := (x.fCaps.length : Int) + (x.fSels.map cntSelect).sum + (x.fProcs.map cntProc).sum
def mkvProg (k : Int) (x : DProg) : DProg := ⟨marksInt k x.fCaps.length, x.fMus, marksSelect (k + (x.fCaps.length : Int)) x.fSels, marksProc (k + (x.fCaps.length : Int) + (x.fSels.map cntSelect).sum) x.fProcs⟩

theorem marksProg_get {x : DProg} : ∀ {xs : List DProg} {k : Int} {j : Nat}, xs[j]? = some x → (marksProg k xs)[j]? = some (mkProg (k + ((xs.take j).map cntProg).sum) x)
  | [], _, _, h => by simp at h
  | y :: xs, k, 0, h => by
    simp at h
    subst h
    simp [marksProg]
  | y :: xs, k, j + 1, h => by
    have := marksProg_get (xs := xs) (k := k + cntProg y) (j := j) (by simpa using h)
    simp only [marksProg, List.getElem?_cons_succ, this, List.take_succ_cons, List.map_cons, List.sum_cons, Int.add_assoc]

end Go.Proofs.Ytghkdkagnibkgaa
