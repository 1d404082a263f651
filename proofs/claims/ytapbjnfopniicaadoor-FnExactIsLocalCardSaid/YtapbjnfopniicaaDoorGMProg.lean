
/- MCase, MSelect, MInstr, MProc, MProg, merged for claims. -/

import Derived.Test.YtapbjnfopniicaaDoorGDProg

import Derived.Test.YtapbjnfopniicaaDoorBase

import Derived.Test.YtapbjnfopniicaaDoorGMEng

namespace Go.Proofs.YtapbjnfopniicaaDoor
set_option linter.unusedSimpArgs false
set_option linter.unusedVariables false
open Go.RowKit

/-- The mark of z. -/
def mkCase (z : Int) : DCase := ⟨z % 3 == 0, (z + 1), (z + 1 + 1), (z + 1 + 1 + 1), (z + 1 + 1 + 1 + 1)⟩
def marksCase (k : Int) (n : Nat) : List DCase := (List.range n).map fun (i : Nat) => mkCase (k + 5 * (i : Int))
theorem marksCase_length (k : Int) (n : Nat) : (marksCase k n).length = n := by simp [marksCase]
theorem marksCase_step {xs : List DCase} {k : Int} {n j : Nat} (hl : xs.length = n) (hj : j < n) :
    (marksCase k j ++ xs.drop j).set j (mkCase (k + 5 * (j : Int))) = marksCase k (j + 1) ++ xs.drop (j + 1) := by
  apply List.ext_getElem?
  intro i
  simp only [marksCase, List.getElem?_set, List.getElem?_map, List.getElem?_append, List.length_map, List.length_append, List.length_range, List.length_drop, List.getElem?_drop]
  rcases Nat.lt_trichotomy i j with h | h | h
  · simp [show ¬ j = i from by omega, h, show i < j + 1 from by omega]
  · subst h
    simp [show i < i + (xs.length - i) from by omega]
  · simp [show ¬ j = i from by omega, show ¬ i < j from by omega, show ¬ i < j + 1 from by omega, show j + (i - j) = i from by omega, show j + 1 + (i - (j + 1)) = i from by omega]

/-- The call marks the row: blocks that F holds turn alone. -/
def MarkedCase (w : World) (F : Nat → Prop) (e : TypeId) (A : Option Addr) (n c : Nat) (k : Int) (en : Ending) (w' : World) : Prop :=
  en = .returned (.int .i64 (k + 5 * (n : Int))) ∧ OwnR layCase e w' F A n c (marksCase k n) ∧ TurnedF F w w'

end Go.Proofs.YtapbjnfopniicaaDoor

namespace Go.Proofs.YtapbjnfopniicaaDoor
set_option linter.unusedSimpArgs false
set_option linter.unusedVariables false
open Go.RowKit

theorem unownSelect {w : World} {F : Nat → Prop} {x : DSelect} {vs : List Value} (h : laySelect.own w F x vs) : ∃ (A0 : Option Addr) (n0 c0 : Nat) (F0 : Nat → Prop), vs = [.slice A0 n0 c0, .int .i64 x.fElse] ∧ (OwnR layCase 102 w F0 A0 n0 c0 x.fCases ∧ ∀ g, F0 g → F g) ∧ (Lit.int .i64 x.fElse).wf = true := by
  obtain ⟨_, _, F0, R1, rfl, s0, s1, k0, r0, d0⟩ := h
  obtain ⟨A0, n0, c0, rfl, h0⟩ := s0
  obtain ⟨rfl, h1⟩ := s1
  exact ⟨A0, n0, c0, F0, rfl, ⟨h0, (fun g h => k0 g h)⟩, h1⟩

/-- How many marks it takes; what it is, marked from z on. -/
def cntSelect (x : DSelect) : Int := (5 * (x.fCases.length : Int)) + 1
def mkSelect (z : Int) (x : DSelect) : DSelect := ⟨marksCase z x.fCases.length, z + (5 * (x.fCases.length : Int))⟩
def marksSelect : Int → List DSelect → List DSelect
  | _, [] => []
  | z, x :: r => mkSelect z x :: marksSelect (z + cntSelect x) r
theorem marksSelect_length (l : List DSelect) : ∀ z, (marksSelect z l).length = l.length := by
  induction l with
  | nil => intro z; rfl
  | cons x l ih => intro z; simp [marksSelect, ih]
theorem marksSelect_snoc (l : List DSelect) (x : DSelect) : ∀ z, marksSelect z (l ++ [x]) = marksSelect z l ++ [mkSelect (z + (l.map cntSelect).sum) x] := by
  induction l with
  | nil => intro z; simp [marksSelect]
  | cons y l ih => intro z; simp [marksSelect, ih, Int.add_assoc]
theorem marksSelect_step {xs : List DSelect} {k : Int} {j : Nat} {x : DSelect} (hx : xs[j]? = some x) :
    (marksSelect k (xs.take j) ++ xs.drop j).set j (mkSelect (k + ((xs.take j).map cntSelect).sum) x) = marksSelect k (xs.take (j + 1)) ++ xs.drop (j + 1) := by
  obtain ⟨hj, rfl⟩ := List.getElem?_eq_some_iff.1 hx
  have hl : (marksSelect k (xs.take j)).length = j := by rw [marksSelect_length, List.length_take]; omega
  rw [List.take_succ_eq_append_getElem hj, marksSelect_snoc, List.drop_eq_getElem_cons hj, List.set_append, if_neg (by omega), hl, Nat.sub_self, List.set_cons_zero, List.append_assoc]
  rfl

theorem cntSelect_pos (x : DSelect) : 0 ≤ cntSelect x := by
  unfold cntSelect
  omega

/-- The call marks the row: blocks that F holds turn alone. -/
def MarkedSelect (w : World) (F : Nat → Prop) (e : TypeId) (A : Option Addr) (n c : Nat) (k : Int) (xs : List DSelect) (en : Ending) (w' : World) : Prop :=
  en = .returned (.int .i64 (k + (xs.map cntSelect).sum)) ∧ OwnR laySelect e w' F A n c (marksSelect k xs) ∧ TurnedF F w w'

/-- How many marks it takes where it stands by itself: its slices alone; and what it is then. -/
def vcntSelect (x : DSelect) : Int := 5 * (x.fCases.length : Int)
def mkvSelect (k : Int) (x : DSelect) : DSelect := ⟨marksCase k x.fCases.length, x.fElse⟩

theorem marksSelect_get {x : DSelect} : ∀ {xs : List DSelect} {k : Int} {j : Nat}, xs[j]? = some x → (marksSelect k xs)[j]? = some (mkSelect (k + ((xs.take j).map cntSelect).sum) x)
  | [], _, _, h => by simp at h
  | y :: xs, k, 0, h => by
    simp at h
    subst h
    simp [marksSelect]
  | y :: xs, k, j + 1, h => by
    have := marksSelect_get (xs := xs) (k := k + cntSelect y) (j := j) (by simpa using h)
    simp only [marksSelect, List.getElem?_cons_succ, this, List.take_succ_cons, List.map_cons, List.sum_cons, Int.add_assoc]

end Go.Proofs.YtapbjnfopniicaaDoor

namespace Go.Proofs.YtapbjnfopniicaaDoor
set_option linter.unusedSimpArgs false
set_option linter.unusedVariables false
open Go.RowKit

/-- The mark of z. -/
def mkInstr (z : Int) : DInstr := ⟨z, (z + 1), (z + 1 + 1), (z + 1 + 1 + 1)⟩
def marksInstr (k : Int) (n : Nat) : List DInstr := (List.range n).map fun (i : Nat) => mkInstr (k + 4 * (i : Int))
theorem marksInstr_length (k : Int) (n : Nat) : (marksInstr k n).length = n := by simp [marksInstr]
theorem marksInstr_step {xs : List DInstr} {k : Int} {n j : Nat} (hl : xs.length = n) (hj : j < n) :
    (marksInstr k j ++ xs.drop j).set j (mkInstr (k + 4 * (j : Int))) = marksInstr k (j + 1) ++ xs.drop (j + 1) := by
  apply List.ext_getElem?
  intro i
  simp only [marksInstr, List.getElem?_set, List.getElem?_map, List.getElem?_append, List.length_map, List.length_append, List.length_range, List.length_drop, List.getElem?_drop]
  rcases Nat.lt_trichotomy i j with h | h | h
  · simp [show ¬ j = i from by omega, h, show i < j + 1 from by omega]
  · subst h
    simp [show i < i + (xs.length - i) from by omega]
  · simp [show ¬ j = i from by omega, show ¬ i < j from by omega, show ¬ i < j + 1 from by omega, show j + (i - j) = i from by omega, show j + 1 + (i - (j + 1)) = i from by omega]

/-- The call marks the row: blocks that F holds turn alone. -/
def MarkedInstr (w : World) (F : Nat → Prop) (e : TypeId) (A : Option Addr) (n c : Nat) (k : Int) (en : Ending) (w' : World) : Prop :=
  en = .returned (.int .i64 (k + 4 * (n : Int))) ∧ OwnR layInstr e w' F A n c (marksInstr k n) ∧ TurnedF F w w'

end Go.Proofs.YtapbjnfopniicaaDoor

namespace Go.Proofs.YtapbjnfopniicaaDoor
set_option linter.unusedSimpArgs false
set_option linter.unusedVariables false
open Go.RowKit

theorem unownProc {w : World} {F : Nat → Prop} {x : DProc} {vs : List Value} (h : layProc.own w F x vs) : ∃ (A0 : Option Addr) (n0 c0 : Nat) (F0 : Nat → Prop), vs = [.slice A0 n0 c0] ∧ (OwnR layInstr 68 w F0 A0 n0 c0 x.fCode ∧ ∀ g, F0 g → F g) := by
  have s0 := h
  obtain ⟨A0, n0, c0, rfl, h0⟩ := s0
  exact ⟨A0, n0, c0, F, rfl, ⟨h0, (fun g h => h)⟩⟩

/-- How many marks it takes; what it is, marked from z on. -/
def cntProc (x : DProc) : Int := (4 * (x.fCode.length : Int))
def mkProc (z : Int) (x : DProc) : DProc := ⟨marksInstr z x.fCode.length⟩
def marksProc : Int → List DProc → List DProc
  | _, [] => []
  | z, x :: r => mkProc z x :: marksProc (z + cntProc x) r
theorem marksProc_length (l : List DProc) : ∀ z, (marksProc z l).length = l.length := by
  induction l with
  | nil => intro z; rfl
  | cons x l ih => intro z; simp [marksProc, ih]
theorem marksProc_snoc (l : List DProc) (x : DProc) : ∀ z, marksProc z (l ++ [x]) = marksProc z l ++ [mkProc (z + (l.map cntProc).sum) x] := by
  induction l with
  | nil => intro z; simp [marksProc]
  | cons y l ih => intro z; simp [marksProc, ih, Int.add_assoc]
theorem marksProc_step {xs : List DProc} {k : Int} {j : Nat} {x : DProc} (hx : xs[j]? = some x) :
    (marksProc k (xs.take j) ++ xs.drop j).set j (mkProc (k + ((xs.take j).map cntProc).sum) x) = marksProc k (xs.take (j + 1)) ++ xs.drop (j + 1) := by
  obtain ⟨hj, rfl⟩ := List.getElem?_eq_some_iff.1 hx
  have hl : (marksProc k (xs.take j)).length = j := by rw [marksProc_length, List.length_take]; omega
  rw [List.take_succ_eq_append_getElem hj, marksProc_snoc, List.drop_eq_getElem_cons hj, List.set_append, if_neg (by omega), hl, Nat.sub_self, List.set_cons_zero, List.append_assoc]
  rfl

theorem cntProc_pos (x : DProc) : 0 ≤ cntProc x := by
  unfold cntProc
  omega

/-- The call marks the row: blocks that F holds turn alone. -/
def MarkedProc (w : World) (F : Nat → Prop) (e : TypeId) (A : Option Addr) (n c : Nat) (k : Int) (xs : List DProc) (en : Ending) (w' : World) : Prop :=
  en = .returned (.int .i64 (k + (xs.map cntProc).sum)) ∧ OwnR layProc e w' F A n c (marksProc k xs) ∧ TurnedF F w w'

/-- How many marks it takes where it stands by itself: its slices alone; and what it is then. -/
def vcntProc (x : DProc) : Int := 4 * (x.fCode.length : Int)
def mkvProc (k : Int) (x : DProc) : DProc := ⟨marksInstr k x.fCode.length⟩

theorem marksProc_get {x : DProc} : ∀ {xs : List DProc} {k : Int} {j : Nat}, xs[j]? = some x → (marksProc k xs)[j]? = some (mkProc (k + ((xs.take j).map cntProc).sum) x)
  | [], _, _, h => by simp at h
  | y :: xs, k, 0, h => by
    simp at h
    subst h
    simp [marksProc]
  | y :: xs, k, j + 1, h => by
    have := marksProc_get (xs := xs) (k := k + cntProc y) (j := j) (by simpa using h)
    simp only [marksProc, List.getElem?_cons_succ, this, List.take_succ_cons, List.map_cons, List.sum_cons, Int.add_assoc]

end Go.Proofs.YtapbjnfopniicaaDoor

namespace Go.Proofs.YtapbjnfopniicaaDoor
set_option linter.unusedSimpArgs false
set_option linter.unusedVariables false
open Go.RowKit

theorem unownProg {w : World} {F : Nat → Prop} {x : DProg} {vs : List Value} (h : layProg.own w F x vs) : ∃ (A0 : Option Addr) (n0 c0 : Nat) (F0 : Nat → Prop) (A2 : Option Addr) (n2 c2 : Nat) (F2 : Nat → Prop) (A3 : Option Addr) (n3 c3 : Nat) (F3 : Nat → Prop), vs = [.slice A0 n0 c0, .int .i64 x.fMus, .slice A2 n2 c2, .slice A3 n3 c3] ∧ (OwnR Lay.int 3 w F0 A0 n0 c0 x.fCaps ∧ ∀ g, F0 g → F g) ∧ (Lit.int .i64 x.fMus).wf = true ∧ (OwnR laySelect 72 w F2 A2 n2 c2 x.fSels ∧ ∀ g, F2 g → F g) ∧ (OwnR layProc 76 w F3 A3 n3 c3 x.fProcs ∧ ∀ g, F3 g → F g) ∧ (∀ g, F0 g → ¬ F2 g) ∧ (∀ g, F0 g → ¬ F3 g) ∧ (∀ g, F2 g → ¬ F3 g) := by
  obtain ⟨_, _, F0, R1, rfl, s0, ⟨_, _, F1, R2, rfl, s1, ⟨_, _, F2, R3, rfl, s2, s3, k2, r2, d2⟩, k1, r1, d1⟩, k0, r0, d0⟩ := h
  obtain ⟨A0, n0, c0, rfl, h0⟩ := s0
  obtain ⟨rfl, h1⟩ := s1
  obtain ⟨A2, n2, c2, rfl, h2⟩ := s2
  obtain ⟨A3, n3, c3, rfl, h3⟩ := s3
  exact ⟨A0, n0, c0, F0, A2, n2, c2, F2, A3, n3, c3, R3, rfl, ⟨h0, (fun g h => k0 g h)⟩, h1, ⟨h2, (fun g h => r0 g (r1 g (k2 g h)))⟩, ⟨h3, (fun g h => r0 g (r1 g (r2 g h)))⟩, (fun g hi hj => d0 g hi ((fun g h => r1 g (k2 g h)) g hj)), (fun g hi hj => d0 g hi ((fun g h => r1 g (r2 g h)) g hj)), (fun g hi hj => d2 g hi ((fun g h => h) g hj))⟩

/-- How many marks it takes; what it is, marked from z on. -/
def cntProg (x : DProg) : Int := ((x.fCaps.length : Int)) + 1 + (x.fSels.map cntSelect).sum + (x.fProcs.map cntProc).sum
def mkProg (z : Int) (x : DProg) : DProg := ⟨marksInt z x.fCaps.length, z + ((x.fCaps.length : Int)), marksSelect (z + ((x.fCaps.length : Int)) + 1) x.fSels, marksProc (z + ((x.fCaps.length : Int)) + 1 + (x.fSels.map cntSelect).sum) x.fProcs⟩
def marksProg : Int → List DProg → List DProg
  | _, [] => []
  | z, x :: r => mkProg z x :: marksProg (z + cntProg x) r
theorem marksProg_length (l : List DProg) : ∀ z, (marksProg z l).length = l.length := by
  induction l with
  | nil => intro z; rfl
  | cons x l ih => intro z; simp [marksProg, ih]
theorem marksProg_snoc (l : List DProg) (x : DProg) : ∀ z, marksProg z (l ++ [x]) = marksProg z l ++ [mkProg (z + (l.map cntProg).sum) x] := by
  induction l with
  | nil => intro z; simp [marksProg]
  | cons y l ih => intro z; simp [marksProg, ih, Int.add_assoc]
theorem marksProg_step {xs : List DProg} {k : Int} {j : Nat} {x : DProg} (hx : xs[j]? = some x) :
    (marksProg k (xs.take j) ++ xs.drop j).set j (mkProg (k + ((xs.take j).map cntProg).sum) x) = marksProg k (xs.take (j + 1)) ++ xs.drop (j + 1) := by
  obtain ⟨hj, rfl⟩ := List.getElem?_eq_some_iff.1 hx
  have hl : (marksProg k (xs.take j)).length = j := by rw [marksProg_length, List.length_take]; omega
  rw [List.take_succ_eq_append_getElem hj, marksProg_snoc, List.drop_eq_getElem_cons hj, List.set_append, if_neg (by omega), hl, Nat.sub_self, List.set_cons_zero, List.append_assoc]
  rfl

theorem cntProg_pos (x : DProg) : 0 ≤ cntProg x := by
  unfold cntProg
  have hq2 := sum_pos cntSelect_pos x.fSels
  have hq3 := sum_pos cntProc_pos x.fProcs
  omega

/-- The call marks the row: blocks that F holds turn alone. -/
def MarkedProg (w : World) (F : Nat → Prop) (e : TypeId) (A : Option Addr) (n c : Nat) (k : Int) (xs : List DProg) (en : Ending) (w' : World) : Prop :=
  en = .returned (.int .i64 (k + (xs.map cntProg).sum)) ∧ OwnR layProg e w' F A n c (marksProg k xs) ∧ TurnedF F w w'

/-- How many marks it takes where it stands by itself: its slices alone; and what it is then. -/
def vcntProg (x : DProg) : Int := (x.fCaps.length : Int) + (x.fSels.map cntSelect).sum + (x.fProcs.map cntProc).sum
def mkvProg (k : Int) (x : DProg) : DProg := ⟨marksInt k x.fCaps.length, x.fMus, marksSelect (k + (x.fCaps.length : Int)) x.fSels, marksProc (k + (x.fCaps.length : Int) + (x.fSels.map cntSelect).sum) x.fProcs⟩

theorem marksProg_get {x : DProg} : ∀ {xs : List DProg} {k : Int} {j : Nat}, xs[j]? = some x → (marksProg k xs)[j]? = some (mkProg (k + ((xs.take j).map cntProg).sum) x)
  | [], _, _, h => by simp at h
  | y :: xs, k, 0, h => by
    simp at h
    subst h
    simp [marksProg]
  | y :: xs, k, j + 1, h => by
    have := marksProg_get (xs := xs) (k := k + cntProg y) (j := j) (by simpa using h)
    simp only [marksProg, List.getElem?_cons_succ, this, List.take_succ_cons, List.map_cons, List.sum_cons, Int.add_assoc]

end Go.Proofs.YtapbjnfopniicaaDoor
