
/- Marks of rows of Gor: the contracts of markS and heldS. Laid by wip/tools/gen.py. -/

import Derived.Test.YtgfkadhojlddpaaDGor

import Derived.Test.YtgfkadhojlddpaaBase

import Derived.Test.YtgfkadhojlddpaaTail

import Derived.Test.YtgfkadhojlddpaaMInt

import Derived.Test.YtgfkadhojlddpaaMItem

namespace Go.Proofs.Ytgfkadhojlddpaa
set_option linter.unusedSimpArgs false
set_option linter.unusedVariables false
open Go.RowKit

theorem unownGor {w : World} {F : Nat → Prop} {x : DGor} {vs : List Value} (h : layGor.own w F x vs) : ∃ (A2 : Option Addr) (n2 c2 : Nat) (F2 : Nat → Prop) (A4 : Option Addr) (n4 c4 : Nat) (F4 : Nat → Prop), vs = [.int .i64 x.fProc, .int .i64 x.fPc, .slice A2 n2 c2, .int .i64 x.fState, .slice A4 n4 c4] ∧ (Lit.int .i64 x.fProc).wf = true ∧ (Lit.int .i64 x.fPc).wf = true ∧ (TailR Lay.int 3 w F2 A2 n2 c2 x.fRegs ∧ ∀ g, F2 g → F g) ∧ (Lit.int .i64 x.fState).wf = true ∧ (TailR layItem 88 w F4 A4 n4 c4 x.fTrace ∧ ∀ g, F4 g → F g) ∧ (∀ g, F2 g → ¬ F4 g) := by
  obtain ⟨_, _, F0, R1, rfl, s0, ⟨_, _, F1, R2, rfl, s1, ⟨_, _, F2, R3, rfl, s2, ⟨_, _, F3, R4, rfl, s3, s4, k3, r3, d3⟩, k2, r2, d2⟩, k1, r1, d1⟩, k0, r0, d0⟩ := h
  obtain ⟨rfl, h0⟩ := s0
  obtain ⟨rfl, h1⟩ := s1
  obtain ⟨A2, n2, c2, rfl, h2⟩ := s2
  obtain ⟨rfl, h3⟩ := s3
  obtain ⟨A4, n4, c4, rfl, h4⟩ := s4
  exact ⟨A2, n2, c2, F2, A4, n4, c4, R4, rfl, h0, h1, ⟨h2, (fun g h => r0 g (r1 g (k2 g h)))⟩, h3, ⟨h4, (fun g h => r0 g (r1 g (r2 g (r3 g h))))⟩, (fun g hi hj => d2 g hi ((fun g h => r3 g h) g hj))⟩

/-- How many marks it takes; what it is, marked from z on. -/
def cntGor (x : DGor) : Int := 1 + 1 + ((x.fRegs.length : Int)) + 1 + (4 * (x.fTrace.length : Int))
def mkGor (z : Int) (x : DGor) : DGor := ⟨z, z + 1, marksInt (z + 1 + 1) x.fRegs.length, z + 1 + 1 + ((x.fRegs.length : Int)), marksItem (z + 1 + 1 + ((x.fRegs.length : Int)) + 1) x.fTrace.length⟩
def marksGor : Int → List DGor → List DGor
  | _, [] => []
  | z, x :: r => mkGor z x :: marksGor (z + cntGor x) r
theorem marksGor_length (l : List DGor) : ∀ z, (marksGor z l).length = l.length := by
  induction l with
  | nil => intro z; rfl
  | cons x l ih => intro z; simp [marksGor, ih]
theorem marksGor_snoc (l : List DGor) (x : DGor) : ∀ z, marksGor z (l ++ [x]) = marksGor z l ++ [mkGor (z + (l.map cntGor).sum) x] := by
  induction l with
  | nil => intro z; simp [marksGor]
  | cons y l ih => intro z; simp [marksGor, ih, Int.add_assoc]
theorem marksGor_step {xs : List DGor} {k : Int} {j : Nat} {x : DGor} (hx : xs[j]? = some x) :
    (marksGor k (xs.take j) ++ xs.drop j).set j (mkGor (k + ((xs.take j).map cntGor).sum) x) = marksGor k (xs.take (j + 1)) ++ xs.drop (j + 1) := by
  obtain ⟨hj, rfl⟩ := List.getElem?_eq_some_iff.1 hx
  have hl : (marksGor k (xs.take j)).length = j := by rw [marksGor_length, List.length_take]; omega
  rw [List.take_succ_eq_append_getElem hj, marksGor_snoc, List.drop_eq_getElem_cons hj, List.set_append, if_neg (by omega), hl, Nat.sub_self, List.set_cons_zero, List.append_assoc]
  rfl

theorem cntGor_pos (x : DGor) : 0 ≤ cntGor x := by
  unfold cntGor
  omega

/-- The call marks the row: blocks that F holds turn alone. -/
def MarkedGor (w : World) (F : Nat → Prop) (e : TypeId) (A : Option Addr) (n c : Nat) (k : Int) (xs : List DGor) (en : Ending) (w' : World) : Prop :=
  en = .returned (.int .i64 (k + (xs.map cntGor).sum)) ∧ OwnR layGor e w' F A n c (marksGor k xs) ∧ TurnedF F w w'

set_option maxRecDepth 100000 in
set_option maxHeartbeats 2000000 in
theorem markGorS_any {w : World} {F : Nat → Prop} {e : TypeId} {A : Option Addr} {n c : Nat} {k : Int} {xs : List DGor} (h : OwnR layGor e w F A n c xs) (hn : n ≤ 1048580) (hs : ∀ x ∈ xs, szGor x ≤ 1048580) (hk0 : 0 ≤ k) (hk : k + (xs.map cntGor).sum ≤ 16777216) :
    Calls Try.prog 27 #[.slice A n c, .int .i64 k] w (MarkedGor w F e A n c k xs) := by
  have HL := Lib.hid h.1
  have HK := Lib.hid hk
  clear hk
  go_enter Try.func27, Try.ntmps27
  go_wp2_with fail
  go_loopw [1, 5] (fun q i wr => ∃ (j : Nat) (z : Int), j ≤ n ∧ i = .int .i64 j ∧ q = .int .i64 z ∧ Hid (z = k + ((xs.take j).map cntGor).sum) ∧ OwnR layGor e wr F A n c (marksGor k (xs.take j) ++ xs.drop j) ∧ TurnedF F w wr) (fun _ i _ => n - (intOf i).toNat)
  case atStart => exact ⟨0, k, Nat.zero_le _, rfl, rfl, Lib.hid (by simp), by simpa [marksGor] using h, TurnedF.refl _ _⟩
  case round =>
    obtain ⟨j, z, hj, rfl, rfl, HZ, hown, ht⟩ := hrel
    by_cases hlt : j < n
    · obtain ⟨hx, g, G, us, rfl, hgs, hrow, hel⟩ := hown.open_ hlt
      have hxj : j < xs.length := by rw [HL.out]; exact hlt
      have he : (marksGor k (xs.take j) ++ xs.drop j)[j] = xs[j] := by
        have hm : (marksGor k (xs.take j)).length = j := by rw [marksGor_length, List.length_take]; omega
        rw [List.getElem_append_right (by omega)]
        simp [hm]
      rw [he] at hel
      clear he hown hx
      have hdk := Lib.hid (List.getElem?_eq_getElem hxj)
      have hsx := hs _ (List.getElem_mem hxj)
      have hz0 : 0 ≤ z := by have := sum_pos cntGor_pos (xs.take j); have := HZ.out; omega
      have hcx : z + cntGor xs[j] ≤ 16777216 := by
        have h1 := sum_upto cntGor_pos hdk.out
        have := HZ.out
        have := HK.out
        omega
      have HST := Lib.hid (marksGor_step (k := k) hdk.out)
      have HZN := Lib.hid (sum_next cntGor hdk.out)
      rw [← HZ.out] at HST
      generalize xs[j] = x at *
      clear hxj
      obtain ⟨A2, n2, c2, F2, A4, n4, c4, F4, rfl, hw0, hw1, ⟨o2, k2⟩, hw3, ⟨o4, k4⟩, d2_4⟩ := unownGor hel
      have l2 := o2.1
      subst l2
      have hg2 : ¬ F2 g := fun h => hrow.not (k2 g h)
      have l4 := o4.1
      subst l4
      have hg4 : ¬ F4 g := fun h => hrow.not (k4 g h)
      unfold szGor at hsx
      unfold cntGor at hcx
      have cc0 : wr.cell? ⟨g, j * 5 + 0, none⟩ = some (.int .i64 x.fProc) := hrow.cell (j := 0) rfl (by decide)
      have cc1 : wr.cell? ⟨g, j * 5 + 1, none⟩ = some (.int .i64 x.fPc) := hrow.cell (j := 1) rfl (by decide)
      have cc2 : wr.cell? ⟨g, j * 5 + 2, none⟩ = some (.slice A2 x.fRegs.length c2) := hrow.cell (j := 2) rfl (by decide)
      have cc3 : wr.cell? ⟨g, j * 5 + 3, none⟩ = some (.int .i64 x.fState) := hrow.cell (j := 3) rfl (by decide)
      have cc4 : wr.cell? ⟨g, j * 5 + 4, none⟩ = some (.slice A4 x.fTrace.length c4) := hrow.cell (j := 4) rfl (by decide)
      have ff := hrow.free
      simp only [Nat.add_zero, Nat.mul_one] at cc0 cc1 cc2 cc3 cc4
      go_wp2_with fail
      refine (markIntS_tail1 (F := F2) (by exact ((o2).setCell hg2 _).setCell hg2 _) (by omega) (by omega) (by omega)).mono ?_
      rintro e w1 ⟨rfl, q2, t2⟩
      have ht1 := ((ht.setCell (p := ⟨g, j * 5 + 0, none⟩) hrow.here (.int .i64 z)).setCell (p := ⟨g, j * 5 + 1, none⟩) hrow.here (.int .i64 (z + 1))).trans (t2.wide fun b hb => hrow.inF b (k2 b hb))
      have hrow1 := OpenRow.turned ((hrow.set_ (o := 0) (by decide) (.int .i64 z)).set_ (o := 1) (by decide) (.int .i64 (z + 1))) t2 k2
      have o4_ := TailR.turnedF (TailR.setCell (o := j * 5 + 1) (TailR.setCell (o := j * 5 + 0) o4 hg4 (.int .i64 z)) hg4 (.int .i64 (z + 1))) t2 (fun b hb hb2 => d2_4 b hb2 hb)
      clear hrow ht t2 cc0 cc1 cc2 cc3 cc4 ff
      have hrow := hrow1
      clear hrow1
      have ht := ht1
      clear ht1
      clear o2
      have o2 := q2
      clear q2
      clear o4
      have o4 := o4_
      clear o4_
      have cc0 : w1.cell? ⟨g, j * 5 + 0, none⟩ = some (.int .i64 z) := hrow.cell (j := 0) rfl (by decide)
      have cc1 : w1.cell? ⟨g, j * 5 + 1, none⟩ = some (.int .i64 (z + 1)) := hrow.cell (j := 1) rfl (by decide)
      have cc2 : w1.cell? ⟨g, j * 5 + 2, none⟩ = some (.slice A2 x.fRegs.length c2) := hrow.cell (j := 2) rfl (by decide)
      have cc3 : w1.cell? ⟨g, j * 5 + 3, none⟩ = some (.int .i64 x.fState) := hrow.cell (j := 3) rfl (by decide)
      have cc4 : w1.cell? ⟨g, j * 5 + 4, none⟩ = some (.slice A4 x.fTrace.length c4) := hrow.cell (j := 4) rfl (by decide)
      have ff := hrow.free
      simp only [Nat.add_zero, Nat.mul_one] at cc0 cc1 cc2 cc3 cc4
      go_wp2_with fail
      refine (markItemS_tail (F := F4) (by exact (o4).setCell hg4 _) (by omega) (by omega) (by omega)).mono ?_
      rintro e w2 ⟨rfl, q4, t4⟩
      have ht2 := (ht.setCell (p := ⟨g, j * 5 + 3, none⟩) hrow.here (.int .i64 (z + 1 + 1 + (x.fRegs.length : Int)))).trans (t4.wide fun b hb => hrow.inF b (k4 b hb))
      have hrow2 := OpenRow.turned (hrow.set_ (o := 3) (by decide) (.int .i64 (z + 1 + 1 + (x.fRegs.length : Int)))) t4 k4
      have o2_ := TailR.turnedF (TailR.setCell (o := j * 5 + 3) o2 hg2 (.int .i64 (z + 1 + 1 + (x.fRegs.length : Int)))) t4 (fun b hb hb2 => d2_4 b hb hb2)
      clear hrow ht t4 cc0 cc1 cc2 cc3 cc4 ff
      have hrow := hrow2
      clear hrow2
      have ht := ht2
      clear ht2
      clear o4
      have o4 := q4
      clear q4
      clear o2
      have o2 := o2_
      clear o2_
      have cc0 : w2.cell? ⟨g, j * 5 + 0, none⟩ = some (.int .i64 z) := hrow.cell (j := 0) rfl (by decide)
      have cc1 : w2.cell? ⟨g, j * 5 + 1, none⟩ = some (.int .i64 (z + 1)) := hrow.cell (j := 1) rfl (by decide)
      have cc2 : w2.cell? ⟨g, j * 5 + 2, none⟩ = some (.slice A2 x.fRegs.length c2) := hrow.cell (j := 2) rfl (by decide)
      have cc3 : w2.cell? ⟨g, j * 5 + 3, none⟩ = some (.int .i64 (z + 1 + 1 + (x.fRegs.length : Int))) := hrow.cell (j := 3) rfl (by decide)
      have cc4 : w2.cell? ⟨g, j * 5 + 4, none⟩ = some (.slice A4 x.fTrace.length c4) := hrow.cell (j := 4) rfl (by decide)
      have ff := hrow.free
      simp only [Nat.add_zero, Nat.mul_one] at cc0 cc1 cc2 cc3 cc4
      go_wp2_with fail
      go_roundw
      case rel =>
        have hshut := OpenRow.shut hrow (x' := mkGor z x) (ownGor (wf_mark (z := z) (by omega) (by omega)) (wf_mark (z := z + 1) (by omega) (by omega)) o2 (wf_mark (z := z + 1 + 1 + (x.fRegs.length : Int)) (by omega) (by omega)) o4 k2 k4 d2_4)
        rw [HST.out] at hshut
        exact ⟨j + 1, z + 1 + 1 + (x.fRegs.length : Int) + 1 + 4 * (x.fTrace.length : Int), by omega, by go_num, by go_num, Lib.hid (by rw [HZN.out]; have h1 := HZ.out; have h2 : cntGor x = 1 + 1 + (x.fRegs.length : Int) + 1 + 4 * (x.fTrace.length : Int) := rfl; omega), hshut, ht⟩
      case measure => simp [intOf]; omega
    · go_wp2_with fail
      go_ret
      obtain rfl : j = n := by omega
      have e1 : xs.take j = xs := List.take_of_length_le (by rw [HL.out]; exact Nat.le_refl _)
      have hz := HZ.out
      rw [e1] at hown hz
      rw [List.drop_of_length_le (by rw [HL.out]; exact Nat.le_refl _), List.append_nil] at hown
      exact ⟨by rw [← hz]; rfl, hown, ht⟩

/-- How many marks it takes where it stands by itself: its slices alone; and what it is then. -/
def vcntGor (x : DGor) : Int := (x.fRegs.length : Int) + 4 * (x.fTrace.length : Int)
def mkvGor (k : Int) (x : DGor) : DGor := ⟨x.fProc, x.fPc, marksInt k x.fRegs.length, x.fState, marksItem (k + (x.fRegs.length : Int)) x.fTrace.length⟩

theorem marksGor_get {x : DGor} : ∀ {xs : List DGor} {k : Int} {j : Nat}, xs[j]? = some x → (marksGor k xs)[j]? = some (mkGor (k + ((xs.take j).map cntGor).sum) x)
  | [], _, _, h => by simp at h
  | y :: xs, k, 0, h => by
    simp at h
    subst h
    simp [marksGor]
  | y :: xs, k, j + 1, h => by
    have := marksGor_get (xs := xs) (k := k + cntGor y) (j := j) (by simpa using h)
    simp only [marksGor, List.getElem?_cons_succ, this, List.take_succ_cons, List.map_cons, List.sum_cons, Int.add_assoc]

end Go.Proofs.Ytgfkadhojlddpaa
