
/- Marks of rows of Select: the contracts of markS and heldS. Laid by wip/tools/gen.py. -/

import Derived.Test.YtikcoplihfoiiaaDoorDSelect

import Derived.Test.YtikcoplihfoiiaaDoorOpenRow

import Derived.Test.YtikcoplihfoiiaaDoorMCase

namespace Go.Proofs.YtikcoplihfoiiaaDoor
set_option linter.unusedSimpArgs false
set_option linter.unusedVariables false
open Go.RowKit

theorem unownSelect {w : World} {F : Nat → Prop} {x : DSelect} {vs : List Value} (h : laySelect.own w F x vs) : ∃ (A0 : Option Addr) (n0 c0 : Nat) (F0 : Nat → Prop), vs = [.slice A0 n0 c0, .int .i64 x.fElse] ∧ (OwnR layCase 58 w F0 A0 n0 c0 x.fCases ∧ ∀ g, F0 g → F g) ∧ (Lit.int .i64 x.fElse).wf = true := by
  obtain ⟨_, _, F0, R1, rfl, s0, s1, k0, r0, d0⟩ := h
  obtain ⟨A0, n0, c0, rfl, h0⟩ := s0
  obtain ⟨rfl, h1⟩ := s1
  exact ⟨A0, n0, c0, F0, rfl, ⟨h0, (fun g h => k0 g h)⟩, h1⟩

/-- How many marks it takes; what it is, marked from z on. -/
def cntSelect (x : DSelect) : Int := (5 * (x.fCases.length : Int)) + 1
def mkSelect (z : Int) (x : DSelect) : DSelect := ⟨marksCase z x.fCases.length, z + (5 * (x.fCases.length : Int))⟩
def marksSelect : Int → List DSelect → List DSelect
  | _, [] => []
  | z, x :: r => mkSelect z x :: marksSelect (z + cntSelect x) r
theorem marksSelect_length (l : List DSelect) : ∀ z, (marksSelect z l).length = l.length := by
  induction l with
  | nil => intro z; rfl
  | cons x l ih => intro z; simp [marksSelect, ih]
theorem marksSelect_snoc (l : List DSelect) (x : DSelect) : ∀ z, marksSelect z (l ++ [x]) = marksSelect z l ++ [mkSelect (z + (l.map cntSelect).sum) x] := by
  induction l with
  | nil => intro z; simp [marksSelect]
  | cons y l ih => intro z; simp [marksSelect, ih, Int.add_assoc]
theorem marksSelect_step {xs : List DSelect} {k : Int} {j : Nat} {x : DSelect} (hx : xs[j]? = some x) :
    (marksSelect k (xs.take j) ++ xs.drop j).set j (mkSelect (k + ((xs.take j).map cntSelect).sum) x) = marksSelect k (xs.take (j + 1)) ++ xs.drop (j + 1) := by
  obtain ⟨hj, rfl⟩ := List.getElem?_eq_some_iff.1 hx
  have hl : (marksSelect k (xs.take j)).length = j := by rw [marksSelect_length, List.length_take]; omega
  rw [List.take_succ_eq_append_getElem hj, marksSelect_snoc, List.drop_eq_getElem_cons hj, List.set_append, if_neg (by omega), hl, Nat.sub_self, List.set_cons_zero, List.append_assoc]
  rfl

theorem cntSelect_pos (x : DSelect) : 0 ≤ cntSelect x := by
  unfold cntSelect
  omega

/-- The call marks the row: blocks that F holds turn alone. -/
def MarkedSelect (w : World) (F : Nat → Prop) (e : TypeId) (A : Option Addr) (n c : Nat) (k : Int) (xs : List DSelect) (en : Ending) (w' : World) : Prop :=
  en = .returned (.int .i64 (k + (xs.map cntSelect).sum)) ∧ OwnR laySelect e w' F A n c (marksSelect k xs) ∧ TurnedF F w w'

set_option maxRecDepth 100000 in
set_option maxHeartbeats 2000000 in
theorem markSelectS_any {w : World} {F : Nat → Prop} {e : TypeId} {A : Option Addr} {n c : Nat} {k : Int} {xs : List DSelect} (h : OwnR laySelect e w F A n c xs) (hn : n ≤ 1048576) (hs : ∀ x ∈ xs, szSelect x ≤ 1048576) (hk0 : 0 ≤ k) (hk : k + (xs.map cntSelect).sum ≤ 16777216) :
    Calls Tryd.prog 35 #[.slice A n c, .int .i64 k] w (MarkedSelect w F e A n c k xs) := by
  have HL := Lib.hid h.1
  have HK := Lib.hid hk
  clear hk
  go_enter Tryd.func35, Tryd.ntmps35
  go_wp2_with fail
  go_loopw [1, 5] (fun q i wr => ∃ (j : Nat) (z : Int), j ≤ n ∧ i = .int .i64 j ∧ q = .int .i64 z ∧ Hid (z = k + ((xs.take j).map cntSelect).sum) ∧ OwnR laySelect e wr F A n c (marksSelect k (xs.take j) ++ xs.drop j) ∧ TurnedF F w wr) (fun _ i _ => n - (intOf i).toNat)
  case atStart => exact ⟨0, k, Nat.zero_le _, rfl, rfl, Lib.hid (by simp), by simpa [marksSelect] using h, TurnedF.refl _ _⟩
  case round =>
    obtain ⟨j, z, hj, rfl, rfl, HZ, hown, ht⟩ := hrel
    by_cases hlt : j < n
    · obtain ⟨hx, g, G, us, rfl, hgs, hrow, hel⟩ := hown.open_ hlt
      have hxj : j < xs.length := by rw [HL.out]; exact hlt
      have he : (marksSelect k (xs.take j) ++ xs.drop j)[j] = xs[j] := by
        have hm : (marksSelect k (xs.take j)).length = j := by rw [marksSelect_length, List.length_take]; omega
        rw [List.getElem_append_right (by omega)]
        simp [hm]
      rw [he] at hel
      clear he hown hx
      have hdk := Lib.hid (List.getElem?_eq_getElem hxj)
      have hsx := hs _ (List.getElem_mem hxj)
      have hz0 : 0 ≤ z := by have := sum_pos cntSelect_pos (xs.take j); have := HZ.out; omega
      have hcx : z + cntSelect xs[j] ≤ 16777216 := by
        have h1 := sum_upto cntSelect_pos hdk.out
        have := HZ.out
        have := HK.out
        omega
      have HST := Lib.hid (marksSelect_step (k := k) hdk.out)
      have HZN := Lib.hid (sum_next cntSelect hdk.out)
      rw [← HZ.out] at HST
      generalize xs[j] = x at *
      clear hxj
      obtain ⟨A0, n0, c0, F0, rfl, ⟨o0, k0⟩, hw1⟩ := unownSelect hel
      have l0 := o0.1
      subst l0
      have hg0 : ¬ F0 g := fun h => hrow.not (k0 g h)
      unfold szSelect at hsx
      unfold cntSelect at hcx
      have cc0 : wr.cell? ⟨g, j * 2 + 0, none⟩ = some (.slice A0 x.fCases.length c0) := hrow.cell (j := 0) rfl (by decide)
      have cc1 : wr.cell? ⟨g, j * 2 + 1, none⟩ = some (.int .i64 x.fElse) := hrow.cell (j := 1) rfl (by decide)
      have ff := hrow.free
      simp only [Nat.add_zero, Nat.mul_one] at cc0 cc1
      go_wp2_with fail
      refine (markCaseS_any (F := F0) (by exact o0) (by omega) (by omega) (by omega)).mono ?_
      rintro e w1 ⟨rfl, q0, t0⟩
      have ht1 := ht.trans (t0.wide fun b hb => hrow.inF b (k0 b hb))
      have hrow1 := OpenRow.turned hrow t0 k0
      clear hrow ht t0 cc0 cc1 ff
      have hrow := hrow1
      clear hrow1
      have ht := ht1
      clear ht1
      clear o0
      have o0 := q0
      clear q0
      have cc0 : w1.cell? ⟨g, j * 2 + 0, none⟩ = some (.slice A0 x.fCases.length c0) := hrow.cell (j := 0) rfl (by decide)
      have cc1 : w1.cell? ⟨g, j * 2 + 1, none⟩ = some (.int .i64 x.fElse) := hrow.cell (j := 1) rfl (by decide)
      have ff := hrow.free
      simp only [Nat.add_zero, Nat.mul_one] at cc0 cc1
      go_wp2_with fail
      go_roundw
      case rel =>
        have hshut := OpenRow.shut (hrow.set_ (o := 1) (by decide) (.int .i64 (z + 5 * (x.fCases.length : Int)))) (x' := mkSelect z x) (ownSelect (OwnR.setCell (o := j * 2 + 1) o0 hg0 (.int .i64 (z + 5 * (x.fCases.length : Int)))) (wf_mark (z := z + 5 * (x.fCases.length : Int)) (by omega) (by omega)) k0)
        rw [HST.out] at hshut
        exact ⟨j + 1, z + 5 * (x.fCases.length : Int) + 1, by omega, by go_num, by go_num, Lib.hid (by rw [HZN.out]; have h1 := HZ.out; have h2 : cntSelect x = 5 * (x.fCases.length : Int) + 1 := rfl; omega), hshut, (ht.setCell (p := ⟨g, j * 2 + 1, none⟩) hrow.here (.int .i64 (z + 5 * (x.fCases.length : Int))))⟩
      case measure => simp [intOf]; omega
    · go_wp2_with fail
      go_ret
      obtain rfl : j = n := by omega
      have e1 : xs.take j = xs := List.take_of_length_le (by rw [HL.out]; exact Nat.le_refl _)
      have hz := HZ.out
      rw [e1] at hown hz
      rw [List.drop_of_length_le (by rw [HL.out]; exact Nat.le_refl _), List.append_nil] at hown
      exact ⟨by rw [← hz]; rfl, hown, ht⟩

/-- How many marks it takes where it stands by itself: its slices alone. -/
def vcntSelect (x : DSelect) : Int := 5 * (x.fCases.length : Int)

end Go.Proofs.YtikcoplihfoiiaaDoor
