
/- Marks of rows of Proc: the contracts of markS and heldS. Laid by wip/tools/gen.py. -/

import Derived.Test.YtikcoplihfoiiaaDoorDProc

import Derived.Test.YtikcoplihfoiiaaDoorOpenRow

import Derived.Test.YtikcoplihfoiiaaDoorMInstr

namespace Go.Proofs.YtikcoplihfoiiaaDoor
set_option linter.unusedSimpArgs false
set_option linter.unusedVariables false
open Go.RowKit

theorem unownProc {w : World} {F : Nat → Prop} {x : DProc} {vs : List Value} (h : layProc.own w F x vs) : ∃ (A0 : Option Addr) (n0 c0 : Nat) (F0 : Nat → Prop), vs = [.slice A0 n0 c0] ∧ (OwnR layInstr 61 w F0 A0 n0 c0 x.fCode ∧ ∀ g, F0 g → F g) := by
  have s0 := h
  obtain ⟨A0, n0, c0, rfl, h0⟩ := s0
  exact ⟨A0, n0, c0, F, rfl, ⟨h0, (fun g h => h)⟩⟩

/-- How many marks it takes; what it is, marked from z on. -/
def cntProc (x : DProc) : Int := (4 * (x.fCode.length : Int))
def mkProc (z : Int) (x : DProc) : DProc := ⟨marksInstr z x.fCode.length⟩
def marksProc : Int → List DProc → List DProc
  | _, [] => []
  | z, x :: r => mkProc z x :: marksProc (z + cntProc x) r
theorem marksProc_length (l : List DProc) : ∀ z, (marksProc z l).length = l.length := by
  induction l with
  | nil => intro z; rfl
  | cons x l ih => intro z; simp [marksProc, ih]
theorem marksProc_snoc (l : List DProc) (x : DProc) : ∀ z, marksProc z (l ++ [x]) = marksProc z l ++ [mkProc (z + (l.map cntProc).sum) x] := by
  induction l with
  | nil => intro z; simp [marksProc]
  | cons y l ih => intro z; simp [marksProc, ih, Int.add_assoc]
theorem marksProc_step {xs : List DProc} {k : Int} {j : Nat} {x : DProc} (hx : xs[j]? = some x) :
    (marksProc k (xs.take j) ++ xs.drop j).set j (mkProc (k + ((xs.take j).map cntProc).sum) x) = marksProc k (xs.take (j + 1)) ++ xs.drop (j + 1) := by
  obtain ⟨hj, rfl⟩ := List.getElem?_eq_some_iff.1 hx
  have hl : (marksProc k (xs.take j)).length = j := by rw [marksProc_length, List.length_take]; omega
  rw [List.take_succ_eq_append_getElem hj, marksProc_snoc, List.drop_eq_getElem_cons hj, List.set_append, if_neg (by omega), hl, Nat.sub_self, List.set_cons_zero, List.append_assoc]
  rfl

theorem cntProc_pos (x : DProc) : 0 ≤ cntProc x := by
  unfold cntProc
  omega

/-- The call marks the row: blocks that F holds turn alone. -/
def MarkedProc (w : World) (F : Nat → Prop) (e : TypeId) (A : Option Addr) (n c : Nat) (k : Int) (xs : List DProc) (en : Ending) (w' : World) : Prop :=
  en = .returned (.int .i64 (k + (xs.map cntProc).sum)) ∧ OwnR layProc e w' F A n c (marksProc k xs) ∧ TurnedF F w w'

set_option maxRecDepth 100000 in
set_option maxHeartbeats 2000000 in
theorem markProcS_any {w : World} {F : Nat → Prop} {e : TypeId} {A : Option Addr} {n c : Nat} {k : Int} {xs : List DProc} (h : OwnR layProc e w F A n c xs) (hn : n ≤ 1048576) (hs : ∀ x ∈ xs, szProc x ≤ 1048576) (hk0 : 0 ≤ k) (hk : k + (xs.map cntProc).sum ≤ 16777216) :
    Calls Tryd.prog 36 #[.slice A n c, .int .i64 k] w (MarkedProc w F e A n c k xs) := by
  have HL := Lib.hid h.1
  have HK := Lib.hid hk
  clear hk
  go_enter Tryd.func36, Tryd.ntmps36
  go_wp2_with fail
  go_loopw [1, 5] (fun q i wr => ∃ (j : Nat) (z : Int), j ≤ n ∧ i = .int .i64 j ∧ q = .int .i64 z ∧ Hid (z = k + ((xs.take j).map cntProc).sum) ∧ OwnR layProc e wr F A n c (marksProc k (xs.take j) ++ xs.drop j) ∧ TurnedF F w wr) (fun _ i _ => n - (intOf i).toNat)
  case atStart => exact ⟨0, k, Nat.zero_le _, rfl, rfl, Lib.hid (by simp), by simpa [marksProc] using h, TurnedF.refl _ _⟩
  case round =>
    obtain ⟨j, z, hj, rfl, rfl, HZ, hown, ht⟩ := hrel
    by_cases hlt : j < n
    · obtain ⟨hx, g, G, us, rfl, hgs, hrow, hel⟩ := hown.open_ hlt
      have hxj : j < xs.length := by rw [HL.out]; exact hlt
      have he : (marksProc k (xs.take j) ++ xs.drop j)[j] = xs[j] := by
        have hm : (marksProc k (xs.take j)).length = j := by rw [marksProc_length, List.length_take]; omega
        rw [List.getElem_append_right (by omega)]
        simp [hm]
      rw [he] at hel
      clear he hown hx
      have hdk := Lib.hid (List.getElem?_eq_getElem hxj)
      have hsx := hs _ (List.getElem_mem hxj)
      have hz0 : 0 ≤ z := by have := sum_pos cntProc_pos (xs.take j); have := HZ.out; omega
      have hcx : z + cntProc xs[j] ≤ 16777216 := by
        have h1 := sum_upto cntProc_pos hdk.out
        have := HZ.out
        have := HK.out
        omega
      have HST := Lib.hid (marksProc_step (k := k) hdk.out)
      have HZN := Lib.hid (sum_next cntProc hdk.out)
      rw [← HZ.out] at HST
      generalize xs[j] = x at *
      clear hxj
      obtain ⟨A0, n0, c0, F0, rfl, ⟨o0, k0⟩⟩ := unownProc hel
      have l0 := o0.1
      subst l0
      have hg0 : ¬ F0 g := fun h => hrow.not (k0 g h)
      unfold szProc at hsx
      unfold cntProc at hcx
      have cc0 : wr.cell? ⟨g, j * 1 + 0, none⟩ = some (.slice A0 x.fCode.length c0) := hrow.cell (j := 0) rfl (by decide)
      have ff := hrow.free
      simp only [Nat.add_zero, Nat.mul_one] at cc0
      go_wp2_with fail
      refine (markInstrS_any (F := F0) (by exact o0) (by omega) (by omega) (by omega)).mono ?_
      rintro e w1 ⟨rfl, q0, t0⟩
      have ht1 := ht.trans (t0.wide fun b hb => hrow.inF b (k0 b hb))
      have hrow1 := OpenRow.turned hrow t0 k0
      clear hrow ht t0 cc0 ff
      have hrow := hrow1
      clear hrow1
      have ht := ht1
      clear ht1
      clear o0
      have o0 := q0
      clear q0
      have cc0 : w1.cell? ⟨g, j * 1 + 0, none⟩ = some (.slice A0 x.fCode.length c0) := hrow.cell (j := 0) rfl (by decide)
      have ff := hrow.free
      simp only [Nat.add_zero, Nat.mul_one] at cc0
      go_wp2_with fail
      go_roundw
      case rel =>
        have hshut := OpenRow.shut hrow (x' := mkProc z x) (ownProc o0 k0)
        rw [HST.out] at hshut
        exact ⟨j + 1, z + 4 * (x.fCode.length : Int), by omega, by go_num, by go_num, Lib.hid (by rw [HZN.out]; have h1 := HZ.out; have h2 : cntProc x = 4 * (x.fCode.length : Int) := rfl; omega), hshut, ht⟩
      case measure => simp [intOf]; omega
    · go_wp2_with fail
      go_ret
      obtain rfl : j = n := by omega
      have e1 : xs.take j = xs := List.take_of_length_le (by rw [HL.out]; exact Nat.le_refl _)
      have hz := HZ.out
      rw [e1] at hown hz
      rw [List.drop_of_length_le (by rw [HL.out]; exact Nat.le_refl _), List.append_nil] at hown
      exact ⟨by rw [← hz]; rfl, hown, ht⟩

/-- How many marks it takes where it stands by itself: its slices alone. -/
def vcntProc (x : DProc) : Int := 4 * (x.fCode.length : Int)

end Go.Proofs.YtikcoplihfoiiaaDoor
