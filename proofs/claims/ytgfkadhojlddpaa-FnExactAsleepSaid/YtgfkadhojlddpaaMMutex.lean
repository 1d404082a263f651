
/- Marks of rows of Mutex: the contracts of markS and heldS. Laid by wip/tools/gen.py. -/

import Derived.Test.YtgfkadhojlddpaaDMutex

import Derived.Test.YtgfkadhojlddpaaBase

import Derived.Test.YtgfkadhojlddpaaTail

import Derived.Test.YtgfkadhojlddpaaMInt

namespace Go.Proofs.Ytgfkadhojlddpaa
set_option linter.unusedSimpArgs false
set_option linter.unusedVariables false
open Go.RowKit

theorem unownMutex {w : World} {F : Nat → Prop} {x : DMutex} {vs : List Value} (h : layMutex.own w F x vs) : ∃ (A1 : Option Addr) (n1 c1 : Nat) (F1 : Nat → Prop), vs = [.int .i64 x.fOwner, .slice A1 n1 c1] ∧ (Lit.int .i64 x.fOwner).wf = true ∧ (TailR Lay.int 3 w F1 A1 n1 c1 x.fWait ∧ ∀ g, F1 g → F g) := by
  obtain ⟨_, _, F0, R1, rfl, s0, s1, k0, r0, d0⟩ := h
  obtain ⟨rfl, h0⟩ := s0
  obtain ⟨A1, n1, c1, rfl, h1⟩ := s1
  exact ⟨A1, n1, c1, R1, rfl, h0, ⟨h1, (fun g h => r0 g h)⟩⟩

/-- How many marks it takes; what it is, marked from z on. -/
def cntMutex (x : DMutex) : Int := 1 + ((x.fWait.length : Int))
def mkMutex (z : Int) (x : DMutex) : DMutex := ⟨z, marksInt (z + 1) x.fWait.length⟩
def marksMutex : Int → List DMutex → List DMutex
  | _, [] => []
  | z, x :: r => mkMutex z x :: marksMutex (z + cntMutex x) r
theorem marksMutex_length (l : List DMutex) : ∀ z, (marksMutex z l).length = l.length := by
  induction l with
  | nil => intro z; rfl
  | cons x l ih => intro z; simp [marksMutex, ih]
theorem marksMutex_snoc (l : List DMutex) (x : DMutex) : ∀ z, marksMutex z (l ++ [x]) = marksMutex z l ++ [mkMutex (z + (l.map cntMutex).sum) x] := by
  induction l with
  | nil => intro z; simp [marksMutex]
  | cons y l ih => intro z; simp [marksMutex, ih, Int.add_assoc]
theorem marksMutex_step {xs : List DMutex} {k : Int} {j : Nat} {x : DMutex} (hx : xs[j]? = some x) :
    (marksMutex k (xs.take j) ++ xs.drop j).set j (mkMutex (k + ((xs.take j).map cntMutex).sum) x) = marksMutex k (xs.take (j + 1)) ++ xs.drop (j + 1) := by
  obtain ⟨hj, rfl⟩ := List.getElem?_eq_some_iff.1 hx
  have hl : (marksMutex k (xs.take j)).length = j := by rw [marksMutex_length, List.length_take]; omega
  rw [List.take_succ_eq_append_getElem hj, marksMutex_snoc, List.drop_eq_getElem_cons hj, List.set_append, if_neg (by omega), hl, Nat.sub_self, List.set_cons_zero, List.append_assoc]
  rfl

theorem cntMutex_pos (x : DMutex) : 0 ≤ cntMutex x := by
  unfold cntMutex
  omega

/-- The call marks the row: blocks that F holds turn alone. -/
def MarkedMutex (w : World) (F : Nat → Prop) (e : TypeId) (A : Option Addr) (n c : Nat) (k : Int) (xs : List DMutex) (en : Ending) (w' : World) : Prop :=
  en = .returned (.int .i64 (k + (xs.map cntMutex).sum)) ∧ OwnR layMutex e w' F A n c (marksMutex k xs) ∧ TurnedF F w w'

set_option maxRecDepth 100000 in
set_option maxHeartbeats 2000000 in
theorem markMutexS_any {w : World} {F : Nat → Prop} {e : TypeId} {A : Option Addr} {n c : Nat} {k : Int} {xs : List DMutex} (h : OwnR layMutex e w F A n c xs) (hn : n ≤ 1048576) (hs : ∀ x ∈ xs, szMutex x ≤ 1048576) (hk0 : 0 ≤ k) (hk : k + (xs.map cntMutex).sum ≤ 16777216) :
    Calls Try.prog 29 #[.slice A n c, .int .i64 k] w (MarkedMutex w F e A n c k xs) := by
  have HL := Lib.hid h.1
  have HK := Lib.hid hk
  clear hk
  go_enter Try.func29, Try.ntmps29
  go_wp2_with fail
  go_loopw [1, 5] (fun q i wr => ∃ (j : Nat) (z : Int), j ≤ n ∧ i = .int .i64 j ∧ q = .int .i64 z ∧ Hid (z = k + ((xs.take j).map cntMutex).sum) ∧ OwnR layMutex e wr F A n c (marksMutex k (xs.take j) ++ xs.drop j) ∧ TurnedF F w wr) (fun _ i _ => n - (intOf i).toNat)
  case atStart => exact ⟨0, k, Nat.zero_le _, rfl, rfl, Lib.hid (by simp), by simpa [marksMutex] using h, TurnedF.refl _ _⟩
  case round =>
    obtain ⟨j, z, hj, rfl, rfl, HZ, hown, ht⟩ := hrel
    by_cases hlt : j < n
    · obtain ⟨hx, g, G, us, rfl, hgs, hrow, hel⟩ := hown.open_ hlt
      have hxj : j < xs.length := by rw [HL.out]; exact hlt
      have he : (marksMutex k (xs.take j) ++ xs.drop j)[j] = xs[j] := by
        have hm : (marksMutex k (xs.take j)).length = j := by rw [marksMutex_length, List.length_take]; omega
        rw [List.getElem_append_right (by omega)]
        simp [hm]
      rw [he] at hel
      clear he hown hx
      have hdk := Lib.hid (List.getElem?_eq_getElem hxj)
      have hsx := hs _ (List.getElem_mem hxj)
      have hz0 : 0 ≤ z := by have := sum_pos cntMutex_pos (xs.take j); have := HZ.out; omega
      have hcx : z + cntMutex xs[j] ≤ 16777216 := by
        have h1 := sum_upto cntMutex_pos hdk.out
        have := HZ.out
        have := HK.out
        omega
      have HST := Lib.hid (marksMutex_step (k := k) hdk.out)
      have HZN := Lib.hid (sum_next cntMutex hdk.out)
      rw [← HZ.out] at HST
      generalize xs[j] = x at *
      clear hxj
      obtain ⟨A1, n1, c1, F1, rfl, hw0, ⟨o1, k1⟩⟩ := unownMutex hel
      have l1 := o1.1
      subst l1
      have hg1 : ¬ F1 g := fun h => hrow.not (k1 g h)
      unfold szMutex at hsx
      unfold cntMutex at hcx
      have cc0 : wr.cell? ⟨g, j * 2 + 0, none⟩ = some (.int .i64 x.fOwner) := hrow.cell (j := 0) rfl (by decide)
      have cc1 : wr.cell? ⟨g, j * 2 + 1, none⟩ = some (.slice A1 x.fWait.length c1) := hrow.cell (j := 1) rfl (by decide)
      have ff := hrow.free
      simp only [Nat.add_zero, Nat.mul_one] at cc0 cc1
      go_wp2_with fail
      refine (markIntS_tail1 (F := F1) (by exact (o1).setCell hg1 _) (by omega) (by omega) (by omega)).mono ?_
      rintro e w1 ⟨rfl, q1, t1⟩
      have ht1 := (ht.setCell (p := ⟨g, j * 2 + 0, none⟩) hrow.here (.int .i64 z)).trans (t1.wide fun b hb => hrow.inF b (k1 b hb))
      have hrow1 := OpenRow.turned (hrow.set_ (o := 0) (by decide) (.int .i64 z)) t1 k1
      clear hrow ht t1 cc0 cc1 ff
      have hrow := hrow1
      clear hrow1
      have ht := ht1
      clear ht1
      clear o1
      have o1 := q1
      clear q1
      have cc0 : w1.cell? ⟨g, j * 2 + 0, none⟩ = some (.int .i64 z) := hrow.cell (j := 0) rfl (by decide)
      have cc1 : w1.cell? ⟨g, j * 2 + 1, none⟩ = some (.slice A1 x.fWait.length c1) := hrow.cell (j := 1) rfl (by decide)
      have ff := hrow.free
      simp only [Nat.add_zero, Nat.mul_one] at cc0 cc1
      go_wp2_with fail
      go_roundw
      case rel =>
        have hshut := OpenRow.shut hrow (x' := mkMutex z x) (ownMutex (wf_mark (z := z) (by omega) (by omega)) o1 k1)
        rw [HST.out] at hshut
        exact ⟨j + 1, z + 1 + (x.fWait.length : Int), by omega, by go_num, by go_num, Lib.hid (by rw [HZN.out]; have h1 := HZ.out; have h2 : cntMutex x = 1 + (x.fWait.length : Int) := rfl; omega), hshut, ht⟩
      case measure => simp [intOf]; omega
    · go_wp2_with fail
      go_ret
      obtain rfl : j = n := by omega
      have e1 : xs.take j = xs := List.take_of_length_le (by rw [HL.out]; exact Nat.le_refl _)
      have hz := HZ.out
      rw [e1] at hown hz
      rw [List.drop_of_length_le (by rw [HL.out]; exact Nat.le_refl _), List.append_nil] at hown
      exact ⟨by rw [← hz]; rfl, hown, ht⟩

/-- How many marks it takes where it stands by itself: its slices alone; and what it is then. -/
def vcntMutex (x : DMutex) : Int := (x.fWait.length : Int)
def mkvMutex (k : Int) (x : DMutex) : DMutex := ⟨x.fOwner, marksInt k x.fWait.length⟩

theorem marksMutex_get {x : DMutex} : ∀ {xs : List DMutex} {k : Int} {j : Nat}, xs[j]? = some x → (marksMutex k xs)[j]? = some (mkMutex (k + ((xs.take j).map cntMutex).sum) x)
  | [], _, _, h => by simp at h
  | y :: xs, k, 0, h => by
    simp at h
    subst h
    simp [marksMutex]
  | y :: xs, k, j + 1, h => by
    have := marksMutex_get (xs := xs) (k := k + cntMutex y) (j := j) (by simpa using h)
    simp only [marksMutex, List.getElem?_cons_succ, this, List.take_succ_cons, List.map_cons, List.sum_cons, Int.add_assoc]

end Go.Proofs.Ytgfkadhojlddpaa
