
/- Marks of rows of Chan: the contracts of markS and heldS. Laid by wip/tools/gen.py. -/

import Derived.Test.YtgfkadhojlddpaaDChan

import Derived.Test.YtgfkadhojlddpaaBase

import Derived.Test.YtgfkadhojlddpaaTail

import Derived.Test.YtgfkadhojlddpaaMInt

import Derived.Test.YtgfkadhojlddpaaMWaiter

namespace Go.Proofs.Ytgfkadhojlddpaa
set_option linter.unusedSimpArgs false
set_option linter.unusedVariables false
open Go.RowKit

theorem unownChan {w : World} {F : Nat → Prop} {x : DChan} {vs : List Value} (h : layChan.own w F x vs) : ∃ (A1 : Option Addr) (n1 c1 : Nat) (F1 : Nat → Prop) (A2 : Option Addr) (n2 c2 : Nat) (F2 : Nat → Prop) (A3 : Option Addr) (n3 c3 : Nat) (F3 : Nat → Prop), vs = [.int .i64 x.fCap, .slice A1 n1 c1, .slice A2 n2 c2, .slice A3 n3 c3, .bool x.fClosed] ∧ (Lit.int .i64 x.fCap).wf = true ∧ (TailR Lay.int 3 w F1 A1 n1 c1 x.fBuf ∧ ∀ g, F1 g → F g) ∧ (TailR layWaiter 90 w F2 A2 n2 c2 x.fSends ∧ ∀ g, F2 g → F g) ∧ (TailR layWaiter 90 w F3 A3 n3 c3 x.fRecvs ∧ ∀ g, F3 g → F g) ∧ (∀ g, F1 g → ¬ F2 g) ∧ (∀ g, F1 g → ¬ F3 g) ∧ (∀ g, F2 g → ¬ F3 g) := by
  obtain ⟨_, _, F0, R1, rfl, s0, ⟨_, _, F1, R2, rfl, s1, ⟨_, _, F2, R3, rfl, s2, ⟨_, _, F3, R4, rfl, s3, s4, k3, r3, d3⟩, k2, r2, d2⟩, k1, r1, d1⟩, k0, r0, d0⟩ := h
  obtain ⟨rfl, h0⟩ := s0
  obtain ⟨A1, n1, c1, rfl, h1⟩ := s1
  obtain ⟨A2, n2, c2, rfl, h2⟩ := s2
  obtain ⟨A3, n3, c3, rfl, h3⟩ := s3
  obtain ⟨rfl, h4⟩ := s4
  exact ⟨A1, n1, c1, F1, A2, n2, c2, F2, A3, n3, c3, F3, rfl, h0, ⟨h1, (fun g h => r0 g (k1 g h))⟩, ⟨h2, (fun g h => r0 g (r1 g (k2 g h)))⟩, ⟨h3, (fun g h => r0 g (r1 g (r2 g (k3 g h))))⟩, (fun g hi hj => d1 g hi ((fun g h => k2 g h) g hj)), (fun g hi hj => d1 g hi ((fun g h => r2 g (k3 g h)) g hj)), (fun g hi hj => d2 g hi ((fun g h => k3 g h) g hj))⟩

/-- How many marks it takes; what it is, marked from z on. -/
def cntChan (x : DChan) : Int := 1 + ((x.fBuf.length : Int)) + (3 * (x.fSends.length : Int)) + (3 * (x.fRecvs.length : Int)) + 1
def mkChan (z : Int) (x : DChan) : DChan := ⟨z, marksInt (z + 1) x.fBuf.length, marksWaiter (z + 1 + ((x.fBuf.length : Int))) x.fSends.length, marksWaiter (z + 1 + ((x.fBuf.length : Int)) + (3 * (x.fSends.length : Int))) x.fRecvs.length, (z + 1 + ((x.fBuf.length : Int)) + (3 * (x.fSends.length : Int)) + (3 * (x.fRecvs.length : Int))) % 3 == 0⟩
def marksChan : Int → List DChan → List DChan
  | _, [] => []
  | z, x :: r => mkChan z x :: marksChan (z + cntChan x) r
theorem marksChan_length (l : List DChan) : ∀ z, (marksChan z l).length = l.length := by
  induction l with
  | nil => intro z; rfl
  | cons x l ih => intro z; simp [marksChan, ih]
theorem marksChan_snoc (l : List DChan) (x : DChan) : ∀ z, marksChan z (l ++ [x]) = marksChan z l ++ [mkChan (z + (l.map cntChan).sum) x] := by
  induction l with
  | nil => intro z; simp [marksChan]
  | cons y l ih => intro z; simp [marksChan, ih, Int.add_assoc]
theorem marksChan_step {xs : List DChan} {k : Int} {j : Nat} {x : DChan} (hx : xs[j]? = some x) :
    (marksChan k (xs.take j) ++ xs.drop j).set j (mkChan (k + ((xs.take j).map cntChan).sum) x) = marksChan k (xs.take (j + 1)) ++ xs.drop (j + 1) := by
  obtain ⟨hj, rfl⟩ := List.getElem?_eq_some_iff.1 hx
  have hl : (marksChan k (xs.take j)).length = j := by rw [marksChan_length, List.length_take]; omega
  rw [List.take_succ_eq_append_getElem hj, marksChan_snoc, List.drop_eq_getElem_cons hj, List.set_append, if_neg (by omega), hl, Nat.sub_self, List.set_cons_zero, List.append_assoc]
  rfl

theorem cntChan_pos (x : DChan) : 0 ≤ cntChan x := by
  unfold cntChan
  omega

/-- The call marks the row: blocks that F holds turn alone. -/
def MarkedChan (w : World) (F : Nat → Prop) (e : TypeId) (A : Option Addr) (n c : Nat) (k : Int) (xs : List DChan) (en : Ending) (w' : World) : Prop :=
  en = .returned (.int .i64 (k + (xs.map cntChan).sum)) ∧ OwnR layChan e w' F A n c (marksChan k xs) ∧ TurnedF F w w'

set_option maxRecDepth 100000 in
set_option maxHeartbeats 2000000 in
theorem markChanS_any {w : World} {F : Nat → Prop} {e : TypeId} {A : Option Addr} {n c : Nat} {k : Int} {xs : List DChan} (h : OwnR layChan e w F A n c xs) (hn : n ≤ 1048576) (hs : ∀ x ∈ xs, szChan x ≤ 1048576) (hk0 : 0 ≤ k) (hk : k + (xs.map cntChan).sum ≤ 16777216) :
    Calls Try.prog 28 #[.slice A n c, .int .i64 k] w (MarkedChan w F e A n c k xs) := by
  have HL := Lib.hid h.1
  have HK := Lib.hid hk
  clear hk
  go_enter Try.func28, Try.ntmps28
  go_wp2_with fail
  go_loopw [1, 5] (fun q i wr => ∃ (j : Nat) (z : Int), j ≤ n ∧ i = .int .i64 j ∧ q = .int .i64 z ∧ Hid (z = k + ((xs.take j).map cntChan).sum) ∧ OwnR layChan e wr F A n c (marksChan k (xs.take j) ++ xs.drop j) ∧ TurnedF F w wr) (fun _ i _ => n - (intOf i).toNat)
  case atStart => exact ⟨0, k, Nat.zero_le _, rfl, rfl, Lib.hid (by simp), by simpa [marksChan] using h, TurnedF.refl _ _⟩
  case round =>
    obtain ⟨j, z, hj, rfl, rfl, HZ, hown, ht⟩ := hrel
    by_cases hlt : j < n
    · obtain ⟨hx, g, G, us, rfl, hgs, hrow, hel⟩ := hown.open_ hlt
      have hxj : j < xs.length := by rw [HL.out]; exact hlt
      have he : (marksChan k (xs.take j) ++ xs.drop j)[j] = xs[j] := by
        have hm : (marksChan k (xs.take j)).length = j := by rw [marksChan_length, List.length_take]; omega
        rw [List.getElem_append_right (by omega)]
        simp [hm]
      rw [he] at hel
      clear he hown hx
      have hdk := Lib.hid (List.getElem?_eq_getElem hxj)
      have hsx := hs _ (List.getElem_mem hxj)
      have hz0 : 0 ≤ z := by have := sum_pos cntChan_pos (xs.take j); have := HZ.out; omega
      have hcx : z + cntChan xs[j] ≤ 16777216 := by
        have h1 := sum_upto cntChan_pos hdk.out
        have := HZ.out
        have := HK.out
        omega
      have HST := Lib.hid (marksChan_step (k := k) hdk.out)
      have HZN := Lib.hid (sum_next cntChan hdk.out)
      rw [← HZ.out] at HST
      generalize xs[j] = x at *
      clear hxj
      obtain ⟨A1, n1, c1, F1, A2, n2, c2, F2, A3, n3, c3, F3, rfl, hw0, ⟨o1, k1⟩, ⟨o2, k2⟩, ⟨o3, k3⟩, d1_2, d1_3, d2_3⟩ := unownChan hel
      have l1 := o1.1
      subst l1
      have hg1 : ¬ F1 g := fun h => hrow.not (k1 g h)
      have l2 := o2.1
      subst l2
      have hg2 : ¬ F2 g := fun h => hrow.not (k2 g h)
      have l3 := o3.1
      subst l3
      have hg3 : ¬ F3 g := fun h => hrow.not (k3 g h)
      unfold szChan at hsx
      unfold cntChan at hcx
      have cc0 : wr.cell? ⟨g, j * 5 + 0, none⟩ = some (.int .i64 x.fCap) := hrow.cell (j := 0) rfl (by decide)
      have cc1 : wr.cell? ⟨g, j * 5 + 1, none⟩ = some (.slice A1 x.fBuf.length c1) := hrow.cell (j := 1) rfl (by decide)
      have cc2 : wr.cell? ⟨g, j * 5 + 2, none⟩ = some (.slice A2 x.fSends.length c2) := hrow.cell (j := 2) rfl (by decide)
      have cc3 : wr.cell? ⟨g, j * 5 + 3, none⟩ = some (.slice A3 x.fRecvs.length c3) := hrow.cell (j := 3) rfl (by decide)
      have cc4 : wr.cell? ⟨g, j * 5 + 4, none⟩ = some (.bool x.fClosed) := hrow.cell (j := 4) rfl (by decide)
      have ff := hrow.free
      simp only [Nat.add_zero, Nat.mul_one] at cc0 cc1 cc2 cc3 cc4
      go_wp2_with fail
      refine (markIntS_tail1 (F := F1) (by exact (o1).setCell hg1 _) (by omega) (by omega) (by omega)).mono ?_
      rintro e w1 ⟨rfl, q1, t1⟩
      have ht1 := (ht.setCell (p := ⟨g, j * 5 + 0, none⟩) hrow.here (.int .i64 z)).trans (t1.wide fun b hb => hrow.inF b (k1 b hb))
      have hrow1 := OpenRow.turned (hrow.set_ (o := 0) (by decide) (.int .i64 z)) t1 k1
      have o2_ := TailR.turnedF (TailR.setCell (o := j * 5 + 0) o2 hg2 (.int .i64 z)) t1 (fun b hb hb2 => d1_2 b hb2 hb)
      have o3_ := TailR.turnedF (TailR.setCell (o := j * 5 + 0) o3 hg3 (.int .i64 z)) t1 (fun b hb hb2 => d1_3 b hb2 hb)
      clear hrow ht t1 cc0 cc1 cc2 cc3 cc4 ff
      have hrow := hrow1
      clear hrow1
      have ht := ht1
      clear ht1
      clear o1
      have o1 := q1
      clear q1
      clear o2
      have o2 := o2_
      clear o2_
      clear o3
      have o3 := o3_
      clear o3_
      have cc0 : w1.cell? ⟨g, j * 5 + 0, none⟩ = some (.int .i64 z) := hrow.cell (j := 0) rfl (by decide)
      have cc1 : w1.cell? ⟨g, j * 5 + 1, none⟩ = some (.slice A1 x.fBuf.length c1) := hrow.cell (j := 1) rfl (by decide)
      have cc2 : w1.cell? ⟨g, j * 5 + 2, none⟩ = some (.slice A2 x.fSends.length c2) := hrow.cell (j := 2) rfl (by decide)
      have cc3 : w1.cell? ⟨g, j * 5 + 3, none⟩ = some (.slice A3 x.fRecvs.length c3) := hrow.cell (j := 3) rfl (by decide)
      have cc4 : w1.cell? ⟨g, j * 5 + 4, none⟩ = some (.bool x.fClosed) := hrow.cell (j := 4) rfl (by decide)
      have ff := hrow.free
      simp only [Nat.add_zero, Nat.mul_one] at cc0 cc1 cc2 cc3 cc4
      go_wp2_with fail
      refine (markWaiterS_tail (F := F2) (by exact o2) (by omega) (by omega) (by omega)).mono ?_
      rintro e w2 ⟨rfl, q2, t2⟩
      have ht2 := ht.trans (t2.wide fun b hb => hrow.inF b (k2 b hb))
      have hrow2 := OpenRow.turned hrow t2 k2
      have o1_ := TailR.turnedF o1 t2 (fun b hb hb2 => d1_2 b hb hb2)
      have o3_ := TailR.turnedF o3 t2 (fun b hb hb2 => d2_3 b hb2 hb)
      clear hrow ht t2 cc0 cc1 cc2 cc3 cc4 ff
      have hrow := hrow2
      clear hrow2
      have ht := ht2
      clear ht2
      clear o2
      have o2 := q2
      clear q2
      clear o1
      have o1 := o1_
      clear o1_
      clear o3
      have o3 := o3_
      clear o3_
      have cc0 : w2.cell? ⟨g, j * 5 + 0, none⟩ = some (.int .i64 z) := hrow.cell (j := 0) rfl (by decide)
      have cc1 : w2.cell? ⟨g, j * 5 + 1, none⟩ = some (.slice A1 x.fBuf.length c1) := hrow.cell (j := 1) rfl (by decide)
      have cc2 : w2.cell? ⟨g, j * 5 + 2, none⟩ = some (.slice A2 x.fSends.length c2) := hrow.cell (j := 2) rfl (by decide)
      have cc3 : w2.cell? ⟨g, j * 5 + 3, none⟩ = some (.slice A3 x.fRecvs.length c3) := hrow.cell (j := 3) rfl (by decide)
      have cc4 : w2.cell? ⟨g, j * 5 + 4, none⟩ = some (.bool x.fClosed) := hrow.cell (j := 4) rfl (by decide)
      have ff := hrow.free
      simp only [Nat.add_zero, Nat.mul_one] at cc0 cc1 cc2 cc3 cc4
      go_wp2_with fail
      refine (markWaiterS_tail (F := F3) (by exact o3) (by omega) (by omega) (by omega)).mono ?_
      rintro e w3 ⟨rfl, q3, t3⟩
      have ht3 := ht.trans (t3.wide fun b hb => hrow.inF b (k3 b hb))
      have hrow3 := OpenRow.turned hrow t3 k3
      have o1_ := TailR.turnedF o1 t3 (fun b hb hb2 => d1_3 b hb hb2)
      have o2_ := TailR.turnedF o2 t3 (fun b hb hb2 => d2_3 b hb hb2)
      clear hrow ht t3 cc0 cc1 cc2 cc3 cc4 ff
      have hrow := hrow3
      clear hrow3
      have ht := ht3
      clear ht3
      clear o3
      have o3 := q3
      clear q3
      clear o1
      have o1 := o1_
      clear o1_
      clear o2
      have o2 := o2_
      clear o2_
      have cc0 : w3.cell? ⟨g, j * 5 + 0, none⟩ = some (.int .i64 z) := hrow.cell (j := 0) rfl (by decide)
      have cc1 : w3.cell? ⟨g, j * 5 + 1, none⟩ = some (.slice A1 x.fBuf.length c1) := hrow.cell (j := 1) rfl (by decide)
      have cc2 : w3.cell? ⟨g, j * 5 + 2, none⟩ = some (.slice A2 x.fSends.length c2) := hrow.cell (j := 2) rfl (by decide)
      have cc3 : w3.cell? ⟨g, j * 5 + 3, none⟩ = some (.slice A3 x.fRecvs.length c3) := hrow.cell (j := 3) rfl (by decide)
      have cc4 : w3.cell? ⟨g, j * 5 + 4, none⟩ = some (.bool x.fClosed) := hrow.cell (j := 4) rfl (by decide)
      have ff := hrow.free
      simp only [Nat.add_zero, Nat.mul_one] at cc0 cc1 cc2 cc3 cc4
      go_wp2_with fail
      go_roundw
      case rel =>
        have hshut := OpenRow.shut (hrow.set_ (o := 4) (by decide) (.bool ((z + 1 + (x.fBuf.length : Int) + 3 * (x.fSends.length : Int) + 3 * (x.fRecvs.length : Int)) % 3 == 0))) (x' := mkChan z x) (ownChan (wf_mark (z := z) (by omega) (by omega)) (TailR.setCell (o := j * 5 + 4) o1 hg1 (.bool ((z + 1 + (x.fBuf.length : Int) + 3 * (x.fSends.length : Int) + 3 * (x.fRecvs.length : Int)) % 3 == 0))) (TailR.setCell (o := j * 5 + 4) o2 hg2 (.bool ((z + 1 + (x.fBuf.length : Int) + 3 * (x.fSends.length : Int) + 3 * (x.fRecvs.length : Int)) % 3 == 0))) (TailR.setCell (o := j * 5 + 4) o3 hg3 (.bool ((z + 1 + (x.fBuf.length : Int) + 3 * (x.fSends.length : Int) + 3 * (x.fRecvs.length : Int)) % 3 == 0))) k1 k2 k3 d1_2 d1_3 d2_3)
        rw [HST.out] at hshut
        exact ⟨j + 1, z + 1 + (x.fBuf.length : Int) + 3 * (x.fSends.length : Int) + 3 * (x.fRecvs.length : Int) + 1, by omega, by go_num, by go_num, Lib.hid (by rw [HZN.out]; have h1 := HZ.out; have h2 : cntChan x = 1 + (x.fBuf.length : Int) + 3 * (x.fSends.length : Int) + 3 * (x.fRecvs.length : Int) + 1 := rfl; omega), by first | exact hshut | (simp only [Int.add_mul_emod_self_left] at hshut; exact hshut), (ht.setCell (p := ⟨g, j * 5 + 4, none⟩) hrow.here _)⟩
      case measure => simp [intOf]; omega
    · go_wp2_with fail
      go_ret
      obtain rfl : j = n := by omega
      have e1 : xs.take j = xs := List.take_of_length_le (by rw [HL.out]; exact Nat.le_refl _)
      have hz := HZ.out
      rw [e1] at hown hz
      rw [List.drop_of_length_le (by rw [HL.out]; exact Nat.le_refl _), List.append_nil] at hown
      exact ⟨by rw [← hz]; rfl, hown, ht⟩

/-- How many marks it takes where it stands by itself: its slices alone; and what it is then. -/
def vcntChan (x : DChan) : Int := (x.fBuf.length : Int) + 3 * (x.fSends.length : Int) + 3 * (x.fRecvs.length : Int)
def mkvChan (k : Int) (x : DChan) : DChan := ⟨x.fCap, marksInt k x.fBuf.length, marksWaiter (k + (x.fBuf.length : Int)) x.fSends.length, marksWaiter (k + (x.fBuf.length : Int) + 3 * (x.fSends.length : Int)) x.fRecvs.length, x.fClosed⟩

theorem marksChan_get {x : DChan} : ∀ {xs : List DChan} {k : Int} {j : Nat}, xs[j]? = some x → (marksChan k xs)[j]? = some (mkChan (k + ((xs.take j).map cntChan).sum) x)
  | [], _, _, h => by simp at h
  | y :: xs, k, 0, h => by
    simp at h
    subst h
    simp [marksChan]
  | y :: xs, k, j + 1, h => by
    have := marksChan_get (xs := xs) (k := k + cntChan y) (j := j) (by simpa using h)
    simp only [marksChan, List.getElem?_cons_succ, this, List.take_succ_cons, List.map_cons, List.sum_cons, Int.add_assoc]

end Go.Proofs.Ytgfkadhojlddpaa
