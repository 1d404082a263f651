
/- When a mutex is right, as a sentence about data; the program's MutexOk, the model's l07Has and MutexOk. -/

import Derived.Test.YtalbbhnfdbacdaaMutI

import Derived.Test.YtalbbhnfdbacdaaDMutex

namespace Go.Proofs.Ytalbbhnfdbacdaa
set_option linter.unusedSimpArgs false
set_option linter.unusedVariables false
open Go.RowKit

/-- The one at the place k may wait. -/
def okAt (o : Int) (l : List Int) (k : Nat) : Bool := match l[k]? with
  | some d => decide (0 ≤ d) && !(o :: l.take k).contains d
  | none => false
theorem okAt_of {o : Int} {l : List Int} {k : Nat} {d : Int} (h : l[k]? = some d) : okAt o l k = (decide (0 ≤ d) && !(o :: l.take k).contains d) := by
  unfold okAt
  rw [h]
def ownB (o : Int) (n : Nat) : Bool := decide (-1 ≤ o ∧ (o = -1 → n = 0))
def mutOkB (x : DMutex) : Bool := ownB x.fOwner x.fWait.length && (List.range x.fWait.length).all (okAt x.fOwner x.fWait)

theorem enters_new1 : Enters 44 := enters_of Try.func44 (by kernel_rfl) (by kernel_rfl)

theorem allNew_any {w : World} {B C n c : Nat} {A : Option Addr} {o : Int} {ds : List Int} (h : SeenR Lay.int w B A n ds) (hn : n ≤ 1048576) (hm : MetIs w B [o]) (hC : w.cell? ⟨C, 0, none⟩ = some (.map (some B))) (hne : C ≠ B) :
    Calls Try.prog 29 #[.slice A n c, .func (.func 44) #[] #[.pointer (some ⟨C, 0, none⟩)]] w fun e w' => e = .returned (.bool ((List.range n).all (okAt o ds))) ∧ Below B w w' := by
  have hwf : ∀ x ∈ ds, (Lit.int .i64 x).wf = true := fun x hx => by
    obtain ⟨i, hi⟩ := List.mem_iff_getElem?.1 hx
    rcases h.2 with rfl | ⟨g, o, _, _, f, hf⟩
    · simp at hx
    · exact (hf i x hi).1.2
  have hlen := h.1
  refine allJ_any (J := fun k W => MetIs W B (o :: ds.take k) ∧ W.cell? ⟨C, 0, none⟩ = some (.map (some B))) enters_new1 h (Nat.le_of_lt hm.lt) (by unfold maxLen; omega) ⟨by simpa using hm, hC⟩ ?_
  rintro k W d hd hb ⟨hJ, hJC⟩
  have hk := (List.getElem?_eq_some_iff.1 hd).1
  refine (new1_any hJ hJC hne (hwf d (List.mem_of_getElem? hd)) (by simp; omega)).mono ?_
  rintro e W' ⟨rfl, hm', ht⟩
  refine ⟨by rw [okAt_of hd], ⟨?_, ?_⟩, ht.below (Nat.le_refl _) (Nat.le_of_lt hJ.lt)⟩
  · rw [List.take_add_one, hd]
    simpa using hm'
  · rw [← hJC]
    exact World.cell?_of_block (ht.block _ (lt_of_cell hJC) (by simp only; omega))

set_option maxRecDepth 100000 in
set_option maxHeartbeats 4000000 in
theorem implMutexOk_any {w : World} {hi : Nat} {x : DMutex} {vs : List Value} (h : layMutex.see w hi x vs) (hhi : hi ≤ w.heap.size) (hn : szMutex x ≤ 1048576) :
    Calls Try.prog 11 #[.agg vs.toArray] w fun e w' => e = .returned (.bool (mutOkB x)) ∧ Below w.heap.size w w' := by
  obtain ⟨A1, n1, c1, rfl, hw0, ⟨hc1, hm1, s1⟩⟩ := seeMutex h
  obtain ⟨o, ds⟩ := x
  have l1 := s1.1
  simp only at l1 s1 hw0
  subst l1
  show Calls Try.prog 11 #[.agg #[.int .i64 o, .slice A1 ds.length c1]] w fun e w' => e = .returned (.bool (ownB o ds.length && (List.range ds.length).all (okAt o ds))) ∧ Below w.heap.size w w'
  have hl : ds.length ≤ 1048576 := hn
  have HB := Lib.hid ((Below.refl w.heap.size w).alloc (Nat.le_refl _) (.cells #[.int .i64 o, .slice A1 ds.length c1] 25))
  have HX := Lib.hid (box_new w #[.int .i64 o, .slice A1 ds.length c1] 25)
  have HN := Lib.hid (fun (W : World) => newcomer_any (w := W) hw0)
  have HA := Lib.hid (fun (W : World) (B C : Nat) (hW : Below w.heap.size w W) (hB : w.heap.size ≤ B) (hm : MetIs W B [o]) (hC : W.cell? ⟨C, 0, none⟩ = some (.map (some B))) (hne : C ≠ B) => allNew_any (c := c1) ((s1.below hW hhi).more (Nat.le_trans hhi hB)) hl hm hC hne)
  generalize (List.range ds.length).all (okAt o ds) = b at *
  generalize ds.length = n at *
  clear s1 h hw0 hn
  by_cases h1 : -1 ≤ o
  · by_cases h2 : o = -1
    · subst h2
      rcases Nat.eq_zero_or_pos n with h3 | h3
      · subst h3
        have hr : ownB (-1) 0 = true := decide_eq_true ⟨by decide, fun _ => rfl⟩
        rw [hr, Bool.true_and]
        go_enter Try.func11, Try.ntmps11
        go_wp2_with fail
        have HQ := Lib.hid (fun (W : World) (hb : Below (w.alloc (.cells #[.int .i64 (-1), .slice A1 0 c1] 25)).drew.heap.size (w.alloc (.cells #[.int .i64 (-1), .slice A1 0 c1] 25)).drew W) => show W.cell? ⟨w.heap.size, 1, none⟩ = some (.slice A1 0 c1) from box_cell (box_keep HX.out ((below_drawn (Below.refl _ _) 1).trans hb) (by simp)) rfl)
        go_region_with (first
          | (go_at_call 30; refine (HN.out _).mono ?_; rintro e w2 ⟨C, hC1, rfl, hm2, hC2, hb2⟩; have HB2 : Hid (Below w.heap.size w w2) := Lib.hid (HB.out.drew.trans (hb2.mono (by simp))); have q1 : w2.cell? ⟨w.heap.size, 1, none⟩ = some (.slice A1 0 c1) := HQ.out _ hb2)
          | (go_at_call 29; refine (HA.out _ _ _ HB2.out (by simp) hm2 hC2 (by omega)).mono ?_; rintro e w3 ⟨rfl, hb3⟩))
        all_goals
          go_wp2_with fail
          go_ret
          exact ⟨rfl, HB2.out.trans (hb3.mono (by simp))⟩
      · have hr : ownB (-1) n = false := decide_eq_false (fun h => by have := h.2 rfl; omega)
        rw [hr, Bool.false_and]
        go_enter Try.func11, Try.ntmps11
        go_wp2_with fail
        go_ret
        exact ⟨rfl, HB.out⟩
    · have hr : ownB o n = true := decide_eq_true ⟨h1, fun h => absurd h h2⟩
      rw [hr, Bool.true_and]
      go_enter Try.func11, Try.ntmps11
      go_wp2_with fail
      have HQ := Lib.hid (fun (W : World) (hb : Below (w.alloc (.cells #[.int .i64 o, .slice A1 n c1] 25)).drew.heap.size (w.alloc (.cells #[.int .i64 o, .slice A1 n c1] 25)).drew W) => show W.cell? ⟨w.heap.size, 1, none⟩ = some (.slice A1 n c1) from box_cell (box_keep HX.out ((below_drawn (Below.refl _ _) 1).trans hb) (by simp)) rfl)
      go_region_with (first
        | (go_at_call 30; refine (HN.out _).mono ?_; rintro e w2 ⟨C, hC1, rfl, hm2, hC2, hb2⟩; have HB2 : Hid (Below w.heap.size w w2) := Lib.hid (HB.out.drew.trans (hb2.mono (by simp))); have q1 : w2.cell? ⟨w.heap.size, 1, none⟩ = some (.slice A1 n c1) := HQ.out _ hb2)
        | (go_at_call 29; refine (HA.out _ _ _ HB2.out (by simp) hm2 hC2 (by omega)).mono ?_; rintro e w3 ⟨rfl, hb3⟩))
      all_goals
        go_wp2_with fail
        go_ret
        exact ⟨rfl, HB2.out.trans (hb3.mono (by simp))⟩
  · have hr : ownB o n = false := decide_eq_false (fun h => h1 h.1)
    rw [hr, Bool.false_and]
    go_enter Try.func11, Try.ntmps11
    go_wp2_with fail
    go_ret
    exact ⟨rfl, HB.out⟩
end Go.Proofs.Ytalbbhnfdbacdaa
