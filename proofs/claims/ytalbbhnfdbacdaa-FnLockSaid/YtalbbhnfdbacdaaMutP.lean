
/- The program's helpers over a mutex behind a pointer: copyMutex, join, next, settle; slices.Contains. -/

import Derived.Test.YtalbbhnfdbacdaaMutOk

namespace Go.Proofs.Ytalbbhnfdbacdaa
set_option linter.unusedSimpArgs false
set_option linter.unusedVariables false
open Go.RowKit

/-- The blocks from b0 on, but g. -/
def Fm (w : World) (b0 g : Nat) : Nat → Prop := fun k => b0 ≤ k ∧ k < w.heap.size ∧ k ≠ g
/-- A mutex behind a pointer, its row in a block of its own. -/
def MutAt (w : World) (b0 g : Nat) (o : Int) (xs : List Int) : Prop :=
  b0 ≤ g ∧ ∃ A c, w.heap[g]? = some (.cells #[.int .i64 o, .slice A xs.length c] 25 (0, 0)) ∧ TailR Lay.int 3 w (Fm w b0 g) A xs.length c xs
/-- .. and there is nothing ahead of the row. -/
def MutNew (w : World) (b0 g : Nat) (o : Int) (xs : List Int) : Prop :=
  b0 ≤ g ∧ ∃ A c, w.heap[g]? = some (.cells #[.int .i64 o, .slice A xs.length c] 25 (0, 0)) ∧ OwnR Lay.int 3 w (Fm w b0 g) A xs.length c xs
theorem MutNew.at_ {w : World} {b0 g : Nat} {o : Int} {xs : List Int} (h : MutNew w b0 g o xs) : MutAt w b0 g o xs := by
  obtain ⟨h1, A, c, h2, h3⟩ := h
  exact ⟨h1, A, c, h2, TailR.of h3⟩

set_option maxRecDepth 100000 in
set_option maxHeartbeats 2000000 in
theorem copyMutex_any {w : World} {hi : Nat} {x : DMutex} {vs : List Value} (h : layMutex.see w hi x vs) (hhi : hi ≤ w.heap.size) (hn : szMutex x ≤ 1048576) :
    Calls Try.prog 25 #[.agg vs.toArray] w fun e w' => ∃ g, e = .returned (.pointer (some ⟨g, 0, none⟩)) ∧ MutNew w' w.heap.size g x.fOwner x.fWait ∧ Below w.heap.size w w' := by
  obtain ⟨A1, n1, c1, rfl, hw0, ⟨hc1, hm1, s1⟩⟩ := seeMutex h
  obtain ⟨o, ds⟩ := x
  have l1 := s1.1
  simp only at l1 s1 hw0
  subst l1
  show Calls Try.prog 25 #[.agg #[.int .i64 o, .slice A1 ds.length c1]] w fun e w' => ∃ g, e = .returned (.pointer (some ⟨g, 0, none⟩)) ∧ MutNew w' w.heap.size g o ds ∧ Below w.heap.size w w'
  have hl : ds.length ≤ 1048576 := hn
  have HX := Lib.hid (box_new w #[.int .i64 o, .slice A1 ds.length c1] 25)
  have HB := Lib.hid ((Below.refl w.heap.size w).alloc (Nat.le_refl _) (.cells #[.int .i64 o, .slice A1 ds.length c1] 25))
  have HC := Lib.hid (fun (W : World) (hW : Below w.heap.size w W) => copiedV_any (c := c1) (s1.below hW hhi) hl)
  have HQ := Lib.hid (fun (W : World) (hb : Below (w.alloc (.cells #[.int .i64 o, .slice A1 ds.length c1] 25)).drew.heap.size (w.alloc (.cells #[.int .i64 o, .slice A1 ds.length c1] 25)).drew W) => show W.cell? ⟨w.heap.size, 0, none⟩ = some (.int .i64 o) from box_cell (box_keep HX.out ((below_drawn (Below.refl _ _) 1).trans hb) (by simp)) rfl)
  clear s1 h hw0 hn
  generalize hN : ds.length = n at *
  have HN := Lib.hid hN
  clear hN
  go_enter Try.func25, Try.ntmps25
  go_wp2_with fail
  go_region_with ((go_at_call 40; refine (HC.out _ HB.out.drew).mono ?_; rintro e w2 ⟨A2, c2, rfl, own2, hb2⟩; have q0 : w2.cell? ⟨w.heap.size, 0, none⟩ = some (.int .i64 o) := HQ.out _ hb2))
  all_goals
    go_wp2_with fail
    go_ret
    have z2 := hb2.size
    simp at z2
    have hB2 : Below w.heap.size w w2 := HB.out.drew.trans (hb2.mono (by simp))
    refine ⟨w2.heap.size, rfl, ⟨by omega, A2, c2, ?_, ?_⟩, hB2.alloc (by omega) _⟩
    · rw [HN.out]
      exact box_new w2 #[.int .i64 o, .slice A2 n c2] 25
    · rw [HN.out]
      exact (own2.stay (w' := w2.alloc (.cells #[.int .i64 o, .slice A2 n c2] 25)) (fun g hg hlt => Below.heap_alloc w2 _ _ hlt) (by simp)).wide (fun k hk => ⟨by have := hk.1; simp at this; omega, by have := hk.2; simp; omega, by have := hk.2; omega⟩)

set_option maxRecDepth 100000 in
set_option maxHeartbeats 2000000 in
theorem join_any {w : World} {b0 g : Nat} {o v : Int} {xs : List Int} (h : MutNew w b0 g o xs) (hn : xs.length ≤ 1048576) (hv : (Lit.int .i64 v).wf = true) :
    Calls Try.prog 26 #[.pointer (some ⟨g, 0, none⟩), .int .i64 v] w fun e w' => e = .returned (.tuple #[]) ∧ MutNew w' b0 g o (xs ++ [v]) ∧ Below b0 w w' := by
  obtain ⟨hg, A, c, hX, hown⟩ := h
  have hlt := lt_of_block hX
  have p1 : w.cell? ⟨g, 1, none⟩ = some (.slice A xs.length c) := box_cell (j := 1) hX rfl
  have hJ := joinedV_any hown hn hv
  have hFA : ∀ k, blkA A = some k → b0 ≤ k ∧ k ≠ g := fun k hk => ⟨(hown.blk k hk).1, (hown.blk k hk).2.2⟩
  have HX := Lib.hid hX
  have HJ := Lib.hid hJ
  have HF := Lib.hid hFA
  clear hX hJ hown hFA
  go_enter Try.func26, Try.ntmps26
  go_wp2_with fail
  refine HJ.out.mono ?_
  rintro e w1 ⟨A', c', rfl, own1, hA, hk, hb⟩
  have hX1 : w1.heap[g]? = some (.cells #[.int .i64 o, .slice A xs.length c] 25 (0, 0)) := (hk g hlt (fun e => (HF.out g e).2 rfl)).trans HX.out
  have HX1 := Lib.hid hX1
  have q1 := box_cell (j := 1) hX1 rfl
  have f1 := box_free hX1 1
  have HO := Lib.hid own1
  have HA := Lib.hid hA
  have HK := Lib.hid hk
  have HB := Lib.hid hb
  clear own1 hA hk hb hX1 p1
  go_wp2_with fail
  refine bodyPost_end (v := .tuple #[]) ?_ rfl ?_; · simp [results, Try.results26, go_sem]
  have hz := HB.out.size
  have hA' : ∀ k, blkA A' = some k → b0 ≤ k ∧ k ≠ g := fun k hk => by
    rcases HA.out with h1 | ⟨m, h1, h2⟩
    · exact HF.out k (h1 ▸ hk)
    · rw [h1] at hk
      injection hk with hk
      omega
  have hlen : (xs ++ [v]).length = xs.length + 1 := by simp
  have hBx : Below b0 w w1 := ⟨HB.out.os, HB.out.tape, HB.out.output, HB.out.size, fun k hk => HK.out k (by omega) (fun e => by have := (HF.out k e).1; omega)⟩
  refine ⟨rfl, ⟨hg, A', c', ?_, ?_⟩, below_set (p := ⟨g, 1, none⟩) hBx hg _⟩
  · rw [hlen]
    exact box_set (j := 1) HX1.out
  · rw [hlen]
    refine (OwnR.setCell (o := 1) HO.out (g := g) (fun e => (hA' g e).2 rfl) _).wide fun k hk => ⟨(hA' k hk).1, ?_, (hA' k hk).2⟩
    have := HO.out.lt_blk hk
    simpa [World.setCell] using this

set_option maxRecDepth 100000 in
set_option maxHeartbeats 2000000 in
theorem next_any {w : World} {b0 g : Nat} {o : Int} {xs : List Int} (h : MutAt w b0 g o xs) (hn : xs.length ≤ 1048577) :
    Calls Try.prog 28 #[.pointer (some ⟨g, 0, none⟩)] w fun e w' => e = .returned (.int .i64 (xs.headD (-1))) ∧ MutAt w' b0 g o xs.tail ∧ Below b0 w w' := by
  have HM := Lib.hid h
  obtain ⟨hg, A, c, hX, hown⟩ := h
  have hlt := lt_of_block hX
  have p1 : w.cell? ⟨g, 1, none⟩ = some (.slice A xs.length c) := box_cell (j := 1) hX rfl
  have HX := Lib.hid hX
  have HT := Lib.hid hown
  clear hX hown
  cases xs with
  | nil =>
    simp only [List.length_nil] at *
    go_enter Try.func28, Try.ntmps28
    go_wp2_with fail
    go_ret
    exact ⟨by simp, HM.out, Below.refl _ _⟩
  | cons d ds =>
    simp only [List.length_cons] at *
    have HS := Lib.hid (leftV_any (c := c) (HT.out.seen (hi := w.heap.size) fun g hg => hg.2.1) (by omega))
    generalize hN : ds.length = n at *
    have HN := Lib.hid hN
    clear hN
    have hn0 : ¬ ((n : Int) + 1 = 0) := by omega
    go_enter Try.func28, Try.ntmps28
    go_wp2_with fail
    refine HS.out.mono ?_
    rintro e w1 ⟨rfl, hb⟩
    have hX1 := box_keep HX.out hb hlt
    have q1 := box_cell (j := 1) hX1 rfl
    have f1 := box_free hX1 1
    have HX1 := Lib.hid hX1
    have HB := Lib.hid hb
    clear hX1 hb
    go_wp2_with fail
    go_ret
    have hz := HB.out.size
    have t1 : TailR Lay.int 3 w1 (Fm w b0 g) (restA A 1 c) n (c - 1) ds := (TailR.cut HT.out).stay (fun k hk hlt => HB.out.block k hlt) hz
    refine ⟨by simp, ⟨hg, restA A 1 c, c - 1, ?_, ?_⟩, below_set (p := ⟨g, 1, none⟩) (HB.out.mono (by omega)) hg _⟩
    · simp only [List.tail_cons, HN.out]
      exact box_set (j := 1) HX1.out
    · simp only [List.tail_cons, HN.out]
      refine (t1.setCell (o := 1) (g := g) (fun e => e.2.2 rfl) _).wide fun k hk => ⟨hk.1, ?_, hk.2.2⟩
      have := hk.2.1
      simp [World.setCell]
      omega

theorem enters_next : Enters 28 := enters_of Try.func28 (by kernel_rfl) (by kernel_rfl)

set_option maxRecDepth 100000 in
set_option maxHeartbeats 2000000 in
theorem settle_any {w : World} {b0 g : Nat} {o : Int} {xs : List Int} (h : MutAt w b0 g o xs) (hn : xs.length ≤ 1048577) :
    Calls Try.prog 27 #[.pointer (some ⟨g, 0, none⟩), .func (.func 28) #[.pointer (some ⟨g, 0, none⟩)] #[]] w fun e w' => e = .returned (.tuple #[]) ∧
      MutAt w' b0 g (if o = -1 then xs.headD (-1) else o) (if o = -1 then xs.tail else xs) ∧ Below b0 w w' := by
  have HM := Lib.hid h
  have HN := Lib.hid (next_any h hn)
  obtain ⟨hg, A, c, hX, hown⟩ := h
  have hlt := lt_of_block hX
  have p0 := box_cell (j := 0) hX rfl
  clear hX hown
  by_cases ho : o = -1
  · subst ho
    simp only [if_true]
    generalize xs.headD (-1) = dd at HN ⊢
    go_enter Try.func27, Try.ntmps27
    go_wp2_with fail
    refine HN.out.mono ?_
    rintro e w1 ⟨rfl, ⟨hg1, A1, c1, hX1, t1⟩, hb⟩
    have q0 := box_cell (j := 0) hX1 rfl
    have f0 := box_free hX1 0
    have HX1 := Lib.hid hX1
    have HB := Lib.hid hb
    have HT := Lib.hid t1
    clear hX1 hb t1
    go_wp2_with fail
    refine bodyPost_end (v := .tuple #[]) ?_ rfl ?_; · simp [results, Try.results27, go_sem]
    refine ⟨rfl, ⟨hg, A1, c1, box_set (j := 0) HX1.out, ?_⟩, below_set (p := ⟨g, 0, none⟩) HB.out hg _⟩
    refine (HT.out.setCell (o := 0) (g := g) (fun e => e.2.2 rfl) _).wide fun k hk => ⟨hk.1, ?_, hk.2.2⟩
    have := hk.2.1
    simpa [World.setCell] using this
  · simp only [ho, if_false]
    go_enter Try.func27, Try.ntmps27
    go_wp2_with fail
    refine bodyPost_end (v := .tuple #[]) ?_ rfl ?_; · simp [results, Try.results27, go_sem]
    exact ⟨rfl, HM.out, Below.refl _ _⟩
end Go.Proofs.Ytalbbhnfdbacdaa
