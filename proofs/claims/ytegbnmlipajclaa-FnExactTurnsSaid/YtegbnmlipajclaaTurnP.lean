
/- The source that counts up: pick. -/

import Derived.Test.YtegbnmlipajclaaTurnS

import Derived.Test.YtegbnmlipajclaaRangeFn

import Derived.Test.YtegbnmlipajclaaLater

import Derived.Deep.Cut

namespace Go.Proofs.Ytegbnmlipajclaa
set_option linter.unusedSimpArgs false
set_option linter.unusedVariables false
open Go.RowKit

set_option maxRecDepth 100000 in
set_option maxHeartbeats 4000000 in
theorem pickT_any {W : World} {bt : Nat} {k : Nat} {m : Int} (h : W.heap[bt]? = some (.cells #[.int .i64 (k : Int), .int .i64 m] 41 (0, 0))) (hk : k ≤ 2000) (hm : (k : Int) < m) :
    Calls Try.prog 35 #[.pointer (some ⟨bt, 0, none⟩)] W fun e W' => e = .returned (.tuple #[.agg #[.int .i64 (k : Int), .int .i64 (k : Int)], .bool true]) ∧ W'.heap[bt]? = some (.cells #[.int .i64 ((k + 1 : Nat) : Int), .int .i64 m] 41 (0, 0)) ∧ TurnedF (fun b => b = bt) W W' := by
  have hbt : bt < W.heap.size := (Array.getElem?_eq_some_iff.1 h).1
  have c0 := box_cell (j := 0) h rfl
  have c1 := box_cell (j := 1) h rfl
  have f0 := box_free h 0
  go_enter Try.func35, Try.ntmps35
  go_wp2_with fail
  go_quiet (fail)
  go_wp2_with fail
  generalize hW1 : ((W.alloc (.cells #[.int .i64 0, .int .i64 0] 34)).drewN _) = W1
  have hb1 : Below W.heap.size W W1 := by rw [← hW1]; exact below_drawn ((Below.refl _ _).alloc (Nat.le_refl _) _) _
  have hx1 : W1.heap[W.heap.size]? = some (.cells #[.int .i64 0, .int .i64 0] 34 (0, 0)) := by rw [← hW1]; exact box_new W _ _
  have hs1 : W1.heap.size = W.heap.size + 1 := by rw [← hW1]; simp
  clear hW1
  have h1 := box_keep h hb1 hbt
  have c0 := box_cell (j := 0) h1 rfl
  have c1 := box_cell (j := 1) h1 rfl
  have f0 := box_free h1 0
  have x0 := box_cell (j := 0) hx1 rfl
  have x1 := box_cell (j := 1) hx1 rfl
  have y0 := box_free hx1 0
  have y1 := box_free hx1 1
  have hl1 : bt < W1.heap.size := by omega
  refine wp_region_flow [some 15, some 16, some 17, some 18, some 19, some 20, some 21, some 22, some 23, some 4] [SP.eq (.pointer (some ⟨bt, 0, none⟩)), SP.eq (.pointer (some ⟨bt, 0, none⟩)), SP.eq (.pointer (some ⟨bt, 0, none⟩)), SP.eq (.int .i64 ((k : Int))), SP.eq (.pointer (some ⟨bt, 0, none⟩)), SP.eq (.pointer (some ⟨bt, 0, none⟩)), SP.eq (.pointer (some ⟨bt, 0, none⟩)), SP.eq (.int .i64 ((k : Int))), SP.eq (.agg #[.int .i64 ((k : Int)), .int .i64 ((k : Int))]), SP.box 34 [.int .i64 0, .int .i64 0]] (by kernel_rfl) (by kernel_rfl) (by kernel_rfl) (fun Q9 => ?_) ?_
  · refine fc (.plain _ rfl rfl ?_) <| fc (.plain _ rfl rfl ?_) <| fc (.plain _ rfl rfl ?_) <| fc (.plain _ rfl rfl ?_) <| fc (.plain _ rfl rfl ?_) <| fc (.plain _ rfl rfl ?_) <| fc (.plain _ rfl rfl ?_) <| fc (.plain _ rfl rfl ?_) <| fc (.plain _ rfl rfl ?_) <| fc (.alloc rfl rfl ?c9) <| fn
    case c9 =>
      intro ρ W
      go_simp
    all_goals
      intro V lo up W hB hD hH ρ hR
      have s0 : ρ (.tmp 0) = (.pointer (some ⟨bt, 0, none⟩)) := hR.off 0 (by kernel_rfl)
      try have e0 := (hR.at_ 0 _ rfl).trans (SP.eq_ (hD 0 (by decide +kernel)).p)
      try have e1 := (hR.at_ 1 _ rfl).trans (SP.eq_ (hD 1 (by decide +kernel)).p)
      try have e2 := (hR.at_ 2 _ rfl).trans (SP.eq_ (hD 2 (by decide +kernel)).p)
      try have e3 := (hR.at_ 3 _ rfl).trans (SP.eq_ (hD 3 (by decide +kernel)).p)
      try have e4 := (hR.at_ 4 _ rfl).trans (SP.eq_ (hD 4 (by decide +kernel)).p)
      try have e5 := (hR.at_ 5 _ rfl).trans (SP.eq_ (hD 5 (by decide +kernel)).p)
      try have e6 := (hR.at_ 6 _ rfl).trans (SP.eq_ (hD 6 (by decide +kernel)).p)
      try have e7 := (hR.at_ 7 _ rfl).trans (SP.eq_ (hD 7 (by decide +kernel)).p)
      have hc := hR.const
      have r1 := rdB hB
      go_simp
  · intro V lo up W2 hBW2 hG hA
    have v8 := SP.eq_ (hG 8 (by decide)).p
    obtain ⟨hv9, hlt9, hbx9⟩ := SP.box_ (hG 9 (by decide)).p
    refine Kept.mk ?_
    simp only [frD, Act.put, pA, pZ, pS, List.length_cons, List.length_nil, Nat.zero_add, Nat.reduceAdd, List.drop_succ_cons, List.drop_zero, v8, hv9]
    clear hA v8 hv9
    have hlo : W1.heap.size ≤ lo 9 := (hG 9 (by decide)).b0
    have hup : up 9 ≤ W2.heap.size := (hG 9 (by decide)).b2
    have r2 := rdB hBW2
    have z2 := rzB hBW2
    have i9 := bxc hbx9
    have f9 := bxz hbx9
    have hl2 : bt < W2.heap.size := by omega
    have hl3 : W.heap.size < W1.heap.size := by omega
    have hl4 : lo 9 < W2.heap.size := by omega
    have hn1 : bt ≠ lo 9 := by omega
    have hn2 : W.heap.size ≠ lo 9 := by omega
    have hn3 : bt ≠ W.heap.size := by omega
    go_wp2_with fail
    have h2 := box_keep h1 hBW2 hl1
    have h3 := ((Below.heap_setCell (W2.setCell ⟨lo 9, 0, none⟩ (.int .i64 (k : Int))) ⟨lo 9, 1, none⟩ (.int .i64 (k : Int)) bt hn1).trans (Below.heap_setCell W2 ⟨lo 9, 0, none⟩ (.int .i64 (k : Int)) bt hn1)).trans h2
    have h4 := box_set (j := 0) (u := .int .i64 ((k : Int) + 1)) h3
    have h5 := (Below.heap_setCell (W2.setCell ⟨lo 9, 0, none⟩ (.int .i64 (k : Int))) ⟨lo 9, 1, none⟩ (.int .i64 (k : Int)) W.heap.size hn2).trans ((Below.heap_setCell W2 ⟨lo 9, 0, none⟩ (.int .i64 (k : Int)) W.heap.size hn2).trans (box_keep hx1 hBW2 hl3))
    have h6 := (Below.heap_setCell _ ⟨bt, 0, none⟩ (.int .i64 ((k : Int) + 1)) W.heap.size (fun h => hn3 h.symm)).trans h5
    have h7 := box_set (j := 1) (u := .int .i64 (k : Int)) (box_set (j := 0) (u := .int .i64 (k : Int)) h6)
    have q0 := box_cell (j := 0) h7 rfl
    have q1 := box_cell (j := 1) h7 rfl
    refine bodyPost_ret (v := .tuple #[.agg #[.int .i64 (k : Int), .int .i64 (k : Int)], .bool true]) ?_ rfl ?_
    · simp [results, Try.results35, go_sem, q0, q1]
    refine ⟨rfl, ?_, ?_⟩
    · rw [Below.heap_setCell _ _ _ bt hn3, Below.heap_setCell _ _ _ bt hn3, h4]
      rfl
    · have hT : TurnedF (fun b => b = bt) W W2 := TurnedF.of_below (hb1.trans (hBW2.mono (by omega))) _
      refine ⟨hT.os, hT.tape, hT.output, by simp only [World.size_setCell]; exact hT.size, fun j hj hn => ?_⟩
      have n1 : j ≠ lo 9 := by omega
      have n2 : j ≠ W.heap.size := by omega
      rw [Below.heap_setCell _ _ _ j n2, Below.heap_setCell _ _ _ j n2, Below.heap_setCell _ _ _ j hn, Below.heap_setCell _ _ _ j n1, Below.heap_setCell _ _ _ j n1]
      exact hT.block j hj hn

set_option maxRecDepth 100000 in
set_option maxHeartbeats 4000000 in
theorem pickT_end {W : World} {bt : Nat} {k : Nat} {m : Int} (h : W.heap[bt]? = some (.cells #[.int .i64 (k : Int), .int .i64 m] 41 (0, 0))) (hm : ¬ (k : Int) < m) :
    Calls Try.prog 35 #[.pointer (some ⟨bt, 0, none⟩)] W fun e W' => e = .returned (.tuple #[.agg #[.int .i64 0, .int .i64 0], .bool false]) ∧ Below W.heap.size W W' := by
  have hbt : bt < W.heap.size := (Array.getElem?_eq_some_iff.1 h).1
  have c0 := box_cell (j := 0) h rfl
  have c1 := box_cell (j := 1) h rfl
  have f0 := box_free h 0
  go_enter Try.func35, Try.ntmps35
  go_wp2_with fail
  go_quiet (fail)
  go_wp2_with fail
  have hx := box_set (j := 1) (u := .int .i64 0) (box_set (j := 0) (u := .int .i64 0) (box_new W #[.int .i64 0, .int .i64 0] 34))
  have q0 := box_cell (j := 0) hx rfl
  have q1 := box_cell (j := 1) hx rfl
  refine bodyPost_ret (v := .tuple #[.agg #[.int .i64 0, .int .i64 0], .bool false]) ?_ rfl ?_
  · simp [results, Try.results35, go_sem, q0, q1]
  refine ⟨rfl, ?_⟩
  exact below_set (p := ⟨W.heap.size, 1, none⟩) (below_set (p := ⟨W.heap.size, 0, none⟩) (below_drawn ((Below.refl _ _).alloc (Nat.le_refl _) _) _) (Nat.le_refl _) _) (Nat.le_refl _) _

theorem picksOf_any (t : TypeId) (x : Value) (w : World) :
    Calls Try.prog 16 #[.iface t x] w fun e w' => e = .returned (.func (.func 19) #[] #[.pointer (some ⟨w.heap.size, 0, none⟩)]) ∧ w' = w.alloc (.cells #[.iface t x] 45) := by
  go_enter Try.func16, Try.ntmps16
  go_wp2_with fail
  go_ret
  exact ⟨rfl, rfl⟩
end Go.Proofs.Ytegbnmlipajclaa
