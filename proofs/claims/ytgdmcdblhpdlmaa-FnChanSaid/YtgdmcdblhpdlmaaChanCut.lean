
/- Queues: the first and those that stay (left), one behind (joined), the model's l06None. -/

import Derived.Test.YtgdmcdblhpdlmaaChanCopy

import Derived.BigQuiet

namespace Go.Proofs.Ytgdmcdblhpdlmaa
set_option linter.unusedSimpArgs false
set_option linter.unusedVariables false
open Go.RowKit

/-- Where q[1:] lies. -/
def restA (A : Option Addr) (s c : Nat) : Option Addr := if c = 1 then A else A.map (·.add s)
theorem run_rest {P : Program} {t e : TypeId} {s : Nat} (ht : P.underlying t = some (.slice e)) (hz : ∀ w, (Go.sizeOf e).run P w = .ok s w) (W : World) (A : Option Addr) (n c : Nat) (h1 : 1 ≤ n) :
    (Instr.slice t (.slice A n c) (some (.int .i64 1)) none none).run P W = .ok (.slice (restA A s c) (n - 1) (c - 1)) W := by
  have ht' : P.underlying t = some (.slice (P.elem t)) := by simp [Program.elem, ht]
  have he : P.elem t = e := by simp [Program.elem, ht]
  rw [run_slice_l W t _ _ _ ht' .i64 1 (by omega) (by omega), he, hz]
  simp [Result.andThen, sliced, restA]
theorem wt_size : ∀ w, (Go.sizeOf 29).run Try.prog w = .ok 3 w := fun _ => by kernel_rfl
theorem int_size : ∀ w, (Go.sizeOf 3).run Try.prog w = .ok 1 w := fun _ => by kernel_rfl

theorem TailR.cut {α : Type} {L : Lay α} {w : World} {F : Nat → Prop} {e : TypeId} {A : Option Addr} {n c : Nat} {x : α} {xs : List α} (h : TailR L e w F A (n + 1) c (x :: xs)) : TailR L e w F (restA A L.size c) n (c - 1) xs := by
  refine h.rest fun hn => ?_
  have hc := h.2.1
  rw [restA, if_neg (by omega)]

set_option maxRecDepth 100000 in
set_option maxHeartbeats 2000000 in
theorem leftV_any {w : World} {hi n c : Nat} {A : Option Addr} {d : Int} {ds : List Int} (h : SeenR Lay.int w hi A (n + 1) (d :: ds)) (hm : n ≤ 1048576) :
    Calls Try.prog 58 #[.slice A (n + 1) c] w fun e w' => e = .returned (.tuple #[.int .i64 d, .slice (restA A 1 c) n (c - 1)]) ∧ Below w.heap.size w w' := by
  obtain ⟨hx, g, o, vs, rfl, hg, ⟨rfl, hw⟩, hcell⟩ := h.at_ (i := 0) (by omega)
  have cc0 := hcell 0 _ rfl
  simp only [show Lay.int.size = 1 from rfl, ← Nat.add_assoc, Nat.add_zero, Nat.mul_one, Nat.zero_mul, List.getElem_cons_zero] at cc0
  have k1 : ∀ W, (Instr.slice 62 (.slice (some ⟨g, o, none⟩) (n + 1) c) (some (.int .i64 1)) none none).run Try.prog W = .ok (.slice (restA (some ⟨g, o, none⟩) 1 c) n (c - 1)) W := fun W => by
    have := run_rest (P := Try.prog) Try.underlying62 int_size W (some ⟨g, o, none⟩) (n + 1) c (by omega)
    rw [Nat.add_sub_cancel] at this
    exact this
  generalize restA (some ⟨g, o, none⟩) 1 c = A' at *
  clear hcell hw h hx
  go_enter Try.func58, Try.ntmps58
  go_wp2_with fail
  go_quiet (fail)
  go_wp2_with fail
  refine bodyPost_ret (v := .tuple #[.int .i64 d, .slice A' n (c - 1)]) (by simp [results, Try.results58, go_sem]) rfl ?_
  exact ⟨rfl, below_drawn (Below.refl _ _) _⟩

set_option maxRecDepth 100000 in
set_option maxHeartbeats 2000000 in
theorem leftW_any {w : World} {hi n c : Nat} {A : Option Addr} {d : DWaiter} {ds : List DWaiter} (h : SeenR layWaiter w hi A (n + 1) (d :: ds)) (hhi : hi ≤ w.heap.size) (hm : n ≤ 1048576) :
    Calls Try.prog 45 #[.slice A (n + 1) c] w fun e w' => e = .returned (.tuple #[.agg #[.int .i64 d.fG, .int .i64 d.fCase, .int .i64 d.fVal], .slice (restA A 3 c) n (c - 1)]) ∧ Below w.heap.size w w' := by
  obtain ⟨hx, g, o, vs, rfl, hg, ⟨rfl, hw⟩, hcell⟩ := h.at_ (i := 0) (by omega)
  have cc0 := hcell 0 _ rfl
  have cc1 := hcell 1 _ rfl
  have cc2 := hcell 2 _ rfl
  simp only [show layWaiter.size = 3 from rfl, ← Nat.add_assoc, Nat.add_zero, Nat.mul_one, Nat.zero_mul, List.getElem_cons_zero] at cc0 cc1 cc2
  have k1 : ∀ W, (Instr.slice 59 (.slice (some ⟨g, o, none⟩) (n + 1) c) (some (.int .i64 1)) none none).run Try.prog W = .ok (.slice (restA (some ⟨g, o, none⟩) 3 c) n (c - 1)) W := fun W => by
    have := run_rest (P := Try.prog) Try.underlying59 wt_size W (some ⟨g, o, none⟩) (n + 1) c (by omega)
    rw [Nat.add_sub_cancel] at this
    exact this
  generalize restA (some ⟨g, o, none⟩) 3 c = A' at *
  obtain ⟨v0, v1, v2⟩ := d
  simp only at cc0 cc1 cc2 ⊢
  clear hcell hw h hx
  have hgw : g < w.heap.size := by omega
  have HR0 := Lib.hid (box_new w #[.int .i64 0, .int .i64 0, .int .i64 0] 29)
  have HB0 := Lib.hid ((Below.refl w.heap.size w).alloc (Nat.le_refl _) (.cells #[.int .i64 0, .int .i64 0, .int .i64 0] 29))
  have y0 := box_free HR0.out 0
  have y1 := box_free HR0.out 1
  have y2 := box_free HR0.out 2
  go_enter Try.func45, Try.ntmps45
  go_wp2_with fail
  go_region
  all_goals
    go_wp2_with fail
    have X : (w.alloc (.cells #[.int .i64 v0, .int .i64 v1, .int .i64 v2] 29)).drew.heap[w.heap.size]? = some (.cells #[.int .i64 v0, .int .i64 v1, .int .i64 v2] 29 (0, 0)) := box_new w _ _
    have HB : Below w.heap.size w (w.alloc (.cells #[.int .i64 v0, .int .i64 v1, .int .i64 v2] 29)).drew := below_drawn ((Below.refl w.heap.size w).alloc (Nat.le_refl _) _) 1
    have d0 := box_cell (j := 0) X rfl
    have d1 := box_cell (j := 1) X rfl
    have d2 := box_cell (j := 2) X rfl
    generalize (w.alloc (.cells #[.int .i64 v0, .int .i64 v1, .int .i64 v2] 29)).drew = W at *
    refine bodyPost_ret (v := .tuple #[.agg #[.int .i64 v0, .int .i64 v1, .int .i64 v2], .slice A' n (c - 1)]) (by simp [results, Try.results45, go_sem, d0, d1, d2]) rfl ?_
    exact ⟨rfl, HB⟩

/-- One behind a row of one's own. -/
def JoinedV (w : World) (A : Option Addr) (n : Nat) (xs : List Int) (v : Int) (e : Ending) (w' : World) : Prop :=
  ∃ A' c', e = .returned (.slice A' (n + 1) c') ∧ OwnR Lay.int 3 w' (fun g => blkA A' = some g) A' (n + 1) c' (xs ++ [v]) ∧ (blkA A' = blkA A ∨ ∃ g, blkA A' = some g ∧ w.heap.size ≤ g) ∧
    (∀ k, k < w.heap.size → blkA A ≠ some k → w'.heap[k]? = w.heap[k]?) ∧ Below 0 w w'

set_option maxRecDepth 100000 in
set_option maxHeartbeats 2000000 in
theorem joinedV_any {w : World} {A : Option Addr} {n c : Nat} {xs : List Int} {v : Int} {F : Nat → Prop} (h : OwnR Lay.int 3 w F A n c xs) (hn : n ≤ 1048576) (hv : (Lit.int .i64 v).wf = true) :
    Calls Try.prog 46 #[.slice A n c, .int .i64 v] w (JoinedV w A n xs v) := by
  obtain ⟨i0, hi0, hz0, hz1, hz2⟩ := info_parts infoIntC
  have hl := h.1
  have hwf : ∀ x ∈ xs ++ [v], (Lit.int .i64 x).wf = true := by
    intro x hx
    rcases List.mem_append.1 hx with hx | hx
    · obtain ⟨i, hi⟩ := List.mem_iff_getElem?.1 hx
      obtain ⟨_, _, _, _, _, hel, _⟩ := h
      exact (hel i x hi).2
    · simp at hx
      subst hx
      exact hv
  have hF0 : OwnR Lay.int 3 w (fun g => 0 ≤ g ∧ g < w.heap.size) A n c xs := by
    obtain ⟨h1, vs, G, ho, hA, hel, hG, h4, h5⟩ := h
    refine ⟨h1, vs, fun _ _ => False, ho, fun g hg => ⟨Nat.zero_le _, (ho.blk hg).2.2⟩, fun i x hx => ⟨(hel i x hx).1, (hel i x hx).2⟩, fun _ _ _ h => h.elim, fun _ _ _ h => h.elim, fun _ _ _ _ _ h => h.elim⟩
  have hown := (ownR_flat_own hF0 fun g hg => hg).alloc (.cells #[.int .i64 v] 3)
  have HW := Lib.hid hwf
  have HL := Lib.hid hl
  clear h hwf hl hF0
  go_enter Try.func46, Try.ntmps46
  go_wp2_with (at_builtin; refine wpList_append_kin rfl (.tmp 5) (.tmp 7) _ rfl 0 _ 3 i0 _ 1 8 Try.underlying62 hi0 hz0 hz1 hz2 rfl (by omega) A n c _ rfl hown _ ⟨w.heap.size, 0, none⟩ 1 1 [.int .i64 v] rfl (Seen.one w (.int .i64 v) 3) (by simp [Value.oneCell']) (by simp only [maxLen]; omega) (by omega) (Nat.zero_le _) ?_; intro A' c' w' own hb hk hA)
  go_ret
  have hz := hb.size
  simp only [World.size_alloc] at hz hk hA
  have hfl : (xs.map fun z => [Value.int .i64 z]).flatten ++ [.int .i64 v] = ((xs ++ [v]).map fun z => [Value.int .i64 z]).flatten := by simp
  rw [hfl] at own
  refine ⟨A', c', rfl, ?_, ?_, fun k hk1 hk2 => (hk k (by omega) hk2).trans (Below.heap_alloc w _ k hk1), ⟨hb.os, hb.tape, hb.output, by omega, fun k hk => by omega⟩⟩
  · have h9 : OwnR Lay.int 3 w' (fun g => 0 ≤ g ∧ g < w'.heap.size) A' (n + 1) c' (xs ++ [v]) := ownR_flat own (by simp [HL.out]) HW.out
    obtain ⟨h1, vs, G, ho, hAA, hel, hG, h4, h5⟩ := h9
    refine ⟨h1, vs, fun _ _ => False, ho, fun g hg => hg, fun i x hx => ⟨(hel i x hx).1, (hel i x hx).2⟩, fun _ _ _ h => h.elim, fun _ _ _ h => h.elim, fun _ _ _ _ _ h => h.elim⟩
  · rcases hA with h | h
    · exact .inl h
    · exact .inr ⟨_, h, by omega⟩
end Go.Proofs.Ytgdmcdblhpdlmaa
