
/- The contract of the program's caseShape: what a case is like, and what it names. -/

import Derived.Test.YtgfkadhojlddpaaGreatDoorInstrTextI

import Derived.ArgAppend

namespace Go.Proofs.YtgfkadhojlddpaaGreatDoor
set_option linter.unusedSimpArgs false
set_option linter.unusedVariables false
open Go.RowKit

def shapeOp (send : Bool) : Int := if send then 8 else 9
def shapeNames (send : Bool) : List Int := if send then [4, 1, 3] else [4, 1, 1, 3]
def Shaped (w : World) (send : Bool) (e : Ending) (w' : World) : Prop :=
  ∃ A c, e = .returned (.tuple #[.int .i64 (shapeOp send), .slice A (shapeNames send).length c]) ∧ SeenR Lay.int w' w'.heap.size A (shapeNames send).length (shapeNames send) ∧ Below w.heap.size w w'

theorem info_int : (Tryz.prog.info? 3).map (fun i => (i.zero, i.size, i.bytes)) = some (some (.int .i64 0), 1, 8) := by kernel_rfl
theorem setCells_one (w : World) (b o : Nat) (x : Value) : w.setCells b o [x] = w.setCell ⟨b, o, none⟩ x := rfl
theorem seenR_own {w : World} {lo hi n c : Nat} {A : Option Addr} {l : List Int} {e : TypeId} (h : Own w lo hi e 1 A n c (l.map (Value.int .i64))) (hw : ∀ x ∈ l, (Lit.int .i64 x).wf = true) : SeenR Lay.int w hi A n l := by
  have hs := h.seen
  have hl : l.length = n := by simpa using hs.1
  refine ⟨hl, ?_⟩
  rcases hs.2 with h0 | ⟨g, o, hA, hg, hc⟩
  · left; simpa using h0
  · refine .inr ⟨g, o, hA, hg, fun i => [.int .i64 (l.getD i 0)], fun i x hx => ?_⟩
    have hd : l.getD i 0 = x := by rw [List.getD_eq_getElem?_getD, hx]; rfl
    refine ⟨⟨by show [Value.int .i64 (l.getD i 0)] = _; rw [hd], hw x (List.mem_of_getElem? hx)⟩, fun j u hu => ?_⟩
    replace hu : [Value.int .i64 (l.getD i 0)][j]? = some u := hu
    rw [hd] at hu
    match j, hu with
    | 0, hu =>
      simp at hu
      subst hu
      have := hc i (.int .i64 x) (by rw [List.getElem?_map, hx]; rfl)
      simpa [Lay.int, Lay.flat] using this
    | k + 1, hu => simp at hu

set_option maxRecDepth 100000 in
set_option maxHeartbeats 1000000 in
theorem caseShape_send (w : World) (hC : OpCells w) : Calls Tryz.prog 151 #[.bool true] w (Shaped w true) := by
  obtain ⟨i0, hi0, hz0, hz1, hz2⟩ := info_parts info_int
  have HN := Lib.hid (show Calls Tryz.prog 95 #[.int .i64 8] w fun e w' => e = .returned (.slice (some ⟨w.heap.size, 0, none⟩) 2 3) ∧
    w'.heap[w.heap.size]? = some (.cells #[.int .i64 4, .int .i64 1, .int .i64 0] 202 (0, 0)) ∧ Below w.heap.size w w' from namesOf_any 8 (by decide) w hC)
  clear hC
  go_enter Tryz.func151, Tryz.ntmps151
  go_wp2_with fail
  refine HN.out.mono ?_
  rintro e w1 ⟨rfl, hx1, hb1⟩
  have z1 := lt_of_block hx1
  have hx2 := box_keep (w' := w1.alloc (.cells #[.int .i64 3] 3)) hx1 ((Below.refl _ _).alloc (Nat.le_refl _) _) z1
  have hW2 : Below w.heap.size w (w1.alloc (.cells #[.int .i64 3] 3)) := hb1.alloc (Nat.le_of_lt z1) _
  have cc : ∀ j u, [Value.int .i64 4, .int .i64 1][j]? = some u → (w1.alloc (.cells #[.int .i64 3] 3)).cell? ⟨w.heap.size, 0 + j, none⟩ = some u := by
    intro j u hu
    match j, hu with
    | 0, hu => simp at hu; subst hu; exact box_cell hx2 rfl
    | 1, hu => simp at hu; subst hu; exact box_cell hx2 rfl
    | j + 2, hu => simp at hu
  have cn : ∀ j u, [Value.int .i64 3][j]? = some u → (w1.alloc (.cells #[.int .i64 3] 3)).cell? ((⟨w1.heap.size, 0, none⟩ : Addr).add j) = some u := by
    intro j u hu
    rw [add_plain]
    match j, hu with
    | 0, hu => simp at hu; subst hu; exact box_cell (box_new w1 #[.int .i64 3] 3) rfl
    | j + 1, hu => simp at hu
  have HC := Lib.hid cc
  have HN2 := Lib.hid cn
  clear cc cn
  go_wp2_with (at_builtin; refine wpList_append_arg _ rfl (.tmp 8) (.tmp 9) _ rfl 3 i0 _ 1 8 Tryz.underlying22 hi0 hz0 hz1 hz2 rfl (by omega) w.heap.size 0 2 3 [.int .i64 4, .int .i64 1] rfl rfl HC.out ⟨w1.heap.size, 0, none⟩ 1 1 [.int .i64 3] rfl rfl HN2.out (by simp [Value.oneCell']) (fun _ j hj => ⟨by rw [show j = 0 by simp at hj; omega, box_cell (v := .int .i64 0) hx2 rfl]; rfl, box_free hx2 _⟩) (by decide) (by decide) (fun _ => ?_) (fun h => absurd h (by decide)))
  have hx3 := box_set (j := 2) (u := .int .i64 3) hx2
  have hW3 : Below w.heap.size w ((w1.alloc (.cells #[.int .i64 3] 3)).setCell ⟨w.heap.size, 2, none⟩ (.int .i64 3)) := below_set hW2 (Nat.le_refl _) _
  rw [setCells_one]
  generalize (w1.alloc (.cells #[.int .i64 3] 3)).setCell ⟨w.heap.size, 2, none⟩ (.int .i64 3) = W at *
  go_ret2
  refine ⟨_, _, rfl, seenR_box hx3 rfl (lt_of_block hx3) (fun i x h => ?_) (by decide), hW3⟩
  match i, h with
  | 0, h => simp [shapeNames] at h; subst h; rfl
  | 1, h => simp [shapeNames] at h; subst h; rfl
  | 2, h => simp [shapeNames] at h; subst h; rfl
  | i + 3, h => simp [shapeNames] at h

set_option maxRecDepth 100000 in
set_option maxHeartbeats 1000000 in
theorem caseShape_recv (w : World) (hC : OpCells w) : Calls Tryz.prog 151 #[.bool false] w (Shaped w false) := by
  obtain ⟨i0, hi0, hz0, hz1, hz2⟩ := info_parts info_int
  have HN := Lib.hid (show Calls Tryz.prog 95 #[.int .i64 9] w fun e w' => e = .returned (.slice (some ⟨w.heap.size, 0, none⟩) 3 3) ∧
    w'.heap[w.heap.size]? = some (.cells #[.int .i64 4, .int .i64 1, .int .i64 1] 202 (0, 0)) ∧ Below w.heap.size w w' from namesOf_any 9 (by decide) w hC)
  clear hC
  go_enter Tryz.func151, Tryz.ntmps151
  go_wp2_with fail
  refine HN.out.mono ?_
  rintro e w1 ⟨rfl, hx1, hb1⟩
  have z1 := lt_of_block hx1
  have hx2 := box_keep (w' := w1.alloc (.cells #[.int .i64 3] 3)) hx1 ((Below.refl _ _).alloc (Nat.le_refl _) _) z1
  have hW2 : Below w.heap.size w (w1.alloc (.cells #[.int .i64 3] 3)) := hb1.alloc (Nat.le_of_lt z1) _
  have cc : ∀ j u, [Value.int .i64 4, .int .i64 1, .int .i64 1][j]? = some u → (w1.alloc (.cells #[.int .i64 3] 3)).cell? ⟨w.heap.size, 0 + j, none⟩ = some u := by
    intro j u hu
    match j, hu with
    | 0, hu => simp at hu; subst hu; exact box_cell hx2 rfl
    | 1, hu => simp at hu; subst hu; exact box_cell hx2 rfl
    | 2, hu => simp at hu; subst hu; exact box_cell hx2 rfl
    | j + 3, hu => simp at hu
  have cn : ∀ j u, [Value.int .i64 3][j]? = some u → (w1.alloc (.cells #[.int .i64 3] 3)).cell? ((⟨w1.heap.size, 0, none⟩ : Addr).add j) = some u := by
    intro j u hu
    rw [add_plain]
    match j, hu with
    | 0, hu => simp at hu; subst hu; exact box_cell (box_new w1 #[.int .i64 3] 3) rfl
    | j + 1, hu => simp at hu
  have HC := Lib.hid cc
  have HN2 := Lib.hid cn
  clear cc cn
  go_wp2_with (at_builtin; refine wpList_append_arg _ rfl (.tmp 8) (.tmp 9) _ rfl 3 i0 _ 1 8 Tryz.underlying22 hi0 hz0 hz1 hz2 rfl (by omega) w.heap.size 0 3 3 [.int .i64 4, .int .i64 1, .int .i64 1] rfl rfl HC.out ⟨w1.heap.size, 0, none⟩ 1 1 [.int .i64 3] rfl rfl HN2.out (by simp [Value.oneCell']) (fun h => absurd h (by decide)) (by decide) (by decide) (fun h => absurd h (by decide)) (fun _ v' w' ho hgr => ?_))
  obtain ⟨A, c, rfl, own⟩ := Own.of_row ho (Nat.le_refl _)
  have hW3 : Below w.heap.size w w' := hW2.grown hgr hW2.size (fun k hk => by cases hk)
  have own' : Own w' (w1.alloc (.cells #[.int .i64 3] 3)).heap.size w'.heap.size 3 1 A 4 c (([4, 1, 1, 3] : List Int).map (Value.int .i64)) := own
  clear own ho
  go_ret2
  exact ⟨A, c, rfl, seenR_own own' (by decide), hW3⟩

theorem caseShape_any (send : Bool) (w : World) (hC : OpCells w) : Calls Tryz.prog 151 #[.bool send] w (Shaped w send) := by
  cases send
  · exact caseShape_recv w hC
  · exact caseShape_send w hC
end Go.Proofs.YtgfkadhojlddpaaGreatDoor
