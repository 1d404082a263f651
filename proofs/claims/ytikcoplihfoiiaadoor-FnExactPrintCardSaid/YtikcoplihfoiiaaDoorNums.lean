
/- What a program is in numbers: the helpers of the program that append to a list of ints. -/

import Derived.Test.YtikcoplihfoiiaaDoorDProg

import Derived.Test.YtikcoplihfoiiaaDoorAppKin

namespace Go.Proofs.YtikcoplihfoiiaaDoor
set_option linter.unusedSimpArgs false
set_option linter.unusedVariables false
open Go.RowKit

abbrev I (l : List Int) : List Value := l.map (Value.int .i64)
def caseNums (x : DCase) : List Int := [if x.fSend then 1 else 0, x.fChan, x.fReg, x.fOk, x.fTo]
def instrNums (i : DInstr) : List Int := [i.fOp, i.fA, i.fB, i.fC]
def selNums (s : DSelect) : List Int := (s.fCases.length : Int) :: (s.fCases.flatMap caseNums ++ [s.fElse])
def codeNums (code : List DInstr) : List Int := (code.length : Int) :: code.flatMap instrNums
def progNums (p : DProg) : List Int := (p.fCaps.length : Int) :: p.fCaps ++ [p.fMus, (p.fSels.length : Int)] ++ p.fSels.flatMap selNums ++ [(p.fProcs.length : Int)] ++ p.fProcs.flatMap (fun x => codeNums x.fCode)

theorem flat_next {α : Type} (f : α → List Int) {l : List α} {k : Nat} {x : α} (h : l[k]? = some x) : (l.take (k + 1)).flatMap f = (l.take k).flatMap f ++ f x := by
  rw [List.take_add_one, h]
  simp
theorem oneCell_I (l : List Int) : ∀ u ∈ I l, u.oneCell' = true := by
  intro u hu
  obtain ⟨z, _, rfl⟩ := List.mem_map.1 hu
  rfl
theorem Seen.lits (w : World) (vs : List Value) (t : TypeId) : Seen (w.alloc (.cells vs.toArray t)) (w.heap.size + 1) 1 (some ⟨w.heap.size, 0, none⟩) vs.length vs := by
  refine ⟨by simp, .inr ⟨w.heap.size, 0, rfl, by omega, fun j u hu => ?_⟩⟩
  have h1 : (w.alloc (.cells vs.toArray t)).heap[w.heap.size]? = some (.cells vs.toArray t) := heap_alloc_new w _
  unfold World.cell?
  rw [h1]
  simpa using hu
theorem Seen.lits_at (w : World) (vs : List Value) (t : TypeId) {b k : Nat} (hb : w.heap.size = b) (hk : vs.length = k) : Seen (w.alloc (.cells vs.toArray t)) (b + 1) 1 (some ⟨b, 0, none⟩) k vs := by
  subst hb hk
  exact Seen.lits w vs t
theorem codeNums_len (code : List DInstr) : (codeNums code).length = 1 + 4 * code.length := by
  have : ∀ l : List DInstr, (l.flatMap instrNums).length = 4 * l.length := fun l => by
    induction l with
    | nil => rfl
    | cons x l ih => rw [List.flatMap_cons, List.length_append, ih]; simp [instrNums]; omega
  simp [codeNums, this]
  omega
theorem selNums_len (s : DSelect) : (selNums s).length = 2 + 5 * s.fCases.length := by
  have : ∀ l : List DCase, (l.flatMap caseNums).length = 5 * l.length := fun l => by
    induction l with
    | nil => rfl
    | cons x l ih => rw [List.flatMap_cons, List.length_append, ih]; simp [caseNums]; omega
  simp [selNums, this]
  omega

/-- The call answers the list in memory of its own from lo on, and turns nothing below lo. -/
def PutI (w : World) (lo : Nat) (l : List Int) (en : Ending) (w' : World) : Prop :=
  ∃ A n c, en = .returned (.slice A n c) ∧ Own w' lo w'.heap.size 3 1 A n c (I l) ∧ Below lo w w'

set_option maxRecDepth 100000 in
set_option maxHeartbeats 2000000 in
theorem addCode_any {w : World} {lo hi n c m d : Nat} {A C : Option Addr} {l : List Int} {code : List DInstr} (own : Own w lo w.heap.size 3 1 A n c (I l)) (hc : SeenR layInstr w hi C m code) (hhi : hi ≤ lo) (hlo : lo ≤ w.heap.size) (hm : m ≤ 1048576) (hn : n ≤ 16777216) :
    Calls Tryd.prog 34 #[.slice A n c, .slice C m d] w (PutI w lo (l ++ codeNums code)) := by
  obtain ⟨i0, hi0, hz0, hz1, hz2⟩ := info_parts int_info
  have LC := Lib.hid hc.1
  go_enter Tryd.func34, Tryd.ntmps34
  go_wp2_with (at_builtin; refine wpList_append_seen rfl (.tmp 7) (.tmp 10) _ rfl lo _ 3 i0 _ 1 8 Tryd.underlying22 hi0 hz0 hz1 hz2 rfl (by omega) A n c _ rfl (own.alloc _) _ _ 1 1 _ rfl (Seen.one _ _ _) (by simp [Value.oneCell']) (by simp only [maxLen]; omega) (by omega) (by simp; omega) ?_; intro A1 c1 w1 own1 hb1)
  have hB1 : Below lo w w1 := ((Below.refl _ _).alloc hlo _).trans hb1
  clear hb1
  go_loopw [0, 14] (fun v i wr => ∃ A2 c2 k, k ≤ m ∧ v = .slice A2 (n + 1 + 4 * k) c2 ∧ i = .int .i64 ((k : Nat) : Int) ∧ Own wr lo wr.heap.size 3 1 A2 (n + 1 + 4 * k) c2 (I (l ++ (m : Int) :: (code.take k).flatMap instrNums)) ∧ Below lo w wr) (fun _ i _ => m - (intOf i).toNat)
  case atStart => exact ⟨A1, c1, 0, Nat.zero_le _, rfl, rfl, by simpa using own1, hB1⟩
  case round =>
    obtain ⟨A2, c2, k, hk, rfl, rfl, hown, hb⟩ := hrel
    have hbs := hb.size
    by_cases hlt : k < m
    · obtain ⟨hx, g, o, vs, rfl, hg, ⟨rfl, hw⟩, hcell⟩ := (hc.below hb hhi).at_ hlt
      have cc0 := hcell 0 _ rfl
      have cc1 := hcell 1 _ rfl
      have cc2 := hcell 2 _ rfl
      have cc3 := hcell 3 _ rfl
      simp only [show layInstr.size = 4 from rfl, ← Nat.add_assoc, Nat.add_zero, Nat.mul_one] at cc0 cc1 cc2 cc3
      clear hcell hw
      have hdk := Lib.hid (List.getElem?_eq_getElem hx)
      generalize code[k] = x at *
      clear hx
      go_wp2_with (at_builtin; refine wpList_append_seen rfl (.tmp 18) (.tmp 27) _ rfl lo _ 3 i0 _ 1 8 Tryd.underlying22 hi0 hz0 hz1 hz2 rfl (by omega) A2 (n + 1 + 4 * k) c2 _ rfl ((hown.alloc _).alloc _) _ _ 4 4 _ rfl (Seen.lits_at _ [.int .i64 x.fOp, .int .i64 x.fA, .int .i64 x.fB, .int .i64 x.fC] _ (by simp) rfl) (by simp [Value.oneCell']) (by simp only [maxLen]; omega) (by omega) (by simp; omega) ?_; intro A3 c3 w3 hown3 hb3)
      go_roundw
      case rel =>
        refine ⟨A3, c3, k + 1, by omega, by rw [show n + 1 + 4 * (k + 1) = n + 1 + 4 * k + 4 by omega], by go_num, ?_, hb.trans ((((Below.refl _ _).alloc (by omega) _).alloc (by simp; omega) _).trans hb3)⟩
        rw [flat_next instrNums hdk.out, ← List.cons_append, ← List.append_assoc, I, List.map_append, show n + 1 + 4 * (k + 1) = n + 1 + 4 * k + 4 by omega]
        exact hown3
      case measure => simp [intOf]; omega
    · obtain rfl : k = m := by omega
      go_wp2_with fail
      go_ret
      refine ⟨A2, _, c2, rfl, ?_, hb⟩
      rw [List.take_of_length_le (by rw [LC.out]; exact Nat.le_refl _)] at hown
      rw [codeNums, LC.out]
      exact hown

set_option maxRecDepth 100000 in
set_option maxHeartbeats 2000000 in
theorem addSelect_any {w : World} {lo hi n c : Nat} {A : Option Addr} {l : List Int} {s : DSelect} {vs : List Value} (own : Own w lo w.heap.size 3 1 A n c (I l)) (h : laySelect.see w hi s vs) (hhi : hi ≤ lo) (hlo : lo ≤ w.heap.size) (hs : szSelect s ≤ 1048576) (hn : n ≤ 16777216) :
    Calls Tryd.prog 33 #[.slice A n c, .agg vs.toArray] w (PutI w lo (l ++ selNums s)) := by
  obtain ⟨B0, m, b0, rfl, ⟨hd0, he0, s0⟩, hw1⟩ := seeSelect h
  obtain ⟨i0, hi0, hz0, hz1, hz2⟩ := info_parts int_info
  have LS := Lib.hid s0.1
  have hm : m ≤ 1048576 := by have := hs; unfold szSelect at this; rw [LS.out] at this; exact this
  clear h hw1
  have hne : blkA A ≠ some w.heap.size := fun e1 => by have := (own.blk e1).2.2; omega
  have hHB := Lib.hid (fun (W : World) (hW : W.heap[w.heap.size]? = (w.alloc (.cells #[.slice B0 m b0, .int .i64 s.fElse] 45)).heap[w.heap.size]?) => show W.cell? ⟨w.heap.size, 0, none⟩ = some (.slice B0 m b0) ∧ W.cell? ⟨w.heap.size, 1, none⟩ = some (.int .i64 s.fElse) from
    ⟨(World.cell?_of_block hW).trans (by simp), (World.cell?_of_block hW).trans (by simp)⟩)
  go_enter Tryd.func33, Tryd.ntmps33
  go_wp2_with (at_builtin; refine wpList_append_kin rfl (.tmp 8) (.tmp 12) _ rfl lo _ 3 i0 _ 1 8 Tryd.underlying22 hi0 hz0 hz1 hz2 rfl (by omega) A n c _ rfl ((own.alloc _).alloc _) _ _ 1 1 _ rfl (Seen.lits_at _ [_] _ (by simp) rfl) (by simp [Value.oneCell']) (by simp only [maxLen]; omega) (by omega) (by simp; omega) ?_; intro A1 c1 w1 own1 hb1 hk1 hA1; have hbx1 : w1.heap[w.heap.size]? = (w.alloc (.cells #[.slice B0 m b0, .int .i64 s.fElse] 45)).heap[w.heap.size]? := (hk1 _ (by simp; omega) hne).trans (Below.heap_alloc _ _ _ (by simp)); obtain ⟨x10, x11⟩ := hHB.out _ hbx1; have hz1' : w.heap.size < w1.heap.size := World.block_lt_of_cell? w1 _ x10)
  have hB1 : Below lo w w1 := (((Below.refl _ _).alloc hlo _).alloc (by simp; omega) _).trans hb1
  have hne1 : blkA A1 ≠ some w.heap.size := by
    rcases hA1 with h1 | h1
    · rw [h1]; exact hne
    · rw [h1]; simp; omega
  have HBX1 := Lib.hid hbx1
  have HNE1 := Lib.hid hne1
  clear hb1 hk1 hA1 hbx1 hne1 hne x10 x11 hz1'
  go_loopw [0, 17] (fun v i wr => ∃ A2 c2 k, k ≤ m ∧ v = .slice A2 (n + 1 + 5 * k) c2 ∧ i = .int .i64 ((k : Nat) : Int) ∧ Own wr lo wr.heap.size 3 1 A2 (n + 1 + 5 * k) c2 (I (l ++ (m : Int) :: (s.fCases.take k).flatMap caseNums)) ∧ Hid (blkA A2 ≠ some w.heap.size) ∧ Hid (wr.heap[w.heap.size]? = (w.alloc (.cells #[.slice B0 m b0, .int .i64 s.fElse] 45)).heap[w.heap.size]?) ∧ Below lo w wr) (fun _ i _ => m - (intOf i).toNat)
  case atStart => exact ⟨A1, c1, 0, Nat.zero_le _, rfl, rfl, by simpa using own1, HNE1, HBX1, hB1⟩
  case round =>
    obtain ⟨A2, c2, k, hk, rfl, rfl, hown, HNE, HBX, hb⟩ := hrel
    have hbs := hb.size
    obtain ⟨x20, x21⟩ := hHB.out _ HBX.out
    have hzr : w.heap.size < wr.heap.size := World.block_lt_of_cell? wr _ x20
    by_cases hlt : k < m
    · obtain ⟨hx, g, o, vs, rfl, hg, ⟨rfl, hw⟩, hcell⟩ := (s0.below hb hhi).at_ hlt
      have cc0 := hcell 0 _ rfl
      have cc1 := hcell 1 _ rfl
      have cc2 := hcell 2 _ rfl
      have cc3 := hcell 3 _ rfl
      have cc4 := hcell 4 _ rfl
      simp only [show layCase.size = 5 from rfl, ← Nat.add_assoc, Nat.add_zero, Nat.mul_one] at cc0 cc1 cc2 cc3 cc4
      clear hcell hw
      have hdk := Lib.hid (List.getElem?_eq_getElem hx)
      generalize s.fCases[k] = x at *
      clear hx
      obtain ⟨send, ch, reg, ok, to⟩ := x
      simp only at cc0 cc1 cc2 cc3 cc4
      have hone : ∀ (z : Int) (w3 : World) (A3 : Option Addr) (c3 : Nat), z = (if send then 1 else 0) → Own w3 lo w3.heap.size 3 1 A3 (n + 1 + 5 * k + 5) c3 (I (l ++ (m : Int) :: (s.fCases.take k).flatMap caseNums) ++ [.int .i64 z, .int .i64 ch, .int .i64 reg, .int .i64 ok, .int .i64 to]) → Own w3 lo w3.heap.size 3 1 A3 (n + 1 + 5 * (k + 1)) c3 (I (l ++ (m : Int) :: (s.fCases.take (k + 1)).flatMap caseNums)) := by
        intro z w3 A3 c3 hz h3
        subst hz
        rw [flat_next caseNums hdk.out, ← List.cons_append, ← List.append_assoc, I, List.map_append, show n + 1 + 5 * (k + 1) = n + 1 + 5 * k + 5 by omega]
        exact h3
      have HONE := Lib.hid hone
      clear hone
      cases send
      · go_wp2_with (at_builtin; refine wpList_append_kin rfl (.tmp 23) (.tmp 33) _ rfl lo _ 3 i0 _ 1 8 Tryd.underlying22 hi0 hz0 hz1 hz2 rfl (by omega) A2 (n + 1 + 5 * k) c2 _ rfl ((hown.alloc _).alloc _) _ _ 5 5 _ rfl (Seen.lits_at _ [.int .i64 0, .int .i64 ch, .int .i64 reg, .int .i64 ok, .int .i64 to] _ (by simp) rfl) (by simp [Value.oneCell']) (by simp only [maxLen]; omega) (by omega) (by simp; omega) ?_; intro A3 c3 w3 hown3 hb3 hk3 hA3)
        go_roundw
        case rel =>
          refine ⟨A3, c3, k + 1, by omega, by rw [show n + 1 + 5 * (k + 1) = n + 1 + 5 * k + 5 by omega], by go_num, HONE.out 0 w3 A3 c3 rfl hown3, Lib.hid ?_, Lib.hid ?_, hb.trans ((((Below.refl _ _).alloc (by omega) _).alloc (by simp; omega) _).trans hb3)⟩
          · rcases hA3 with h1 | h1
            · rw [h1]; exact HNE.out
            · rw [h1]; simp; omega
          · rw [hk3 _ (by simp; omega) HNE.out, Below.heap_alloc _ _ _ (by simp; omega), Below.heap_alloc _ _ _ (by omega)]
            exact HBX.out
        case measure => simp [intOf]; omega
      · go_wp2_with (at_builtin; refine wpList_append_kin rfl (.tmp 23) (.tmp 33) _ rfl lo _ 3 i0 _ 1 8 Tryd.underlying22 hi0 hz0 hz1 hz2 rfl (by omega) A2 (n + 1 + 5 * k) c2 _ rfl ((hown.alloc _).alloc _) _ _ 5 5 _ rfl (Seen.lits_at _ [.int .i64 1, .int .i64 ch, .int .i64 reg, .int .i64 ok, .int .i64 to] _ (by simp) rfl) (by simp [Value.oneCell']) (by simp only [maxLen]; omega) (by omega) (by simp; omega) ?_; intro A3 c3 w3 hown3 hb3 hk3 hA3)
        go_roundw
        case rel =>
          refine ⟨A3, c3, k + 1, by omega, by rw [show n + 1 + 5 * (k + 1) = n + 1 + 5 * k + 5 by omega], by go_num, HONE.out 1 w3 A3 c3 rfl hown3, Lib.hid ?_, Lib.hid ?_, hb.trans ((((Below.refl _ _).alloc (by omega) _).alloc (by simp; omega) _).trans hb3)⟩
          · rcases hA3 with h1 | h1
            · rw [h1]; exact HNE.out
            · rw [h1]; simp; omega
          · rw [hk3 _ (by simp; omega) HNE.out, Below.heap_alloc _ _ _ (by simp; omega), Below.heap_alloc _ _ _ (by omega)]
            exact HBX.out
        case measure => simp [intOf]; omega
    · obtain rfl : k = m := by omega
      have hdone := Lib.hid (show I (l ++ selNums s) = I (l ++ (k : Int) :: (s.fCases.take k).flatMap caseNums) ++ [.int .i64 s.fElse] by
        rw [List.take_of_length_le (by rw [LS.out]; exact Nat.le_refl _), selNums, LS.out]
        simp [I])
      go_wp2_with (at_builtin; refine wpList_append_seen rfl (.tmp 36) (.tmp 39) _ rfl lo _ 3 i0 _ 1 8 Tryd.underlying22 hi0 hz0 hz1 hz2 rfl (by omega) A2 (n + 1 + 5 * k) c2 _ rfl (hown.alloc _) _ _ 1 1 _ rfl (Seen.one _ _ _) (by simp [Value.oneCell']) (by simp only [maxLen]; omega) (by omega) (by simp; omega) ?_; intro A3 c3 w3 hown3 hb3)
      go_ret
      refine ⟨A3, _, c3, rfl, ?_, hb.trans (((Below.refl _ _).alloc (by omega) _).trans hb3)⟩
      rw [hdone.out]
      exact hown3
end Go.Proofs.YtikcoplihfoiiaaDoor
