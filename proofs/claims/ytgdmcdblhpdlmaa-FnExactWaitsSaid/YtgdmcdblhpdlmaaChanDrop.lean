
/- Drop and Waits, the model's and the program's: waiters that are of one goroutine, and the others. -/

import Derived.Test.YtgdmcdblhpdlmaaChanOkI

import Derived.Test.YtgdmcdblhpdlmaaChanCopy

namespace Go.Proofs.Ytgdmcdblhpdlmaa
set_option linter.unusedSimpArgs false
set_option linter.unusedVariables false
open Go.RowKit

def ofG (g : Int) (d : DWaiter) : Bool := decide (d.fG = g)
/-- The others. -/
def dropW (g : Int) (l : List DWaiter) : List DWaiter := l.filter fun d => !ofG g d
abbrev wc (d : DWaiter) : List Value := [.int .i64 d.fG, .int .i64 d.fCase, .int .i64 d.fVal]
theorem seen_three (w : World) (a b c : Value) (t : TypeId) : Seen (w.alloc (.cells #[a, b, c] t)) (w.heap.size + 1) 3 (some ⟨w.heap.size, 0, none⟩) 1 [a, b, c] := by
  refine ⟨rfl, .inr ⟨w.heap.size, 0, rfl, by omega, fun j u hu => ?_⟩⟩
  have hx := box_new w #[a, b, c] t
  match j, hu with
  | 0, hu => simp at hu; subst hu; exact box_cell hx rfl
  | 1, hu => simp at hu; subst hu; exact box_cell hx rfl
  | 2, hu => simp at hu; subst hu; exact box_cell hx rfl
  | k + 3, hu => simp at hu
theorem filter_upto {α : Type} {q : α → Bool} {l : List α} {k : Nat} {x : α} (h : l[k]? = some x) : (l.take (k + 1)).filter q = (l.take k).filter q ++ if q x then [x] else [] := by
  rw [List.take_add_one, h, List.filter_append]
  congr 1
  cases hq : q x <;> simp [hq]

/-- A row of waiters in memory of its own. -/
def LeftW (w : World) (l : List DWaiter) (e : Ending) (w' : World) : Prop :=
  ∃ B c', e = .returned (.slice B l.length c') ∧ Own w' w.heap.size w'.heap.size 29 3 B l.length c' ((l.map wc).flatten) ∧ Below w.heap.size w w'

set_option maxRecDepth 100000 in
set_option maxHeartbeats 4000000 in
theorem withoutW_any {f : Nat} (hf : Enters f) {cap : Array Value} {p : DWaiter → Bool} {w : World} {hi n c : Nat} {A : Option Addr} {ds : List DWaiter} (h : SeenR layWaiter w hi A n ds) (hhi : hi ≤ w.heap.size) (hn : n ≤ 1048576)
    (hp : ∀ W d, Below w.heap.size w W → Calls Try.prog f (#[.agg #[.int .i64 d.fG, .int .i64 d.fCase, .int .i64 d.fVal]] ++ cap) W fun e W' => e = .returned (.bool (p d)) ∧ Below W.heap.size W W') :
    Calls Try.prog 67 #[.slice A n c, .func (.func f) #[] cap] w (LeftW w (ds.filter fun d => !p d)) := by
  obtain ⟨i0, hi0, hz0, hz1, hz2⟩ := info_parts infoWaiter
  have HL := Lib.hid h.1
  go_enter Try.func67, Try.ntmps67
  go_wp2_with fail
  go_loopw [5, 10] (fun q i wr => ∃ (k : Nat) (B : Option Addr) (c' : Nat) (done : List DWaiter), k ≤ n ∧ i = .int .i64 k ∧ q = .slice B done.length c' ∧ Hid (done = (ds.take k).filter fun d => !p d) ∧ Own wr w.heap.size wr.heap.size 29 3 B done.length c' ((done.map wc).flatten) ∧ Below w.heap.size w wr) (fun _ i _ => n - (intOf i).toNat)
  case atStart => exact ⟨0, none, 0, [], Nat.zero_le _, rfl, rfl, Lib.hid (by simp), Own.nil_ _ _ _ _ _, Below.refl _ _⟩
  case round =>
    obtain ⟨k, B, c', done, hk, rfl, rfl, HDN, hown, hb⟩ := hrel
    by_cases hlt : k < n
    · obtain ⟨hx, g, o, vs, rfl, hg, ⟨rfl, hw⟩, hcell⟩ := (h.below hb hhi).at_ hlt
      have HD := Lib.hid (List.getElem?_eq_getElem hx)
      have hz := hb.size
      have HP := Lib.hid hp
      have hdl : done.length ≤ k := by
        have h1 := HDN.out
        have h2 := List.length_filter_le (fun d => !p d) (ds.take k)
        rw [← h1, List.length_take] at h2
        omega
      generalize ds[k] = d at *
      have HT := Lib.hid (filter_upto (q := fun d => !p d) HD.out)
      have cc0 := hcell 0 _ rfl
      have cc1 := hcell 1 _ rfl
      have cc2 := hcell 2 _ rfl
      simp only [show layWaiter.size = 3 from rfl, ← Nat.add_assoc, Nat.add_zero, Nat.mul_one] at cc0 cc1 cc2
      clear hcell hw hp h
      have hal : Below wr.heap.size wr (wr.alloc (.cells #[.int .i64 d.fG, .int .i64 d.fCase, .int .i64 d.fVal] 29)) := (Below.refl _ _).alloc (Nat.le_refl _) _
      have HB := Lib.hid (hb.trans (hal.mono hz))
      have HX := Lib.hid (box_new wr #[.int .i64 d.fG, .int .i64 d.fCase, .int .i64 d.fVal] 29)
      have HO := Lib.hid (hown.below hal (Nat.le_refl _))
      clear hown hal
      go_wp2_with fail
      rw [hf, Oper.upon_enter]
      refine (HP.out _ d HB.out).mono ?_
      rintro e w1 ⟨rfl, hb1⟩
      have hz1w := hb1.size
      simp only [World.size_alloc] at hz1w
      have HB1 := Lib.hid (HB.out.trans (hb1.mono (by simp; omega)))
      have HX1 := Lib.hid (box_keep HX.out hb1 (by simp))
      have HO1 := Lib.hid ((HO.out.below hb1 (by simp)).wider (Nat.le_refl _) (show wr.heap.size ≤ w1.heap.size by omega))
      clear hb1 cc0 cc1 cc2
      cases hq : p d
      · rw [hq] at HT
        have q0 := box_cell (j := 0) HX1.out rfl
        have q1 := box_cell (j := 1) HX1.out rfl
        have q2 := box_cell (j := 2) HX1.out rfl
        have hown := HO1.out.alloc (.cells #[.int .i64 d.fG, .int .i64 d.fCase, .int .i64 d.fVal] 29)
        go_wp2_with (at_builtin; refine wpList_append_seen rfl (.tmp 18) (.tmp 20) _ rfl w.heap.size _ 29 i0 _ 3 24 Try.underlying59 hi0 hz0 hz1 hz2 rfl (by omega) B done.length c' _ rfl hown _ (some ⟨w1.heap.size, 0, none⟩) 1 1 _ rfl (seen_three w1 (.int .i64 d.fG) (.int .i64 d.fCase) (.int .i64 d.fVal) 29) (by simp [Value.oneCell']) (by simp only [maxLen]; omega) (by omega) (by simp; omega) ?_; intro B4 c4 w2 own2 hb2)
        go_roundw
        case rel =>
          refine ⟨k + 1, B4, c4, done ++ [d], by omega, by go_num, by simp, Lib.hid ?_, ?_, ?_⟩
          · rw [HT.out, ← HDN.out]; rfl
          · rw [flat_snoc_, List.length_append]
            exact own2
          · exact HB1.out.trans (((Below.refl _ _).alloc (Nat.le_refl _) _ |>.mono (by omega)).trans (hb2.mono (Nat.le_refl _)))
        case measure => simp [intOf]; omega
      · rw [hq] at HT
        go_wp2_with fail
        go_roundw
        case rel =>
          refine ⟨k + 1, B, c', done, by omega, by go_num, rfl, Lib.hid ?_, HO1.out, HB1.out⟩
          rw [HT.out, ← HDN.out]; simp
        case measure => simp [intOf]; omega
    · go_wp2_with fail
      go_ret
      obtain rfl : k = n := by omega
      have h9 := HDN.out
      rw [List.take_of_length_le (by rw [HL.out]; exact Nat.le_refl _)] at h9
      rw [← h9]
      exact ⟨B, c', rfl, hown, hb⟩

theorem isOf1_any (d : DWaiter) (g : Int) (b : Nat) (w : World) (hb : w.cell? ⟨b, 0, none⟩ = some (.int .i64 g)) (hlt : b < w.heap.size) :
    Calls Try.prog 74 #[.agg #[.int .i64 d.fG, .int .i64 d.fCase, .int .i64 d.fVal], .pointer (some ⟨b, 0, none⟩)] w fun e w' => e = .returned (.bool (ofG g d)) ∧ Below w.heap.size w w' := by
  obtain ⟨g1, q1, v1⟩ := d
  show Calls Try.prog 74 #[.agg #[.int .i64 g1, .int .i64 q1, .int .i64 v1], .pointer (some ⟨b, 0, none⟩)] w fun e w' => e = .returned (.bool (decide (g1 = g))) ∧ Below w.heap.size w w'
  go_enter Try.func74, Try.ntmps74
  go_wp2_with fail
  go_ret
  exact ⟨by first | rfl | (simp; rfl), by go_grown⟩
theorem isOf_any (g : Int) (w : World) : Calls Try.prog 68 #[.int .i64 g] w fun e w' => e = .returned (.func (.func 74) #[] #[.pointer (some ⟨w.heap.size, 0, none⟩)]) ∧ w' = w.alloc (.cells #[.int .i64 g] 3) := by
  go_enter Try.func68, Try.ntmps68
  go_wp2_with fail
  go_ret
  exact ⟨rfl, rfl⟩

set_option maxRecDepth 100000 in
set_option maxHeartbeats 2000000 in
theorem implDrop_any {w : World} {hi n c : Nat} {A : Option Addr} {ds : List DWaiter} {g : Int} (h : SeenR layWaiter w hi A n ds) (hhi : hi ≤ w.heap.size) (hn : n ≤ 1048576) :
    Calls Try.prog 38 #[.slice A n c, .int .i64 g] w (LeftW w (dropW g ds)) := by
  have hal : Below w.heap.size w (w.alloc (.cells #[.int .i64 g] 3)) := (Below.refl _ _).alloc (Nat.le_refl _) _
  have HX := Lib.hid (box_new w #[.int .i64 g] 3)
  have HW := Lib.hid (withoutW_any (c := c) (w := w.alloc (.cells #[.int .i64 g] 3)) enters_of1 (p := ofG g) (cap := #[.pointer (some ⟨w.heap.size, 0, none⟩)]) (h.below hal hhi) (by simp; omega) hn (fun W d hW => by
    exact isOf1_any d g w.heap.size W (box_cell (box_keep HX.out hW (by simp)) rfl) (by have := hW.size; simp at this; omega)))
  go_enter Try.func38, Try.ntmps38
  go_wp2_with fail
  refine (isOf_any g w).mono ?_
  rintro e w1 ⟨rfl, rfl⟩
  go_wp2_with fail
  refine HW.out.mono ?_
  rintro e w2 ⟨B, c', rfl, hown, hb⟩
  go_wp2_with fail
  go_ret
  exact ⟨B, c', rfl, hown.wider (by simp) (Nat.le_refl _), hal.trans (hb.mono (by simp))⟩

set_option maxRecDepth 100000 in
set_option maxHeartbeats 2000000 in
theorem implWaits_any {w : World} {hi n c : Nat} {A : Option Addr} {ds : List DWaiter} {g : Int} (h : SeenR layWaiter w hi A n ds) (hhi : hi ≤ w.heap.size) (hn : n ≤ 1048576) :
    Calls Try.prog 40 #[.slice A n c, .int .i64 g] w fun e w' => e = .returned (.int .i64 (ds.countP (ofG g) : Int)) ∧ Below w.heap.size w w' := by
  have hal : Below w.heap.size w (w.alloc (.cells #[.int .i64 g] 3)) := (Below.refl _ _).alloc (Nat.le_refl _) _
  have HX := Lib.hid (box_new w #[.int .i64 g] 3)
  have HW := Lib.hid (countW_any (c := c) (w := w.alloc (.cells #[.int .i64 g] 3)) enters_of1 (p := ofG g) (cap := #[.pointer (some ⟨w.heap.size, 0, none⟩)]) (h.below hal hhi) (by simp; omega) (by unfold maxLen; omega) (fun W d hW => by
    exact isOf1_any d g w.heap.size W (box_cell (box_keep HX.out hW (by simp)) rfl) (by have := hW.size; simp at this; omega)))
  go_enter Try.func40, Try.ntmps40
  go_wp2_with fail
  refine (isOf_any g w).mono ?_
  rintro e w1 ⟨rfl, rfl⟩
  go_wp2_with fail
  refine HW.out.mono ?_
  rintro e w2 ⟨rfl, hb⟩
  go_wp2_with fail
  go_ret
  exact ⟨rfl, hal.trans (hb.mono (by simp))⟩

set_option maxRecDepth 100000 in
set_option maxHeartbeats 4000000 in
theorem specDrop_any {w : World} {hi n c : Nat} {A : Option Addr} {ds : List DWaiter} {g : Int} (h : SeenR layWaiter w hi A n ds) (hhi : hi ≤ w.heap.size) (hn : n ≤ 1048576) :
    Calls Try.prog 36 #[.slice A n c, .int .i64 g] w (LeftW w (dropW g ds)) := by
  obtain ⟨i0, hi0, hz0, hz1, hz2⟩ := info_parts infoWaiter
  have HL := Lib.hid h.1
  unfold dropW
  go_enter Try.func36, Try.ntmps36
  go_wp2_with fail
  go_loopw [5, 11] (fun q i wr => ∃ (k : Nat) (B : Option Addr) (c' : Nat) (done : List DWaiter), k ≤ n ∧ i = .int .i64 k ∧ q = .slice B done.length c' ∧ Hid (done = (ds.take k).filter fun d => !ofG g d) ∧ Own wr w.heap.size wr.heap.size 29 3 B done.length c' ((done.map wc).flatten) ∧ Below w.heap.size w wr) (fun _ i _ => n - (intOf i).toNat)
  case atStart => exact ⟨0, _, 0, [], Nat.zero_le _, rfl, rfl, Lib.hid (by simp), by simpa using Own.made (size := 3) (e := 29) w #[] 0 0 (by decide) rfl (Nat.le_refl _), (Below.refl _ _).alloc (Nat.le_refl _) _⟩
  case round =>
    obtain ⟨k, B, c', done, hk, rfl, rfl, HDN, hown, hb⟩ := hrel
    by_cases hlt : k < n
    · obtain ⟨hx, g0, o, vs, rfl, hg, ⟨rfl, hw⟩, hcell⟩ := (h.below hb hhi).at_ hlt
      have HD := Lib.hid (List.getElem?_eq_getElem hx)
      have hz := hb.size
      have hdl : done.length ≤ k := by
        have h1 := HDN.out
        have h2 := List.length_filter_le (fun d => !ofG g d) (ds.take k)
        rw [← h1, List.length_take] at h2
        omega
      generalize ds[k] = d at *
      have HT := Lib.hid (filter_upto (q := fun d => !ofG g d) HD.out)
      have cc0 := hcell 0 _ rfl
      have cc1 := hcell 1 _ rfl
      have cc2 := hcell 2 _ rfl
      simp only [show layWaiter.size = 3 from rfl, ← Nat.add_assoc, Nat.add_zero, Nat.mul_one] at cc0 cc1 cc2
      clear hcell hw h
      have hal : Below wr.heap.size wr (wr.alloc (.cells #[.int .i64 d.fG, .int .i64 d.fCase, .int .i64 d.fVal] 29)) := (Below.refl _ _).alloc (Nat.le_refl _) _
      have HB := Lib.hid (hb.trans (hal.mono hz))
      have HO := Lib.hid ((hown.below hal (Nat.le_refl _)).wider (Nat.le_refl _) (show wr.heap.size ≤ (wr.alloc (.cells #[.int .i64 d.fG, .int .i64 d.fCase, .int .i64 d.fVal] 29)).heap.size by simp))
      clear hown
      by_cases hq : d.fG = g
      · have hqq : ofG g d = true := decide_eq_true hq
        rw [hqq] at HT
        subst hq
        go_wp2_with fail
        go_roundw
        case rel =>
          refine ⟨k + 1, B, c', done, by omega, by go_num, rfl, Lib.hid ?_, HO.out, HB.out⟩
          rw [HT.out, ← HDN.out]; simp
        case measure => simp [intOf]; omega
      · have hqq : ofG g d = false := decide_eq_false hq
        rw [hqq] at HT
        have hne : (d.fG != g) = true := by simpa using hq
        have hown := HO.out.alloc (.cells #[.int .i64 d.fG, .int .i64 d.fCase, .int .i64 d.fVal] 29)
        have hzz : (wr.alloc (.cells #[.int .i64 d.fG, .int .i64 d.fCase, .int .i64 d.fVal] 29)).heap.size = wr.heap.size + 1 := by simp
        have HS3 := Lib.hid (seen_three (wr.alloc (.cells #[.int .i64 d.fG, .int .i64 d.fCase, .int .i64 d.fVal] 29)) (.int .i64 d.fG) (.int .i64 d.fCase) (.int .i64 d.fVal) 29)
        rw [hzz] at HS3
        have HZ := Lib.hid hzz
        clear hzz
        go_wp2_with (at_builtin; refine wpList_append_seen rfl (.tmp 19) (.tmp 21) _ rfl w.heap.size _ 29 i0 _ 3 24 Try.underlying24 hi0 hz0 hz1 hz2 rfl (by omega) B done.length c' _ rfl hown _ (some ⟨wr.heap.size + 1, 0, none⟩) 1 1 _ rfl HS3.out (by simp [Value.oneCell']) (by simp only [maxLen]; omega) (by omega) (by simp; omega) ?_; intro B4 c4 w2 own2 hb2)
        go_roundw
        case rel =>
          refine ⟨k + 1, B4, c4, done ++ [d], by omega, by go_num, by simp, Lib.hid ?_, ?_, ?_⟩
          · rw [HT.out, ← HDN.out]; rfl
          · rw [flat_snoc_, List.length_append]
            exact own2
          · exact HB.out.trans (((Below.refl _ _).alloc (Nat.le_refl _) _ |>.mono (by have := HZ.out; omega)).trans (hb2.mono (Nat.le_refl _)))
        case measure => simp [intOf]; omega
    · go_wp2_with fail
      go_ret
      obtain rfl : k = n := by omega
      have h9 := HDN.out
      rw [List.take_of_length_le (by rw [HL.out]; exact Nat.le_refl _)] at h9
      rw [← h9]
      exact ⟨B, c', rfl, hown, hb⟩

theorem drop_count (g : Int) (l : List DWaiter) : (dropW g l).length + l.countP (ofG g) = l.length := by
  induction l with
  | nil => rfl
  | cons d l ih =>
    unfold dropW at *
    rw [List.countP_cons]
    cases hq : ofG g d <;> simp [hq] <;> omega

set_option maxRecDepth 100000 in
set_option maxHeartbeats 2000000 in
theorem specWaits_any {w : World} {hi n c : Nat} {A : Option Addr} {ds : List DWaiter} {g : Int} (h : SeenR layWaiter w hi A n ds) (hhi : hi ≤ w.heap.size) (hn : n ≤ 1048576) :
    Calls Try.prog 39 #[.slice A n c, .int .i64 g] w fun e w' => e = .returned (.int .i64 (ds.countP (ofG g) : Int)) ∧ Below w.heap.size w w' := by
  have HD := Lib.hid (specDrop_any (c := c) (g := g) h hhi hn)
  have HC := drop_count g ds
  have hl := h.1
  rw [hl] at HC
  generalize hm : (dropW g ds).length = m at *
  generalize hk : ds.countP (ofG g) = k at *
  have HM := Lib.hid hm
  clear h hm hk hl
  go_enter Try.func39, Try.ntmps39
  go_wp2_with fail
  refine HD.out.mono ?_
  rintro e w2 ⟨B, c', rfl, hown, hb⟩
  rw [HM.out]
  have hs : (n : Int) - (m : Int) = (k : Int) := by omega
  go_wp2_with fail
  go_ret
  exact ⟨by first | (rw [hs]; rfl) | go_num | simp [hs], hb⟩
end Go.Proofs.Ytgdmcdblhpdlmaa
