
/- Ready and Asleep: the numbers of the goroutines in a state, the model's and the program's. Laid by wip/gen9/states.py. -/

import Derived.Test.YtgfkadhojlddpaaStatesM

import Derived.Test.YtgfkadhojlddpaaAnsR

namespace Go.Proofs.Ytgfkadhojlddpaa
set_option linter.unusedSimpArgs false
set_option linter.unusedVariables false
open Go.RowKit

theorem flatI (xs : List Int) : (xs.map fun z => [Value.int .i64 z]).flatten = xs.map (Value.int .i64) := by
  induction xs with
  | nil => rfl
  | cons x xs ih => simp only [List.map_cons, List.flatten_cons, ih]; rfl
theorem own_rowI {w : World} {lo hi : Nat} {t : TypeId} {A : Option Addr} {c : Nat} {r : List Int} (h : Own w lo hi t 1 A r.length c (r.map (Value.int .i64))) (hw : ∀ z ∈ r, (Lit.int .i64 z).wf = true) : OwnR Lay.int t w (fun g => lo ≤ g ∧ g < hi) A r.length c r :=
  ownR_flat (cells := fun z => [.int .i64 z]) (by rw [flatI]; exact h) rfl hw

set_option maxRecDepth 100000 in
set_option maxHeartbeats 4000000 in
theorem implInState_any {w : World} {hi : Nat} {x : DEng} {vs : List Value} (h : layEng.see w hi x vs) (hhi : hi ≤ w.heap.size) (hn : szEng x ≤ 1048576) (st : Int) :
    Calls Try.prog 23 #[.agg vs.toArray, .int .i64 st] w (MadeRow Lay.int 3 w (statesL x st)) := by
  obtain ⟨i0, hi0, iz0, iz1, iz2⟩ := info_parts int_info
  obtain ⟨A0, n0, c0, A1, n1, c1, A2, n2, c2, rfl, ⟨hc0, hm0, s0⟩, -, -⟩ := seeEng h
  obtain ⟨gs, cs, ms⟩ := x
  have HL := Lib.hid s0.1
  have hn0 : n0 ≤ 1048576 := by have := s0.1; unfold szEng at hn; simp only at hn this; omega
  unfold statesL
  simp only at s0 HL ⊢
  have HX0 := Lib.hid (box_new w #[.slice A0 n0 c0, .slice A1 n1 c1, .slice A2 n2 c2] 34)
  have HB0 := Lib.hid (show Below w.heap.size w (w.alloc (.cells #[.slice A0 n0 c0, .slice A1 n1 c1, .slice A2 n2 c2] 34)) from (Below.refl _ _).alloc (Nat.le_refl _) _)
  clear h hn
  go_enter Try.func23, Try.ntmps23
  go_wp2_with fail
  go_loopw [5, 11] (fun q i wr => ∃ (k : Nat) (B : Option Addr) (c' : Nat) (done : List Int), k ≤ n0 ∧ i = .int .i64 k ∧ q = .slice B done.length c' ∧ Hid (done = statesTo gs st k) ∧ Own wr w.heap.size wr.heap.size 3 1 B done.length c' (done.map (Value.int .i64)) ∧ w.heap.size + 1 ≤ wr.heap.size ∧ Below w.heap.size w wr) (fun _ i _ => n0 - (intOf i).toNat)
  case atStart => exact ⟨0, none, 0, [], Nat.zero_le _, rfl, rfl, Lib.hid rfl, Own.nil_ _ _ _ _ _, by simp, HB0.out⟩
  case round =>
    obtain ⟨k, B, c', done, hk, rfl, rfl, HDN, hown, hz, hb⟩ := hrel
    by_cases hlt : k < n0
    · obtain ⟨hx, g, o, vs, rfl, hg, hsee, hcell⟩ := (s0.below hb hhi).at_ hlt
      have HD := Lib.hid (List.getElem?_eq_getElem hx)
      have hdl : done.length ≤ k := by rw [HDN.out]; exact statesTo_len _ _ _
      generalize gs[k] = d at *
      have HT := Lib.hid (statesTo_step (st := st) HD.out)
      obtain ⟨E2, m2, e2, E4, m4, e4, rfl, -, -, -, -, -⟩ := seeGor hsee
      have cc0 := hcell 0 _ rfl
      have cc1 := hcell 1 _ rfl
      have cc2 := hcell 2 _ rfl
      have cc3 := hcell 3 _ rfl
      have cc4 := hcell 4 _ rfl
      simp only [show layGor.size = 5 from rfl, ← Nat.add_assoc, Nat.add_zero, Nat.mul_one] at cc0 cc1 cc2 cc3 cc4
      clear hcell hsee HD
      have HO := Lib.hid (hown.alloc (.cells #[.int .i64 d.fProc, .int .i64 d.fPc, .slice E2 m2 e2, .int .i64 d.fState, .slice E4 m4 e4] 67))
      have HB := Lib.hid (hb.trans (((Below.refl wr.heap.size wr).alloc (Nat.le_refl _) (.cells #[.int .i64 d.fProc, .int .i64 d.fPc, .slice E2 m2 e2, .int .i64 d.fState, .slice E4 m4 e4] 67)).mono hb.size))
      clear hown
      by_cases hq : d.fState = st
      · rw [if_pos hq] at HT
        have hqe : (d.fState == st) = true := by simp [hq]
        clear hq
        have hs1 := Seen.one (wr.alloc (.cells #[.int .i64 d.fProc, .int .i64 d.fPc, .slice E2 m2 e2, .int .i64 d.fState, .slice E4 m4 e4] 67)) (.int .i64 (k : Int)) 3
        simp only [World.size_alloc] at hs1
        have hownA := HO.out.alloc (.cells #[.int .i64 (k : Int)] 3)
        go_wp2_with (at_builtin; refine wpList_append_seen rfl (.tmp 20) (.tmp 22) _ rfl w.heap.size _ 3 i0 _ 1 8 Try.underlying28 hi0 iz0 iz1 iz2 rfl (by omega) B done.length c' _ rfl hownA _ _ 1 1 _ rfl hs1 (by simp [Value.oneCell']) (by simp only [maxLen]; omega) (by omega) (by simp; omega) ?_; intro B4 c4 w2 own2 hb2)
        go_roundw
        case rel =>
          refine ⟨k + 1, B4, c4, done ++ [(k : Int)], by omega, by go_num, by simp, Lib.hid ?_, ?_, ?_, ?_⟩
          · rw [HT.out, ← HDN.out]
          · rw [List.map_append, List.length_append]
            exact own2
          · have := hb2.size; simp at this; omega
          · exact HB.out.trans (((Below.refl _ _).alloc (by simp; omega) _).trans hb2)
        case measure => simp [intOf]; omega
      · rw [if_neg hq] at HT
        have hqe : (d.fState == st) = false := by simp [hq]
        go_wp2_with fail
        go_roundw
        case rel =>
          refine ⟨k + 1, B, c', done, by omega, by go_num, rfl, Lib.hid ?_, HO.out.wider (Nat.le_refl _) (by simp), by simp; omega, HB.out⟩
          rw [HT.out, ← HDN.out]; simp
        case measure => simp [intOf]; omega
    · obtain rfl : k = n0 := by omega
      have h9 := HDN.out
      go_wp2_with fail
      go_ret
      rw [HL.out, ← h9]
      exact ⟨B, c', rfl, own_rowI hown (fun z hz => by rw [h9] at hz; have := statesTo_mem hz; exact WalkArith.wf_i64 (by omega)), hb⟩

set_option maxRecDepth 100000 in
set_option maxHeartbeats 4000000 in
theorem specStates_any {w : World} {hi : Nat} {x : DEng} {vs : List Value} (h : layEng.see w hi x vs) (hhi : hi ≤ w.heap.size) (hn : szEng x ≤ 1048576) (st : Int) :
    Calls Try.prog 19 #[.agg vs.toArray, .int .i64 st] w (MadeRow Lay.int 3 w (statesL x st)) := by
  obtain ⟨i0, hi0, iz0, iz1, iz2⟩ := info_parts int_info
  obtain ⟨A0, n0, c0, A1, n1, c1, A2, n2, c2, rfl, ⟨hc0, hm0, s0⟩, -, -⟩ := seeEng h
  obtain ⟨gs, cs, ms⟩ := x
  have HL := Lib.hid s0.1
  have hn0 : n0 ≤ 1048576 := by have := s0.1; unfold szEng at hn; simp only at hn this; omega
  unfold statesL
  simp only at s0 HL ⊢
  have HX0 := Lib.hid (box_new w #[.slice A0 n0 c0, .slice A1 n1 c1, .slice A2 n2 c2] 34)
  have HB0 := Lib.hid (show Below w.heap.size w (w.alloc (.cells #[.slice A0 n0 c0, .slice A1 n1 c1, .slice A2 n2 c2] 34)) from (Below.refl _ _).alloc (Nat.le_refl _) _)
  clear h hn
  go_enter Try.func19, Try.ntmps19
  go_wp2_with fail
  go_loopw [5, 12] (fun q i wr => ∃ (k : Nat) (B : Option Addr) (c' : Nat) (done : List Int), k ≤ n0 ∧ i = .int .i64 k ∧ q = .slice B done.length c' ∧ Hid (done = statesTo gs st k) ∧ Own wr w.heap.size wr.heap.size 3 1 B done.length c' (done.map (Value.int .i64)) ∧ w.heap.size + 1 ≤ wr.heap.size ∧ Below w.heap.size w wr) (fun _ i _ => n0 - (intOf i).toNat)
  case atStart => 
    have h9 := Own.made (size := 1) (e := 3) (w.alloc (.cells #[.slice A0 n0 c0, .slice A1 n1 c1, .slice A2 n2 c2] 34)) #[] 0 0 (by decide) rfl (Nat.le_refl _)
    have h8 := h9.wider (lo' := w.heap.size) (by simp) (Nat.le_refl _)
    exact ⟨0, _, 0, [], Nat.zero_le _, rfl, rfl, Lib.hid rfl, by simpa using h8, by simp, HB0.out.trans ((Below.refl _ _).alloc (by simp) _)⟩
  case round =>
    obtain ⟨k, B, c', done, hk, rfl, rfl, HDN, hown, hz, hb⟩ := hrel
    by_cases hlt : k < n0
    · obtain ⟨hx, g, o, vs, rfl, hg, hsee, hcell⟩ := (s0.below hb hhi).at_ hlt
      have HD := Lib.hid (List.getElem?_eq_getElem hx)
      have hdl : done.length ≤ k := by rw [HDN.out]; exact statesTo_len _ _ _
      generalize gs[k] = d at *
      have HT := Lib.hid (statesTo_step (st := st) HD.out)
      obtain ⟨E2, m2, e2, E4, m4, e4, rfl, -, -, -, -, -⟩ := seeGor hsee
      have cc0 := hcell 0 _ rfl
      have cc1 := hcell 1 _ rfl
      have cc2 := hcell 2 _ rfl
      have cc3 := hcell 3 _ rfl
      have cc4 := hcell 4 _ rfl
      simp only [show layGor.size = 5 from rfl, ← Nat.add_assoc, Nat.add_zero, Nat.mul_one] at cc0 cc1 cc2 cc3 cc4
      clear hcell hsee HD
      have HO := Lib.hid (hown.alloc (.cells #[.int .i64 d.fProc, .int .i64 d.fPc, .slice E2 m2 e2, .int .i64 d.fState, .slice E4 m4 e4] 67))
      have HB := Lib.hid (hb.trans (((Below.refl wr.heap.size wr).alloc (Nat.le_refl _) (.cells #[.int .i64 d.fProc, .int .i64 d.fPc, .slice E2 m2 e2, .int .i64 d.fState, .slice E4 m4 e4] 67)).mono hb.size))
      clear hown
      by_cases hq : d.fState = st
      · rw [if_pos hq] at HT
        have hqe : (d.fState == st) = true := by simp [hq]
        clear hq
        have hs1 := Seen.one (wr.alloc (.cells #[.int .i64 d.fProc, .int .i64 d.fPc, .slice E2 m2 e2, .int .i64 d.fState, .slice E4 m4 e4] 67)) (.int .i64 (k : Int)) 3
        simp only [World.size_alloc] at hs1
        have hownA := HO.out.alloc (.cells #[.int .i64 (k : Int)] 3)
        go_wp2_with (at_builtin; refine wpList_append_seen rfl (.tmp 21) (.tmp 23) _ rfl w.heap.size _ 3 i0 _ 1 8 Try.underlying28 hi0 iz0 iz1 iz2 rfl (by omega) B done.length c' _ rfl hownA _ _ 1 1 _ rfl hs1 (by simp [Value.oneCell']) (by simp only [maxLen]; omega) (by omega) (by simp; omega) ?_; intro B4 c4 w2 own2 hb2)
        go_roundw
        case rel =>
          refine ⟨k + 1, B4, c4, done ++ [(k : Int)], by omega, by go_num, by simp, Lib.hid ?_, ?_, ?_, ?_⟩
          · rw [HT.out, ← HDN.out]
          · rw [List.map_append, List.length_append]
            exact own2
          · have := hb2.size; simp at this; omega
          · exact HB.out.trans (((Below.refl _ _).alloc (by simp; omega) _).trans hb2)
        case measure => simp [intOf]; omega
      · rw [if_neg hq] at HT
        have hqe : (d.fState == st) = false := by simp [hq]
        go_wp2_with fail
        go_roundw
        case rel =>
          refine ⟨k + 1, B, c', done, by omega, by go_num, rfl, Lib.hid ?_, HO.out.wider (Nat.le_refl _) (by simp), by simp; omega, HB.out⟩
          rw [HT.out, ← HDN.out]; simp
        case measure => simp [intOf]; omega
    · obtain rfl : k = n0 := by omega
      have h9 := HDN.out
      go_wp2_with fail
      go_ret
      rw [HL.out, ← h9]
      exact ⟨B, c', rfl, own_rowI hown (fun z hz => by rw [h9] at hz; have := statesTo_mem hz; exact WalkArith.wf_i64 (by omega)), hb⟩

set_option maxRecDepth 100000 in
set_option maxHeartbeats 1000000 in
theorem implReady_any {w : World} {hi : Nat} {x : DEng} {vs : List Value} (h : layEng.see w hi x vs) (hhi : hi ≤ w.heap.size) (hn : szEng x ≤ 1048576) :
    Calls Try.prog 8 #[.agg vs.toArray] w (MadeRow Lay.int 3 w (statesL x 1)) := by
  obtain ⟨A0, n0, c0, A1, n1, c1, A2, n2, c2, rfl, -, -, -⟩ := seeEng h
  have hb0 : Below w.heap.size w (w.alloc (.cells #[.slice A0 n0 c0, .slice A1 n1 c1, .slice A2 n2 c2] 34)) := (Below.refl _ _).alloc (Nat.le_refl _) _
  have HI := Lib.hid (implInState_any (layEng.keep h fun k hk => hb0.block k (by omega)) (by simp; omega) hn 1)
  clear h
  go_enter Try.func8, Try.ntmps8
  go_wp2_with fail
  refine HI.out.mono ?_
  rintro e w1 ⟨A, c, rfl, own1, hb1⟩
  go_wp2_with fail
  go_ret
  exact ⟨A, c, rfl, own1.wide (fun g hg => ⟨by have := hg.1; simp at this; omega, hg.2⟩), hb0.trans (hb1.mono (by simp))⟩

set_option maxRecDepth 100000 in
set_option maxHeartbeats 1000000 in
theorem implAsleep_any {w : World} {hi : Nat} {x : DEng} {vs : List Value} (h : layEng.see w hi x vs) (hhi : hi ≤ w.heap.size) (hn : szEng x ≤ 1048576) :
    Calls Try.prog 15 #[.agg vs.toArray] w (MadeRow Lay.int 3 w (statesL x 2)) := by
  obtain ⟨A0, n0, c0, A1, n1, c1, A2, n2, c2, rfl, -, -, -⟩ := seeEng h
  have hb0 : Below w.heap.size w (w.alloc (.cells #[.slice A0 n0 c0, .slice A1 n1 c1, .slice A2 n2 c2] 34)) := (Below.refl _ _).alloc (Nat.le_refl _) _
  have HI := Lib.hid (implInState_any (layEng.keep h fun k hk => hb0.block k (by omega)) (by simp; omega) hn 2)
  clear h
  go_enter Try.func15, Try.ntmps15
  go_wp2_with fail
  refine HI.out.mono ?_
  rintro e w1 ⟨A, c, rfl, own1, hb1⟩
  go_wp2_with fail
  go_ret
  exact ⟨A, c, rfl, own1.wide (fun g hg => ⟨by have := hg.1; simp at this; omega, hg.2⟩), hb0.trans (hb1.mono (by simp))⟩

set_option maxRecDepth 100000 in
set_option maxHeartbeats 1000000 in
theorem specReady_any {w : World} {hi : Nat} {x : DEng} {vs : List Value} (h : layEng.see w hi x vs) (hhi : hi ≤ w.heap.size) (hn : szEng x ≤ 1048576) :
    Calls Try.prog 6 #[.agg vs.toArray] w (MadeRow Lay.int 3 w (statesL x 1)) := by
  obtain ⟨A0, n0, c0, A1, n1, c1, A2, n2, c2, rfl, -, -, -⟩ := seeEng h
  have hb0 : Below w.heap.size w (w.alloc (.cells #[.slice A0 n0 c0, .slice A1 n1 c1, .slice A2 n2 c2] 34)) := (Below.refl _ _).alloc (Nat.le_refl _) _
  have HI := Lib.hid (specStates_any (layEng.keep h fun k hk => hb0.block k (by omega)) (by simp; omega) hn 1)
  clear h
  go_enter Try.func6, Try.ntmps6
  go_wp2_with fail
  refine HI.out.mono ?_
  rintro e w1 ⟨A, c, rfl, own1, hb1⟩
  go_wp2_with fail
  go_ret
  exact ⟨A, c, rfl, own1.wide (fun g hg => ⟨by have := hg.1; simp at this; omega, hg.2⟩), hb0.trans (hb1.mono (by simp))⟩

set_option maxRecDepth 100000 in
set_option maxHeartbeats 1000000 in
theorem specAsleep_any {w : World} {hi : Nat} {x : DEng} {vs : List Value} (h : layEng.see w hi x vs) (hhi : hi ≤ w.heap.size) (hn : szEng x ≤ 1048576) :
    Calls Try.prog 14 #[.agg vs.toArray] w (MadeRow Lay.int 3 w (statesL x 2)) := by
  obtain ⟨A0, n0, c0, A1, n1, c1, A2, n2, c2, rfl, -, -, -⟩ := seeEng h
  have hb0 : Below w.heap.size w (w.alloc (.cells #[.slice A0 n0 c0, .slice A1 n1 c1, .slice A2 n2 c2] 34)) := (Below.refl _ _).alloc (Nat.le_refl _) _
  have HI := Lib.hid (specStates_any (layEng.keep h fun k hk => hb0.block k (by omega)) (by simp; omega) hn 2)
  clear h
  go_enter Try.func14, Try.ntmps14
  go_wp2_with fail
  refine HI.out.mono ?_
  rintro e w1 ⟨A, c, rfl, own1, hb1⟩
  go_wp2_with fail
  go_ret
  exact ⟨A, c, rfl, own1.wide (fun g hg => ⟨by have := hg.1; simp at this; omega, hg.2⟩), hb0.trans (hb1.mono (by simp))⟩
end Go.Proofs.Ytgfkadhojlddpaa
