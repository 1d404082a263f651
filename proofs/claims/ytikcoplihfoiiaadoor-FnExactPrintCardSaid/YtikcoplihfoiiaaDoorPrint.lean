
/- The contracts of Print, the program's and the model's. -/

import Derived.Test.YtikcoplihfoiiaaDoorNumsL

import Derived.Test.YtikcoplihfoiiaaDoorPutZig

import Derived.Test.YtikcoplihfoiiaaDoorCrc

namespace Go.Proofs.YtikcoplihfoiiaaDoor
set_option linter.unusedSimpArgs false
set_option linter.unusedVariables false
open Go.RowKit

/-- The bytes of a number by itself. -/
def zigB (n : Int) : List UInt8 := (putZig [] n).1
def zigs (l : List Int) : List UInt8 := l.flatMap zigB
def printZ (p : DProg) : Int := if progOkB p then ((crc (zigs (progNums p)) : Nat) : Int) else -1

theorem putZig_in {bs : List UInt8} {n : Int} (h : -2147483648 ≤ n ∧ n ≤ 2147483647) : putZig bs n = (bs ++ zigB n, true) := by
  have h2 : 0 ≤ (if 0 ≤ n then 2 * n else -2 * n - 1) ∧ (if 0 ≤ n then 2 * n else -2 * n - 1) ≤ 4294967295 := by split <;> omega
  unfold zigB putZig
  rw [if_pos h, if_pos h]
  unfold putVar
  rw [if_pos h2, if_pos h2]
  rfl
theorem zigB_len (n : Int) : (zigB n).length ≤ 5 := by
  have := putZig_len [] n
  simpa [zigB] using this
theorem zigs_len (l : List Int) : (zigs l).length ≤ 5 * l.length := by
  induction l with
  | nil => simp [zigs]
  | cons x l ih =>
    have := zigB_len x
    simp only [zigs, List.flatMap_cons, List.length_append, List.length_cons] at ih ⊢
    omega
theorem zigs_next {l : List Int} {k : Nat} {z : Int} (h : l[k]? = some z) : zigs (l.take (k + 1)) = zigs (l.take k) ++ zigB z := by
  unfold zigs
  rw [List.take_add_one, h]
  simp

/-- What an instruction that may stand names is small. -/
theorem instr_small {n0 n2 n3 : Nat} {mus n op a b c : Int} (h : instrOkB n0 n2 n3 mus n op a b c = true) (h0 : n0 ≤ 6) (h2 : n2 ≤ 6) (h3 : n3 ≤ 6) (hm : mus ≤ 4) (hn : n ≤ 40) :
    (1 ≤ op ∧ op ≤ 15) ∧ (-1 ≤ a ∧ a ≤ 999) ∧ (-1 ≤ b ∧ b ≤ 999) ∧ (-1 ≤ c ∧ c ≤ 999) := by
  by_cases hop : 1 ≤ op ∧ op ≤ 15
  · refine ⟨hop, ?_⟩
    rcases op_cases hop with rfl | rfl | rfl | rfl | rfl | rfl | rfl | rfl | rfl | rfl | rfl | rfl | rfl | rfl | rfl
    all_goals
      simp [instrOkB, restB, inB, regB, valB] at h
      omega
  · have : instrOkB n0 n2 n3 mus n op a b c = false := by
      unfold instrOkB
      repeat rw [if_neg (by omega)]
    rw [this] at h
    cases h

theorem nums_small {p : DProg} (h : progOkB p = true) : ∀ z ∈ progNums p, -1 ≤ z ∧ z ≤ 999 := by
  rw [progOkB_parts] at h
  simp only [capsB, selsB, procsB, Bool.and_eq_true, decide_eq_true_eq, List.all_eq_true] at h
  obtain ⟨⟨h1, hc⟩, hm0, hm4, ⟨h2, h3⟩, ⟨h4, h5⟩, h6⟩ := h
  have hsels : ∀ s ∈ p.fSels, ∀ z ∈ selNums s, -1 ≤ z ∧ z ≤ 999 := fun s hs z hz => by
    have ht := h3 s hs
    simp only [selTopB, Bool.and_eq_true, decide_eq_true_eq] at ht
    obtain ⟨hl, _, hb⟩ := ht
    unfold selectB at hb
    rw [Bool.and_eq_true, List.all_eq_true] at hb
    obtain ⟨hb1, hb2⟩ := hb
    rw [selNums, List.mem_cons, List.mem_append, List.mem_flatMap] at hz
    rcases hz with rfl | ⟨x, hx, hz⟩ | hz
    · omega
    · obtain ⟨k, hk⟩ := List.getElem?_of_mem hx
      have h7 := hb1 k (List.mem_range.2 (List.getElem?_eq_some_iff.1 hk).1)
      unfold caseAt at h7
      rw [hk] at h7
      simp only [Bool.and_eq_true] at h7
      have h8 := h7.1
      simp only [caseB, inB, regB, Bool.and_eq_true, decide_eq_true_eq] at h8
      simp only [caseNums, List.mem_cons, List.not_mem_nil, or_false] at hz
      rcases hz with rfl | rfl | rfl | rfl | rfl
      · split <;> omega
      all_goals omega
    · rw [List.mem_singleton] at hz
      subst hz
      simp only [inB, decide_eq_true_eq] at hb2
      omega
  have hprocs : ∀ s ∈ p.fProcs, ∀ z ∈ codeNums s.fCode, -1 ≤ z ∧ z ≤ 999 := fun s hs z hz => by
    have ht := h6 s hs
    simp only [procB, Bool.and_eq_true, decide_eq_true_eq, List.all_eq_true] at ht
    obtain ⟨hl, hb, _⟩ := ht
    rw [codeNums, List.mem_cons, List.mem_flatMap] at hz
    rcases hz with rfl | ⟨x, hx, hz⟩
    · omega
    · have h7 := hb x hx
      simp only [stepB, Bool.and_eq_true] at h7
      have h8 := instr_small (by exact h7.1) h1 h2 h5 hm4 (by omega)
      simp only [instrNums, List.mem_cons, List.not_mem_nil, or_false] at hz
      rcases hz with rfl | rfl | rfl | rfl
      all_goals omega
  intro z hz
  unfold progNums at hz
  rw [List.mem_append, List.mem_append, List.mem_append, List.mem_append] at hz
  rcases hz with (((hz | hz) | hz) | hz) | hz
  · rcases List.mem_cons.1 hz with rfl | hz
    · omega
    · have := hc z hz
      simp only [capB, decide_eq_true_eq] at this
      omega
  · simp only [List.mem_cons, List.not_mem_nil, or_false] at hz
    rcases hz with rfl | rfl
    · omega
    · omega
  · obtain ⟨s, hs, hz⟩ := List.mem_flatMap.1 hz
    exact hsels s hs z hz
  · rw [List.mem_singleton] at hz
    subst hz
    omega
  · obtain ⟨s, hs, hz⟩ := List.mem_flatMap.1 hz
    exact hprocs s hs z hz

set_option maxRecDepth 100000 in
set_option maxHeartbeats 2000000 in
theorem specPrint_any {w : World} {hi : Nat} {p : DProg} {vs : List Value} (h : layProg.see w hi p vs) (hhi : hi ≤ w.heap.size) (hsz : szProg p ≤ 1048576) :
    Calls Tryd.prog 17 #[.agg vs.toArray] w fun e w' => e = .returned (.int .i64 (printZ p)) ∧ Below w.heap.size w w' := by
  obtain ⟨A0, n0, c0, A2, n2, c2, A3, n3, c3, rfl, -⟩ := seeProg h
  have hbw0 : Below w.heap.size w (w.alloc (.cells #[.slice A0 n0 c0, .int .i64 p.fMus, .slice A2 n2 c2, .slice A3 n3 c3] 32)) := (Below.refl _ _).alloc (Nat.le_refl _) _
  have HOK := Lib.hid (specProgOk_any (w := w.alloc (.cells #[.slice A0 n0 c0, .int .i64 p.fMus, .slice A2 n2 c2, .slice A3 n3 c3] 32)) (layProg.keep h fun k hk => hbw0.block k (by omega)) (by simp; omega) hsz)
  have HNM := Lib.hid (fun (W : World) (hW : Below w.heap.size w W) => specProgNums_any (w := W) (layProg.keep h fun k hk => hW.block k (by omega)) (by have := hW.size; omega) hsz)
  have hl : w.heap.size < w.heap.size + 1 := by omega
  clear h
  go_enter Tryd.func17, Tryd.ntmps17
  go_wp2_with fail
  refine HOK.out.mono ?_
  rintro e w1 ⟨rfl, hb1⟩
  have hB1 : Below (w.heap.size + 1) (w.alloc (.cells #[.slice A0 n0 c0, .int .i64 p.fMus, .slice A2 n2 c2, .slice A3 n3 c3] 32)) w1 := hb1.mono (by simp)
  obtain ⟨hcl1, hfz1⟩ := bcell hB1
  have z1 := hB1.size
  simp only [World.size_alloc] at z1
  have hl1 : w.heap.size < w1.heap.size := by omega
  have hW1 : Below w.heap.size w w1 := hbw0.trans (hB1.mono (by omega))
  clear hb1
  cases tp : progOkB p
  · have hpz := Lib.hid (show printZ p = -1 by rw [printZ, tp]; rfl)
    go_wp2_with fail
    go_ret
    exact ⟨by rw [hpz.out]; rfl, hW1⟩
  · have hpz := Lib.hid (show printZ p = ((crc (zigs (numsB p)) : Nat) : Int) by rw [printZ, numsB, tp]; rfl)
    have hsm := Lib.hid (show ∀ z ∈ numsB p, -1 ≤ z ∧ z ≤ 999 by rw [numsB, tp]; exact nums_small tp)
    have hNL := Lib.hid (numsB_len p)
    have hem : Below w.heap.size w (w1.alloc (.cells #[] 5)) := hW1.alloc (by omega) _
    generalize numsB p = nl at HNM hpz hsm hNL
    go_wp2_with fail
    refine (HNM.out _ (by first | exact hem | exact hW1)).mono ?_
    rintro e w2 ⟨Y, m, d, rfl, own2, hb2⟩
    have hW2 : Below w.heap.size w w2 := by first | exact hem.trans (hb2.mono (by simp; omega)) | exact hW1.trans (hb2.mono (by omega))
    have e2 := Lib.hid (own_len own2)
    have l2 : m ≤ 2000 := by have := e2.out; have := hNL.out; omega
    have hs2 := own2.seen
    have HS2 := Lib.hid hs2
    have hzw2 : w1.heap.size ≤ w2.heap.size := by have := hb2.size; simp at this; omega
    clear own2 hs2 hb2 hcl1 hfz1
    go_wp2_with fail
    go_loopw [3, 13] (fun v i wr => ∃ A' n' c' k, k ≤ m ∧ v = .slice A' n' c' ∧ i = .int .i64 ((k : Nat) : Int) ∧ Seen wr wr.heap.size 1 A' n' ((zigs (nl.take k)).map B) ∧ Below w2.heap.size w2 wr) (fun _ i _ => m - (intOf i).toNat)
    case atStart => exact ⟨_, _, _, 0, Nat.zero_le _, rfl, rfl, by simpa [zigs] using Seen.nil_, Below.refl _ _⟩
    case round =>
      obtain ⟨A', n', c', k, hk, rfl, rfl, hseen, hb⟩ := hrel
      have hbs := hb.size
      have hn' : n' ≤ 10000 := by
        have h1 := hseen.len
        have h2 := zigs_len (nl.take k)
        have h3 : (nl.take k).length ≤ k := by rw [List.length_take]; omega
        simp at h1
        omega
      by_cases hlt : k < m
      · obtain ⟨g, o, u, rfl, hg, hu, cc⟩ := (HS2.out.below hb (Nat.le_refl _)).at_ (j := k) (by omega)
        rw [List.getElem?_map] at hu
        obtain ⟨z, hz, rfl⟩ := Option.map_eq_some_iff.1 hu
        have hr := hsm.out z (List.mem_of_getElem? hz)
        have hnx := Lib.hid (zigs_next hz)
        have hpg := Lib.hid (putZig_in (bs := zigs (nl.take k)) (n := z) (by omega))
        clear hu hz
        have HP := Lib.hid (specPutZig_any (c := c') z hseen (Nat.le_refl _) (by omega))
        rw [hpg.out] at HP
        clear hseen
        go_wp2_with fail
        refine HP.out.mono ?_
        rintro e w5 ⟨A5, n5, c5, rfl, own5, hb5⟩
        go_wp2_with fail
        go_roundw
        case rel =>
          refine ⟨A5, n5, c5, k + 1, by omega, rfl, by go_num, ?_, hb.trans (hb5.mono (by omega))⟩
          rw [hnx.out]
          exact own5.seen
        case measure => simp [intOf]; omega
      · obtain rfl : k = m := by omega
        rw [List.take_of_length_le (by have := e2.out; omega)] at hseen
        go_wp2_with fail
        refine (specCrc_any hseen (by omega)).mono ?_
        rintro e w6 ⟨rfl, rfl⟩
        go_wp2_with fail
        go_ret
        exact ⟨by rw [hpz.out]; rfl, hW2.trans (hb.mono (by omega))⟩

set_option maxRecDepth 100000 in
set_option maxHeartbeats 2000000 in
theorem implPrint_any {w : World} {hi : Nat} {p : DProg} {vs : List Value} (h : layProg.see w hi p vs) (hhi : hi ≤ w.heap.size) (hC : OpCells w) (hsz : szProg p ≤ 1048576) :
    Calls Tryd.prog 18 #[.agg vs.toArray] w fun e w' => e = .returned (.int .i64 (printZ p)) ∧ Below w.heap.size w w' := by
  obtain ⟨A0, n0, c0, A2, n2, c2, A3, n3, c3, rfl, -⟩ := seeProg h
  obtain ⟨i0, hi0, hz0, hz1, hz2⟩ := info_parts u8_info
  have hbw0 : Below w.heap.size w (w.alloc (.cells #[.slice A0 n0 c0, .int .i64 p.fMus, .slice A2 n2 c2, .slice A3 n3 c3] 32)) := (Below.refl _ _).alloc (Nat.le_refl _) _
  have HNM := Lib.hid (implProgNums_any (w := w.alloc (.cells #[.slice A0 n0 c0, .int .i64 p.fMus, .slice A2 n2 c2, .slice A3 n3 c3] 32)) (layProg.keep h fun k hk => hbw0.block k (by omega)) (by simp; omega) (opCells_below hC hbw0) hsz)
  clear h hC
  have hNL := Lib.hid (numsB_len p)
  cases tp : progOkB p
  · have hpz : printZ p = -1 := by rw [printZ, tp]; rfl
    have hnb : numsB p = [] := by rw [numsB, tp]; rfl
    rw [hpz]
    rw [hnb] at HNM
    go_enter Tryd.func18, Tryd.ntmps18
    go_wp2_with fail
    refine HNM.out.mono ?_
    rintro e w2 ⟨Y, m, d, rfl, own2, hb2⟩
    obtain rfl : m = 0 := own_len own2
    have hW2 : Below w.heap.size w w2 := hbw0.trans (hb2.mono (by simp))
    clear own2 hb2
    go_wp2_with fail
    go_ret
    exact ⟨rfl, hW2⟩
  · have hpz := Lib.hid (show printZ p = ((crc (zigs (numsB p)) : Nat) : Int) by rw [printZ, numsB, tp]; rfl)
    have hsm := Lib.hid (show ∀ z ∈ numsB p, -1 ≤ z ∧ z ≤ 999 by rw [numsB, tp]; exact nums_small tp)
    have hne := Lib.hid (show 1 ≤ (numsB p).length by rw [numsB, tp]; simp [progNums])
    generalize numsB p = nl at HNM hpz hsm hNL hne
    go_enter Tryd.func18, Tryd.ntmps18
    go_wp2_with fail
    refine HNM.out.mono ?_
    rintro e w2 ⟨Y, m, d, rfl, own2, hb2⟩
    have hW2 : Below w.heap.size w w2 := hbw0.trans (hb2.mono (by simp))
    have hzw2 : w.heap.size ≤ w2.heap.size := hW2.size
    have e2 := Lib.hid (own_len own2)
    have l2 : m ≤ 2000 := by have := e2.out; have := hNL.out; omega
    have l1 : 1 ≤ m := by have := e2.out; have := hne.out; omega
    have hm0 : ((m : Int) == 0) = false := by simp; omega
    have HS2 := Lib.hid own2.seen
    clear own2 hb2
    go_wp2_with fail
    go_loopw [4, 16] (fun v i wr => ∃ A' n' c' k, k ≤ m ∧ v = .slice A' n' c' ∧ i = .int .i64 ((k : Nat) : Int) ∧ Own wr w2.heap.size wr.heap.size 5 1 A' n' c' ((zigs (nl.take k)).map B) ∧ Below w2.heap.size w2 wr) (fun _ i _ => m - (intOf i).toNat)
    case atStart => exact ⟨none, 0, 0, 0, Nat.zero_le _, rfl, rfl, by simpa [zigs] using Own.nil_ _ _ _ _ _, Below.refl _ _⟩
    case round =>
      obtain ⟨A', n', c', k, hk, rfl, rfl, hown, hb⟩ := hrel
      have hbs := hb.size
      have hn' : n' ≤ 10000 := by
        have h1 := hown.len
        have h2 := zigs_len (nl.take k)
        have h3 : (nl.take k).length ≤ k := by rw [List.length_take]; omega
        simp at h1
        omega
      by_cases hlt : k < m
      · obtain ⟨g, o, u, rfl, hg, hu, cc⟩ := (HS2.out.below hb (Nat.le_refl _)).at_ (j := k) (by omega)
        rw [List.getElem?_map] at hu
        obtain ⟨z, hz, rfl⟩ := Option.map_eq_some_iff.1 hu
        have hr := hsm.out z (List.mem_of_getElem? hz)
        have hnx := Lib.hid (zigs_next hz)
        have hpg := Lib.hid (putZig_in (bs := []) (n := z) (by omega))
        have hzl := zigB_len z
        clear hu hz
        have HP := Lib.hid (implPutZig_any (A := none) (m := 0) (c := 0) (hi := wr.heap.size) (bs := []) (w := wr) z Seen.nil_ (Nat.le_refl _) (by omega))
        rw [hpg.out, List.nil_append] at HP
        go_wp2_with fail
        refine HP.out.mono ?_
        rintro e w5 ⟨A5, n5, c5, rfl, own5, hb5⟩
        have hz5 := hb5.size
        have hn5 : n5 ≤ 5 := by have := own5.len; simp at this; omega
        have hown5 := (hown.below hb5 (Nat.le_refl _)).wider (Nat.le_refl _) hz5
        go_wp2_with (at_builtin; refine wpList_append_seen rfl (.tmp 25) (.tmp 26) _ rfl w2.heap.size _ 5 i0 _ 1 1 Tryd.underlying66 hi0 hz0 hz1 hz2 rfl (by omega) A' n' c' _ rfl hown5 _ A5 n5 c5 _ rfl own5.seen (oneCell_B _) (by simp only [maxLen]; omega) (by omega) (by omega) ?_; intro A6 c6 w6 own6 hb6)
        go_roundw
        case rel =>
          refine ⟨A6, _, c6, k + 1, by omega, rfl, by go_num, ?_, hb.trans ((hb5.mono (by omega)).trans hb6)⟩
          rw [hnx.out, List.map_append]
          exact own6
        case measure => simp [intOf]; omega
      · obtain rfl : k = m := by omega
        rw [List.take_of_length_le (by have := e2.out; omega)] at hown
        go_wp2_with fail
        refine (implCrc_any hown.seen (Nat.le_refl _) (by omega)).mono ?_
        rintro e w6 ⟨rfl, hb6⟩
        go_wp2_with fail
        go_ret
        exact ⟨by rw [hpz.out]; rfl, (hW2.trans (hb.mono (by omega))).trans (hb6.mono (by omega))⟩
end Go.Proofs.YtikcoplihfoiiaaDoor
