
/- The contract of the model's ProgNums. -/

import Derived.Test.YtikcoplihfoiiaaDoorNumsP

import Derived.Deep.RegionHeld3

import Derived.Deep.AppendLies

namespace Go.Proofs.YtikcoplihfoiiaaDoor
set_option linter.unusedSimpArgs false
set_option linter.unusedVariables false
open Go.RowKit

theorem mixedOrders : Tryd.prog.follows .mixedOrders = true := by kernel_rfl

def bitZ (b : Bool) : Int := if b then 1 else 0
theorem l04Bit_any (b : Bool) (w : World) : Calls Tryd.prog 32 #[.bool b] w fun e w' => e = .returned (.int .i64 (bitZ b)) ∧ w' = w := by
  cases b
  all_goals
    go_enter Tryd.func32, Tryd.ntmps32
    go_wp2
    go_ret
    exact ⟨rfl, rfl⟩

set_option maxRecDepth 100000 in
set_option maxHeartbeats 8000000 in
theorem specProgNums_any {w : World} {hi : Nat} {p : DProg} {vs : List Value} (h : layProg.see w hi p vs) (hhi : hi ≤ w.heap.size) (hsz : szProg p ≤ 1048576) :
    Calls Tryd.prog 11 #[.agg vs.toArray] w (PutI w w.heap.size (numsB p)) := by
  obtain ⟨A0, n0, c0, A2, n2, c2, A3, n3, c3, rfl, ⟨hc0, hm0, s0⟩, hw1, ⟨hc2, hm2, s2⟩, ⟨hc3, hm3, s3⟩⟩ := seeProg h
  obtain ⟨i0, hi0, hz0, hz1, hz2⟩ := info_parts int_info
  have L0 := Lib.hid s0.1
  have L2 := Lib.hid s2.1
  have L3 := Lib.hid s3.1
  have hn0 := hsz
  unfold szProg at hn0
  rw [L0.out, L2.out, L3.out] at hn0
  have hbw0 : Below w.heap.size w (w.alloc (.cells #[.slice A0 n0 c0, .int .i64 p.fMus, .slice A2 n2 c2, .slice A3 n3 c3] 32)) := (Below.refl _ _).alloc (Nat.le_refl _) _
  have HOK := Lib.hid (specProgOk_any (w := w.alloc (.cells #[.slice A0 n0 c0, .int .i64 p.fMus, .slice A2 n2 c2, .slice A3 n3 c3] 32)) (layProg.keep h fun k hk => hbw0.block k (by omega)) (by simp; omega) hsz)
  have hl : w.heap.size < w.heap.size + 1 := by omega
  clear h hw1
  go_enter Tryd.func11, Tryd.ntmps11
  go_wp2_with fail
  refine HOK.out.mono ?_
  rintro e w1 ⟨rfl, hb1⟩
  have hB1 : Below (w.heap.size + 1) (w.alloc (.cells #[.slice A0 n0 c0, .int .i64 p.fMus, .slice A2 n2 c2, .slice A3 n3 c3] 32)) w1 := hb1.mono (by simp)
  obtain ⟨hcl1, hfz1⟩ := bcell hB1
  have z1 := hB1.size
  simp only [World.size_alloc] at z1
  have hl1 : w.heap.size < w1.heap.size := by omega
  have hW1 : Below w.heap.size w w1 := hbw0.trans (hB1.mono (by omega))
  clear hb1
  cases tp : progOkB p
  · go_wp2_with fail
    go_ret
    exact ⟨none, 0, 0, rfl, by rw [numsB, tp]; exact Own.nil_ _ _ _ _ _, hW1⟩
  · have hnb := Lib.hid (show numsB p = progNums p by rw [numsB, tp]; rfl)
    have hmade : Own (w1.alloc (.cells #[.int .i64 (n0 : Int)] 3)) (w.heap.size + 1) (w1.heap.size + 1) 3 1 (some ⟨w1.heap.size, 0, none⟩) 1 1 [.int .i64 (n0 : Int)] := (Own.made w1 #[.int .i64 (n0 : Int)] 1 1 (by simp only [maxLen]; omega) rfl (Nat.le_refl _)).wider (by omega) (Nat.le_refl _)
    have hsc : Seen (w1.alloc (.cells #[.int .i64 (n0 : Int)] 3)) hi 1 A0 n0 (I p.fCaps) := (s0.below (hW1.alloc (by omega) _) hhi).ints
    go_wp2_with (at_builtin; first | (refine wpList_append_seen rfl (.tmp 18) (.tmp 20) _ rfl (w.heap.size + 1) _ 3 i0 _ 1 8 Tryd.underlying22 hi0 hz0 hz1 hz2 rfl (by omega) (some ⟨w1.heap.size, 0, none⟩) 1 1 _ rfl hmade hi A0 n0 c0 _ rfl hsc (oneCell_I _) (by simp only [maxLen]; omega) (by omega) (by simp; omega) ?_; intro A4 c4 w4 own4 hb4; have hB4 := hB1.trans (((Below.refl _ _).alloc z1 _).trans hb4); obtain ⟨hcl4, hfz4⟩ := bcell hB4; have z4 := hB4.size; simp only [World.size_alloc] at z4; have hl4 : w.heap.size < w4.heap.size := by omega) | (refine wpList_append_seen rfl (.tmp 22) (.tmp 28) _ rfl (w.heap.size + 1) _ 3 i0 _ 1 8 Tryd.underlying22 hi0 hz0 hz1 hz2 rfl (by omega) A4 (1 + n0) c4 _ rfl (own4.alloc _) _ _ 2 2 _ rfl (Seen.lits_at _ [.int .i64 p.fMus, .int .i64 (n2 : Int)] _ (by simp) rfl) (by simp [Value.oneCell']) (by simp only [maxLen]; omega) (by omega) (by simp; omega) ?_; intro A5 c5 w5 own5 hb5; have hB5 := hB4.trans (((Below.refl _ _).alloc z4 _).trans hb5); obtain ⟨hcl5, hfz5⟩ := bcell hB5; have z5 := hB5.size; simp only [World.size_alloc] at z5; have hl5 : w.heap.size < w5.heap.size := by omega))
    go_loopw [3, 33] (fun v i wr => ∃ A6 n6 c6 k, k ≤ n2 ∧ v = .slice A6 n6 c6 ∧ i = .int .i64 ((k : Nat) : Int) ∧ Own wr (w.heap.size + 1) wr.heap.size 3 1 A6 n6 c6 (I ((p.fCaps.length : Int) :: p.fCaps ++ [p.fMus, (p.fSels.length : Int)] ++ (p.fSels.take k).flatMap selNums)) ∧ Below (w.heap.size + 1) (w.alloc (.cells #[.slice A0 n0 c0, .int .i64 p.fMus, .slice A2 n2 c2, .slice A3 n3 c3] 32)) wr) (fun _ i _ => n2 - (intOf i).toNat)
    case atStart =>
      refine ⟨A5, _, c5, 0, Nat.zero_le _, rfl, rfl, ?_, hB5⟩
      rw [L0.out, L2.out]
      simpa using own5
    case round =>
      clear hcl1 hfz1 hcl4 hfz4 hcl5 hfz5 own4 own5 hmade hsc
      rename World => wa
      obtain ⟨A6, n6, c6, k, hk, rfl, rfl, hown, hb⟩ := hrel
      obtain ⟨hcla, hfza⟩ := bcell hb
      have za := hb.size
      simp only [World.size_alloc] at za
      have hla : w.heap.size < wa.heap.size := by omega
      have hbw : Below w.heap.size w wa := hbw0.trans (hb.mono (by omega))
      have hn6 : n6 ≤ 16777216 := by
        have h1 := own_len hown
        have h2 := flat_le selNums p.fSels k
        have h3 := sels_len p.fSels
        rw [L2.out] at h3
        simp only [List.length_append, List.length_cons, List.length_nil] at h1
        have h4 := L0.out
        omega
      by_cases hlt : k < n2
      · obtain ⟨hx, g, o, vs, rfl, hg, hsee, hcell⟩ := (s2.below hbw hhi).at_ hlt
        have hdk := Lib.hid (List.getElem?_eq_getElem hx)
        have hsl : szSelect p.fSels[k] ≤ 1048576 := by have := sum_mem_le szSelect (List.getElem_mem hx); omega
        generalize p.fSels[k] = s at *
        clear hx
        obtain ⟨B0, m0, b0, rfl, ⟨hd0, he0, t0⟩, hw1⟩ := seeSelect hsee
        have LS := Lib.hid t0.1
        have hml : m0 ≤ 1048576 := by have := hsl; unfold szSelect at this; rw [LS.out] at this; exact this
        have cc0 := hcell 0 _ rfl
        have cc1 := hcell 1 _ rfl
        simp only [show laySelect.size = 2 from rfl, ← Nat.add_assoc, Nat.add_zero, Nat.mul_one] at cc0 cc1
        clear hcell hsee hw1
        have hgw : g < wa.heap.size := by omega
        have hne : blkA A6 ≠ some wa.heap.size := fun e1 => by have := (hown.blk e1).2.2; omega
        have hHB := Lib.hid (fun (W : World) (hW : W.heap[wa.heap.size]? = (wa.alloc (.cells #[.slice B0 m0 b0, .int .i64 s.fElse] 45)).heap[wa.heap.size]?) => show W.cell? ⟨wa.heap.size, 0, none⟩ = some (.slice B0 m0 b0) ∧ W.cell? ⟨wa.heap.size, 1, none⟩ = some (.int .i64 s.fElse) from
          ⟨(World.cell?_of_block hW).trans (by simp), (World.cell?_of_block hW).trans (by simp)⟩)
        go_wp2_with (at_builtin; refine wpList_append_kin rfl (.tmp 37) (.tmp 41) _ rfl (w.heap.size + 1) _ 3 i0 _ 1 8 Tryd.underlying22 hi0 hz0 hz1 hz2 rfl (by omega) A6 n6 c6 _ rfl ((hown.alloc _).alloc _) _ _ 1 1 _ rfl (Seen.lits_at _ [_] _ (by simp) rfl) (by simp [Value.oneCell']) (by simp only [maxLen]; omega) (by omega) (by simp; omega) ?_; intro A7 c7 w7 own7 hb7 hk7 hA7; have hbx7 : w7.heap[wa.heap.size]? = (wa.alloc (.cells #[.slice B0 m0 b0, .int .i64 s.fElse] 45)).heap[wa.heap.size]? := (hk7 _ (by simp; omega) hne).trans (Below.heap_alloc _ _ _ (by simp)); obtain ⟨x70, x71⟩ := hHB.out _ hbx7; have hz7' : wa.heap.size < w7.heap.size := World.block_lt_of_cell? w7 _ x70)
        have hB7 := hb.trans ((((Below.refl _ _).alloc za _).alloc (by simp; omega) _).trans hb7)
        have hne7 : blkA A7 ≠ some wa.heap.size := by
          rcases hA7 with h1 | h1
          · rw [h1]; exact hne
          · rw [h1]; simp; omega
        have HBX7 := Lib.hid hbx7
        have HNE7 := Lib.hid hne7
        clear hb7 hk7 hA7 hbx7 hne7 hne x70 x71 hz7' cc0 cc1
        go_loopw [3, 46] (fun v i wr => ∃ A8 c8 j, j ≤ m0 ∧ v = .slice A8 (n6 + 1 + 5 * j) c8 ∧ i = .int .i64 ((j : Nat) : Int) ∧ Own wr (w.heap.size + 1) wr.heap.size 3 1 A8 (n6 + 1 + 5 * j) c8 (I (((p.fCaps.length : Int) :: p.fCaps ++ [p.fMus, (p.fSels.length : Int)] ++ (p.fSels.take k).flatMap selNums) ++ (m0 : Int) :: (s.fCases.take j).flatMap caseNums)) ∧ Hid (blkA A8 ≠ some wa.heap.size) ∧ Hid (wr.heap[wa.heap.size]? = (wa.alloc (.cells #[.slice B0 m0 b0, .int .i64 s.fElse] 45)).heap[wa.heap.size]?) ∧ Below (w.heap.size + 1) (w.alloc (.cells #[.slice A0 n0 c0, .int .i64 p.fMus, .slice (some ⟨g, o, none⟩) n2 c2, .slice A3 n3 c3] 32)) wr) (fun _ i _ => m0 - (intOf i).toNat)
        case atStart => exact ⟨A7, c7, 0, Nat.zero_le _, rfl, rfl, by simpa using own7, HNE7, HBX7, hB7⟩
        case round =>
          clear own7 HNE7 HBX7 hB7 hcla hfza
          rename World => wb
          obtain ⟨A8, c8, j, hj, rfl, rfl, hown8, HNE, HBX, hb8⟩ := hrel
          have zb := hb8.size
          simp only [World.size_alloc] at zb
          have hbw8 : Below w.heap.size w wb := hbw0.trans (hb8.mono (by omega))
          obtain ⟨x80, x81⟩ := hHB.out _ HBX.out
          have hzr : wa.heap.size < wb.heap.size := World.block_lt_of_cell? wb _ x80
          by_cases hltj : j < m0
          · obtain ⟨hx, g', o', vs, rfl, hg', ⟨rfl, hw⟩, hcell⟩ := (t0.keep (w' := wb) fun q hq => (hbw8.block q (by omega)).trans (hbw.block q (by omega)).symm).at_ hltj
            have cc0 := hcell 0 _ rfl
            have cc1 := hcell 1 _ rfl
            have cc2 := hcell 2 _ rfl
            have cc3 := hcell 3 _ rfl
            have cc4 := hcell 4 _ rfl
            simp only [show layCase.size = 5 from rfl, ← Nat.add_assoc, Nat.add_zero, Nat.mul_one] at cc0 cc1 cc2 cc3 cc4
            clear hcell hw
            have hdj := Lib.hid (List.getElem?_eq_getElem hx)
            generalize s.fCases[j] = x at *
            clear hx
            have hgb : g' < wb.heap.size := by omega
            go_wp2_with fail
            have hlits : ∀ (j' : Nat) (u : Value), [Value.int .i64 (bitZ x.fSend), .int .i64 x.fChan, .int .i64 x.fReg, .int .i64 x.fOk, .int .i64 x.fTo][j']? = some u → (((wb.alloc (.cells #[.bool x.fSend, .int .i64 x.fChan, .int .i64 x.fReg, .int .i64 x.fOk, .int .i64 x.fTo] 58)).alloc (.cells #[.int .i64 (bitZ x.fSend), .int .i64 x.fChan, .int .i64 x.fReg, .int .i64 x.fOk, .int .i64 x.fTo] 3))).drew.cell? ((⟨wb.heap.size + 1, 0, none⟩ : Addr).add j') = some u := fun j' u hu => by
              have := (Seen.lits_at (wb.alloc (.cells #[.bool x.fSend, .int .i64 x.fChan, .int .i64 x.fReg, .int .i64 x.fOk, .int .i64 x.fTo] 58)) [Value.int .i64 (bitZ x.fSend), .int .i64 x.fChan, .int .i64 x.fReg, .int .i64 x.fOk, .int .i64 x.fTo] 3 (b := wb.heap.size + 1) (by simp) rfl).news rfl j' u hu
              exact this
            have HLITS := Lib.hid hlits
            clear hlits
            have HO8 := Lib.hid ((hown8.alloc (.cells #[.bool x.fSend, .int .i64 x.fChan, .int .i64 x.fReg, .int .i64 x.fOk, .int .i64 x.fTo] 58)).alloc (.cells #[.int .i64 (bitZ x.fSend), .int .i64 x.fChan, .int .i64 x.fReg, .int .i64 x.fOk, .int .i64 x.fTo] 3)).drew.1
            have eown : (Value.slice A8 (n6 + 1 + 5 * j) c8).ownBlock = blkA A8 := by cases A8 <;> rfl
            have HNB := Lib.hid (show some wb.heap.size ≠ (Value.slice A8 (n6 + 1 + 5 * j) c8).ownBlock by
              rw [eown]
              intro e1
              have := (hown8.blk e1.symm).2.2
              omega)
            have HLO := Lib.hid (show ∀ q, (Value.slice A8 (n6 + 1 + 5 * j) c8).ownBlock = some q → w.heap.size + 1 ≤ q by
              rw [eown]
              intro q hq
              exact (hown8.blk hq).1)
            have HEO := Lib.hid eown
            clear eown
            go_region_held3 (fun W => W.cell? ⟨wb.heap.size, 0, none⟩ = some (.bool x.fSend) ∧ W.cell? ⟨wb.heap.size, 1, none⟩ = some (.int .i64 x.fChan) ∧ W.cell? ⟨wb.heap.size, 2, none⟩ = some (.int .i64 x.fReg) ∧ W.cell? ⟨wb.heap.size, 3, none⟩ = some (.int .i64 x.fOk) ∧ W.cell? ⟨wb.heap.size, 4, none⟩ = some (.int .i64 x.fTo))
              (first | go_keep | exact HK9)
              (first | (go_at_call 32; refine (l04Bit_any x.fSend _).mono ?_; rintro e wq ⟨rfl, rfl⟩) | (refine step_append_lies _ rfl (.tmp 50) (.tmp 62) _ rfl (w.heap.size + 1) 3 i0 _ 1 8 Tryd.underlying22 hi0 hz0 hz1 hz2 rfl (by omega) (.slice A8 (n6 + 1 + 5 * j) c8) (n6 + 1 + 5 * j) _ rfl HO8.out ⟨wb.heap.size + 1, 0, none⟩ 5 5 _ rfl rfl HLITS.out (by simp [Value.oneCell']) (by omega) (by simp only [maxLen]; omega) (by omega) (by simp; omega) _ rfl ?_; intro g9 c9 w9 own9 hg9 hat9 hlt9; have HK9 : w9.cell? ⟨wb.heap.size, 0, none⟩ = some (.bool x.fSend) ∧ w9.cell? ⟨wb.heap.size, 1, none⟩ = some (.int .i64 x.fChan) ∧ w9.cell? ⟨wb.heap.size, 2, none⟩ = some (.int .i64 x.fReg) ∧ w9.cell? ⟨wb.heap.size, 3, none⟩ = some (.int .i64 x.fOk) ∧ w9.cell? ⟨wb.heap.size, 4, none⟩ = some (.int .i64 x.fTo) := ⟨(hg9.cell_far _ (by simp; omega) HNB.out).trans (by simp), (hg9.cell_far _ (by simp; omega) HNB.out).trans (by simp), (hg9.cell_far _ (by simp; omega) HNB.out).trans (by simp), (hg9.cell_far _ (by simp; omega) HNB.out).trans (by simp), (hg9.cell_far _ (by simp; omega) HNB.out).trans (by simp)⟩))
            go_wp2_with fail
            go_roundw
            case rel =>
              have hb9 := (Below.refl (w.heap.size + 1) _).grown hg9 (by simp; omega) HLO.out
              have hb10 := hb8.trans ((((((Below.refl _ wb).alloc zb _).alloc (by simp; omega) _).drew).trans hb9))
              refine ⟨some ⟨g9, 0, none⟩, c9, j + 1, by omega, by rw [show n6 + 1 + 5 * (j + 1) = n6 + 1 + 5 * j + 5 by omega], by go_num, ?_, Lib.hid ?_, Lib.hid ?_, hb10⟩
              · rw [flat_next caseNums hdj.out, ← List.cons_append, ← List.append_assoc, I, List.map_append, show n6 + 1 + 5 * (j + 1) = n6 + 1 + 5 * j + 5 by omega]
                exact ⟨own9, fun a ha => by injection ha with ha; subst ha; exact hlt9⟩
              · intro e1
                have e2 : g9 = wa.heap.size := by simpa [blkA] using e1
                rw [HEO.out] at hat9
                rcases hat9 with h1 | h1
                · exact HNE.out (by rw [h1, e2])
                · have h2 : g9 = wb.heap.size + 1 + 1 := by simpa using h1
                  omega
              · rw [hg9.block _ (by simp; omega) (by rw [HEO.out]; exact fun e1 => HNE.out e1.symm)]
                refine (Below.heap_alloc _ _ _ (by simp; omega)).trans ((Below.heap_alloc _ _ _ (by omega)).trans HBX.out)
            case measure => simp [intOf]; omega
          · obtain rfl : j = m0 := by omega
            have hdone := Lib.hid (show I (((p.fCaps.length : Int) :: p.fCaps ++ [p.fMus, (p.fSels.length : Int)] ++ (p.fSels.take k).flatMap selNums) ++ (j : Int) :: (s.fCases.take j).flatMap caseNums) ++ [.int .i64 s.fElse] = I ((p.fCaps.length : Int) :: p.fCaps ++ [p.fMus, (p.fSels.length : Int)] ++ (p.fSels.take (k + 1)).flatMap selNums) by
              rw [flat_next selNums hdk.out, show s.fCases.take j = s.fCases from List.take_of_length_le (by rw [LS.out]; exact Nat.le_refl _), selNums, LS.out]
              simp [I])
            go_wp2_with (at_builtin; refine wpList_append_seen rfl (.tmp 65) (.tmp 68) _ rfl (w.heap.size + 1) _ 3 i0 _ 1 8 Tryd.underlying22 hi0 hz0 hz1 hz2 rfl (by omega) A8 (n6 + 1 + 5 * j) c8 _ rfl (hown8.alloc _) _ _ 1 1 _ rfl (Seen.one _ _ _) (by simp [Value.oneCell']) (by simp only [maxLen]; omega) (by omega) (by simp; omega) ?_; intro A9 c9 w9 own9 hb9)
            go_roundw
            case rel =>
              refine ⟨A9, _, c9, k + 1, by omega, rfl, by go_num, ?_, hb8.trans (((Below.refl _ _).alloc zb _).trans hb9)⟩
              rw [hdone.out] at own9
              exact own9
            case measure => simp [intOf]; omega
      · obtain rfl : k = n2 := by omega
        rw [List.take_of_length_le (by rw [L2.out]; exact Nat.le_refl _)] at hown
        go_wp2_with (at_builtin; refine wpList_append_seen rfl (.tmp 71) (.tmp 75) _ rfl (w.heap.size + 1) _ 3 i0 _ 1 8 Tryd.underlying22 hi0 hz0 hz1 hz2 rfl (by omega) A6 n6 c6 _ rfl (hown.alloc _) _ _ 1 1 _ rfl (Seen.one _ _ _) (by simp [Value.oneCell']) (by simp only [maxLen]; omega) (by omega) (by simp; omega) ?_; intro A8 c8 w8 own8 hb8; have hB8 := hb.trans (((Below.refl _ _).alloc za _).trans hb8); obtain ⟨hcl8, hfz8⟩ := bcell hB8; have z8 := hB8.size; simp only [World.size_alloc] at z8; have hl8 : w.heap.size < w8.heap.size := by omega)
        go_loopw [3, 80] (fun v i wr => ∃ A9 n9 c9 j, j ≤ n3 ∧ v = .slice A9 n9 c9 ∧ i = .int .i64 ((j : Nat) : Int) ∧ Own wr (w.heap.size + 1) wr.heap.size 3 1 A9 n9 c9 (I ((p.fCaps.length : Int) :: p.fCaps ++ [p.fMus, (p.fSels.length : Int)] ++ p.fSels.flatMap selNums ++ [(p.fProcs.length : Int)] ++ (p.fProcs.take j).flatMap (fun x => codeNums x.fCode))) ∧ Below (w.heap.size + 1) (w.alloc (.cells #[.slice A0 n0 c0, .int .i64 p.fMus, .slice A2 k c2, .slice A3 n3 c3] 32)) wr) (fun _ i _ => n3 - (intOf i).toNat)
        case atStart =>
          refine ⟨A8, _, c8, 0, Nat.zero_le _, rfl, rfl, ?_, hB8⟩
          rw [L3.out]
          simpa using own8
        case round =>
          clear hcla hfza hcl8 hfz8 own8 hown
          rename World => wb
          obtain ⟨A9, n9, c9, j, hj, rfl, rfl, hown, hb⟩ := hrel
          obtain ⟨hclb, hfzb⟩ := bcell hb
          have zb := hb.size
          simp only [World.size_alloc] at zb
          have hlb : w.heap.size < wb.heap.size := by omega
          have hbw : Below w.heap.size w wb := hbw0.trans (hb.mono (by omega))
          have hn9 : n9 ≤ 16777216 := by
            have h1 := own_len hown
            have h2 := flat_le (fun x : DProc => codeNums x.fCode) p.fProcs j
            have h3 := sels_len p.fSels
            have h4 := procs_len p.fProcs
            rw [L2.out] at h3
            rw [L3.out] at h4
            simp only [List.length_append, List.length_cons, List.length_nil] at h1
            have h5 := L0.out
            omega
          by_cases hlt : j < n3
          · obtain ⟨hx, g, o, vs, rfl, hg, hsee, hcell⟩ := (s3.below hbw hhi).at_ hlt
            have hdk := Lib.hid (List.getElem?_eq_getElem hx)
            have hsl : szProc p.fProcs[j] ≤ 1048576 := by have := sum_mem_le szProc (List.getElem_mem hx); omega
            generalize p.fProcs[j] = x at *
            clear hx
            obtain ⟨B0, m0, b0, rfl, hd0, he0, t0⟩ := seeProc hsee
            have LC := Lib.hid t0.1
            have hml : m0 ≤ 1048576 := by have := hsl; unfold szProc at this; rw [t0.1] at this; exact this
            have cc0 := hcell 0 _ rfl
            simp only [show layProc.size = 1 from rfl, ← Nat.add_assoc, Nat.add_zero, Nat.mul_one] at cc0
            clear hcell hsee
            have hgw : g < wb.heap.size := by omega
            have hne : blkA A9 ≠ some wb.heap.size := fun e1 => by have := (hown.blk e1).2.2; omega
            have hHB := Lib.hid (fun (W : World) (hW : W.heap[wb.heap.size]? = (wb.alloc (.cells #[.slice B0 m0 b0] 49)).heap[wb.heap.size]?) => show W.cell? ⟨wb.heap.size, 0, none⟩ = some (.slice B0 m0 b0) from (World.cell?_of_block hW).trans (by simp))
            go_wp2_with (at_builtin; refine wpList_append_kin rfl (.tmp 84) (.tmp 88) _ rfl (w.heap.size + 1) _ 3 i0 _ 1 8 Tryd.underlying22 hi0 hz0 hz1 hz2 rfl (by omega) A9 n9 c9 _ rfl ((hown.alloc _).alloc _) _ _ 1 1 _ rfl (Seen.lits_at _ [_] _ (by simp) rfl) (by simp [Value.oneCell']) (by simp only [maxLen]; omega) (by omega) (by simp; omega) ?_; intro A7 c7 w7 own7 hb7 hk7 hA7; have hbx7 : w7.heap[wb.heap.size]? = (wb.alloc (.cells #[.slice B0 m0 b0] 49)).heap[wb.heap.size]? := (hk7 _ (by simp; omega) hne).trans (Below.heap_alloc _ _ _ (by simp)); have x70 := hHB.out _ hbx7; have hz7' : wb.heap.size < w7.heap.size := World.block_lt_of_cell? w7 _ x70)
            have hB7 := hb.trans ((((Below.refl _ _).alloc zb _).alloc (by simp; omega) _).trans hb7)
            clear hb7 hk7 hA7 hbx7 hne x70 hz7' cc0 hclb hfzb
            go_loopw [3, 93] (fun v i wr => ∃ A8 c8 q, q ≤ m0 ∧ v = .slice A8 (n9 + 1 + 4 * q) c8 ∧ i = .int .i64 ((q : Nat) : Int) ∧ Own wr (w.heap.size + 1) wr.heap.size 3 1 A8 (n9 + 1 + 4 * q) c8 (I (((p.fCaps.length : Int) :: p.fCaps ++ [p.fMus, (p.fSels.length : Int)] ++ p.fSels.flatMap selNums ++ [(p.fProcs.length : Int)] ++ (p.fProcs.take j).flatMap (fun x => codeNums x.fCode)) ++ (m0 : Int) :: (x.fCode.take q).flatMap instrNums)) ∧ Below (w.heap.size + 1) (w.alloc (.cells #[.slice A0 n0 c0, .int .i64 p.fMus, .slice A2 k c2, .slice (some ⟨g, o, none⟩) n3 c3] 32)) wr) (fun _ i _ => m0 - (intOf i).toNat)
            case atStart => exact ⟨A7, c7, 0, Nat.zero_le _, rfl, rfl, by simpa using own7, hB7⟩
            case round =>
              clear own7 hB7
              rename World => wc
              obtain ⟨A8, c8, q, hq, rfl, rfl, hown8, hb8⟩ := hrel
              have zc := hb8.size
              simp only [World.size_alloc] at zc
              have hbw8 : Below w.heap.size w wc := hbw0.trans (hb8.mono (by omega))
              by_cases hltq : q < m0
              · obtain ⟨hx, g', o', vs, rfl, hg', ⟨rfl, hw⟩, hcell⟩ := (t0.keep (w' := wc) fun r hr => (hbw8.block r (by omega)).trans (hbw.block r (by omega)).symm).at_ hltq
                have cc0 := hcell 0 _ rfl
                have cc1 := hcell 1 _ rfl
                have cc2 := hcell 2 _ rfl
                have cc3 := hcell 3 _ rfl
                simp only [show layInstr.size = 4 from rfl, ← Nat.add_assoc, Nat.add_zero, Nat.mul_one] at cc0 cc1 cc2 cc3
                clear hcell hw
                have hdj := Lib.hid (List.getElem?_eq_getElem hx)
                generalize x.fCode[q] = y at *
                clear hx
                have hgb : g' < wc.heap.size := by omega
                go_wp2_with (at_builtin; refine wpList_append_seen rfl (.tmp 97) (.tmp 106) _ rfl (w.heap.size + 1) _ 3 i0 _ 1 8 Tryd.underlying22 hi0 hz0 hz1 hz2 rfl (by omega) A8 (n9 + 1 + 4 * q) c8 _ rfl ((hown8.alloc _).alloc _) _ _ 4 4 _ rfl (Seen.lits_at _ [.int .i64 y.fOp, .int .i64 y.fA, .int .i64 y.fB, .int .i64 y.fC] _ (by simp) rfl) (by simp [Value.oneCell']) (by simp only [maxLen]; omega) (by omega) (by simp; omega) ?_; intro A3' c3' w3 hown3 hb3)
                go_roundw
                case rel =>
                  refine ⟨A3', c3', q + 1, by omega, by rw [show n9 + 1 + 4 * (q + 1) = n9 + 1 + 4 * q + 4 by omega], by go_num, ?_, hb8.trans ((((Below.refl _ _).alloc (by omega) _).alloc (by simp; omega) _).trans hb3)⟩
                  rw [flat_next instrNums hdj.out, ← List.cons_append, ← List.append_assoc, I, List.map_append, show n9 + 1 + 4 * (q + 1) = n9 + 1 + 4 * q + 4 by omega]
                  exact hown3
                case measure => simp [intOf]; omega
              · obtain rfl : q = m0 := by omega
                have hdone := Lib.hid (show I (((p.fCaps.length : Int) :: p.fCaps ++ [p.fMus, (p.fSels.length : Int)] ++ p.fSels.flatMap selNums ++ [(p.fProcs.length : Int)] ++ (p.fProcs.take j).flatMap (fun x => codeNums x.fCode)) ++ (q : Int) :: (x.fCode.take q).flatMap instrNums) = I ((p.fCaps.length : Int) :: p.fCaps ++ [p.fMus, (p.fSels.length : Int)] ++ p.fSels.flatMap selNums ++ [(p.fProcs.length : Int)] ++ (p.fProcs.take (j + 1)).flatMap (fun x => codeNums x.fCode)) by
                  rw [flat_next (fun x : DProc => codeNums x.fCode) hdk.out, show x.fCode.take q = x.fCode from List.take_of_length_le (by rw [LC.out]; exact Nat.le_refl _), codeNums, LC.out, ← List.append_assoc])
                go_wp2_with fail
                go_roundw
                case rel =>
                  refine ⟨A8, _, c8, j + 1, by omega, rfl, by go_num, ?_, hb8⟩
                  rw [← hdone.out]
                  exact hown8
                case measure => simp [intOf]; omega
          · obtain rfl : j = n3 := by omega
            rw [List.take_of_length_le (by rw [L3.out]; exact Nat.le_refl _)] at hown
            go_wp2_with fail
            go_ret
            exact ⟨A9, n9, c9, rfl, by rw [hnb.out, progNums]; exact hown.wider (by omega) (Nat.le_refl _), hbw⟩
end Go.Proofs.YtikcoplihfoiiaaDoor
