
/- The contract of the program's ProgNums. -/

import Derived.Test.YtikcoplihfoiiaaDoorNums

import Derived.Test.YtikcoplihfoiiaaDoorOkProgI

namespace Go.Proofs.YtikcoplihfoiiaaDoor
set_option linter.unusedSimpArgs false
set_option linter.unusedVariables false
open Go.RowKit

def numsB (p : DProg) : List Int := if progOkB p then progNums p else []

theorem SeenR.ints {w : World} {hi n : Nat} {A : Option Addr} {xs : List Int} (h : SeenR Lay.int w hi A n xs) : Seen w hi 1 A n (I xs) := by
  refine ⟨by simp [h.1], h.2.imp (fun e1 => by rw [e1]; rfl) fun ⟨g, o, e1, hg, f, hf⟩ => ⟨g, o, e1, hg, fun j u hu => ?_⟩⟩
  rw [List.getElem?_map] at hu
  obtain ⟨x, hx, rfl⟩ := Option.map_eq_some_iff.1 hu
  obtain ⟨⟨h1, _⟩, h2⟩ := hf j x hx
  have := h2 0 (.int .i64 x) (by rw [h1]; rfl)
  simpa [Lay.int, Lay.flat] using this

theorem flat_le {α : Type} (f : α → List Int) (l : List α) (k : Nat) : ((l.take k).flatMap f).length ≤ (l.flatMap f).length := by
  have : l.flatMap f = (l.take k).flatMap f ++ (l.drop k).flatMap f := by rw [← List.flatMap_append, List.take_append_drop]
  rw [this, List.length_append]
  omega
theorem sels_len (l : List DSelect) : (l.flatMap selNums).length ≤ 5 * (l.length + (l.map szSelect).sum) := by
  induction l with
  | nil => simp
  | cons s l ih =>
    rw [List.flatMap_cons, List.length_append, selNums_len]
    simp only [List.length_cons, List.map_cons, List.sum_cons, szSelect]
    omega
theorem procs_len (l : List DProc) : (l.flatMap fun x => codeNums x.fCode).length ≤ 4 * (l.length + (l.map szProc).sum) := by
  induction l with
  | nil => simp
  | cons s l ih =>
    rw [List.flatMap_cons, List.length_append, codeNums_len]
    simp only [List.length_cons, List.map_cons, List.sum_cons, szProc]
    omega
theorem progNums_len (p : DProg) : (progNums p).length ≤ 4 + 5 * szProg p := by
  have h1 := sels_len p.fSels
  have h2 := procs_len p.fProcs
  simp only [progNums, List.length_append, List.length_cons, List.length_nil, szProg]
  omega
theorem own_len {w : World} {lo hi n c : Nat} {A : Option Addr} {l : List Int} (h : Own w lo hi 3 1 A n c (I l)) : n = l.length := by
  have := h.len
  simpa using this.symm

set_option maxRecDepth 100000 in
set_option maxHeartbeats 4000000 in
theorem implProgNums_any {w : World} {hi : Nat} {p : DProg} {vs : List Value} (h : layProg.see w hi p vs) (hhi : hi ≤ w.heap.size) (hC : OpCells w) (hsz : szProg p ≤ 1048576) :
    Calls Tryd.prog 12 #[.agg vs.toArray] w (PutI w w.heap.size (numsB p)) := by
  have HSEE := Lib.hid h
  obtain ⟨A0, n0, c0, A2, n2, c2, A3, n3, c3, rfl, ⟨hc0, hm0, s0⟩, hw1, ⟨hc2, hm2, s2⟩, ⟨hc3, hm3, s3⟩⟩ := seeProg h
  obtain ⟨i0, hi0, hz0, hz1, hz2⟩ := info_parts int_info
  have L0 := Lib.hid s0.1
  have L2 := Lib.hid s2.1
  have L3 := Lib.hid s3.1
  have hn0 := hsz
  unfold szProg at hn0
  rw [L0.out, L2.out, L3.out] at hn0
  have hbw0 : Below w.heap.size w (w.alloc (.cells #[.slice A0 n0 c0, .int .i64 p.fMus, .slice A2 n2 c2, .slice A3 n3 c3] 32)) := (Below.refl _ _).alloc (Nat.le_refl _) _
  have HOK := Lib.hid (implProgOk_any (w := w.alloc (.cells #[.slice A0 n0 c0, .int .i64 p.fMus, .slice A2 n2 c2, .slice A3 n3 c3] 32)) (layProg.keep h fun k hk => hbw0.block k (by omega)) (by simp; omega) (opCells_below hC hbw0) hsz)
  have hl : w.heap.size < w.heap.size + 1 := by omega
  clear h hw1 hC
  go_enter Tryd.func12, Tryd.ntmps12
  go_wp2_with fail
  refine HOK.out.mono ?_
  rintro e w1 ⟨rfl, hb1⟩
  have hB1 : Below (w.heap.size + 1) (w.alloc (.cells #[.slice A0 n0 c0, .int .i64 p.fMus, .slice A2 n2 c2, .slice A3 n3 c3] 32)) w1 := hb1.mono (by simp)
  obtain ⟨hcl1, hfz1⟩ := bcell hB1
  have z1 := hB1.size
  simp only [World.size_alloc] at z1
  have hl1 : w.heap.size < w1.heap.size := by omega
  have hW1 : Below w.heap.size w w1 := hbw0.trans (hB1.mono (by omega))
  clear hb1
  cases tp : progOkB p
  · go_wp2_with fail
    go_ret
    exact ⟨none, 0, 0, rfl, by rw [numsB, tp]; exact Own.nil_ _ _ _ _ _, hW1⟩
  · have hnb := Lib.hid (show numsB p = progNums p by rw [numsB, tp]; rfl)
    have hmade : Own (w1.alloc (.cells #[.int .i64 (n0 : Int)] 3)) (w.heap.size + 1) (w1.heap.size + 1) 3 1 (some ⟨w1.heap.size, 0, none⟩) 1 1 [.int .i64 (n0 : Int)] := (Own.made w1 #[.int .i64 (n0 : Int)] 1 1 (by simp only [maxLen]; omega) rfl (Nat.le_refl _)).wider (by omega) (Nat.le_refl _)
    have hsc : Seen (w1.alloc (.cells #[.int .i64 (n0 : Int)] 3)) hi 1 A0 n0 (I p.fCaps) := (s0.below (hW1.alloc (by omega) _) hhi).ints
    go_wp2_with (at_builtin; first | (refine wpList_append_seen rfl (.tmp 15) (.tmp 17) _ rfl (w.heap.size + 1) _ 3 i0 _ 1 8 Tryd.underlying22 hi0 hz0 hz1 hz2 rfl (by omega) (some ⟨w1.heap.size, 0, none⟩) 1 1 _ rfl hmade hi A0 n0 c0 _ rfl hsc (oneCell_I _) (by simp only [maxLen]; omega) (by omega) (by simp; omega) ?_; intro A4 c4 w4 own4 hb4; have hB4 := hB1.trans (((Below.refl _ _).alloc z1 _).trans hb4); obtain ⟨hcl4, hfz4⟩ := bcell hB4; have z4 := hB4.size; simp only [World.size_alloc] at z4; have hl4 : w.heap.size < w4.heap.size := by omega) | (refine wpList_append_seen rfl (.tmp 19) (.tmp 25) _ rfl (w.heap.size + 1) _ 3 i0 _ 1 8 Tryd.underlying22 hi0 hz0 hz1 hz2 rfl (by omega) A4 (1 + n0) c4 _ rfl (own4.alloc _) _ _ 2 2 _ rfl (Seen.lits_at _ [.int .i64 p.fMus, .int .i64 (n2 : Int)] _ (by simp) rfl) (by simp [Value.oneCell']) (by simp only [maxLen]; omega) (by omega) (by simp; omega) ?_; intro A5 c5 w5 own5 hb5; have hB5 := hB4.trans (((Below.refl _ _).alloc z4 _).trans hb5); obtain ⟨hcl5, hfz5⟩ := bcell hB5; have z5 := hB5.size; simp only [World.size_alloc] at z5; have hl5 : w.heap.size < w5.heap.size := by omega))
    go_loopw [3, 30] (fun v i wr => ∃ A6 n6 c6 k, k ≤ n2 ∧ v = .slice A6 n6 c6 ∧ i = .int .i64 ((k : Nat) : Int) ∧ Own wr (w.heap.size + 1) wr.heap.size 3 1 A6 n6 c6 (I ((p.fCaps.length : Int) :: p.fCaps ++ [p.fMus, (p.fSels.length : Int)] ++ (p.fSels.take k).flatMap selNums)) ∧ Below (w.heap.size + 1) (w.alloc (.cells #[.slice A0 n0 c0, .int .i64 p.fMus, .slice A2 n2 c2, .slice A3 n3 c3] 32)) wr) (fun _ i _ => n2 - (intOf i).toNat)
    case atStart =>
      refine ⟨A5, _, c5, 0, Nat.zero_le _, rfl, rfl, ?_, hB5⟩
      rw [L0.out, L2.out]
      simpa using own5
    case round =>
      clear hcl1 hfz1 hcl4 hfz4 hcl5 hfz5 own4 own5 hmade hsc
      rename World => wa
      obtain ⟨A6, n6, c6, k, hk, rfl, rfl, hown, hb⟩ := hrel
      obtain ⟨hcla, hfza⟩ := bcell hb
      have za := hb.size
      simp only [World.size_alloc] at za
      have hla : w.heap.size < wa.heap.size := by omega
      have hbw : Below w.heap.size w wa := hbw0.trans (hb.mono (by omega))
      have hn6 : n6 ≤ 16777216 := by
        have h1 := own_len hown
        have h2 := flat_le selNums p.fSels k
        have h3 := sels_len p.fSels
        rw [L2.out] at h3
        simp only [List.length_append, List.length_cons, List.length_nil] at h1
        have h4 := L0.out
        omega
      by_cases hlt : k < n2
      · obtain ⟨hx, g, o, vs, rfl, hg, hsee, hcell⟩ := (s2.below hbw hhi).at_ hlt
        have hdk := Lib.hid (List.getElem?_eq_getElem hx)
        have hsl : szSelect p.fSels[k] ≤ 1048576 := by have := sum_mem_le szSelect (List.getElem_mem hx); omega
        generalize p.fSels[k] = s at *
        clear hx
        have HE := Lib.hid (fun (W : World) (hW : Below wa.heap.size wa W) => addSelect_any (w := W) (lo := w.heap.size + 1) (c := c6) (hown.below hW (Nat.le_refl _) |>.wider (Nat.le_refl _) hW.size) (laySelect.keep hsee fun k hk => hW.block k (by omega)) (by omega) (by have := hW.size; omega) hsl hn6)
        obtain ⟨B0, m0, b0, rfl, ⟨hd0, he0, t0⟩, hw1⟩ := seeSelect hsee
        have cc0 := hcell 0 _ rfl
        have cc1 := hcell 1 _ rfl
        simp only [show laySelect.size = 2 from rfl, ← Nat.add_assoc, Nat.add_zero, Nat.mul_one] at cc0 cc1
        clear hcell hsee t0 hw1
        have hgw : g < wa.heap.size := by omega
        have hba : Below wa.heap.size wa (wa.alloc (.cells #[.slice B0 m0 b0, .int .i64 s.fElse] 45)) := (Below.refl _ _).alloc (Nat.le_refl _) _
        go_wp2_with fail
        refine (HE.out _ hba).mono ?_
        rintro e w5 ⟨A7, n7, c7, rfl, own7, hb7⟩
        have hB7 := hb.trans ((hba.mono za).trans hb7)
        go_wp2_with fail
        go_roundw
        case rel =>
          refine ⟨A7, n7, c7, k + 1, by omega, rfl, by go_num, ?_, hB7⟩
          rw [flat_next selNums hdk.out, ← List.append_assoc]
          exact own7
        case measure => simp [intOf]; omega
      · obtain rfl : k = n2 := by omega
        rw [List.take_of_length_le (by rw [L2.out]; exact Nat.le_refl _)] at hown
        go_wp2_with (at_builtin; refine wpList_append_seen rfl (.tmp 38) (.tmp 42) _ rfl (w.heap.size + 1) _ 3 i0 _ 1 8 Tryd.underlying22 hi0 hz0 hz1 hz2 rfl (by omega) A6 n6 c6 _ rfl (hown.alloc _) _ _ 1 1 _ rfl (Seen.one _ _ _) (by simp [Value.oneCell']) (by simp only [maxLen]; omega) (by omega) (by simp; omega) ?_; intro A8 c8 w8 own8 hb8; have hB8 := hb.trans (((Below.refl _ _).alloc za _).trans hb8); obtain ⟨hcl8, hfz8⟩ := bcell hB8; have z8 := hB8.size; simp only [World.size_alloc] at z8; have hl8 : w.heap.size < w8.heap.size := by omega)
        go_loopw [3, 47] (fun v i wr => ∃ A9 n9 c9 j, j ≤ n3 ∧ v = .slice A9 n9 c9 ∧ i = .int .i64 ((j : Nat) : Int) ∧ Own wr (w.heap.size + 1) wr.heap.size 3 1 A9 n9 c9 (I ((p.fCaps.length : Int) :: p.fCaps ++ [p.fMus, (p.fSels.length : Int)] ++ p.fSels.flatMap selNums ++ [(p.fProcs.length : Int)] ++ (p.fProcs.take j).flatMap (fun x => codeNums x.fCode))) ∧ Below (w.heap.size + 1) (w.alloc (.cells #[.slice A0 n0 c0, .int .i64 p.fMus, .slice A2 k c2, .slice A3 n3 c3] 32)) wr) (fun _ i _ => n3 - (intOf i).toNat)
        case atStart =>
          refine ⟨A8, _, c8, 0, Nat.zero_le _, rfl, rfl, ?_, hB8⟩
          rw [L3.out]
          simpa using own8
        case round =>
          clear hcla hfza hcl8 hfz8 own8 hown
          rename World => wb
          obtain ⟨A9, n9, c9, j, hj, rfl, rfl, hown, hb⟩ := hrel
          obtain ⟨hclb, hfzb⟩ := bcell hb
          have zb := hb.size
          simp only [World.size_alloc] at zb
          have hlb : w.heap.size < wb.heap.size := by omega
          have hbw : Below w.heap.size w wb := hbw0.trans (hb.mono (by omega))
          have hn9 : n9 ≤ 16777216 := by
            have h1 := own_len hown
            have h2 := flat_le (fun x : DProc => codeNums x.fCode) p.fProcs j
            have h3 := sels_len p.fSels
            have h4 := procs_len p.fProcs
            rw [L2.out] at h3
            rw [L3.out] at h4
            simp only [List.length_append, List.length_cons, List.length_nil] at h1
            have h5 := L0.out
            omega
          by_cases hlt : j < n3
          · obtain ⟨hx, g, o, vs, rfl, hg, hsee, hcell⟩ := (s3.below hbw hhi).at_ hlt
            have hdk := Lib.hid (List.getElem?_eq_getElem hx)
            have hsl : szProc p.fProcs[j] ≤ 1048576 := by have := sum_mem_le szProc (List.getElem_mem hx); omega
            generalize p.fProcs[j] = x at *
            clear hx
            obtain ⟨B0, m0, b0, rfl, hd0, he0, t0⟩ := seeProc hsee
            have hml : m0 ≤ 1048576 := by have := hsl; unfold szProc at this; rw [t0.1] at this; exact this
            have HE := Lib.hid (fun (W : World) (hW : Below wb.heap.size wb W) => addCode_any (w := W) (lo := w.heap.size + 1) (c := c9) (d := b0) (hown.below hW (Nat.le_refl _) |>.wider (Nat.le_refl _) hW.size) (t0.keep fun k hk => hW.block k (by omega)) (by omega) (by have := hW.size; omega) hml hn9)
            have cc0 := hcell 0 _ rfl
            simp only [show layProc.size = 1 from rfl, ← Nat.add_assoc, Nat.add_zero, Nat.mul_one] at cc0
            clear hcell hsee t0
            have hgw : g < wb.heap.size := by omega
            have hba : Below wb.heap.size wb (wb.alloc (.cells #[.slice B0 m0 b0] 49)) := (Below.refl _ _).alloc (Nat.le_refl _) _
            go_wp2_with fail
            refine (HE.out _ hba).mono ?_
            rintro e w5 ⟨A7, n7, c7, rfl, own7, hb7⟩
            have hB7 := hb.trans ((hba.mono zb).trans hb7)
            go_wp2_with fail
            go_roundw
            case rel =>
              refine ⟨A7, n7, c7, j + 1, by omega, rfl, by go_num, ?_, hB7⟩
              rw [flat_next (fun x : DProc => codeNums x.fCode) hdk.out, ← List.append_assoc]
              exact own7
            case measure => simp [intOf]; omega
          · obtain rfl : j = n3 := by omega
            rw [List.take_of_length_le (by rw [L3.out]; exact Nat.le_refl _)] at hown
            go_wp2_with fail
            go_ret
            exact ⟨A9, n9, c9, rfl, by rw [hnb.out, progNums]; exact hown.wider (by omega) (Nat.le_refl _), hbw⟩
end Go.Proofs.YtikcoplihfoiiaaDoor
