
/- The contracts of the program's endsRight and codeOk. -/

import Derived.Test.YtghkdkagnibkgaaGreatDoorGFieldI

import Derived.Test.YtghkdkagnibkgaaGreatDoorSelectI

import Derived.Test.YtghkdkagnibkgaaGreatDoorGBase

namespace Go.Proofs.YtghkdkagnibkgaaGreatDoor
set_option linter.unusedSimpArgs false
set_option linter.unusedVariables false
open Go.RowKit

set_option maxRecDepth 100000 in
theorem endsRight_any {w : World} {hi n c : Nat} {A : Option Addr} {code : List DInstr} (hc : SeenR layInstr w hi A n code) (hn : 1 ≤ n) (hn2 : n ≤ 40) :
    Calls Tryz.prog 170 #[.slice A n c] w fun e w' => e = .returned (.bool (endB code)) ∧ w = w' := by
  obtain ⟨m, rfl⟩ : ∃ m, n = m + 1 := ⟨n - 1, by omega⟩
  have LC := Lib.hid hc.1
  obtain ⟨hx, g, o, vs, rfl, hg, ⟨rfl, hw⟩, hcell⟩ := hc.at_ (show m < m + 1 by omega)
  have cc0 := hcell 0 _ rfl
  simp only [show layInstr.size = 4 from rfl, ← Nat.add_assoc, Nat.add_zero, Nat.mul_one] at cc0
  have hdk := Lib.hid (List.getElem?_eq_getElem hx)
  clear hcell hw
  generalize code[m] = x at *
  have he := Lib.hid (show endB code = ((x.fOp == 1) || (x.fOp == 6)) by simp only [endB, LC.out, Nat.add_sub_cancel, hdk.out])
  clear hx hc
  rw [he.out]
  cases t1 : (x.fOp == 1)
  · cases t6 : (x.fOp == 6)
    all_goals
      go_enter Tryz.func170, Tryz.ntmps170
      go_wp2_with fail
      go_ret
      exact ⟨rfl, rfl⟩
  · go_enter Tryz.func170, Tryz.ntmps170
    go_wp2_with fail
    go_ret
    exact ⟨by simp, rfl⟩

/-- The selects that the first k instructions have met. -/
def metS (code : List DInstr) (k : Nat) : List (Int × Int) := (code.take k).filterMap fun x => if x.fOp == 11 then some (5, x.fA) else none
theorem metS_succ {code : List DInstr} {k : Nat} {x : DInstr} (h : code[k]? = some x) : metS code (k + 1) = metS code k ++ (if x.fOp == 11 then [(5, x.fA)] else []) := by
  unfold metS
  rw [List.take_add_one, h]
  simp only [Option.toList_some, List.filterMap_append, List.filterMap_cons, List.filterMap_nil]
  cases x.fOp == 11 <;> rfl
theorem metS_len (code : List DInstr) (k : Nat) : (metS code k).length ≤ code.length := by
  unfold metS
  refine Nat.le_trans (List.length_filterMap_le _ _) ?_
  simp
  omega
theorem metS_mem {code : List DInstr} {k : Nat} {a : Int} : (metS code k).contains (5, a) = true ↔ ∃ j y, j < k ∧ code[j]? = some y ∧ y.fOp = 11 ∧ y.fA = a := by
  unfold metS
  simp only [List.contains_eq_mem, decide_eq_true_eq, List.mem_filterMap]
  constructor
  · rintro ⟨y, hy, h⟩
    obtain ⟨j, hj⟩ := List.getElem?_of_mem hy
    rw [List.getElem?_take] at hj
    split at hj
    · split at h
      · rename_i h11
        simp at h h11
        exact ⟨j, y, ‹_›, hj, h11, h⟩
      · cases h
    · cases hj
  · rintro ⟨j, y, hj, hy, h11, rfl⟩
    exact ⟨y, List.mem_of_getElem? (i := j) (by rw [List.getElem?_take, if_pos hj, hy]), by simp [h11]⟩

set_option maxRecDepth 100000 in
set_option maxHeartbeats 8000000 in
theorem codeOk_any {w : World} {hi : Nat} {p : DProg} {code : List DInstr} {A0 A2 A3 A : Option Addr} {n0 c0 n2 c2 n3 c3 n c : Nat} (hl0 : p.fCaps.length = n0) (hs2 : SeenR laySelect w hi A2 n2 p.fSels) (hl3 : p.fProcs.length = n3)
    (hc : SeenR layInstr w hi A n code) (hhi : hi ≤ w.heap.size) (hC : OpCells w) (hn2 : n2 ≤ 1048576) (hsz : (p.fSels.map szSelect).sum ≤ 1048576) (hn : n ≤ 1048576) :
    Calls Tryz.prog 152 #[.agg #[.slice A0 n0 c0, .int .i64 p.fMus, .slice A2 n2 c2, .slice A3 n3 c3], .slice A n c] w fun e w' => e = .returned (.bool (procB p code)) ∧ Below w.heap.size w w' := by
  have LC := Lib.hid hc.1
  have L0 := Lib.hid hl0
  have L2 := Lib.hid hs2.1
  have L3 := Lib.hid hl3
  clear hl0 hl3
  by_cases hlen : 1 ≤ n ∧ n ≤ 40
  · obtain ⟨hn1, hn40⟩ := hlen
    have HC := Lib.hid hC
    clear hC
    have HER := Lib.hid (fun (W : World) (hW : Below w.heap.size w W) => endsRight_any (w := W) (c := c) (hc.below hW hhi) hn1 hn40)
    have hmm := @run_makeMap Tryz.prog
    cases te : endB code
    · have hno := Lib.hid (show procB p code = false by rw [procB, te, Bool.and_false, Bool.and_false])
      go_enter Tryz.func152, Tryz.ntmps152
      go_wp2_with fail
      refine (HER.out _ (by go_grown)).mono ?_
      rw [te]
      rintro e w1 ⟨rfl, rfl⟩
      go_wp2_with fail
      go_ret
      exact ⟨by rw [hno.out]; rfl, by go_grown⟩
    have TE := Lib.hid te
    clear te
    go_enter Tryz.func152, Tryz.ntmps152
    go_wp2_with fail
    refine (HER.out _ (by go_grown)).mono ?_
    rw [TE.out]
    rintro e w1 ⟨rfl, rfl⟩
    go_wp2_with fail
    go_loopw [25] (fun i wr => ∃ k : Nat, k ≤ n ∧ i = .int .i64 k ∧ Hid (∀ (j : Nat) (x : DInstr), j < k → code[j]? = some x → stepB p code.length x = true) ∧ Hid (MapIs wr (w.heap.size + 1) (metS code k)) ∧ Below (w.heap.size + 1) (w.alloc (.cells #[.slice A0 n0 c0, .int .i64 p.fMus, .slice A2 n2 c2, .slice A3 n3 c3] 38)) wr) (fun i _ => n - (intOf i).toNat)
    case atStart => exact ⟨0, Nat.zero_le _, rfl, Lib.hid (fun j x hj => by omega), Lib.hid (by simpa [metS] using MapIs.made (w.alloc (.cells #[.slice A0 n0 c0, .int .i64 p.fMus, .slice A2 n2 c2, .slice A3 n3 c3] 38))), (Below.refl _ _).alloc (by simp) _⟩
    case round =>
      rename World => wo
      obtain ⟨k, hk, rfl, hall, hmap, hb⟩ := hrel
      have z := hb.size
      simp only [World.size_alloc] at z
      have zB := hmap.out.lt
      obtain ⟨hcl0, hfz0⟩ := bcell hb
      have hl0a : w.heap.size < w.heap.size + 1 := by omega
      have hz0a : w.heap.size < wo.heap.size := by omega
      have hbw : Below w.heap.size w wo := Below.trans (by go_grown) (hb.mono (by omega))
      by_cases hlt : k < n
      · obtain ⟨hx, g, o, vs, rfl, hg, ⟨rfl, hw⟩, hcell⟩ := (hc.below hbw hhi).at_ hlt
        have hwa := Lib.hid hw.2.1
        have cc0 := hcell 0 _ rfl
        have cc1 := hcell 1 _ rfl
        have cc2 := hcell 2 _ rfl
        have cc3 := hcell 3 _ rfl
        simp only [show layInstr.size = 4 from rfl, ← Nat.add_assoc, Nat.add_zero, Nat.mul_one] at cc0 cc1 cc2 cc3
        clear hcell hw
        have hdk := Lib.hid (List.getElem?_eq_getElem hx)
        generalize code[k] = x at *
        clear hx
        obtain ⟨op, a, b, c'⟩ := x
        simp only at cc0 cc1 cc2 cc3
        replace hwa : Hid ((Lit.int .i64 a).wf = true) := hwa
        have hi' := Lib.hid (show instrOk p (n : Int) ⟨op, a, b, c'⟩ = instrOkB n0 n2 n3 p.fMus (n : Int) op a b c' by unfold instrOk; rw [L0.out, L2.out, L3.out])
        have HIO := Lib.hid (fun (W : World) (hW : Below w.heap.size w W) => implInstrOk_any (A0 := A0) (A2 := A2) (A3 := A3) (n0 := n0) (c0 := c0) (n2 := n2) (c2 := c2) (n3 := n3) (c3 := c3) (mus := p.fMus) (n := (n : Int)) (op := op) (a := a) (b := b) (c := c') (w := W) (opCells_below HC.out hW))
        go_wp2_with fail
        refine (HIO.out _ (by go_grown)).mono ?_
        rintro e w1 ⟨rfl, hb1⟩
        obtain ⟨hcl1, hfz1⟩ := bcell hb1
        have z1 := hb1.size
        simp only [World.size_alloc] at z1
        have hz1a : w.heap.size < w1.heap.size := by omega
        have hz1c : wo.heap.size < w1.heap.size := by omega
        have hbx : Below wo.heap.size wo w1 := by
          refine Below.trans ?_ (hb1.mono ?_)
          · go_grown
          · simp
        have hB1 := hb.trans (hbx.mono (by omega))
        have hb2 : Below w.heap.size w w1 := hbw.trans (hbx.mono (by omega))
        have hmap1 := Lib.hid (hmap.out.keep (hbx.block _ zB))
        have hyes0 := Lib.hid (fun (h : stepB p (n : Int) ⟨op, a, b, c'⟩ = true) => show ∀ (j : Nat) (x : DInstr), j < k + 1 → code[j]? = some x → stepB p code.length x = true from fun j x hj hx => by
          by_cases hjk : j = k
          · subst hjk
            obtain rfl := Option.some.inj (hdk.out.symm.trans hx)
            rw [LC.out]
            exact h
          · exact hall.out j x (by omega) hx)
        cases ti : instrOkB n0 n2 n3 p.fMus (n : Int) op a b c'
        · have hno := Lib.hid (procB_step (p := p) hdk.out (by rw [LC.out]; simp only [stepB, hi'.out, ti, Bool.false_and]))
          go_wp2_with fail
          go_ret
          exact ⟨by rw [hno.out]; rfl, hb2⟩
        · cases t11 : (op == 11)
          · have hyes := Lib.hid (hyes0.out (by simp only [stepB, hi'.out, ti, t11]; rfl))
            have hmapn := Lib.hid (show MapIs w1 (w.heap.size + 1) (metS code (k + 1)) by rw [metS_succ hdk.out]; simpa [t11] using hmap1.out)
            go_wp2_with fail
            go_quiet (fail)
            go_wp2_with fail
            go_roundw
            case rel => exact ⟨k + 1, by omega, by go_num, hyes, hmapn, below_drawn hB1 _⟩
            case measure => simp [intOf]; omega
          · obtain rfl : op = 11 := by simpa using t11
            have HTI := Lib.hid ti
            have hti : restB a b c' 1 = true ∧ inB a 0 ((n2 : Int) - 1) = true := by simpa [instrOkB] using ti
            have hab : 0 ≤ a ∧ a ≤ (n2 : Int) - 1 := by have := hti.2; simpa [inB] using this
            obtain ⟨q, rfl⟩ : ∃ q : Nat, a = q := ⟨a.toNat, by omega⟩
            have hq : q < n2 := by omega
            obtain ⟨hxs, g2, o2, vs2, rfl, hg2, hsee, hcell2⟩ := (hs2.below hb2 hhi).at_ hq
            have hds := Lib.hid (List.getElem?_eq_getElem hxs)
            have hsl : szSelect p.fSels[q] ≤ 1048576 := Nat.le_trans (sum_mem_le szSelect (List.getElem_mem hxs)) hsz
            generalize p.fSels[q] = s at *
            clear hxs
            have HE := Lib.hid (fun (W : World) (hW : Turned (w.heap.size + 1) (w.heap.size + 1 + 1) w1 W) => implSelectOk_any (w := W) (hi := hi) (s := s) (B0 := A0) (B2 := some ⟨g2, o2, none⟩) (B3 := A3) (m0 := n0) (b0 := c0) (m2 := n2) (b2 := c2) (m3 := n3) (b3 := c3) (mus := p.fMus) (n := (n : Int)) (laySelect.keep hsee fun k hk => hW.block k (by omega) (by omega)) (by have := hW.size; omega) hsl)
            have HF := Lib.hid (show Calls Tryz.prog 169 #[.map (some (w.heap.size + 1)), .agg #[.int .i64 5, .int .i64 (q : Int)]] w1.drew fun e w' => e = .returned (.bool (!(metS code k).contains (5, (q : Int)))) ∧ MapIs w' (w.heap.size + 1) (metS code k ++ [(5, (q : Int))]) ∧ Turned (w.heap.size + 1) (w.heap.size + 1 + 1) w1 w' from
              (first_any (w := w1.drew) (a := 5) (hmap1.out.keep rfl) (by decide) hwa.out (by have := metS_len code k; have := LC.out; omega)).mono fun e w' h => ⟨h.1, h.2.1, h.2.2.os, h.2.2.tape, h.2.2.output, h.2.2.size, h.2.2.block⟩)
            obtain ⟨B0, m0, b0, rfl, ⟨hc0, hm0, s0⟩, hw1⟩ := seeSelect hsee
            have ee0 := hcell2 0 _ rfl
            have ee1 := hcell2 1 _ rfl
            simp only [show laySelect.size = 2 from rfl, ← Nat.add_assoc, Nat.add_zero, Nat.mul_one] at ee0 ee1
            clear hcell2 hsee s0 ti hti
            have hi0 : (0 : Int) ≤ (q : Int) := by omega
            have hi1 : (q : Int) < (n2 : Int) := by omega
            have hnm := Lib.hid (show namesB p (n : Int) ⟨11, (q : Int), b, c'⟩ = selectB n0 (n : Int) s by simp only [namesB, Int.toNat_natCast, hds.out, L0.out])
            have hcode := Lib.hid (show metS code (k + 1) = metS code k ++ [(5, (q : Int))] by rw [metS_succ hdk.out]; rfl)
            cases tm : (metS code k).contains (5, (q : Int))
            · have KEEP := Lib.hid (fun (W : World) (hW : Turned (w.heap.size + 1) (w.heap.size + 1 + 1) w1 W) => show (∀ o, W.cell? ⟨w.heap.size, o, none⟩ = (w.alloc (.cells #[.slice A0 n0 c0, .int .i64 p.fMus, .slice (some ⟨g2, o2, none⟩) n2 c2, .slice A3 n3 c3] 38)).cell? ⟨w.heap.size, o, none⟩) ∧ W.cell? ⟨wo.heap.size, 1, none⟩ = some (.int .i64 (q : Int)) ∧
                  W.cell? ⟨g2, o2 + q * 2, none⟩ = some (.slice B0 m0 b0) ∧ W.cell? ⟨g2, o2 + q * 2 + 1, none⟩ = some (.int .i64 s.fElse) ∧ w1.heap.size ≤ W.heap.size from by
                refine ⟨fun o => ?_, ?_, ?_, ?_, hW.size⟩
                · rw [hW.cellAt hz1a (by omega), hB1.cell (p := ⟨w.heap.size, o, none⟩) (by simp)]
                · rw [hW.cellAt hz1c (by omega), hcl1 _ _ (by simp)]
                  simp
                · rw [hW.cellAt (by omega) (by omega)]; exact ee0
                · rw [hW.cellAt (by omega) (by omega)]; exact ee1)
              cases ts : selectB n0 (n : Int) s
              · have hno := Lib.hid (procB_step (p := p) hdk.out (by rw [LC.out]; simp only [stepB, hnm.out, ts]; simp))
                rw [tm, Bool.not_false] at HF
                go_wp2_with fail
                go_region_with (first | (go_at_call 169; refine HF.out.mono ?_; rintro e w2 ⟨rfl, hmap2, ht2⟩; have HM2 := Lib.hid hmap2; have HT2 := Lib.hid ht2; have HK2 := KEEP.out _ ht2; clear hmap2 ht2; obtain ⟨kp, kc, ks0, ks1, kz⟩ := HK2) | (go_at_call 151; refine (HE.out _ HT2.out).mono ?_; rintro e w3 ⟨rfl, hb5⟩))
                all_goals
                  have hbz : Below w.heap.size w w3 := (hb2.trans (HT2.out.below (by omega) (by omega))).trans (hb5.mono (by omega))
                  go_wp2_with fail
                  go_ret
                  exact ⟨by rw [hno.out]; rfl, hbz⟩
              · have hyes := Lib.hid (hyes0.out (by simp only [stepB, hi'.out, HTI.out, hnm.out, ts]; rfl))
                rw [tm, Bool.not_false] at HF
                go_wp2_with fail
                go_region_with (first | (go_at_call 169; refine HF.out.mono ?_; rintro e w2 ⟨rfl, hmap2, ht2⟩; have HM2 := Lib.hid hmap2; have HT2 := Lib.hid ht2; have HK2 := KEEP.out _ ht2; clear hmap2 ht2; obtain ⟨kp, kc, ks0, ks1, kz⟩ := HK2) | (go_at_call 151; refine (HE.out _ HT2.out).mono ?_; rintro e w3 ⟨rfl, hb5⟩))
                all_goals
                  have hB5 := (hB1.trans (HT2.out.below (by omega) (by omega))).trans (hb5.mono (show w.heap.size + 1 ≤ w2.heap.size by omega))
                  have hmapn := Lib.hid (show MapIs w3 (w.heap.size + 1) (metS code (k + 1)) by rw [hcode.out]; exact HM2.out.keep (hb5.block _ HM2.out.lt))
                  go_wp2_with fail
                  go_roundw
                  case rel => exact ⟨k + 1, by omega, by go_num, hyes, hmapn, hB5⟩
                  case measure => simp [intOf]; omega
            · have hyes := Lib.hid (hyes0.out (by
                obtain ⟨j, y, hj, hy, hy11, hya⟩ := metS_mem.1 tm
                have := hall.out j y hj hy
                rw [LC.out] at this
                simp only [stepB, hi'.out, HTI.out]
                simp only [stepB, hy11, Bool.and_eq_true] at this
                have h2 := this.2
                simp only [namesB, hya] at h2 ⊢
                simpa using h2))
              rw [tm, Bool.not_true] at HF
              go_wp2_with fail
              refine wp_region_any (by kernel_rfl) ?_
              try (change wpAny _ _ _ _ _ _ _ (World.drew _))
              refine wpAny_take (i := 0) (v := .pointer (some ⟨wo.heap.size, 0, none⟩)) rfl (by kernel_rfl) (by kernel_rfl) (by kernel_rfl) (fun _ _ _ h => h) (Or.inl ⟨by rfl, fun _ => by go_simp⟩) ?_
              refine wpAny_ready (rs := [1]) (by kernel_rfl) (by simp) ?_
              refine AllReady.cons rfl (fun K hK => ?_) AllReady.nil
              go_simp
              refine hK _ _ ?_
              clear hK K
              refine wpAny_take (i := 2) (v := .bool true) rfl (by kernel_rfl) (by kernel_rfl) (by kernel_rfl) (fun _ _ _ h => h) (Or.inl ⟨by rfl, fun _ => by go_simp⟩) ?_
              refine wpAny_take (i := 3) (v := .bool true) rfl (by kernel_rfl) (by kernel_rfl) (by kernel_rfl) (fun _ _ _ h => h) (Or.inl ⟨by rfl, fun _ => by go_simp⟩) ?_
              refine wpAny_take (i := 4) (v := .map (some (w.heap.size + 1))) rfl (by kernel_rfl) (by kernel_rfl) (by kernel_rfl) (fun _ _ _ h => h) (Or.inl ⟨by rfl, fun _ => by go_simp⟩) ?_
              refine wpAny_take (i := 5) (v := .pointer (some ⟨wo.heap.size, 1, none⟩)) rfl (by kernel_rfl) (by kernel_rfl) (by kernel_rfl) (fun _ _ _ h => h) (Or.inl ⟨by rfl, fun _ => by go_simp⟩) ?_
              refine wpAny_ready (rs := [6]) (by kernel_rfl) (by simp) ?_
              refine AllReady.cons rfl (fun K hK => ?_) AllReady.nil
              go_simp
              refine hK _ _ ?_
              clear hK K
              refine wpAny_take (i := 7) (v := .agg #[.int .i64 5, .int .i64 (q : Int)]) rfl (by kernel_rfl) (by kernel_rfl) (by kernel_rfl) (fun _ _ _ h => h) (Or.inl ⟨by rfl, fun _ => by go_simp⟩) ?_
              refine wpAny_ready (rs := [8]) (by kernel_rfl) (by simp) ?_
              refine AllReady.cons rfl (fun K hK => ?_) AllReady.nil
              go_simp
              refine HF.out.mono ?_
              rintro e w2 ⟨rfl, hmap2, ht2⟩
              have HM2 := Lib.hid hmap2
              have HT2 := Lib.hid ht2
              clear hmap2 ht2
              refine hK _ _ ?_
              clear hK K
              refine wpAny_take (i := 9) (v := .bool false) rfl (by kernel_rfl) (by kernel_rfl) (by kernel_rfl) (fun _ _ _ h => h) (Or.inl ⟨by rfl, fun _ => by go_simp⟩) ?_
              refine wpAny_take (i := 10) (v := .bool false) rfl (by kernel_rfl) (by kernel_rfl) (by kernel_rfl) (fun _ _ _ h => h) (Or.inl ⟨by rfl, fun _ => by go_simp⟩) ?_
              simp only [Act.put, List.getElem_toArray, List.getElem_cons_succ, List.getElem_cons_zero, List.setIfInBounds_toArray, List.set_cons_succ, List.set_cons_zero]
              refine wpAny_skips (fuel := 1) (j := 10) (by kernel_rfl) (fun _ _ _ _ _ h => h) [(11, 45), (12, 46), (13, 47), (14, 48), (15, 49), (16, 50), (17, 51), (18, 52), (19, 53), (20, 54)] (by kernel_rfl) (by rfl) ?_
              simp only [skipL, skipA, Act.put, List.setIfInBounds_toArray, List.set_cons_succ, List.set_cons_zero]
              refine wpAny_take (i := 21) (v := .bool false) rfl (by kernel_rfl) (by kernel_rfl) (by kernel_rfl) (fun _ _ _ h => h) (Or.inl ⟨by rfl, fun _ => by go_simp⟩) ?_
              simp only [Act.put, List.getElem_toArray, List.getElem_cons_succ, List.getElem_cons_zero, List.setIfInBounds_toArray, List.set_cons_succ, List.set_cons_zero]
              refine wpAny_done (by kernel_rfl) ?_ _
              have hB5 := hB1.trans (HT2.out.below (by omega) (by omega))
              have hmapn := Lib.hid (show MapIs w2 (w.heap.size + 1) (metS code (k + 1)) by rw [hcode.out]; exact HM2.out)
              go_wp2_with fail
              go_roundw
              case rel => exact ⟨k + 1, by omega, by go_num, hyes, hmapn, hB5⟩
              case measure => simp [intOf]; omega
      · have hyes := Lib.hid (show procB p code = true by rw [procB_end (by rw [LC.out]; omega) (fun j x hj => hall.out j x (by have := (List.getElem?_eq_some_iff.1 hj).1; rw [LC.out] at this; omega) hj), TE.out])
        go_wp2_with fail
        go_ret
        exact ⟨by rw [hyes.out]; rfl, hbw⟩
  · have hno := Lib.hid (procB_len (p := p) (code := code) (by rw [LC.out]; omega))
    clear hc hC
    by_cases h1 : n < 1
    · go_enter Tryz.func152, Tryz.ntmps152
      go_wp2_with fail
      go_ret
      exact ⟨by rw [hno.out]; rfl, by go_grown⟩
    · have h2 : 40 < n := by omega
      have h3 : decide ((n : Int) < 1) = false := decide_eq_false (by omega)
      clear hlen h1
      go_enter Tryz.func152, Tryz.ntmps152
      go_wp2_with fail
      go_ret
      exact ⟨by rw [hno.out]; rfl, by go_grown⟩
end Go.Proofs.YtghkdkagnibkgaaGreatDoor
