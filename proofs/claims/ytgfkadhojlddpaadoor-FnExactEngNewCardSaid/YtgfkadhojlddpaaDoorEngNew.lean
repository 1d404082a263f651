
/- EngNew: the program's and the model's. Laid by wip/gen9/engnew.py. -/

import Derived.Test.YtgfkadhojlddpaaDoorEngX

import Derived.Test.YtgfkadhojlddpaaDoorGNewG

import Derived.Test.YtgfkadhojlddpaaDoorOkProgI

import Derived.Test.YtgfkadhojlddpaaDoorOkProgS

import Derived.Deep.Cut

namespace Go.Proofs.YtgfkadhojlddpaaDoor
set_option linter.unusedSimpArgs false
set_option linter.unusedVariables false
open Go.RowKit


set_option maxRecDepth 100000 in
set_option maxHeartbeats 8000000 in
theorem implEngNew_any {w : World} {hi : Nat} {p : DProg} {vs : List Value} (hp : layProg.see w hi p vs) (hhi : hi ≤ w.heap.size) (hOC : OpCells w) (hnp : szProg p ≤ 1048576) :
    Calls Tryd.prog 25 #[.agg vs.toArray] w (MadeO layEng w (newE p)) := by
  obtain ⟨i0, hi0, iz0, iz1, iz2⟩ := info_parts infoChanE
  obtain ⟨j0, hj0, jz0, jz1, jz2⟩ := info_parts infoMutexE
  have HP := Lib.hid (fun (W : World) (hW : Below w.heap.size w W) => implProgOk_any (layProg.keep hp fun k hk => hW.block k (by omega)) (Nat.le_trans hhi hW.size) (opCells_below hOC hW) hnp)
  obtain ⟨A0, n0, c0, B2, m2, d2, A3, n3, c3, rfl, ⟨hc0, hm0, s0⟩, hw1, -, -⟩ := seeProg hp
  have HL := Lib.hid s0.1
  have HS := Lib.hid (fun (W : World) (hW : Below w.heap.size w W) => s0.below hW hhi)
  have HWF := Lib.hid (fun (v : Int) (hv : v ∈ p.fCaps) => show (Lit.int .i64 v).wf = true from by
    obtain ⟨i, hi9⟩ := List.getElem?_of_mem hv
    have h8 := (List.getElem?_eq_some_iff.1 hi9)
    obtain ⟨hx, g, o, ws, -, -, ⟨rfl, hw⟩, -⟩ := s0.at_ (i := i) (by rw [← s0.1]; exact h8.1)
    rw [h8.2] at hw
    exact hw)
  clear hp s0 hw1 hnp hOC
  have hP0 := box_keep (box_new w #[.slice A0 n0 c0, .int .i64 p.fMus, .slice B2 m2 d2, .slice A3 n3 c3] 53) ((Below.refl _ _).alloc (Nat.le_refl _) (.cells #[.slice none 0 0, .slice none 0 0, .slice none 0 0] 66)) (by simp)
  have hR0 := box_new (w.alloc (.cells #[.slice A0 n0 c0, .int .i64 p.fMus, .slice B2 m2 d2, .slice A3 n3 c3] 53)) #[.slice none 0 0, .slice none 0 0, .slice none 0 0] 66
  rw [World.size_alloc] at hR0
  have hB0 : Below w.heap.size w ((w.alloc (.cells #[.slice A0 n0 c0, .int .i64 p.fMus, .slice B2 m2 d2, .slice A3 n3 c3] 53)).alloc (.cells #[.slice none 0 0, .slice none 0 0, .slice none 0 0] 66)) := ((Below.refl _ _).alloc (Nat.le_refl _) _).alloc (by simp) _
  have hz0 : w.heap.size + 2 ≤ ((w.alloc (.cells #[.slice A0 n0 c0, .int .i64 p.fMus, .slice B2 m2 d2, .slice A3 n3 c3] 53)).alloc (.cells #[.slice none 0 0, .slice none 0 0, .slice none 0 0] 66)).heap.size := by simp
  go_enter Tryd.func25, Tryd.ntmps25
  go_wp2_with fail
  refine (HP.out _ hB0).mono ?_
  rintro e w1 ⟨rfl, hb1⟩
  have hz1 := hb1.size
  have HP1 := Lib.hid (box_keep hP0 hb1 (by omega))
  have HR1 := Lib.hid (box_keep hR0 hb1 (by omega))
  have HB1 := Lib.hid (hB0.trans (hb1.mono (by omega)))
  have hz1' : w.heap.size + 2 ≤ w1.heap.size := by omega
  clear hP0 hR0 hB0 hb1 hz0 hz1 HP
  cases hok : progOkB p
  · have r0 := box_cell (j := 0) HR1.out rfl
    have r1 := box_cell (j := 1) HR1.out rfl
    have r2 := box_cell (j := 2) HR1.out rfl
    have f0 := box_free HR1.out 0
    have f1 := box_free HR1.out 1
    have f2 := box_free HR1.out 2
    go_wp2_with fail
    have hfin := (box_set (j := 2) (u := .slice none 0 0) (box_set (j := 1) (u := .slice none 0 0) (box_set (j := 0) (u := .slice none 0 0) HR1.out)))
    have y0 := box_cell (j := 0) hfin rfl
    have y1 := box_cell (j := 1) hfin rfl
    have y2 := box_cell (j := 2) hfin rfl
    clear r0 r1 r2 f0 f1 f2
    refine bodyPost_ret (v := .agg #[.slice none 0 0, .slice none 0 0, .slice none 0 0]) (by simp [results, Tryd.results25, go_sem, y0, y1, y2]) rfl ?_
    rw [newE_no hok]
    exact made_noE (below_set (p := ⟨w.heap.size + 1, 2, none⟩) (below_set (p := ⟨w.heap.size + 1, 1, none⟩) (below_set (p := ⟨w.heap.size + 1, 0, none⟩) HB1.out (by simp) _) (by simp) _) (by simp) _)
  have hcnt := progOk_counts hok
  have HY := Lib.hid (newE_yes hok)
  have hn0 : n0 ≤ 6 := by have := HL.out; omega
  obtain ⟨M, hMu⟩ : ∃ M : Nat, p.fMus = (M : Int) := Int.eq_ofNat_of_zero_le hcnt.2.1
  have hM4 : M ≤ 4 := by have := hcnt.2.2.1; omega
  rw [hMu] at HP1
  rw [hMu, Int.toNat_natCast] at HY
  clear hcnt hMu hok
  have p0 := box_cell (j := 0) HP1.out rfl
  have p1 := box_cell (j := 1) HP1.out rfl
  have p2 := box_cell (j := 2) HP1.out rfl
  have p3 := box_cell (j := 3) HP1.out rfl
  go_wp2_with fail
  refine (implGorNew_law (by decide) (by decide)).mono ?_
  rintro e w2 ⟨u2, F2, rfl, own2, hF2, hb2⟩
  have hz2 := hb2.size
  have see2 := layGor.seen (hi := w2.heap.size) own2 (fun g hg => (hF2 g hg).2)
  obtain ⟨E2, m2', e2, E4, m4, e4, rfl, -⟩ := seeGor see2
  generalize newG 0 0 = gN at *
  have hG0 := ownR_one (t := 57) own2 (fun g hg => (hF2 g hg).2) rfl
  go_upto_region 4 with (fail)
  have hbx := box_new (w2.alloc (.cells [.int .i64 gN.fProc, .int .i64 gN.fPc, .slice E2 m2' e2, .int .i64 gN.fState, .slice E4 m4 e4].toArray 57)) #[.slice (some ⟨w2.heap.size, 0, none⟩) 1 1, .slice none 0 0, .slice none 0 0] 66
  rw [World.size_alloc] at hbx
  have hG1 := hG0.stay (fun g hg hlt => Below.heap_alloc (w2.alloc (.cells [.int .i64 gN.fProc, .int .i64 gN.fPc, .slice E2 m2' e2, .int .i64 gN.fState, .slice E4 m4 e4].toArray 57)) (.cells #[.slice (some ⟨w2.heap.size, 0, none⟩) 1 1, .slice none 0 0, .slice none 0 0] 66) g hlt) (by simp)
  have hb3 : Below w1.heap.size w1 ((w2.alloc (.cells [.int .i64 gN.fProc, .int .i64 gN.fPc, .slice E2 m2' e2, .int .i64 gN.fState, .slice E4 m4 e4].toArray 57)).alloc (.cells #[.slice (some ⟨w2.heap.size, 0, none⟩) 1 1, .slice none 0 0, .slice none 0 0] 66)) := (hb2.alloc hz2 _).alloc (by simp; omega) _
  have hz3 : ((w2.alloc (.cells [.int .i64 gN.fProc, .int .i64 gN.fPc, .slice E2 m2' e2, .int .i64 gN.fState, .slice E4 m4 e4].toArray 57)).alloc (.cells #[.slice (some ⟨w2.heap.size, 0, none⟩) 1 1, .slice none 0 0, .slice none 0 0] 66)).heap.size = w2.heap.size + 2 := by simp
  obtain ⟨bG, hbG⟩ : ∃ b, b = w2.heap.size := ⟨_, rfl⟩
  have hnm : w2.heap.size = bG := hbG.symm
  have HG := Lib.hid (hG1.wide (F' := fun g => w.heap.size + 2 ≤ g ∧ g < bG + 1) (fun g hg => by rcases hg with hg | hg; (have := hF2 g hg; omega); omega))
  replace hz3 : ((w2.alloc (.cells [.int .i64 gN.fProc, .int .i64 gN.fPc, .slice E2 m2' e2, .int .i64 gN.fState, .slice E4 m4 e4].toArray 57)).alloc (.cells #[.slice (some ⟨w2.heap.size, 0, none⟩) 1 1, .slice none 0 0, .slice none 0 0] 66)).heap.size = bG + 2 := by rw [hbG]; exact hz3
  have hbx' : ((w2.alloc (.cells [.int .i64 gN.fProc, .int .i64 gN.fPc, .slice E2 m2' e2, .int .i64 gN.fState, .slice E4 m4 e4].toArray 57)).alloc (.cells #[.slice (some ⟨w2.heap.size, 0, none⟩) 1 1, .slice none 0 0, .slice none 0 0] 66)).heap[bG + 1]? = some (.cells #[.slice (some ⟨bG, 0, none⟩) 1 1, .slice none 0 0, .slice none 0 0] 66 (0, 0)) := by rw [hbG]; exact hbx
  have HG' := Lib.hid (show OwnR layGor 57 ((w2.alloc (.cells [.int .i64 gN.fProc, .int .i64 gN.fPc, .slice E2 m2' e2, .int .i64 gN.fState, .slice E4 m4 e4].toArray 57)).alloc (.cells #[.slice (some ⟨w2.heap.size, 0, none⟩) 1 1, .slice none 0 0, .slice none 0 0] 66)) (fun g => w.heap.size + 2 ≤ g ∧ g < bG + 1) (some ⟨bG, 0, none⟩) 1 1 [gN] by have := HG.out; rw [hnm] at this ⊢; exact this)
  have hP3 := box_keep HP1.out hb3 (by omega)
  have hR3 := box_keep HR1.out hb3 (by omega)
  have HB3 := Lib.hid (HB1.out.trans (hb3.mono (by omega)))
  have hbG1 : w.heap.size + 2 ≤ bG := by omega
  clear hG0 hG1 hb2 own2 hF2 see2 HP1 HR1 p0 p1 p2 p3 hb3 HB1 hz2 hbx HG
  generalize ((w2.alloc (.cells [.int .i64 gN.fProc, .int .i64 gN.fPc, .slice E2 m2' e2, .int .i64 gN.fState, .slice E4 m4 e4].toArray 57)).alloc (.cells #[.slice (some ⟨w2.heap.size, 0, none⟩) 1 1, .slice none 0 0, .slice none 0 0] 66)) = W0 at *
  simp only [hnm]
  clear hnm hbG hz1'
  have HX0 := Lib.hid hbx'
  have HP3 := Lib.hid hP3
  have HR3 := Lib.hid hR3
  clear hbx' hP3 hR3
  have p0 := box_cell (j := 0) HP3.out rfl
  have p1 := box_cell (j := 1) HP3.out rfl
  have q1 := box_cell (j := 1) HX0.out rfl
  go_wp2_with fail
  go_loopw [16] (fun i wr => ∃ (k : Nat) (B : Option Addr) (c' : Nat), k ≤ n0 ∧ i = .int .i64 k ∧ Own wr (bG + 2) wr.heap.size 104 5 B k c' (((p.fCaps.take k).map chC).flatten) ∧ wr.heap[bG + 1]? = some (.cells #[.slice (some ⟨bG, 0, none⟩) 1 1, .slice B k c', .slice none 0 0] 66 (0, 0)) ∧ TurnedF (fun g => g = bG + 1) W0 wr ∧ bG + 2 ≤ wr.heap.size) (fun i _ => n0 - (intOf i).toNat)
  case atStart => exact ⟨0, none, 0, Nat.zero_le _, rfl, Own.nil_ _ _ _ _ _, HX0.out, TurnedF.refl _ _, by omega⟩
  case round =>
    obtain ⟨k, B, c', hk, rfl, hown, hbx, ht, hzr⟩ := hrel
    have hBr := ht.below (B := bG + 1) (fun g hg => by omega) (by omega)
    by_cases hlt : k < n0
    · obtain ⟨hx, g, o, vs, rfl, hg, ⟨rfl, hw⟩, hcell⟩ := (HS.out wr (HB3.out.trans (hBr.mono (by omega)))).at_ hlt
      have cc0 := hcell 0 _ rfl
      simp only [Lay.int, Lay.flat, Nat.add_zero, Nat.mul_one] at cc0
      have HT := Lib.hid (flat_more (f := chC) (List.getElem?_eq_getElem hx))
      generalize p.fCaps[k] = v at *
      clear hcell hw hx
      have q1 := box_cell (j := 1) hbx rfl
      have HSB := seen_block wr [.int .i64 v, .slice none 0 0, .slice none 0 0, .slice none 0 0, .bool false] 104
      have hownA := hown.alloc (.cells [.int .i64 v, .slice none 0 0, .slice none 0 0, .slice none 0 0, .bool false].toArray 104)
      have hbxA := box_keep hbx ((Below.refl _ _).alloc (Nat.le_refl _) (.cells [.int .i64 v, .slice none 0 0, .slice none 0 0, .slice none 0 0, .bool false].toArray 104)) (by omega)
      have htA : TurnedF (fun g => g = bG + 1) W0 (wr.alloc (.cells [.int .i64 v, .slice none 0 0, .slice none 0 0, .slice none 0 0, .bool false].toArray 104)) := ht.trans (TurnedF.of_below ((Below.refl _ _).alloc (Nat.le_refl _) _) _)
      go_wp2_with (at_builtin; refine wpList_append_seen rfl (.tmp 21) (.tmp 24) _ rfl (bG + 2) _ 104 i0 _ 5 88 Tryd.underlying63 hi0 iz0 iz1 iz2 rfl (by omega) B k c' _ rfl hownA _ _ 1 1 _ rfl HSB (by simp [Value.oneCell']) (by simp only [maxLen]; omega) (by omega) (by simp; omega) ?_; intro B4 c4 w5 own5 hb5; have hbx5 := box_keep hbxA hb5 (by omega); have y1 := box_cell (j := 1) hbx5 rfl; have y2 := box_free hbx5 1)
      go_roundw
      case rel =>
        have hb6 := box_set (j := 1) (u := .slice B4 (k + 1) c4) hbx5
        have hbz := hb5.size
        refine ⟨k + 1, B4, c4, by omega, by go_num, ?_, by simpa using hb6, ?_, ?_⟩
        · rw [HT.out]
          have h9 := own5.setCell (o := 1) (g := bG + 1) (.inl (by omega)) (.slice B4 (k + 1) c4)
          exact ⟨h9.1, fun a ha => by have := h9.2 a ha; simpa [World.setCell] using this⟩
        · exact TurnedF.setCell (p := ⟨bG + 1, 1, none⟩) ⟨hb5.os.trans htA.os, hb5.tape.trans htA.tape, hb5.output.trans htA.output, Nat.le_trans htA.size hb5.size, fun k9 hk9 hn9 => (hb5.block k9 (by omega)).trans (htA.block k9 hk9 hn9)⟩ rfl _
        · simp [World.setCell] at hbz ⊢; omega
      case measure => simp [intOf]; omega
    · obtain rfl : k = n0 := by omega
      rw [List.take_of_length_le (by rw [HL.out]; exact Nat.le_refl _)] at hown
      have HCH := Lib.hid hown
      have HBR := Lib.hid (HB3.out.trans (hBr.mono (by omega)))
      have HPR := Lib.hid (box_keep HP3.out hBr (by omega))
      have HRR := Lib.hid (box_keep HR3.out hBr (by omega))
      have HGR := Lib.hid (HG'.out.turnedF ht (fun g hg he => by have h8 := hg.2; rw [he] at h8; omega))
      have HBX := Lib.hid hbx
      clear hown hBr ht hbx HG' HP3 HR3 HB3 HX0 p0 p1 q1 hlt
      have p1 := box_cell (j := 1) HPR.out rfl
      go_wp2_with fail
      clear p1
      go_loopw [30] (fun i wq => ∃ (j : Nat) (E : Option Addr) (c9 : Nat), j ≤ M ∧ i = .int .i64 j ∧ Own wq wr.heap.size wq.heap.size 106 2 E j c9 ((List.replicate j muC).flatten) ∧ wq.heap[bG + 1]? = some (.cells #[.slice (some ⟨bG, 0, none⟩) 1 1, .slice B k c', .slice E j c9] 66 (0, 0)) ∧ TurnedF (fun g => g = bG + 1) wr wq) (fun i _ => M - (intOf i).toNat)
      case atStart => exact ⟨0, none, 0, Nat.zero_le _, rfl, Own.nil_ _ _ _ _ _, HBX.out, TurnedF.refl _ _⟩
      case round =>
        rename World => wq
        obtain ⟨j, E, c9, hj, rfl, hown, hbx, ht⟩ := hrel
        have hzq := ht.size
        have hBq := ht.below (B := bG + 1) (fun g hg => by omega) (by omega)
        have p1 := box_cell (j := 1) (box_keep HPR.out hBq (by omega)) rfl
        by_cases hlt : j < M
        · go_upto_region 11 with (fail)
          clear p1
          have HOWN := Lib.hid (fun (W : World) (hW : Below wq.heap.size wq W) => (hown.below hW (Nat.le_refl _)).wider (Nat.le_refl _) hW.size)
          have HBXQ := Lib.hid (fun (W : World) (hW : Below wq.heap.size wq W) => box_keep hbx hW (by omega))
          have HTQ := Lib.hid ht
          have HBQ := Lib.hid hBq
          clear hown hbx ht hBq
          refine wp_region_inv (fun AC0 L a W => ∃ sl32 sl33 sl34 sl35 sl36 sl37 : Value, a = ((((((AC0.put (some 32) sl32).put (some 33) sl33).put (some 34) sl34).put (some 35) sl35).put (some 36) sl36).put (some 37) sl37) ∧ (((∀ j, 4 ≤ j → ¬ L j) ∧ Below wq.heap.size wq W ∧ (L 0 → sl32 = (.pointer (some ⟨bG + 1, 2, none⟩))) ∧ (L 1 → sl33 = (.slice E j c9)) ∧ (L 2 → sl34 = (.agg #[.int .i64 (-1), .slice none 0 0])) ∧ (L 3 → BuiltAt wq.heap.size W muC sl35) ∧ (L 1 → L 0)) ∨ ((∀ j, j < 5 → L j) ∧ (∀ j, 5 ≤ j → ¬ L j) ∧ ∃ (E5 : Option Addr) (c5 : Nat), sl36 = .slice E5 (j + 1) c5 ∧ Own W wr.heap.size W.heap.size 106 2 E5 (j + 1) c5 ((List.replicate (j + 1) muC).flatten) ∧ W.heap[bG + 1]? = some (.cells #[.slice (some ⟨bG, 0, none⟩) 1 1, .slice B k c', .slice E j c9] 66 (0, 0)) ∧ TurnedF (fun g => g = bG + 1) wr W ∧ wq.heap.size ≤ W.heap.size) ∨ ((∀ j, j < 6 → L j) ∧ (∀ j, 6 ≤ j → ¬ L j) ∧ ∃ (E5 : Option Addr) (c5 : Nat), sl36 = .slice E5 (j + 1) c5 ∧ sl37 = .pointer (some ⟨bG + 1, 2, none⟩) ∧ Own W wr.heap.size W.heap.size 106 2 E5 (j + 1) c5 ((List.replicate (j + 1) muC).flatten) ∧ W.heap[bG + 1]? = some (.cells #[.slice (some ⟨bG, 0, none⟩) 1 1, .slice B k c', .slice E j c9] 66 (0, 0)) ∧ TurnedF (fun g => g = bG + 1) wr W ∧ wq.heap.size ≤ W.heap.size) ∨ ((∀ j, j < 7 → L j) ∧ (∀ j, 7 ≤ j → ¬ L j) ∧ ∃ (E5 : Option Addr) (c5 : Nat), Own W wr.heap.size W.heap.size 106 2 E5 (j + 1) c5 ((List.replicate (j + 1) muC).flatten) ∧ W.heap[bG + 1]? = some (.cells #[.slice (some ⟨bG, 0, none⟩) 1 1, .slice B k c', .slice E5 (j + 1) c5] 66 (0, 0)) ∧ TurnedF (fun g => g = bG + 1) wr W ∧ wq.heap.size ≤ W.heap.size))) (by kernel_rfl) (by kernel_rfl) ?_ ?_ ?_
          · exact ⟨u32, u33, u34, u35, u36, u37, by simp only [Act.put, List.setIfInBounds_toArray, List.set_cons_zero, List.set_cons_succ], .inl ⟨fun _ _ h => h, Below.drew (Below.refl _ _), fun h => absurd h id, fun h => absurd h id, fun h => absurd h id, fun h => absurd h id, fun h => absurd h id⟩⟩
          · intro Q9; refine InvFrom.cons (fun L a W hI hN hD K hK => ?_) ?_
            · obtain ⟨sl32, sl33, sl34, sl35, sl36, sl37, ha, hI⟩ := hI
              subst ha
              rcases hI with hI | h9 | h9 | h9
              rotate_left
              · exact absurd (h9.1 0 (by decide)) hN
              · exact absurd (h9.1 0 (by decide)) hN
              · exact absurd (h9.1 0 (by decide)) hN
              obtain ⟨hn, hB, f0, f1, f2, f3, g1_0⟩ := hI
              have hz := hB.size
              refine Kept.mk ?_
              simp only [Act.put, List.setIfInBounds_toArray, List.set_cons_zero, List.set_cons_succ]
              go_simp
              refine hK.out _ _ ?_
              exact ⟨(.pointer (some ⟨bG + 1, 2, none⟩)), sl33, sl34, sl35, sl36, sl37, by simp only [Act.put, List.setIfInBounds_toArray, List.set_cons_zero, List.set_cons_succ], .inl ⟨fun j hj h => h.elim (hn j hj) (by omega), hB, fun _ => rfl, fun h => f1 (h.resolve_right (by decide)), fun h => f2 (h.resolve_right (by decide)), fun h => f3 (h.resolve_right (by decide)), fun h => .inl (g1_0 (h.resolve_right (by decide)))⟩⟩
            refine InvFrom.cons (fun L a W hI hN hD K hK => ?_) ?_
            · obtain ⟨sl32, sl33, sl34, sl35, sl36, sl37, ha, hI⟩ := hI
              subst ha
              rcases hI with hI | h9 | h9 | h9
              rotate_left
              · exact absurd (h9.1 1 (by decide)) hN
              · exact absurd (h9.1 1 (by decide)) hN
              · exact absurd (h9.1 1 (by decide)) hN
              obtain ⟨hn, hB, f0, f1, f2, f3, g1_0⟩ := hI
              have hz := hB.size
              have d0 := f0 (hD 0 (by kernel_rfl))
              subst d0
              have pg := box_cell (j := 2) (HBXQ.out W hB) rfl
              refine Kept.mk ?_
              simp only [Act.put, List.setIfInBounds_toArray, List.set_cons_zero, List.set_cons_succ]
              go_simp
              refine hK.out _ _ ?_
              exact ⟨(.pointer (some ⟨bG + 1, 2, none⟩)), (.slice E j c9), sl34, sl35, sl36, sl37, by simp only [Act.put, List.setIfInBounds_toArray, List.set_cons_zero, List.set_cons_succ], .inl ⟨fun j hj h => h.elim (hn j hj) (by omega), hB, fun h => f0 (h.resolve_right (by decide)), fun _ => rfl, fun h => f2 (h.resolve_right (by decide)), fun h => f3 (h.resolve_right (by decide)), fun _ => .inl (hD 0 (by kernel_rfl))⟩⟩
            refine InvFrom.cons (fun L a W hI hN hD K hK => ?_) ?_
            · obtain ⟨sl32, sl33, sl34, sl35, sl36, sl37, ha, hI⟩ := hI
              subst ha
              rcases hI with hI | h9 | h9 | h9
              rotate_left
              · exact absurd (h9.1 2 (by decide)) hN
              · exact absurd (h9.1 2 (by decide)) hN
              · exact absurd (h9.1 2 (by decide)) hN
              obtain ⟨hn, hB, f0, f1, f2, f3, g1_0⟩ := hI
              have hz := hB.size
              refine kept_c0 rfl 67  _ rfl (fenters_of' Tryd.func67 (by kernel_rfl) (by kernel_rfl))   (implMutexNew_any W) ?_
              rintro e W1 ⟨rfl, hb1⟩
              refine ⟨_, rfl, hK.out _ _ ?_⟩
              exact ⟨sl32, sl33, (.agg #[.int .i64 (-1), .slice none 0 0]), sl35, sl36, sl37, by simp only [Act.put, List.setIfInBounds_toArray, List.set_cons_zero, List.set_cons_succ], .inl ⟨fun j hj h => h.elim (hn j hj) (by omega), hB.trans (hb1.mono hz), fun h => f0 (h.resolve_right (by decide)), fun h => f1 (h.resolve_right (by decide)), fun _ => rfl, fun h => (f3 (h.resolve_right (by decide))).up hb1, fun h => .inl (g1_0 (h.resolve_right (by decide)))⟩⟩
            refine InvFrom.cons (fun L a W hI hN hD K hK => ?_) ?_
            · obtain ⟨sl32, sl33, sl34, sl35, sl36, sl37, ha, hI⟩ := hI
              subst ha
              rcases hI with hI | h9 | h9 | h9
              rotate_left
              · exact absurd (h9.1 3 (by decide)) hN
              · exact absurd (h9.1 3 (by decide)) hN
              · exact absurd (h9.1 3 (by decide)) hN
              obtain ⟨hn, hB, f0, f1, f2, f3, g1_0⟩ := hI
              have hz := hB.size
              have d2 := f2 (hD 2 (by kernel_rfl))
              subst d2
              refine Kept.mk ?_
              simp only [Act.put, List.setIfInBounds_toArray, List.set_cons_zero, List.set_cons_succ]
              go_simp
              have hb1 : Below W.heap.size W (W.alloc (.cells muC.toArray 106)) := (Below.refl _ _).alloc (Nat.le_refl _) _
              refine hK.out _ _ ?_
              exact ⟨sl32, sl33, (.agg #[.int .i64 (-1), .slice none 0 0]), (.slice (some ⟨W.heap.size, 0, none⟩) 1 1), sl36, sl37, by simp only [Act.put, List.setIfInBounds_toArray, List.set_cons_zero, List.set_cons_succ], .inl ⟨fun j hj h => h.elim (hn j hj) (by omega), hB.trans (hb1.mono hz), fun h => f0 (h.resolve_right (by decide)), fun h => f1 (h.resolve_right (by decide)), fun h => f2 (h.resolve_right (by decide)), fun _ => BuiltAt.new hz, fun h => .inl (g1_0 (h.resolve_right (by decide)))⟩⟩
            refine InvFrom.cons (fun L a W hI hN hD K hK => ?_) ?_
            · obtain ⟨sl32, sl33, sl34, sl35, sl36, sl37, ha, hI⟩ := hI
              subst ha
              rcases hI with hI | h9 | h9 | h9
              rotate_left
              · exact absurd (h9.1 4 (by decide)) hN
              · exact absurd (h9.1 4 (by decide)) hN
              · exact absurd (h9.1 4 (by decide)) hN
              obtain ⟨hn, hB, f0, f1, f2, f3, g1_0⟩ := hI
              have hz := hB.size
              have d1 := f1 (hD 1 (by kernel_rfl))
              subst d1
              have d2 := f2 (hD 2 (by kernel_rfl))
              subst d2
              have d3 := f3 (hD 3 (by kernel_rfl))
              obtain ⟨bb, rfl, hbb1, hbb2, hsb⟩ := d3
              have hown := HOWN.out W hB
              refine Kept.mk (step_append_kin rfl (.tmp 33) (.tmp 35) _ rfl wr.heap.size _ 106 j0 _ 2 32 Tryd.underlying64 hj0 jz0 jz1 jz2 rfl (by omega) E j c9 _ rfl hown _ ⟨bb, 0, none⟩ 1 1 _ rfl hsb (by simp [muC, Value.oneCell']) (by omega) (by simp only [maxLen]; omega) (by omega) (by omega) ?_)
              intro E5 c5 W1 own5 hb5 hk5 hA5
              refine hK.out _ _ ?_
              have hbx5 := box_keep (HBXQ.out W hB) hb5 (by omega)
              have ht5 : TurnedF (fun g => g = bG + 1) wr W1 := ⟨hb5.os.trans (hB.os.trans HTQ.out.os), hb5.tape.trans (hB.tape.trans HTQ.out.tape), hb5.output.trans (hB.output.trans HTQ.out.output), Nat.le_trans HTQ.out.size (Nat.le_trans hz hb5.size), fun k9 hk9 hn9 => (hb5.block k9 hk9).trans ((hB.block k9 (by omega)).trans (HTQ.out.block k9 hk9 hn9))⟩
              have hz5 := Nat.le_trans hz hb5.size
              have hall : ∀ j, j < 5 → (L j ∨ j = 4) := by
                intro j hj
                have hj2 : j = 0 ∨ j = 1 ∨ j = 2 ∨ j = 3 ∨ j = 4 := by omega
                rcases hj2 with rfl | rfl | rfl | rfl | rfl
                · exact .inl (g1_0 (hD 1 (by kernel_rfl)))
                · exact .inl (hD 1 (by kernel_rfl))
                · exact .inl (hD 2 (by kernel_rfl))
                · exact .inl (hD 3 (by kernel_rfl))
                · exact .inr rfl
              exact ⟨sl32, (.slice E j c9), (.agg #[.int .i64 (-1), .slice none 0 0]), (.slice (some ⟨bb, 0, none⟩) 1 1), (.slice E5 (j + 1) c5), sl37, by simp only [Act.put, List.setIfInBounds_toArray, List.set_cons_zero, List.set_cons_succ], .inr (.inl ⟨hall, fun j hj h => h.elim (hn j (by omega)) (by omega), E5, c5, rfl, by rw [rep_more]; exact own5, hbx5, ht5, hz5⟩)⟩
            refine InvFrom.cons (fun L a W hI hN hD K hK => ?_) ?_
            · obtain ⟨sl32, sl33, sl34, sl35, sl36, sl37, ha, hI⟩ := hI
              subst ha
              rcases hI with h9 | hI | h9 | h9
              · exact absurd (hD 4 (by kernel_rfl)) (h9.1 4 (by decide))
              rotate_left
              · exact absurd (h9.1 5 (by decide)) hN
              · exact absurd (h9.1 5 (by decide)) hN
              obtain ⟨hu, hn, hI⟩ := hI
              obtain ⟨E5, c5, rfl, own5, hbx5, ht5, hz5⟩ := hI
              refine Kept.mk ?_
              simp only [Act.put, List.setIfInBounds_toArray, List.set_cons_zero, List.set_cons_succ]
              go_simp
              refine hK.out _ _ ?_
              have hall : ∀ j, j < 6 → (L j ∨ j = 5) := by
                intro j hj
                have hj2 : j = 0 ∨ j = 1 ∨ j = 2 ∨ j = 3 ∨ j = 4 ∨ j = 5 := by omega
                rcases hj2 with rfl | rfl | rfl | rfl | rfl | rfl
                · exact .inl (hD 0 (by kernel_rfl))
                · exact .inl (hD 1 (by kernel_rfl))
                · exact .inl (hD 2 (by kernel_rfl))
                · exact .inl (hD 3 (by kernel_rfl))
                · exact .inl (hD 4 (by kernel_rfl))
                · exact .inr rfl
              exact ⟨sl32, sl33, sl34, sl35, (.slice E5 (j + 1) c5), (.pointer (some ⟨bG + 1, 2, none⟩)), by simp only [Act.put, List.setIfInBounds_toArray, List.set_cons_zero, List.set_cons_succ], .inr (.inr (.inl ⟨hall, fun j hj h => h.elim (hn j (by omega)) (by omega), E5, c5, rfl, rfl, own5, hbx5, ht5, hz5⟩))⟩
            refine InvFrom.cons (fun L a W hI hN hD K hK => ?_) ?_
            · obtain ⟨sl32, sl33, sl34, sl35, sl36, sl37, ha, hI⟩ := hI
              subst ha
              rcases hI with h9 | h9 | hI | h9
              · exact absurd (hD 4 (by kernel_rfl)) (h9.1 4 (by decide))
              · exact absurd (hD 5 (by kernel_rfl)) (h9.2.1 5 (by decide))
              rotate_left
              · exact absurd (h9.1 6 (by decide)) hN
              obtain ⟨hu, hn, hI⟩ := hI
              obtain ⟨E5, c5, rfl, rfl, own5, hbx5, ht5, hz5⟩ := hI
              have y1 := box_cell (j := 2) hbx5 rfl
              have y2 := box_free hbx5 2
              refine Kept.mk ?_
              simp only [Act.put, List.setIfInBounds_toArray, List.set_cons_zero, List.set_cons_succ]
              go_simp
              refine hK.out _ _ ?_
              have hb6 := box_set (j := 2) (u := .slice E5 (j + 1) c5) hbx5
              have h9 := own5.setCell (o := 2) (g := bG + 1) (.inl (by omega)) (.slice E5 (j + 1) c5)
              have hall : ∀ j, j < 7 → (L j ∨ j = 6) := by
                intro j hj
                have hj2 : j = 0 ∨ j = 1 ∨ j = 2 ∨ j = 3 ∨ j = 4 ∨ j = 5 ∨ j = 6 := by omega
                rcases hj2 with rfl | rfl | rfl | rfl | rfl | rfl | rfl
                · exact .inl (hD 0 (by kernel_rfl))
                · exact .inl (hD 1 (by kernel_rfl))
                · exact .inl (hD 2 (by kernel_rfl))
                · exact .inl (hD 3 (by kernel_rfl))
                · exact .inl (hD 4 (by kernel_rfl))
                · exact .inl (hD 5 (by kernel_rfl))
                · exact .inr rfl
              exact ⟨sl32, sl33, sl34, sl35, (.slice E5 (j + 1) c5), (.pointer (some ⟨bG + 1, 2, none⟩)), by simp only [Act.put, List.setIfInBounds_toArray, List.set_cons_zero, List.set_cons_succ], .inr (.inr (.inr (⟨hall, fun j hj h => h.elim (hn j (by omega)) (by omega), E5, c5, by simpa only [World.size_setCell] using h9, by simpa using hb6, ht5.setCell (p := ⟨bG + 1, 2, none⟩) rfl _, by simpa only [World.size_setCell] using hz5⟩)))⟩
            exact InvFrom.nil
          intro L a w6 hL hI
          obtain ⟨sl32, sl33, sl34, sl35, sl36, sl37, ha, hI⟩ := hI
          subst ha
          rcases hI with h9 | h9 | h9 | hI
          · exact absurd (hL 4 (by decide)) (h9.1 4 (by decide))
          · exact absurd (hL 5 (by decide)) (h9.2.1 5 (by decide))
          · exact absurd (hL 6 (by decide)) (h9.2.1 6 (by decide))
          have hfin := hI.2.2
          clear hL hI
          refine Kept.mk ?_
          simp only [Act.put, List.setIfInBounds_toArray, List.set_cons_zero, List.set_cons_succ]
          obtain ⟨E5, c5, own5, hbx5, ht5, hz5⟩ := hfin
          go_wp2_with fail
          go_roundw
          case rel => exact ⟨j + 1, E5, c5, by omega, by go_num, own5, hbx5, ht5⟩
          case measure => simp [intOf]; omega
        · obtain rfl : j = M := by omega
          have e0 := box_cell (j := 0) hbx rfl
          have e1 := box_cell (j := 1) hbx rfl
          have e2 := box_cell (j := 2) hbx rfl
          have hrb := box_keep HRR.out hBq (by omega)
          have r0 := box_cell (j := 0) hrb rfl
          have r1 := box_cell (j := 1) hrb rfl
          have r2 := box_cell (j := 2) hrb rfl
          have f0 := box_free hrb 0
          have f1 := box_free hrb 1
          have f2 := box_free hrb 2
          have HOW := Lib.hid hown
          have HTQ := Lib.hid ht
          clear hown ht
          go_wp2_with fail
          have hfin := (box_set (j := 2) (u := .slice E j c9) (box_set (j := 1) (u := .slice B k c') (box_set (j := 0) (u := .slice (some ⟨bG, 0, none⟩) 1 1) hrb)))
          have y0 := box_cell (j := 0) hfin rfl
          have y1 := box_cell (j := 1) hfin rfl
          have y2 := box_cell (j := 2) hfin rfl
          clear r0 r1 r2 f0 f1 f2
          refine bodyPost_ret (v := .agg #[.slice (some ⟨bG, 0, none⟩) 1 1, .slice B k c', .slice E j c9]) (by simp [results, Tryd.results25, go_sem, y0, y1, y2]) rfl ?_
          rw [HY.out]
          have o0 := HGR.out.turnedF HTQ.out (fun g hg he => by have h8 := hg.2; rw [he] at h8; omega)
          have o1 := rowCh (l := p.fCaps) (by rw [HL.out]; exact HCH.out.turnedF HTQ.out (fun g h8 h9 he => by omega)) HWF.out
          rw [HL.out] at o1
          have o2 := rowMu HOW.out
          have s0 := ((o0.setCell (o := 0) (g := w.heap.size + 1) (fun h => by have := h.1; omega) (.slice (some ⟨bG, 0, none⟩) 1 1)).setCell (o := 1) (g := w.heap.size + 1) (fun h => by have := h.1; omega) (.slice B k c')).setCell (o := 2) (g := w.heap.size + 1) (fun h => by have := h.1; omega) (.slice E j c9)
          have s1 := ((o1.setCell (o := 0) (g := w.heap.size + 1) (fun h => by have := h.1; omega) (.slice (some ⟨bG, 0, none⟩) 1 1)).setCell (o := 1) (g := w.heap.size + 1) (fun h => by have := h.1; omega) (.slice B k c')).setCell (o := 2) (g := w.heap.size + 1) (fun h => by have := h.1; omega) (.slice E j c9)
          have s2 := ((o2.setCell (o := 0) (g := w.heap.size + 1) (fun h => by have := h.1; omega) (.slice (some ⟨bG, 0, none⟩) 1 1)).setCell (o := 1) (g := w.heap.size + 1) (fun h => by have := h.1; omega) (.slice B k c')).setCell (o := 2) (g := w.heap.size + 1) (fun h => by have := h.1; omega) (.slice E j c9)
          have hBB := HBR.out.trans (hBq.mono (by omega))
          refine ⟨[.slice (some ⟨bG, 0, none⟩) 1 1, .slice B k c', .slice E j c9], fun g => w.heap.size + 2 ≤ g ∧ g < wq.heap.size, rfl, ownEng (x := ⟨[gN], p.fCaps.map newCh, List.replicate j newM⟩) s0 s1 s2 (fun g hg => ⟨hg.1, by have := hg.2; omega⟩) (fun g hg => ⟨by have := hg.1; omega, by have := hg.2; omega⟩) (fun g hg => ⟨by have := hg.1; omega, hg.2⟩) (fun g hg h9 => by have := hg.2; have := h9.1; omega) (fun g hg h9 => by have := hg.2; have := h9.1; omega) (fun g hg h9 => by have := hg.2; have := h9.1; omega), fun g hg => ⟨by have := hg.1; omega, by simp only [World.size_setCell]; exact hg.2⟩, ?_⟩
          exact below_set (p := ⟨w.heap.size + 1, 2, none⟩) (below_set (p := ⟨w.heap.size + 1, 1, none⟩) (below_set (p := ⟨w.heap.size + 1, 0, none⟩) hBB (by simp) _) (by simp) _) (by simp) _

set_option maxRecDepth 100000 in
set_option maxHeartbeats 8000000 in
theorem specEngNew_any {w : World} {hi : Nat} {p : DProg} {vs : List Value} (hp : layProg.see w hi p vs) (hhi : hi ≤ w.heap.size) (hnp : szProg p ≤ 1048576) :
    Calls Tryd.prog 24 #[.agg vs.toArray] w (MadeO layEng w (newE p)) := by
  obtain ⟨i0, hi0, iz0, iz1, iz2⟩ := info_parts infoChanE
  obtain ⟨j0, hj0, jz0, jz1, jz2⟩ := info_parts infoMutexE
  have HP := Lib.hid (fun (W : World) (hW : Below w.heap.size w W) => specProgOk_any (layProg.keep hp fun k hk => hW.block k (by omega)) (Nat.le_trans hhi hW.size) hnp)
  obtain ⟨A0, n0, c0, B2, m2, d2, A3, n3, c3, rfl, ⟨hc0, hm0, s0⟩, hw1, -, -⟩ := seeProg hp
  have HL := Lib.hid s0.1
  have HS := Lib.hid (fun (W : World) (hW : Below w.heap.size w W) => s0.below hW hhi)
  have HWF := Lib.hid (fun (v : Int) (hv : v ∈ p.fCaps) => show (Lit.int .i64 v).wf = true from by
    obtain ⟨i, hi9⟩ := List.getElem?_of_mem hv
    have h8 := (List.getElem?_eq_some_iff.1 hi9)
    obtain ⟨hx, g, o, ws, -, -, ⟨rfl, hw⟩, -⟩ := s0.at_ (i := i) (by rw [← s0.1]; exact h8.1)
    rw [h8.2] at hw
    exact hw)
  clear hp s0 hw1 hnp
  have hP0 := box_keep (box_new w #[.slice A0 n0 c0, .int .i64 p.fMus, .slice B2 m2 d2, .slice A3 n3 c3] 53) ((Below.refl _ _).alloc (Nat.le_refl _) (.cells #[.slice none 0 0, .slice none 0 0, .slice none 0 0] 66)) (by simp)
  have hR0 := box_new (w.alloc (.cells #[.slice A0 n0 c0, .int .i64 p.fMus, .slice B2 m2 d2, .slice A3 n3 c3] 53)) #[.slice none 0 0, .slice none 0 0, .slice none 0 0] 66
  rw [World.size_alloc] at hR0
  have hB0 : Below w.heap.size w ((w.alloc (.cells #[.slice A0 n0 c0, .int .i64 p.fMus, .slice B2 m2 d2, .slice A3 n3 c3] 53)).alloc (.cells #[.slice none 0 0, .slice none 0 0, .slice none 0 0] 66)) := ((Below.refl _ _).alloc (Nat.le_refl _) _).alloc (by simp) _
  have hz0 : w.heap.size + 2 ≤ ((w.alloc (.cells #[.slice A0 n0 c0, .int .i64 p.fMus, .slice B2 m2 d2, .slice A3 n3 c3] 53)).alloc (.cells #[.slice none 0 0, .slice none 0 0, .slice none 0 0] 66)).heap.size := by simp
  go_enter Tryd.func24, Tryd.ntmps24
  go_wp2_with fail
  refine (HP.out _ hB0).mono ?_
  rintro e w1 ⟨rfl, hb1⟩
  have hz1 := hb1.size
  have HP1 := Lib.hid (box_keep hP0 hb1 (by omega))
  have HR1 := Lib.hid (box_keep hR0 hb1 (by omega))
  have HB1 := Lib.hid (hB0.trans (hb1.mono (by omega)))
  have hz1' : w.heap.size + 2 ≤ w1.heap.size := by omega
  clear hP0 hR0 hB0 hb1 hz0 hz1 HP
  cases hok : progOkB p
  · have r0 := box_cell (j := 0) HR1.out rfl
    have r1 := box_cell (j := 1) HR1.out rfl
    have r2 := box_cell (j := 2) HR1.out rfl
    have f0 := box_free HR1.out 0
    have f1 := box_free HR1.out 1
    have f2 := box_free HR1.out 2
    go_wp2_with fail
    have hfin := (box_set (j := 2) (u := .slice none 0 0) (box_set (j := 1) (u := .slice none 0 0) (box_set (j := 0) (u := .slice none 0 0) HR1.out)))
    have y0 := box_cell (j := 0) hfin rfl
    have y1 := box_cell (j := 1) hfin rfl
    have y2 := box_cell (j := 2) hfin rfl
    clear r0 r1 r2 f0 f1 f2
    refine bodyPost_ret (v := .agg #[.slice none 0 0, .slice none 0 0, .slice none 0 0]) (by simp [results, Tryd.results24, go_sem, y0, y1, y2]) rfl ?_
    rw [newE_no hok]
    exact made_noE (below_set (p := ⟨w.heap.size + 1, 2, none⟩) (below_set (p := ⟨w.heap.size + 1, 1, none⟩) (below_set (p := ⟨w.heap.size + 1, 0, none⟩) HB1.out (by simp) _) (by simp) _) (by simp) _)
  have hcnt := progOk_counts hok
  have HY := Lib.hid (newE_yes hok)
  have hn0 : n0 ≤ 6 := by have := HL.out; omega
  obtain ⟨M, hMu⟩ : ∃ M : Nat, p.fMus = (M : Int) := Int.eq_ofNat_of_zero_le hcnt.2.1
  have hM4 : M ≤ 4 := by have := hcnt.2.2.1; omega
  rw [hMu] at HP1
  rw [hMu, Int.toNat_natCast] at HY
  clear hcnt hMu hok
  have p0 := box_cell (j := 0) HP1.out rfl
  have p1 := box_cell (j := 1) HP1.out rfl
  have p2 := box_cell (j := 2) HP1.out rfl
  have p3 := box_cell (j := 3) HP1.out rfl
  go_wp2_with fail
  refine (specGorNew_law (by decide) (by decide)).mono ?_
  rintro e w2 ⟨u2, F2, rfl, own2, hF2, hb2⟩
  have hz2 := hb2.size
  have see2 := layGor.seen (hi := w2.heap.size) own2 (fun g hg => (hF2 g hg).2)
  obtain ⟨E2, m2', e2, E4, m4, e4, rfl, -⟩ := seeGor see2
  generalize newG 0 0 = gN at *
  have hG0 := ownR_one (t := 57) own2 (fun g hg => (hF2 g hg).2) rfl
  go_upto_region 4 with (fail)
  have hbx := box_new (w2.alloc (.cells [.int .i64 gN.fProc, .int .i64 gN.fPc, .slice E2 m2' e2, .int .i64 gN.fState, .slice E4 m4 e4].toArray 57)) #[.slice (some ⟨w2.heap.size, 0, none⟩) 1 1, .slice none 0 0, .slice none 0 0] 66
  rw [World.size_alloc] at hbx
  have hG1 := hG0.stay (fun g hg hlt => Below.heap_alloc (w2.alloc (.cells [.int .i64 gN.fProc, .int .i64 gN.fPc, .slice E2 m2' e2, .int .i64 gN.fState, .slice E4 m4 e4].toArray 57)) (.cells #[.slice (some ⟨w2.heap.size, 0, none⟩) 1 1, .slice none 0 0, .slice none 0 0] 66) g hlt) (by simp)
  have hb3 : Below w1.heap.size w1 ((w2.alloc (.cells [.int .i64 gN.fProc, .int .i64 gN.fPc, .slice E2 m2' e2, .int .i64 gN.fState, .slice E4 m4 e4].toArray 57)).alloc (.cells #[.slice (some ⟨w2.heap.size, 0, none⟩) 1 1, .slice none 0 0, .slice none 0 0] 66)) := (hb2.alloc hz2 _).alloc (by simp; omega) _
  have hz3 : ((w2.alloc (.cells [.int .i64 gN.fProc, .int .i64 gN.fPc, .slice E2 m2' e2, .int .i64 gN.fState, .slice E4 m4 e4].toArray 57)).alloc (.cells #[.slice (some ⟨w2.heap.size, 0, none⟩) 1 1, .slice none 0 0, .slice none 0 0] 66)).heap.size = w2.heap.size + 2 := by simp
  obtain ⟨bG, hbG⟩ : ∃ b, b = w2.heap.size := ⟨_, rfl⟩
  have hnm : w2.heap.size = bG := hbG.symm
  have HG := Lib.hid (hG1.wide (F' := fun g => w.heap.size + 2 ≤ g ∧ g < bG + 1) (fun g hg => by rcases hg with hg | hg; (have := hF2 g hg; omega); omega))
  replace hz3 : ((w2.alloc (.cells [.int .i64 gN.fProc, .int .i64 gN.fPc, .slice E2 m2' e2, .int .i64 gN.fState, .slice E4 m4 e4].toArray 57)).alloc (.cells #[.slice (some ⟨w2.heap.size, 0, none⟩) 1 1, .slice none 0 0, .slice none 0 0] 66)).heap.size = bG + 2 := by rw [hbG]; exact hz3
  have hbx' : ((w2.alloc (.cells [.int .i64 gN.fProc, .int .i64 gN.fPc, .slice E2 m2' e2, .int .i64 gN.fState, .slice E4 m4 e4].toArray 57)).alloc (.cells #[.slice (some ⟨w2.heap.size, 0, none⟩) 1 1, .slice none 0 0, .slice none 0 0] 66)).heap[bG + 1]? = some (.cells #[.slice (some ⟨bG, 0, none⟩) 1 1, .slice none 0 0, .slice none 0 0] 66 (0, 0)) := by rw [hbG]; exact hbx
  have HG' := Lib.hid (show OwnR layGor 57 ((w2.alloc (.cells [.int .i64 gN.fProc, .int .i64 gN.fPc, .slice E2 m2' e2, .int .i64 gN.fState, .slice E4 m4 e4].toArray 57)).alloc (.cells #[.slice (some ⟨w2.heap.size, 0, none⟩) 1 1, .slice none 0 0, .slice none 0 0] 66)) (fun g => w.heap.size + 2 ≤ g ∧ g < bG + 1) (some ⟨bG, 0, none⟩) 1 1 [gN] by have := HG.out; rw [hnm] at this ⊢; exact this)
  have hP3 := box_keep HP1.out hb3 (by omega)
  have hR3 := box_keep HR1.out hb3 (by omega)
  have HB3 := Lib.hid (HB1.out.trans (hb3.mono (by omega)))
  have hbG1 : w.heap.size + 2 ≤ bG := by omega
  clear hG0 hG1 hb2 own2 hF2 see2 HP1 HR1 p0 p1 p2 p3 hb3 HB1 hz2 hbx HG
  generalize ((w2.alloc (.cells [.int .i64 gN.fProc, .int .i64 gN.fPc, .slice E2 m2' e2, .int .i64 gN.fState, .slice E4 m4 e4].toArray 57)).alloc (.cells #[.slice (some ⟨w2.heap.size, 0, none⟩) 1 1, .slice none 0 0, .slice none 0 0] 66)) = W0 at *
  simp only [hnm]
  clear hnm hbG hz1'
  have HX0 := Lib.hid hbx'
  have HP3 := Lib.hid hP3
  have HR3 := Lib.hid hR3
  clear hbx' hP3 hR3
  have p0 := box_cell (j := 0) HP3.out rfl
  have p1 := box_cell (j := 1) HP3.out rfl
  have q1 := box_cell (j := 1) HX0.out rfl
  go_wp2_with fail
  go_loopw [17] (fun i wr => ∃ (k : Nat) (B : Option Addr) (c' : Nat), k ≤ n0 ∧ i = .int .i64 k ∧ Own wr (bG + 2) wr.heap.size 104 5 B k c' (((p.fCaps.take k).map chC).flatten) ∧ wr.heap[bG + 1]? = some (.cells #[.slice (some ⟨bG, 0, none⟩) 1 1, .slice B k c', .slice none 0 0] 66 (0, 0)) ∧ TurnedF (fun g => g = bG + 1) W0 wr ∧ bG + 2 ≤ wr.heap.size) (fun i _ => n0 - (intOf i).toNat)
  case atStart => exact ⟨0, none, 0, Nat.zero_le _, rfl, Own.nil_ _ _ _ _ _, HX0.out, TurnedF.refl _ _, by omega⟩
  case round =>
    obtain ⟨k, B, c', hk, rfl, hown, hbx, ht, hzr⟩ := hrel
    have hBr := ht.below (B := bG + 1) (fun g hg => by omega) (by omega)
    by_cases hlt : k < n0
    · obtain ⟨hx, g, o, vs, rfl, hg, ⟨rfl, hw⟩, hcell⟩ := (HS.out wr (HB3.out.trans (hBr.mono (by omega)))).at_ hlt
      have cc0 := hcell 0 _ rfl
      simp only [Lay.int, Lay.flat, Nat.add_zero, Nat.mul_one] at cc0
      have HT := Lib.hid (flat_more (f := chC) (List.getElem?_eq_getElem hx))
      generalize p.fCaps[k] = v at *
      clear hcell hw hx
      have q1 := box_cell (j := 1) hbx rfl
      have HSB := seen_block wr [.int .i64 v, .slice none 0 0, .slice none 0 0, .slice none 0 0, .bool false] 104
      have hownA := hown.alloc (.cells [.int .i64 v, .slice none 0 0, .slice none 0 0, .slice none 0 0, .bool false].toArray 104)
      have hbxA := box_keep hbx ((Below.refl _ _).alloc (Nat.le_refl _) (.cells [.int .i64 v, .slice none 0 0, .slice none 0 0, .slice none 0 0, .bool false].toArray 104)) (by omega)
      have htA : TurnedF (fun g => g = bG + 1) W0 (wr.alloc (.cells [.int .i64 v, .slice none 0 0, .slice none 0 0, .slice none 0 0, .bool false].toArray 104)) := ht.trans (TurnedF.of_below ((Below.refl _ _).alloc (Nat.le_refl _) _) _)
      go_wp2_with (at_builtin; refine wpList_append_seen rfl (.tmp 22) (.tmp 25) _ rfl (bG + 2) _ 104 i0 _ 5 88 Tryd.underlying63 hi0 iz0 iz1 iz2 rfl (by omega) B k c' _ rfl hownA _ _ 1 1 _ rfl HSB (by simp [Value.oneCell']) (by simp only [maxLen]; omega) (by omega) (by simp; omega) ?_; intro B4 c4 w5 own5 hb5; have hbx5 := box_keep hbxA hb5 (by omega); have y1 := box_cell (j := 1) hbx5 rfl; have y2 := box_free hbx5 1)
      go_roundw
      case rel =>
        have hb6 := box_set (j := 1) (u := .slice B4 (k + 1) c4) hbx5
        have hbz := hb5.size
        refine ⟨k + 1, B4, c4, by omega, by go_num, ?_, by simpa using hb6, ?_, ?_⟩
        · rw [HT.out]
          have h9 := own5.setCell (o := 1) (g := bG + 1) (.inl (by omega)) (.slice B4 (k + 1) c4)
          exact ⟨h9.1, fun a ha => by have := h9.2 a ha; simpa [World.setCell] using this⟩
        · exact TurnedF.setCell (p := ⟨bG + 1, 1, none⟩) ⟨hb5.os.trans htA.os, hb5.tape.trans htA.tape, hb5.output.trans htA.output, Nat.le_trans htA.size hb5.size, fun k9 hk9 hn9 => (hb5.block k9 (by omega)).trans (htA.block k9 hk9 hn9)⟩ rfl _
        · simp [World.setCell] at hbz ⊢; omega
      case measure => simp [intOf]; omega
    · obtain rfl : k = n0 := by omega
      rw [List.take_of_length_le (by rw [HL.out]; exact Nat.le_refl _)] at hown
      have HCH := Lib.hid hown
      have HBR := Lib.hid (HB3.out.trans (hBr.mono (by omega)))
      have HPR := Lib.hid (box_keep HP3.out hBr (by omega))
      have HRR := Lib.hid (box_keep HR3.out hBr (by omega))
      have HGR := Lib.hid (HG'.out.turnedF ht (fun g hg he => by have h8 := hg.2; rw [he] at h8; omega))
      have HBX := Lib.hid hbx
      clear hown hBr ht hbx HG' HP3 HR3 HB3 HX0 p0 p1 q1 hlt
      have p1 := box_cell (j := 1) HPR.out rfl
      go_wp2_with fail
      clear p1
      go_loopw [6] (fun i wq => ∃ (j : Nat) (E : Option Addr) (c9 : Nat), j ≤ M ∧ i = .int .i64 j ∧ Own wq wr.heap.size wq.heap.size 106 2 E j c9 ((List.replicate j muC).flatten) ∧ wq.heap[bG + 1]? = some (.cells #[.slice (some ⟨bG, 0, none⟩) 1 1, .slice B k c', .slice E j c9] 66 (0, 0)) ∧ TurnedF (fun g => g = bG + 1) wr wq) (fun i _ => M - (intOf i).toNat)
      case atStart => exact ⟨0, none, 0, Nat.zero_le _, rfl, Own.nil_ _ _ _ _ _, HBX.out, TurnedF.refl _ _⟩
      case round =>
        rename World => wq
        obtain ⟨j, E, c9, hj, rfl, hown, hbx, ht⟩ := hrel
        have hzq := ht.size
        have hBq := ht.below (B := bG + 1) (fun g hg => by omega) (by omega)
        have p1 := box_cell (j := 1) (box_keep HPR.out hBq (by omega)) rfl
        by_cases hlt : j < M
        · go_upto_region 12 with (fail)
          clear p1
          have HOWN := Lib.hid (fun (W : World) (hW : Below wq.heap.size wq W) => (hown.below hW (Nat.le_refl _)).wider (Nat.le_refl _) hW.size)
          have HBXQ := Lib.hid (fun (W : World) (hW : Below wq.heap.size wq W) => box_keep hbx hW (by omega))
          have HTQ := Lib.hid ht
          have HBQ := Lib.hid hBq
          clear hown hbx ht hBq
          refine wp_region_inv (fun AC0 L a W => ∃ sl35 sl36 sl37 sl38 sl39 sl40 : Value, a = ((((((AC0.put (some 35) sl35).put (some 36) sl36).put (some 37) sl37).put (some 38) sl38).put (some 39) sl39).put (some 40) sl40) ∧ (((∀ j, 4 ≤ j → ¬ L j) ∧ Below wq.heap.size wq W ∧ (L 0 → sl35 = (.pointer (some ⟨bG + 1, 2, none⟩))) ∧ (L 1 → sl36 = (.slice E j c9)) ∧ (L 2 → sl37 = (.agg #[.int .i64 (-1), .slice none 0 0])) ∧ (L 3 → BuiltAt wq.heap.size W muC sl38) ∧ (L 1 → L 0)) ∨ ((∀ j, j < 5 → L j) ∧ (∀ j, 5 ≤ j → ¬ L j) ∧ ∃ (E5 : Option Addr) (c5 : Nat), sl39 = .slice E5 (j + 1) c5 ∧ Own W wr.heap.size W.heap.size 106 2 E5 (j + 1) c5 ((List.replicate (j + 1) muC).flatten) ∧ W.heap[bG + 1]? = some (.cells #[.slice (some ⟨bG, 0, none⟩) 1 1, .slice B k c', .slice E j c9] 66 (0, 0)) ∧ TurnedF (fun g => g = bG + 1) wr W ∧ wq.heap.size ≤ W.heap.size) ∨ ((∀ j, j < 6 → L j) ∧ (∀ j, 6 ≤ j → ¬ L j) ∧ ∃ (E5 : Option Addr) (c5 : Nat), sl39 = .slice E5 (j + 1) c5 ∧ sl40 = .pointer (some ⟨bG + 1, 2, none⟩) ∧ Own W wr.heap.size W.heap.size 106 2 E5 (j + 1) c5 ((List.replicate (j + 1) muC).flatten) ∧ W.heap[bG + 1]? = some (.cells #[.slice (some ⟨bG, 0, none⟩) 1 1, .slice B k c', .slice E j c9] 66 (0, 0)) ∧ TurnedF (fun g => g = bG + 1) wr W ∧ wq.heap.size ≤ W.heap.size) ∨ ((∀ j, j < 7 → L j) ∧ (∀ j, 7 ≤ j → ¬ L j) ∧ ∃ (E5 : Option Addr) (c5 : Nat), Own W wr.heap.size W.heap.size 106 2 E5 (j + 1) c5 ((List.replicate (j + 1) muC).flatten) ∧ W.heap[bG + 1]? = some (.cells #[.slice (some ⟨bG, 0, none⟩) 1 1, .slice B k c', .slice E5 (j + 1) c5] 66 (0, 0)) ∧ TurnedF (fun g => g = bG + 1) wr W ∧ wq.heap.size ≤ W.heap.size))) (by kernel_rfl) (by kernel_rfl) ?_ ?_ ?_
          · exact ⟨u35, u36, u37, u38, u39, u40, by simp only [Act.put, List.setIfInBounds_toArray, List.set_cons_zero, List.set_cons_succ], .inl ⟨fun _ _ h => h, Below.drew (Below.refl _ _), fun h => absurd h id, fun h => absurd h id, fun h => absurd h id, fun h => absurd h id, fun h => absurd h id⟩⟩
          · intro Q9; refine InvFrom.cons (fun L a W hI hN hD K hK => ?_) ?_
            · obtain ⟨sl35, sl36, sl37, sl38, sl39, sl40, ha, hI⟩ := hI
              subst ha
              rcases hI with hI | h9 | h9 | h9
              rotate_left
              · exact absurd (h9.1 0 (by decide)) hN
              · exact absurd (h9.1 0 (by decide)) hN
              · exact absurd (h9.1 0 (by decide)) hN
              obtain ⟨hn, hB, f0, f1, f2, f3, g1_0⟩ := hI
              have hz := hB.size
              refine Kept.mk ?_
              simp only [Act.put, List.setIfInBounds_toArray, List.set_cons_zero, List.set_cons_succ]
              go_simp
              refine hK.out _ _ ?_
              exact ⟨(.pointer (some ⟨bG + 1, 2, none⟩)), sl36, sl37, sl38, sl39, sl40, by simp only [Act.put, List.setIfInBounds_toArray, List.set_cons_zero, List.set_cons_succ], .inl ⟨fun j hj h => h.elim (hn j hj) (by omega), hB, fun _ => rfl, fun h => f1 (h.resolve_right (by decide)), fun h => f2 (h.resolve_right (by decide)), fun h => f3 (h.resolve_right (by decide)), fun h => .inl (g1_0 (h.resolve_right (by decide)))⟩⟩
            refine InvFrom.cons (fun L a W hI hN hD K hK => ?_) ?_
            · obtain ⟨sl35, sl36, sl37, sl38, sl39, sl40, ha, hI⟩ := hI
              subst ha
              rcases hI with hI | h9 | h9 | h9
              rotate_left
              · exact absurd (h9.1 1 (by decide)) hN
              · exact absurd (h9.1 1 (by decide)) hN
              · exact absurd (h9.1 1 (by decide)) hN
              obtain ⟨hn, hB, f0, f1, f2, f3, g1_0⟩ := hI
              have hz := hB.size
              have d0 := f0 (hD 0 (by kernel_rfl))
              subst d0
              have pg := box_cell (j := 2) (HBXQ.out W hB) rfl
              refine Kept.mk ?_
              simp only [Act.put, List.setIfInBounds_toArray, List.set_cons_zero, List.set_cons_succ]
              go_simp
              refine hK.out _ _ ?_
              exact ⟨(.pointer (some ⟨bG + 1, 2, none⟩)), (.slice E j c9), sl37, sl38, sl39, sl40, by simp only [Act.put, List.setIfInBounds_toArray, List.set_cons_zero, List.set_cons_succ], .inl ⟨fun j hj h => h.elim (hn j hj) (by omega), hB, fun h => f0 (h.resolve_right (by decide)), fun _ => rfl, fun h => f2 (h.resolve_right (by decide)), fun h => f3 (h.resolve_right (by decide)), fun _ => .inl (hD 0 (by kernel_rfl))⟩⟩
            refine InvFrom.cons (fun L a W hI hN hD K hK => ?_) ?_
            · obtain ⟨sl35, sl36, sl37, sl38, sl39, sl40, ha, hI⟩ := hI
              subst ha
              rcases hI with hI | h9 | h9 | h9
              rotate_left
              · exact absurd (h9.1 2 (by decide)) hN
              · exact absurd (h9.1 2 (by decide)) hN
              · exact absurd (h9.1 2 (by decide)) hN
              obtain ⟨hn, hB, f0, f1, f2, f3, g1_0⟩ := hI
              have hz := hB.size
              refine kept_c0 rfl 65  _ rfl (fenters_of' Tryd.func65 (by kernel_rfl) (by kernel_rfl))   (specMutexNew_any W) ?_
              rintro e W1 ⟨rfl, hb1⟩
              refine ⟨_, rfl, hK.out _ _ ?_⟩
              exact ⟨sl35, sl36, (.agg #[.int .i64 (-1), .slice none 0 0]), sl38, sl39, sl40, by simp only [Act.put, List.setIfInBounds_toArray, List.set_cons_zero, List.set_cons_succ], .inl ⟨fun j hj h => h.elim (hn j hj) (by omega), hB.trans (hb1.mono hz), fun h => f0 (h.resolve_right (by decide)), fun h => f1 (h.resolve_right (by decide)), fun _ => rfl, fun h => (f3 (h.resolve_right (by decide))).up hb1, fun h => .inl (g1_0 (h.resolve_right (by decide)))⟩⟩
            refine InvFrom.cons (fun L a W hI hN hD K hK => ?_) ?_
            · obtain ⟨sl35, sl36, sl37, sl38, sl39, sl40, ha, hI⟩ := hI
              subst ha
              rcases hI with hI | h9 | h9 | h9
              rotate_left
              · exact absurd (h9.1 3 (by decide)) hN
              · exact absurd (h9.1 3 (by decide)) hN
              · exact absurd (h9.1 3 (by decide)) hN
              obtain ⟨hn, hB, f0, f1, f2, f3, g1_0⟩ := hI
              have hz := hB.size
              have d2 := f2 (hD 2 (by kernel_rfl))
              subst d2
              refine Kept.mk ?_
              simp only [Act.put, List.setIfInBounds_toArray, List.set_cons_zero, List.set_cons_succ]
              go_simp
              have hb1 : Below W.heap.size W (W.alloc (.cells muC.toArray 106)) := (Below.refl _ _).alloc (Nat.le_refl _) _
              refine hK.out _ _ ?_
              exact ⟨sl35, sl36, (.agg #[.int .i64 (-1), .slice none 0 0]), (.slice (some ⟨W.heap.size, 0, none⟩) 1 1), sl39, sl40, by simp only [Act.put, List.setIfInBounds_toArray, List.set_cons_zero, List.set_cons_succ], .inl ⟨fun j hj h => h.elim (hn j hj) (by omega), hB.trans (hb1.mono hz), fun h => f0 (h.resolve_right (by decide)), fun h => f1 (h.resolve_right (by decide)), fun h => f2 (h.resolve_right (by decide)), fun _ => BuiltAt.new hz, fun h => .inl (g1_0 (h.resolve_right (by decide)))⟩⟩
            refine InvFrom.cons (fun L a W hI hN hD K hK => ?_) ?_
            · obtain ⟨sl35, sl36, sl37, sl38, sl39, sl40, ha, hI⟩ := hI
              subst ha
              rcases hI with hI | h9 | h9 | h9
              rotate_left
              · exact absurd (h9.1 4 (by decide)) hN
              · exact absurd (h9.1 4 (by decide)) hN
              · exact absurd (h9.1 4 (by decide)) hN
              obtain ⟨hn, hB, f0, f1, f2, f3, g1_0⟩ := hI
              have hz := hB.size
              have d1 := f1 (hD 1 (by kernel_rfl))
              subst d1
              have d2 := f2 (hD 2 (by kernel_rfl))
              subst d2
              have d3 := f3 (hD 3 (by kernel_rfl))
              obtain ⟨bb, rfl, hbb1, hbb2, hsb⟩ := d3
              have hown := HOWN.out W hB
              refine Kept.mk (step_append_kin rfl (.tmp 36) (.tmp 38) _ rfl wr.heap.size _ 106 j0 _ 2 32 Tryd.underlying64 hj0 jz0 jz1 jz2 rfl (by omega) E j c9 _ rfl hown _ ⟨bb, 0, none⟩ 1 1 _ rfl hsb (by simp [muC, Value.oneCell']) (by omega) (by simp only [maxLen]; omega) (by omega) (by omega) ?_)
              intro E5 c5 W1 own5 hb5 hk5 hA5
              refine hK.out _ _ ?_
              have hbx5 := box_keep (HBXQ.out W hB) hb5 (by omega)
              have ht5 : TurnedF (fun g => g = bG + 1) wr W1 := ⟨hb5.os.trans (hB.os.trans HTQ.out.os), hb5.tape.trans (hB.tape.trans HTQ.out.tape), hb5.output.trans (hB.output.trans HTQ.out.output), Nat.le_trans HTQ.out.size (Nat.le_trans hz hb5.size), fun k9 hk9 hn9 => (hb5.block k9 hk9).trans ((hB.block k9 (by omega)).trans (HTQ.out.block k9 hk9 hn9))⟩
              have hz5 := Nat.le_trans hz hb5.size
              have hall : ∀ j, j < 5 → (L j ∨ j = 4) := by
                intro j hj
                have hj2 : j = 0 ∨ j = 1 ∨ j = 2 ∨ j = 3 ∨ j = 4 := by omega
                rcases hj2 with rfl | rfl | rfl | rfl | rfl
                · exact .inl (g1_0 (hD 1 (by kernel_rfl)))
                · exact .inl (hD 1 (by kernel_rfl))
                · exact .inl (hD 2 (by kernel_rfl))
                · exact .inl (hD 3 (by kernel_rfl))
                · exact .inr rfl
              exact ⟨sl35, (.slice E j c9), (.agg #[.int .i64 (-1), .slice none 0 0]), (.slice (some ⟨bb, 0, none⟩) 1 1), (.slice E5 (j + 1) c5), sl40, by simp only [Act.put, List.setIfInBounds_toArray, List.set_cons_zero, List.set_cons_succ], .inr (.inl ⟨hall, fun j hj h => h.elim (hn j (by omega)) (by omega), E5, c5, rfl, by rw [rep_more]; exact own5, hbx5, ht5, hz5⟩)⟩
            refine InvFrom.cons (fun L a W hI hN hD K hK => ?_) ?_
            · obtain ⟨sl35, sl36, sl37, sl38, sl39, sl40, ha, hI⟩ := hI
              subst ha
              rcases hI with h9 | hI | h9 | h9
              · exact absurd (hD 4 (by kernel_rfl)) (h9.1 4 (by decide))
              rotate_left
              · exact absurd (h9.1 5 (by decide)) hN
              · exact absurd (h9.1 5 (by decide)) hN
              obtain ⟨hu, hn, hI⟩ := hI
              obtain ⟨E5, c5, rfl, own5, hbx5, ht5, hz5⟩ := hI
              refine Kept.mk ?_
              simp only [Act.put, List.setIfInBounds_toArray, List.set_cons_zero, List.set_cons_succ]
              go_simp
              refine hK.out _ _ ?_
              have hall : ∀ j, j < 6 → (L j ∨ j = 5) := by
                intro j hj
                have hj2 : j = 0 ∨ j = 1 ∨ j = 2 ∨ j = 3 ∨ j = 4 ∨ j = 5 := by omega
                rcases hj2 with rfl | rfl | rfl | rfl | rfl | rfl
                · exact .inl (hD 0 (by kernel_rfl))
                · exact .inl (hD 1 (by kernel_rfl))
                · exact .inl (hD 2 (by kernel_rfl))
                · exact .inl (hD 3 (by kernel_rfl))
                · exact .inl (hD 4 (by kernel_rfl))
                · exact .inr rfl
              exact ⟨sl35, sl36, sl37, sl38, (.slice E5 (j + 1) c5), (.pointer (some ⟨bG + 1, 2, none⟩)), by simp only [Act.put, List.setIfInBounds_toArray, List.set_cons_zero, List.set_cons_succ], .inr (.inr (.inl ⟨hall, fun j hj h => h.elim (hn j (by omega)) (by omega), E5, c5, rfl, rfl, own5, hbx5, ht5, hz5⟩))⟩
            refine InvFrom.cons (fun L a W hI hN hD K hK => ?_) ?_
            · obtain ⟨sl35, sl36, sl37, sl38, sl39, sl40, ha, hI⟩ := hI
              subst ha
              rcases hI with h9 | h9 | hI | h9
              · exact absurd (hD 4 (by kernel_rfl)) (h9.1 4 (by decide))
              · exact absurd (hD 5 (by kernel_rfl)) (h9.2.1 5 (by decide))
              rotate_left
              · exact absurd (h9.1 6 (by decide)) hN
              obtain ⟨hu, hn, hI⟩ := hI
              obtain ⟨E5, c5, rfl, rfl, own5, hbx5, ht5, hz5⟩ := hI
              have y1 := box_cell (j := 2) hbx5 rfl
              have y2 := box_free hbx5 2
              refine Kept.mk ?_
              simp only [Act.put, List.setIfInBounds_toArray, List.set_cons_zero, List.set_cons_succ]
              go_simp
              refine hK.out _ _ ?_
              have hb6 := box_set (j := 2) (u := .slice E5 (j + 1) c5) hbx5
              have h9 := own5.setCell (o := 2) (g := bG + 1) (.inl (by omega)) (.slice E5 (j + 1) c5)
              have hall : ∀ j, j < 7 → (L j ∨ j = 6) := by
                intro j hj
                have hj2 : j = 0 ∨ j = 1 ∨ j = 2 ∨ j = 3 ∨ j = 4 ∨ j = 5 ∨ j = 6 := by omega
                rcases hj2 with rfl | rfl | rfl | rfl | rfl | rfl | rfl
                · exact .inl (hD 0 (by kernel_rfl))
                · exact .inl (hD 1 (by kernel_rfl))
                · exact .inl (hD 2 (by kernel_rfl))
                · exact .inl (hD 3 (by kernel_rfl))
                · exact .inl (hD 4 (by kernel_rfl))
                · exact .inl (hD 5 (by kernel_rfl))
                · exact .inr rfl
              exact ⟨sl35, sl36, sl37, sl38, (.slice E5 (j + 1) c5), (.pointer (some ⟨bG + 1, 2, none⟩)), by simp only [Act.put, List.setIfInBounds_toArray, List.set_cons_zero, List.set_cons_succ], .inr (.inr (.inr (⟨hall, fun j hj h => h.elim (hn j (by omega)) (by omega), E5, c5, by simpa only [World.size_setCell] using h9, by simpa using hb6, ht5.setCell (p := ⟨bG + 1, 2, none⟩) rfl _, by simpa only [World.size_setCell] using hz5⟩)))⟩
            exact InvFrom.nil
          intro L a w6 hL hI
          obtain ⟨sl35, sl36, sl37, sl38, sl39, sl40, ha, hI⟩ := hI
          subst ha
          rcases hI with h9 | h9 | h9 | hI
          · exact absurd (hL 4 (by decide)) (h9.1 4 (by decide))
          · exact absurd (hL 5 (by decide)) (h9.2.1 5 (by decide))
          · exact absurd (hL 6 (by decide)) (h9.2.1 6 (by decide))
          have hfin := hI.2.2
          clear hL hI
          refine Kept.mk ?_
          simp only [Act.put, List.setIfInBounds_toArray, List.set_cons_zero, List.set_cons_succ]
          obtain ⟨E5, c5, own5, hbx5, ht5, hz5⟩ := hfin
          go_wp2_with fail
          go_roundw
          case rel => exact ⟨j + 1, E5, c5, by omega, by go_num, own5, hbx5, ht5⟩
          case measure => simp [intOf]; omega
        · obtain rfl : j = M := by omega
          have e0 := box_cell (j := 0) hbx rfl
          have e1 := box_cell (j := 1) hbx rfl
          have e2 := box_cell (j := 2) hbx rfl
          have hrb := box_keep HRR.out hBq (by omega)
          have r0 := box_cell (j := 0) hrb rfl
          have r1 := box_cell (j := 1) hrb rfl
          have r2 := box_cell (j := 2) hrb rfl
          have f0 := box_free hrb 0
          have f1 := box_free hrb 1
          have f2 := box_free hrb 2
          have HOW := Lib.hid hown
          have HTQ := Lib.hid ht
          clear hown ht
          go_wp2_with fail
          have hfin := (box_set (j := 2) (u := .slice E j c9) (box_set (j := 1) (u := .slice B k c') (box_set (j := 0) (u := .slice (some ⟨bG, 0, none⟩) 1 1) hrb)))
          have y0 := box_cell (j := 0) hfin rfl
          have y1 := box_cell (j := 1) hfin rfl
          have y2 := box_cell (j := 2) hfin rfl
          clear r0 r1 r2 f0 f1 f2
          refine bodyPost_ret (v := .agg #[.slice (some ⟨bG, 0, none⟩) 1 1, .slice B k c', .slice E j c9]) (by simp [results, Tryd.results24, go_sem, y0, y1, y2]) rfl ?_
          rw [HY.out]
          have o0 := HGR.out.turnedF HTQ.out (fun g hg he => by have h8 := hg.2; rw [he] at h8; omega)
          have o1 := rowCh (l := p.fCaps) (by rw [HL.out]; exact HCH.out.turnedF HTQ.out (fun g h8 h9 he => by omega)) HWF.out
          rw [HL.out] at o1
          have o2 := rowMu HOW.out
          have s0 := ((o0.setCell (o := 0) (g := w.heap.size + 1) (fun h => by have := h.1; omega) (.slice (some ⟨bG, 0, none⟩) 1 1)).setCell (o := 1) (g := w.heap.size + 1) (fun h => by have := h.1; omega) (.slice B k c')).setCell (o := 2) (g := w.heap.size + 1) (fun h => by have := h.1; omega) (.slice E j c9)
          have s1 := ((o1.setCell (o := 0) (g := w.heap.size + 1) (fun h => by have := h.1; omega) (.slice (some ⟨bG, 0, none⟩) 1 1)).setCell (o := 1) (g := w.heap.size + 1) (fun h => by have := h.1; omega) (.slice B k c')).setCell (o := 2) (g := w.heap.size + 1) (fun h => by have := h.1; omega) (.slice E j c9)
          have s2 := ((o2.setCell (o := 0) (g := w.heap.size + 1) (fun h => by have := h.1; omega) (.slice (some ⟨bG, 0, none⟩) 1 1)).setCell (o := 1) (g := w.heap.size + 1) (fun h => by have := h.1; omega) (.slice B k c')).setCell (o := 2) (g := w.heap.size + 1) (fun h => by have := h.1; omega) (.slice E j c9)
          have hBB := HBR.out.trans (hBq.mono (by omega))
          refine ⟨[.slice (some ⟨bG, 0, none⟩) 1 1, .slice B k c', .slice E j c9], fun g => w.heap.size + 2 ≤ g ∧ g < wq.heap.size, rfl, ownEng (x := ⟨[gN], p.fCaps.map newCh, List.replicate j newM⟩) s0 s1 s2 (fun g hg => ⟨hg.1, by have := hg.2; omega⟩) (fun g hg => ⟨by have := hg.1; omega, by have := hg.2; omega⟩) (fun g hg => ⟨by have := hg.1; omega, hg.2⟩) (fun g hg h9 => by have := hg.2; have := h9.1; omega) (fun g hg h9 => by have := hg.2; have := h9.1; omega) (fun g hg h9 => by have := hg.2; have := h9.1; omega), fun g hg => ⟨by have := hg.1; omega, by simp only [World.size_setCell]; exact hg.2⟩, ?_⟩
          exact below_set (p := ⟨w.heap.size + 1, 2, none⟩) (below_set (p := ⟨w.heap.size + 1, 1, none⟩) (below_set (p := ⟨w.heap.size + 1, 0, none⟩) hBB (by simp) _) (by simp) _) (by simp) _
end Go.Proofs.YtgfkadhojlddpaaDoor
