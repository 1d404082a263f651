
/- The contract of the model's l05Text: the text of a program, right or not. -/

import Derived.Test.YtgfkadhojlddpaaGreatDoorTextMathP

import Derived.Test.YtgfkadhojlddpaaGreatDoorBase

namespace Go.Proofs.YtgfkadhojlddpaaGreatDoor
set_option linter.unusedSimpArgs false
set_option linter.unusedVariables false
open Go.RowKit

theorem seenR_one {w : World} {g : Nat} {t : TypeId} {z : Int} {hi : Nat} (h : w.heap[g]? = some (.cells #[.int .i64 z] t (0, 0))) (hg : g < hi) (hw : (Lit.int .i64 z).wf = true) : SeenR Lay.int w hi (some ⟨g, 0, none⟩) 1 [z] := by
  refine ⟨rfl, .inr ⟨g, 0, rfl, hg, fun _ => [.int .i64 z], fun i x hx => ?_⟩⟩
  match i, hx with
  | 0, hx =>
    simp at hx
    subst hx
    refine ⟨⟨rfl, hw⟩, fun j u hu => ?_⟩
    match j, hu with
    | 0, hu =>
      simp at hu
      subst hu
      exact box_cell h rfl
    | k + 1, hu => simp at hu
  | i + 1, hx => simp at hx

theorem sum_at {α : Type} (f : α → Nat) : ∀ (l : List α) (j : Nat) (h : j < l.length), f l[j] ≤ (l.map f).sum
  | x :: l, 0, _ => by simp
  | x :: l, j + 1, h => by
    have := sum_at f l j (by simpa using h)
    simp only [List.getElem_cons_succ, List.map_cons, List.sum_cons]
    omega
theorem pre_sels (caps : List Int) (mus : Int) (sels : List DSelect) (procs : List DProc) (j : Nat) : (numsText chansW caps ++ numsText mutexesW [mus] ++ selsText (sels.take j)).length ≤ (textOf ⟨caps, mus, sels, procs⟩).length := by
  have := flat_take (fun s => selText s ++ [10]) sels j
  unfold textOf selsText
  simp only [List.length_append]
  omega
theorem pre_procs (caps : List Int) (mus : Int) (sels : List DSelect) (procs : List DProc) (j : Nat) : (numsText chansW caps ++ numsText mutexesW [mus] ++ selsText sels ++ procsText (procs.take j)).length ≤ (textOf ⟨caps, mus, sels, procs⟩).length := by
  have := flat_take (fun p : DProc => procW ++ codeText p.fCode) procs j
  unfold textOf procsText
  simp only [List.length_append]
  omega
theorem procsText_next {procs : List DProc} {j : Nat} (h : j < procs.length) : procsText (procs.take (j + 1)) = procsText (procs.take j) ++ (procW ++ codeText procs[j].fCode) := by
  rw [List.take_succ_eq_append_getElem h]
  exact flat_snoc _ _ _
theorem selsText_next {sels : List DSelect} {j : Nat} (h : j < sels.length) : selsText (sels.take (j + 1)) = selsText (sels.take j) ++ (selText sels[j] ++ [10]) := by
  rw [List.take_succ_eq_append_getElem h]
  exact flat_snoc _ _ _
theorem codeText_next {code : List DInstr} {j : Nat} (h : j < code.length) : codeText (code.take (j + 1)) = codeText (code.take j) ++ (instrText code[j].fOp code[j].fA code[j].fB code[j].fC ++ [10]) := by
  rw [List.take_succ_eq_append_getElem h]
  exact flat_snoc _ _ _
theorem pre_code (caps : List Int) (mus : Int) (sels : List DSelect) (procs : List DProc) {j : Nat} (h : j < procs.length) (k : Nat) : (numsText chansW caps ++ numsText mutexesW [mus] ++ selsText sels ++ procsText (procs.take j) ++ procW ++ codeText (procs[j].fCode.take k)).length ≤ (textOf ⟨caps, mus, sels, procs⟩).length := by
  have h1 := pre_procs caps mus sels procs (j + 1)
  have h2 := flat_take (fun i : DInstr => instrText i.fOp i.fA i.fB i.fC ++ [10]) procs[j].fCode k
  rw [procsText_next h] at h1
  unfold codeText at h1 ⊢
  simp only [List.length_append] at h1 ⊢
  omega

set_option maxRecDepth 100000 in
set_option maxHeartbeats 4000000 in
theorem l05Text_any {w : World} {hi : Nat} {p : DProg} {vs : List Value} (h : layProg.see w hi p vs) (hhi : hi ≤ w.heap.size) (hsz : szProg p ≤ 1048576) :
    Calls Tryz.prog 30 #[.agg vs.toArray] w fun e w' => e = .returned (Tx (textOf p)) ∧ Below w.heap.size w w' := by
  obtain ⟨A0, n0, c0, A2, n2, c2, A3, n3, c3, rfl, ⟨hc0, hm0, s0⟩, hw1, ⟨hc2, hm2, s2⟩, ⟨hc3, hm3, s3⟩⟩ := seeProg h
  obtain ⟨caps, mus, sels, procs⟩ := p
  simp only at s0 s2 s3 hw1 ⊢
  have HT := Lib.hid (show textOf ⟨caps, mus, sels, procs⟩ = numsText chansW caps ++ numsText mutexesW [mus] ++ selsText sels ++ procsText procs from rfl)
  have HTL := Lib.hid (textOf_len ⟨caps, mus, sels, procs⟩ hsz)
  unfold szProg at hsz
  simp only at hsz
  have hl0 := s0.1
  have hl2 := s2.1
  have hl3 := s3.1
  have hn0 : n0 ≤ 1048576 := by omega
  have hn2 : n2 ≤ 1048576 := by omega
  have hn3 : n3 ≤ 1048576 := by omega
  have HL := Lib.hid (And.intro hl0 (And.intro hl2 hl3))
  have HSZ := Lib.hid hsz
  clear hl0 hl2 hl3 hsz h
  have hl := w.heap.size.lt_succ_self
  have HB := box_new w #[.slice A0 n0 c0, .int .i64 mus, .slice A2 n2 c2, .slice A3 n3 c3] 32
  have hW0 : Below w.heap.size w (w.alloc (.cells #[.slice A0 n0 c0, .int .i64 mus, .slice A2 n2 c2, .slice A3 n3 c3] 32)) := (Below.refl _ _).alloc (Nat.le_refl _) _
  have HBX := Lib.hid HB
  have HW0 := Lib.hid hW0
  have HS0 := Lib.hid (fun (W : World) (hb : Below w.heap.size w W) => s0.below hb hhi)
  have HCH := Lib.hid (fun (W : World) (hb : Below w.heap.size w W) => show Calls Tryz.prog 76 #[.string ⟨#[99, 104, 97, 110, 115]⟩, .slice A0 n0 c0] W fun e w' => e = .returned (Tx (numsText chansW caps)) ∧ Below W.heap.size W w' from l05Nums_any (word := chansW) (c := c0) (s0.below hb hhi) (Nat.le_trans hhi hb.size) hn0 (by decide))
  have HMU := Lib.hid (fun (W : World) (g : Nat) (hg : W.heap[g]? = some (.cells #[.int .i64 mus] 3 (0, 0))) => show Calls Tryz.prog 76 #[.string ⟨#[109, 117, 116, 101, 120, 101, 115]⟩, .slice (some ⟨g, 0, none⟩) 1 1] W fun e w' => e = .returned (Tx (numsText mutexesW [mus])) ∧ Below W.heap.size W w' from l05Nums_any (word := mutexesW) (c := 1) (seenR_one hg (lt_of_block hg) hw1) (Nat.le_refl _) (by decide) (by decide))
  have HPS := Lib.hid (pre_sels caps mus sels procs)
  have HPP := Lib.hid (pre_procs caps mus sels procs)
  have HPC := Lib.hid (fun (j : Nat) (h : j < procs.length) => pre_code caps mus sels procs h)
  have hnl := numsText_len chansW caps
  have hml := numsText_len mutexesW [mus]
  clear hW0 HB
  generalize numsText chansW caps = tc at *
  generalize numsText mutexesW [mus] = tm at *
  show Calls Tryz.prog 30 #[.agg #[.slice A0 n0 c0, .int .i64 mus, .slice A2 n2 c2, .slice A3 n3 c3]] w _
  go_enter Tryz.func30, Tryz.ntmps30
  go_wp2_with fail
  have kS : ∀ W, (Op.stringOp .add (⟨tc.toArray⟩ : ByteArray) ⟨tm.toArray⟩).run Tryz.prog W = .ok (.string (⟨tc.toArray⟩ ++ ⟨tm.toArray⟩)) W := fun W => run_string_add_sum W _ _ (by have := HL.out.1; simp only [size_list, show chansW.length = 5 from rfl, show mutexesW.length = 7 from rfl, List.length_cons, List.length_nil] at *; omega)
  have hWd : Below w.heap.size w (w.alloc (.cells #[.slice A0 n0 c0, .int .i64 mus, .slice A2 n2 c2, .slice A3 n3 c3] 32)).drew := below_drawn HW0.out 1
  have hWe : Below w.heap.size w ((w.alloc (.cells #[.slice A0 n0 c0, .int .i64 mus, .slice A2 n2 c2, .slice A3 n3 c3] 32)).alloc (.cells #[.int .i64 mus] 3)).drew := below_drawn (HW0.out.alloc HW0.out.size _) 1
  have hWf : Below w.heap.size w ((w.alloc (.cells #[.slice A0 n0 c0, .int .i64 mus, .slice A2 n2 c2, .slice A3 n3 c3] 32)).drew.alloc (.cells #[.int .i64 mus] 3)) := hWd.alloc hWd.size _
  have hgA : ((w.alloc (.cells #[.slice A0 n0 c0, .int .i64 mus, .slice A2 n2 c2, .slice A3 n3 c3] 32)).alloc (.cells #[.int .i64 mus] 3)).heap[w.heap.size + 1]? = some (.cells #[.int .i64 mus] 3 (0, 0)) := by
    have := box_new (w.alloc (.cells #[.slice A0 n0 c0, .int .i64 mus, .slice A2 n2 c2, .slice A3 n3 c3] 32)) #[.int .i64 mus] 3
    simpa using this
  have zA : w.heap.size + 1 < ((w.alloc (.cells #[.slice A0 n0 c0, .int .i64 mus, .slice A2 n2 c2, .slice A3 n3 c3] 32)).alloc (.cells #[.int .i64 mus] 3)).heap.size := by simp
  have HGA := Lib.hid (And.intro hgA zA)
  clear hgA zA
  have cA : (w.alloc (.cells #[.slice A0 n0 c0, .int .i64 mus, .slice A2 n2 c2, .slice A3 n3 c3] 32)).cell? ⟨w.heap.size, 1, none⟩ = some (.int .i64 mus) := box_cell HBX.out rfl
  have cB : ((w.alloc (.cells #[.slice A0 n0 c0, .int .i64 mus, .slice A2 n2 c2, .slice A3 n3 c3] 32)).alloc (.cells #[.int .i64 mus] 3)).cell? ⟨w.heap.size, 1, none⟩ = some (.int .i64 mus) := box_cell (box_keep HBX.out ((Below.refl _ _).alloc (Nat.le_refl _) _) (lt_of_block HBX.out)) rfl
  have HCC := Lib.hid (And.intro cA cB)
  clear cA cB
  have hBY : ((w.alloc (.cells #[.slice A0 n0 c0, .int .i64 mus, .slice A2 n2 c2, .slice A3 n3 c3] 32)).alloc (.cells #[.int .i64 mus] 3)).heap[w.heap.size]? = some (.cells #[.slice A0 n0 c0, .int .i64 mus, .slice A2 n2 c2, .slice A3 n3 c3] 32 (0, 0)) := box_keep HBX.out ((Below.refl _ _).alloc (Nat.le_refl _) _) (lt_of_block HBX.out)
  have HBY := Lib.hid hBY
  clear hBY
  go_region_with (first
    | (go_at_call 76; (with_reducible refine (HCH.out _ (by assumption)).mono ?_); rintro e w5 ⟨rfl, hb5⟩; have hk5 := Lib.hid (hb5.block (w.heap.size + 1)); have cx5 : w5.cell? ⟨w.heap.size, 1, none⟩ = some (.int .i64 mus) := cell_kept hb5 (by first | exact HCC.out.1 | exact HCC.out.2); have hB5 : Hid (w5.heap[w.heap.size]? = some (.cells #[.slice A0 n0 c0, .int .i64 mus, .slice A2 n2 c2, .slice A3 n3 c3] 32 (0, 0))) := Lib.hid (box_keep (by first | exact HBX.out | exact HBY.out) hb5 (by first | exact lt_of_block HBX.out | exact lt_of_block HBY.out)); have hW5 : Below w.heap.size w w5 := (by first | exact hWd.trans (hb5.mono hWd.size) | exact hWe.trans (hb5.mono hWe.size) | exact hWf.trans (hb5.mono hWf.size)); clear hb5)
    | (go_at_call 76; refine (HMU.out _ _ (by first | exact box_new _ _ _ | exact (hk5.out HGA.out.2).trans HGA.out.1)).mono ?_; rintro e w6 ⟨rfl, hb6⟩; have hB6 : Hid (w6.heap[w.heap.size]? = some (.cells #[.slice A0 n0 c0, .int .i64 mus, .slice A2 n2 c2, .slice A3 n3 c3] 32 (0, 0))) := Lib.hid (box_keep (by first | exact hB5.out | exact box_keep hB5.out ((Below.refl _ _).alloc (Nat.le_refl _) _) (lt_of_block hB5.out)) hb6 (by first | exact lt_of_block hB5.out | exact lt_of_block (box_keep hB5.out ((Below.refl _ _).alloc (Nat.le_refl _) _) (lt_of_block hB5.out)))); have hW6 : Below w.heap.size w w6 := (by first | exact hW5.trans (hb6.mono hW5.size) | exact (hW5.alloc hW5.size _).trans (hb6.mono (hW5.alloc hW5.size _).size)); clear hb6 cx5))
  all_goals
    have hl6 := lt_of_block hB6.out
    have cx2 := box_cell (j := 2) hB6.out rfl
    clear hWd hWe hWf hk5 hB5 hW5
    go_wp2_with fail
    clear cx2
    go_loopw [3, 21] (fun v i wr => ∃ (j : Nat) (t : List UInt8), j ≤ n2 ∧ i = .int .i64 (j : Int) ∧ v = Tx t ∧ Hid (t = tc ++ tm ++ selsText (sels.take j)) ∧ Hid (wr.heap[w.heap.size]? = some (.cells #[.slice A0 n0 c0, .int .i64 mus, .slice A2 n2 c2, .slice A3 n3 c3] 32 (0, 0))) ∧ Below w.heap.size w wr) (fun _ i _ => n2 - (intOf i).toNat)
    case atStart => exact ⟨0, _, Nat.zero_le _, rfl, congrArg Value.string (Tx_app _ _), Lib.hid (by simp [selsText]), hB6, hW6⟩
    case round =>
      obtain ⟨j, t, hj, rfl, rfl, HTT, HBr, hb⟩ := hrel
      have z := hb.size
      have htl : t.length ≤ 200000000 := by rw [HTT.out]; exact Nat.le_trans (HPS.out j) HTL.out
      by_cases hlt : j < n2
      · obtain ⟨hx, g, o, us, rfl, hg, hsee, hcell⟩ := (s2.below hb hhi).at_ hlt
        have hsj : szSelect sels[j] ≤ 1048576 := by have := sum_at szSelect sels j hx; have := HSZ.out; omega
        have hnext := Lib.hid (show tc ++ tm ++ selsText (sels.take (j + 1)) = t ++ selText sels[j] ++ [10] by rw [selsText_next hx, HTT.out]; simp)
        have hyl := selText_len sels[j]
        have hcl : sels[j].fCases.length ≤ 1048576 := hsj
        generalize sels[j] = q at *
        have HSEE := Lib.hid (fun v : Value => specSelectText_any (w := wr.alloc (.cells #[v, .int .i64 q.fElse] 79)) (laySelect.keep hsee fun k hk => Below.heap_alloc wr _ k (by omega)) (by simp; omega) hsj)
        obtain ⟨E0, m0, d0, rfl, -⟩ := seeSelect hsee
        have cc0 := hcell 0 _ rfl
        have cc1 := hcell 1 _ rfl
        simp only [show (laySelect).size = 2 from rfl, ← Nat.add_assoc, Nat.add_zero] at cc0 cc1
        have HC := Lib.hid (HSEE.out (.slice E0 m0 d0))
        have hWc : Below w.heap.size w (wr.alloc (.cells #[.slice E0 m0 d0, .int .i64 q.fElse] 79)) := hb.alloc z _
        have HBc := Lib.hid (box_keep (w' := wr.alloc (.cells #[.slice E0 m0 d0, .int .i64 q.fElse] 79)) HBr.out ((Below.refl _ _).alloc (Nat.le_refl _) _) (lt_of_block HBr.out))
        clear hsee hcell hsj HSEE
        generalize selText q = y at *
        have k1 : ∀ W, (Op.stringOp .add (⟨t.toArray⟩ : ByteArray) ⟨y.toArray⟩).run Tryz.prog W = .ok (.string (⟨t.toArray⟩ ++ ⟨y.toArray⟩)) W := fun W => run_string_add_sum W _ _ (by simp only [ByteArray.size_append, size_list]; omega)
        have k2 : ∀ W, (Op.stringOp .add ((⟨t.toArray⟩ : ByteArray) ++ ⟨y.toArray⟩) ⟨#[10]⟩).run Tryz.prog W = .ok (.string (⟨t.toArray⟩ ++ ⟨y.toArray⟩ ++ ⟨#[10]⟩)) W := fun W => run_string_add_sum W _ _ (by simp only [ByteArray.size_append, size_list, size_lit1, List.length_cons, List.length_nil]; omega)
        go_wp2_with fail
        refine HC.out.mono ?_
        rintro e w7 ⟨rfl, hb7⟩
        have HB7 := Lib.hid (box_keep HBc.out hb7 (lt_of_block HBc.out))
        have hW7 : Below w.heap.size w w7 := hWc.trans (hb7.mono hWc.size)
        clear hb7 cc0 cc1
        go_wp2_with fail
        go_roundw
        case rel => exact ⟨j + 1, t ++ y ++ [10], by omega, by go_num, by first | rfl | (rw [Tx_app, Tx_app]), Lib.hid hnext.out.symm, HB7, hW7⟩
        case measure => simp [intOf]; omega
      · obtain rfl : j = n2 := by omega
        have hst : sels.take j = sels := List.take_of_length_le (by rw [HL.out.2.1]; exact Nat.le_refl _)
        have HT2 := Lib.hid (show t = tc ++ tm ++ selsText sels by rw [HTT.out, hst])
        have cx3 := box_cell (j := 3) HBr.out rfl
        have hlr := lt_of_block HBr.out
        clear hst
        go_wp2_with fail
        clear cx3
        go_loopw [3, 34] (fun v i wr => ∃ (j : Nat) (t : List UInt8), j ≤ n3 ∧ i = .int .i64 (j : Int) ∧ v = Tx t ∧ Hid (t = tc ++ tm ++ selsText sels ++ procsText (procs.take j)) ∧ Below w.heap.size w wr) (fun _ i _ => n3 - (intOf i).toNat)
        case atStart => exact ⟨0, t, Nat.zero_le _, rfl, rfl, Lib.hid (by rw [HT2.out]; simp [procsText]), hb⟩
        case round =>
          clear hlt HTT HT2 htl hj
          rename List UInt8 => t0
          obtain ⟨j, t, hj, rfl, rfl, HTT, hbr⟩ := hrel
          have z2 := hbr.size
          have htl : t.length ≤ 200000000 := by rw [HTT.out]; exact Nat.le_trans (HPP.out j) HTL.out
          by_cases hlt : j < n3
          · rename World => wo
            obtain ⟨hx, g, o, us, rfl, hg, hsee, hcell⟩ := (s3.below hbr hhi).at_ hlt
            obtain ⟨E0, m0, d0, rfl, ⟨hd0, hdm, si⟩⟩ := seeProc hsee
            have cc0 := hcell 0 _ rfl
            simp only [show (layProc).size = 1 from rfl, ← Nat.add_assoc, Nat.add_zero, Nat.mul_one] at cc0
            have hsj : szProc procs[j] ≤ 1048576 := by have := sum_at szProc procs j hx; have := HSZ.out; omega
            have hcl : procs[j].fCode.length = m0 := si.1
            have hm0c : m0 ≤ 1048576 := by rw [← hcl]; exact hsj
            have hnext := Lib.hid (show tc ++ tm ++ selsText sels ++ procsText (procs.take (j + 1)) = t ++ procW ++ codeText procs[j].fCode by rw [procsText_next hx, HTT.out]; simp)
            have HPRE := Lib.hid (fun k => show (t ++ procW ++ codeText (procs[j].fCode.take k)).length ≤ 200000000 by
              have := HPC.out j hx k
              rw [HTT.out]
              exact Nat.le_trans this HTL.out)
            have HCL := Lib.hid hcl
            clear hsee hcell hsj hcl
            generalize procs[j].fCode = code at *
            have k0 : ∀ W, (Op.stringOp .add (⟨t.toArray⟩ : ByteArray) ⟨#[112, 114, 111, 99, 10]⟩).run Tryz.prog W = .ok (.string (⟨t.toArray⟩ ++ ⟨#[112, 114, 111, 99, 10]⟩)) W := fun W => run_string_add_sum W _ _ (by simp only [size_list, size_lit5, List.length_cons, List.length_nil]; omega)
            have hWa : Below wo.heap.size wo (wo.alloc (.cells #[.slice E0 m0 d0] 83)) := (Below.refl _ _).alloc (Nat.le_refl _) _
            go_wp2_with fail
            go_loopw [3, 43] (fun v i wr => ∃ (k : Nat) (t' : List UInt8), k ≤ m0 ∧ i = .int .i64 (k : Int) ∧ v = Tx t' ∧ Hid (t' = t ++ procW ++ codeText (code.take k)) ∧ Below wo.heap.size wo wr) (fun _ i _ => m0 - (intOf i).toNat)
            case atStart => exact ⟨0, t ++ procW, Nat.zero_le _, rfl, congrArg Value.string (Tx_app t procW), Lib.hid (by simp [codeText]), hWa⟩
            case round =>
              rename World => wq
              obtain ⟨k, t', hk, rfl, rfl, HK, hbq⟩ := hrel
              have z3 := hbq.size
              have htl' : t'.length ≤ 200000000 := by rw [HK.out]; exact HPRE.out k
              by_cases hlk : k < m0
              · obtain ⟨hx2, g2, o2, us2, rfl, hg2, ⟨rfl, -⟩, hcell2⟩ := (si.below hbq (Nat.le_trans hhi z2)).at_ hlk
                have ci0 := hcell2 0 _ rfl
                have ci1 := hcell2 1 _ rfl
                have ci2 := hcell2 2 _ rfl
                have ci3 := hcell2 3 _ rfl
                simp only [show (layInstr).size = 4 from rfl, ← Nat.add_assoc, Nat.add_zero] at ci0 ci1 ci2 ci3
                have hnx := Lib.hid (show t ++ procW ++ codeText (code.take (k + 1)) = t' ++ instrText code[k].fOp code[k].fA code[k].fB code[k].fC ++ [10] by rw [codeText_next hx2, HK.out]; simp)
                clear hcell2
                generalize code[k] = ii at *
                obtain ⟨op, a, b, c⟩ := ii
                simp only at ci0 ci1 ci2 ci3
                have hyl := instrText_len op a b c
                have HI := Lib.hid (fun W : World => specInstrText_any op a b c W)
                generalize instrText op a b c = y at *
                have k1 : ∀ W, (Op.stringOp .add (⟨t'.toArray⟩ : ByteArray) ⟨y.toArray⟩).run Tryz.prog W = .ok (.string (⟨t'.toArray⟩ ++ ⟨y.toArray⟩)) W := fun W => run_string_add_sum W _ _ (by simp only [ByteArray.size_append, size_list]; omega)
                have k2 : ∀ W, (Op.stringOp .add ((⟨t'.toArray⟩ : ByteArray) ++ ⟨y.toArray⟩) ⟨#[10]⟩).run Tryz.prog W = .ok (.string (⟨t'.toArray⟩ ++ ⟨y.toArray⟩ ++ ⟨#[10]⟩)) W := fun W => run_string_add_sum W _ _ (by simp only [ByteArray.size_append, size_list, size_lit1, List.length_cons, List.length_nil]; omega)
                go_wp2_with fail
                refine (HI.out _).mono ?_
                rintro e w8 ⟨rfl, hb8⟩
                have hW8 : Below wo.heap.size wo w8 := (hbq.alloc z3 _).trans (hb8.mono (Nat.le_trans z3 (by simp)))
                clear hb8
                go_wp2_with fail
                go_roundw
                case rel => exact ⟨k + 1, t' ++ y ++ [10], by omega, by go_num, by first | rfl | (rw [Tx_app, Tx_app]), Lib.hid hnx.out.symm, hW8⟩
                case measure => simp [intOf]; omega
              · obtain rfl : k = m0 := by omega
                have hct : code.take k = code := List.take_of_length_le (by rw [HCL.out]; exact Nat.le_refl _)
                have HF := Lib.hid (show t' = tc ++ tm ++ selsText sels ++ procsText (procs.take (j + 1)) by rw [hnext.out, HK.out, hct])
                have hWf : Below w.heap.size w wq := hbr.trans (hbq.mono z2)
                clear hct
                go_wp2_with fail
                go_roundw
                case rel => exact ⟨j + 1, t', by omega, by go_num, rfl, HF, hWf⟩
                case measure => simp [intOf]; omega
          · obtain rfl : j = n3 := by omega
            have hst : procs.take j = procs := List.take_of_length_le (by rw [HL.out.2.2]; exact Nat.le_refl _)
            have hfin := Lib.hid (show textOf ⟨caps, mus, sels, procs⟩ = t by rw [HT.out, HTT.out, hst])
            clear hst
            go_wp2_with fail
            go_ret
            exact ⟨by rw [hfin.out]; rfl, hbr⟩
end Go.Proofs.YtgfkadhojlddpaaGreatDoor
