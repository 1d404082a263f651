
/- The contract of the program's ProgText. -/

import Derived.Test.YtgfkadhojlddpaaGreatDoorLinesMath

import Derived.Test.YtgfkadhojlddpaaGreatDoorSelTextI

import Derived.Test.YtgfkadhojlddpaaGreatDoorTextS

import Derived.Test.YtgfkadhojlddpaaGreatDoorOkProgI

import Derived.Test.YtgfkadhojlddpaaGreatDoorBase

namespace Go.Proofs.YtgfkadhojlddpaaGreatDoor
set_option linter.unusedSimpArgs false
set_option linter.unusedVariables false
open Go.RowKit

theorem linesOf_len (p : DProg) (h : szProg p ≤ 1048576) : (linesOf p).length ≤ 2 + 1048576 := by
  have h1 : ((p.fProcs.map procLines).flatten).length ≤ p.fProcs.length + (p.fProcs.map szProc).sum := by
    induction p.fProcs with
    | nil => simp
    | cons x l ih =>
      simp only [List.map_cons, List.flatten_cons, List.length_append, List.sum_cons, List.length_cons, procLines, List.length_map, szProc] at ih ⊢
      omega
  unfold szProg at h
  simp only [linesOf, headLines, List.length_append, List.length_cons, List.length_nil, List.length_map]
  omega
theorem flat_take_len {α β : Type} (f : α → List β) (l : List α) (j : Nat) : ((l.take j).map f).flatten.length ≤ (l.map f).flatten.length := by
  have : (l.map f).flatten = ((l.take j).map f).flatten ++ ((l.drop j).map f).flatten := by rw [← List.flatten_append, ← List.map_append, List.take_append_drop]
  rw [this, List.length_append]
  omega
theorem lines_sels (p : DProg) (j : Nat) : (headLines p ++ (p.fSels.take j).map selText).length ≤ (linesOf p).length := by
  simp only [linesOf, List.length_append, List.length_map, List.length_take]
  omega
theorem lines_procs (p : DProg) (j : Nat) : (headLines p ++ p.fSels.map selText ++ ((p.fProcs.take j).map procLines).flatten).length ≤ (linesOf p).length := by
  have := flat_take_len procLines p.fProcs j
  simp only [linesOf, List.length_append]
  omega
theorem procs_next {l : List DProc} {j : Nat} (h : j < l.length) : ((l.take (j + 1)).map procLines).flatten = ((l.take j).map procLines).flatten ++ (procWn :: l[j].fCode.map codeLine) := by
  rw [List.take_succ_eq_append_getElem h, List.map_append, List.flatten_append]
  simp only [List.map_cons, List.map_nil, List.flatten_cons, List.flatten_nil, List.append_nil]
  rfl
theorem lines_code (p : DProg) {j : Nat} (h : j < p.fProcs.length) (k : Nat) : (headLines p ++ p.fSels.map selText ++ ((p.fProcs.take j).map procLines).flatten ++ (procWn :: (p.fProcs[j].fCode.take k).map codeLine)).length ≤ (linesOf p).length := by
  have h1 := lines_procs p (j + 1)
  rw [procs_next h] at h1
  simp only [List.length_append, List.length_cons, List.length_map, List.length_take] at h1 ⊢
  omega
theorem seen_at (w : World) (v : Value) (t : TypeId) {b : Nat} (hb : w.heap.size = b) : Seen (w.alloc (.cells #[v] t)) (b + 1) 1 (some ⟨b, 0, none⟩) 1 [v] := by
  subst hb
  exact Seen.one w v t
theorem capLine_len (caps : List Int) : (Lib.join (chansW :: caps.map numText) [32]).length ≤ 5 + 11 * caps.length := by
  have := joinTail_len (L := 10) (mark := 32) (caps.map numText) (fun f hf => by
    obtain ⟨z, _, rfl⟩ := List.mem_map.1 hf
    exact numText_len z)
  rw [Lib.join_cons, List.length_append, show chansW.length = 5 from rfl]
  rw [List.length_map] at this
  omega

set_option maxRecDepth 100000 in
set_option maxHeartbeats 4000000 in
theorem implProgText_any {w : World} {hi : Nat} {p : DProg} {vs : List Value} (h : layProg.see w hi p vs) (hhi : hi ≤ w.heap.size) (hsz : szProg p ≤ 1048576) (hT : Tabs w) :
    Calls Tryz.prog 9 #[.agg vs.toArray] w fun e w' => e = .returned (Tx (progText p)) ∧ Below w.heap.size w w' := by
  obtain ⟨i0, hi0, hz0, hz1, hz2⟩ := info_parts str_info'
  obtain ⟨A0, n0, c0, A2, n2, c2, A3, n3, c3, rfl, ⟨hc0, hm0, s0⟩, hw1, ⟨hc2, hm2, s2⟩, ⟨hc3, hm3, s3⟩⟩ := seeProg h
  have HB := box_new w #[.slice A0 n0 c0, .int .i64 p.fMus, .slice A2 n2 c2, .slice A3 n3 c3] 32
  have hW0 : Below w.heap.size w (w.alloc (.cells #[.slice A0 n0 c0, .int .i64 p.fMus, .slice A2 n2 c2, .slice A3 n3 c3] 32)) := (Below.refl _ _).alloc (Nat.le_refl _) _
  have HOK := Lib.hid (implProgOk_any (w := w.alloc (.cells #[.slice A0 n0 c0, .int .i64 p.fMus, .slice A2 n2 c2, .slice A3 n3 c3] 32)) (layProg.keep h fun k hk => hW0.block k (by omega)) (by simp; omega) (opCells_below hT.2 hW0) hsz)
  have HLN := Lib.hid (linesOf_len p hsz)
  have HLS := Lib.hid (lines_sels p)
  have HLP := Lib.hid (lines_procs p)
  have HLC := Lib.hid (fun (j : Nat) (h : j < p.fProcs.length) => lines_code p h)
  have HTL := Lib.hid (textOf_len p hsz)
  have HPT := Lib.hid (fun hh : progOkB p = true => progText_lines hh)
  have HNO := Lib.hid (fun hh : progOkB p = false => show progText p = [] by rw [progText, hh]; rfl)
  have HLT := Lib.hid (fun hh : progOkB p = true => lines_text p (progOk_nums hh).1 (progOk_nums hh).2)
  have HDEF := Lib.hid (show linesOf p = headLines p ++ p.fSels.map selText ++ (p.fProcs.map procLines).flatten from rfl)
  have HHD := Lib.hid (show headLines p = [Lib.join (chansW :: p.fCaps.map numText) [32], mutexesW ++ 32 :: numText p.fMus] from rfl)
  generalize progOkB p = ok at *
  obtain ⟨caps, mus, sels, procs⟩ := p
  simp only at s0 s2 s3 hw1 HHD HDEF HLS HLP HLC
  generalize headLines ⟨caps, mus, sels, procs⟩ = hd at *
  unfold szProg at hsz
  simp only at hsz
  have hl0 := s0.1
  have hl2 := s2.1
  have hl3 := s3.1
  have hn0 : n0 ≤ 1048576 := by omega
  have hn2 : n2 ≤ 1048576 := by omega
  have hn3 : n3 ≤ 1048576 := by omega
  have HL := Lib.hid (And.intro hl0 (And.intro hl2 hl3))
  have HSZ := Lib.hid hsz
  have HCAP := Lib.hid (capLine_len caps)
  have HT := Lib.hid hT
  have HBX := Lib.hid HB
  have HW0 := Lib.hid hW0
  have hl := w.heap.size.lt_succ_self
  have zal : (w.alloc (.cells #[.slice A0 n0 c0, .int .i64 mus, .slice A2 n2 c2, .slice A3 n3 c3] 32)).heap.size = w.heap.size + 1 := by simp
  have HZA := Lib.hid zal
  clear hl0 hl2 hl3 hsz h hT HB hW0 zal
  show Calls Tryz.prog 9 #[.agg #[.slice A0 n0 c0, .int .i64 mus, .slice A2 n2 c2, .slice A3 n3 c3]] w _
  go_enter Tryz.func9, Tryz.ntmps9
  go_wp2_with fail
  refine HOK.out.mono ?_
  rintro e w1 ⟨rfl, hb1⟩
  have HB1 := Lib.hid (box_keep HBX.out hb1 (lt_of_block HBX.out))
  have hW1 : Below w.heap.size w w1 := HW0.out.trans (hb1.mono HW0.out.size)
  have hl1 := lt_of_block HB1.out
  clear hb1
  cases ok
  · have hfin := Lib.hid (HNO.out rfl)
    go_wp2_with fail
    go_ret
    exact ⟨by rw [hfin.out]; rfl, hW1⟩
  have HFIN := Lib.hid (HPT.out rfl)
  have HLT2 := Lib.hid (HLT.out rfl)
  clear HPT HNO HLT HOK
  have cx0 := box_cell (j := 0) HB1.out rfl
  have hWa : Below w.heap.size w (w1.alloc (.cells #[Tx chansW] 9)) := hW1.alloc hW1.size _
  have hownS : Own (w1.alloc (.cells #[Tx chansW] 9)) (w.heap.size + 1) (w1.alloc (.cells #[Tx chansW] 9)).heap.size 9 1 (some ⟨w1.heap.size, 0, none⟩) 1 1 [Tx chansW] := by
    have := (Own.made (size := 1) (e := 9) w1 #[Tx chansW] 1 1 (by decide) rfl (Nat.le_refl _)).wider (lo' := w.heap.size + 1) (hi' := (w1.alloc (.cells #[Tx chansW] 9)).heap.size) hl1 (by simp)
    simpa using this
  have HBa := Lib.hid (box_keep (w' := w1.alloc (.cells #[Tx chansW] 9)) HB1.out ((Below.refl _ _).alloc (Nat.le_refl _) _) hl1)
  go_wp2_with fail
  clear cx0
  go_loopw [3, 20] (fun v i wr => ∃ A c j, v = .slice A (j + 1) c ∧ i = .int .i64 ((j : Nat) : Int) ∧ j ≤ n0 ∧ Own wr (w.heap.size + 1) wr.heap.size 9 1 A (j + 1) c ((chansW :: (caps.take j).map numText).map Tx) ∧ Hid (wr.heap[w.heap.size]? = some (.cells #[.slice A0 n0 c0, .int .i64 mus, .slice A2 n2 c2, .slice A3 n3 c3] 32 (0, 0))) ∧ Below w.heap.size w wr) (fun _ i _ => n0 - (intOf i).toNat)
  case atStart => exact ⟨_, 1, 0, rfl, rfl, Nat.zero_le _, hownS, HBa, hWa⟩
  case round =>
    rename World => wc
    obtain ⟨A, c, j, rfl, rfl, hj, hown, HBr, hb⟩ := hrel
    have z := hb.size
    have hlr := lt_of_block HBr.out
    by_cases hlt : j < n0
    · obtain ⟨hx, g, o, us, rfl, hg, ⟨rfl, -⟩, hcell⟩ := (s0.below hb hhi).at_ hlt
      have cc0 := hcell 0 _ rfl
      simp only [show (Lay.int).size = 1 from rfl, ← Nat.add_assoc, Nat.add_zero, Nat.mul_one] at cc0
      have hnext := Lib.hid (show (chansW :: (caps.take (j + 1)).map numText).map Tx = (chansW :: (caps.take j).map numText).map Tx ++ [Tx (numText caps[j])] by
        rw [List.take_succ_eq_append_getElem hx]
        simp only [List.map_cons, List.map_append, List.map_nil, List.cons_append])
      clear hcell
      generalize caps[j] = x at *
      have HN := Lib.hid (implNumText_any x wc (HT.out.below hb (Nat.le_refl _)).1)
      generalize numText x = y at *
      go_wp2_with fail
      refine HN.out.mono ?_
      rintro e w5 ⟨rfl, hb5⟩
      have hown1 := (hown.below hb5 (Nat.le_refl _)).alloc (.cells #[Tx y] 9)
      have hW5 : Below w.heap.size w (w5.alloc (.cells #[Tx y] 9)) := (hb.trans (hb5.mono z)).alloc (Nat.le_trans z hb5.size) _
      have HB5 := Lib.hid (box_keep (w' := w5.alloc (.cells #[Tx y] 9)) (box_keep HBr.out hb5 hlr) ((Below.refl _ _).alloc (Nat.le_refl _) _) (Nat.lt_of_lt_of_le hlr hb5.size))
      have z5 : w.heap.size + 1 ≤ (w5.alloc (.cells #[Tx y] 9)).heap.size := lt_of_block HB5.out
      clear hb5
      go_wp2_with (at_builtin; refine wpList_append_seen rfl (.tmp 24) (.tmp 27) _ rfl (w.heap.size + 1) _ 9 i0 _ 1 16 Tryz.underlying74 hi0 hz0 hz1 hz2 rfl (by omega) A (j + 1) c _ rfl hown1 _ _ 1 1 _ rfl (Seen.one w5 (Tx y) 9) (by simp [Value.oneCell']) (by simp only [maxLen]; omega) (by omega) z5 ?_; intro A5 c5 w6 own5 hb6)
      go_roundw
      case rel => exact ⟨A5, c5, j + 1, rfl, by go_num, by omega, by rw [hnext.out]; exact own5, Lib.hid (box_keep HB5.out hb6 hl), hW5.trans (hb6.mono (Nat.le_of_lt hl))⟩
      case measure => simp [intOf]; omega
    · obtain rfl : n0 = j := by omega
      have htk : caps.take n0 = caps := List.take_of_length_le (by rw [HL.out.1]; exact Nat.le_refl _)
      rw [htk] at hown
      have HO := Lib.hid hown
      have hcap := hown.cap
      have cx1 := box_cell (j := 1) HBr.out rfl
      clear htk hown
      have hWd : Below wc.heap.size wc wc.drew := below_drawn (Below.refl _ _) 1
      have HCL : (Lib.join (chansW :: caps.map numText) [32]).length ≤ 20000000 := by have := HCAP.out; have := HL.out.1; omega
      have HJ0 := Lib.hid (fun (W : World) (hW : Below wc.heap.size wc W) => show Calls Tryz.prog 36 #[.slice A (n0 + 1) c, .string ⟨#[32]⟩] W fun e w' => e = .returned (Tx (Lib.join (chansW :: caps.map numText) [32])) ∧ Below W.heap.size W w' from join_seen ((HO.out.below hW (Nat.le_refl _)).seen) hW.size hcap (by omega) (by omega))
      have HN0 := Lib.hid (fun (W : World) (hW : Below wc.heap.size wc W) => implNumText_any mus W ((HT.out.below hb (Nat.le_refl _)).below hW (Nat.le_refl _)).1)
      have hyl := numText_len mus
      have hjl : (Lib.join (chansW :: caps.map numText) [32]).length ≤ 140737488355328 := by omega
      generalize Lib.join (chansW :: caps.map numText) [32] = jn at *
      generalize numText mus = y at *
      have kS : ∀ W, (Op.stringOp .add (⟨#[109, 117, 116, 101, 120, 101, 115, 32]⟩ : ByteArray) ⟨y.toArray⟩).run Tryz.prog W = .ok (.string (⟨#[109, 117, 116, 101, 120, 101, 115, 32]⟩ ++ ⟨y.toArray⟩)) W := fun W => run_string_add_sum W _ _ (by simp only [size_list, List.length_cons, List.length_nil]; omega)
      have HCX := Lib.hid cx1
      go_wp2_with fail
      go_region_with (first
        | (go_at_call 36; (with_reducible refine (HJ0.out _ (by assumption)).mono ?_); rintro e w5 ⟨rfl, hb5⟩; have hV5 : Below wc.heap.size wc w5 := hWd.trans hb5; have cx5 : w5.cell? ⟨w.heap.size, 1, none⟩ = some (.int .i64 mus) := cell_kept hV5 HCX.out; clear hb5)
        | (go_at_call 35; (with_reducible refine (HN0.out _ (by assumption)).mono ?_); rintro e w6 ⟨rfl, hb6⟩; have hV6 : Below wc.heap.size wc w6 := hV5.trans (hb6.mono hV5.size); clear hb6))
      all_goals
        have HB6 := Lib.hid (box_keep HBr.out hV6 hlr)
        have hW6 : Below w.heap.size w w6 := hb.trans (hV6.mono z)
        have hl6 := lt_of_block HB6.out
        have HM := Lib.hid (show Value.string ((⟨#[109, 117, 116, 101, 120, 101, 115, 32]⟩ : ByteArray) ++ ⟨y.toArray⟩) = Tx (mutexesW ++ 32 :: y) from congrArg Value.string (Tx_app [109, 117, 116, 101, 120, 101, 115, 32] y))
        have hmt : hd.map Tx = [Tx jn, Value.string ((⟨#[109, 117, 116, 101, 120, 101, 115, 32]⟩ : ByteArray) ++ ⟨y.toArray⟩)] := by rw [HM.out, HHD.out]; rfl
        have hhl : hd.length = 2 := by rw [HHD.out]; rfl
        have HMT := Lib.hid hmt
        clear hmt
        generalize Value.string ((⟨#[109, 117, 116, 101, 120, 101, 115, 32]⟩ : ByteArray) ++ ⟨y.toArray⟩) = mv at *
        have hownL : Own (w6.alloc (.cells #[Tx jn, mv] 9)) (w.heap.size + 1) (w6.alloc (.cells #[Tx jn, mv] 9)).heap.size 9 1 (some ⟨w6.heap.size, 0, none⟩) 2 2 (hd.map Tx) := by
          have := (Own.made (size := 1) (e := 9) w6 #[Tx jn, mv] 2 2 (by decide) rfl (Nat.le_refl _)).wider (lo' := w.heap.size + 1) (hi' := (w6.alloc (.cells #[Tx jn, mv] 9)).heap.size) hl6 (by simp)
          rw [HMT.out]
          simpa using this
        have HB7 := Lib.hid (box_keep (w' := w6.alloc (.cells #[Tx jn, mv] 9)) HB6.out ((Below.refl _ _).alloc (Nat.le_refl _) _) hl6)
        have hW7 : Below w.heap.size w (w6.alloc (.cells #[Tx jn, mv] 9)) := hW6.alloc hW6.size _
        have cx2 := box_cell (j := 2) HB7.out rfl
        have hl7 := lt_of_block HB7.out
        have HHL := Lib.hid hhl
        clear hWd cx5 hV5 HCX HM HMT hhl HJ0 HN0 kS
        go_wp2_with fail
        clear cx2 hl7
        go_loopw [6, 40] (fun v i wr => ∃ A c j L, v = .slice A (List.length L) c ∧ i = .int .i64 ((j : Nat) : Int) ∧ j ≤ n2 ∧ Hid (L = hd ++ (sels.take j).map selText) ∧ Own wr (w.heap.size + 1) wr.heap.size 9 1 A (List.length L) c (L.map Tx) ∧ Hid (wr.heap[w.heap.size]? = some (.cells #[.slice A0 n0 c0, .int .i64 mus, .slice A2 n2 c2, .slice A3 n3 c3] 32 (0, 0))) ∧ Below w.heap.size w wr) (fun _ i _ => n2 - (intOf i).toNat)
        case atStart => exact ⟨_, 2, 0, hd, by rw [HHL.out], rfl, Nat.zero_le _, Lib.hid (by simp), by rw [HHL.out]; exact hownL, HB7, hW7⟩
        case round =>
          clear hownL HB7 hW7 HB6 hW6 hl6 HBr hb z hlr hlt
          rename World => ws
          obtain ⟨A, c, j, L, rfl, rfl, hj, HLL, hown, HBr, hb⟩ := hrel
          have z := hb.size
          have hlr := lt_of_block HBr.out
          have hLl : L.length ≤ 2 + 1048576 := by rw [HLL.out]; exact Nat.le_trans (HLS.out j) HLN.out
          by_cases hlt : j < n2
          · obtain ⟨hx, g, o, us, rfl, hg, hsee, hcell⟩ := (s2.below hb hhi).at_ hlt
            have hsj : szSelect sels[j] ≤ 1048576 := by have := sum_at szSelect sels j hx; have := HSZ.out; omega
            have hnext := Lib.hid (show hd ++ (sels.take (j + 1)).map selText = L ++ [selText sels[j]] by
              rw [List.take_succ_eq_append_getElem hx, HLL.out]
              simp only [List.map_append, List.map_cons, List.map_nil, List.append_assoc])
            generalize sels[j] = q at *
            have HSEE := Lib.hid (fun v : Value => implSelectText_any (w := ws.alloc (.cells #[v, .int .i64 q.fElse] 79)) (laySelect.keep hsee fun k hk => Below.heap_alloc ws _ k (by omega)) (by simp; omega) hsj (HT.out.below (hb.alloc z _) (Nat.le_refl _)))
            obtain ⟨E0, m0, d0, rfl, -⟩ := seeSelect hsee
            have cc0 := hcell 0 _ rfl
            have cc1 := hcell 1 _ rfl
            simp only [show (laySelect).size = 2 from rfl, ← Nat.add_assoc, Nat.add_zero] at cc0 cc1
            have HC := Lib.hid (HSEE.out (.slice E0 m0 d0))
            have hWc : Below w.heap.size w (ws.alloc (.cells #[.slice E0 m0 d0, .int .i64 q.fElse] 79)) := hb.alloc z _
            have HBc := Lib.hid (box_keep (w' := ws.alloc (.cells #[.slice E0 m0 d0, .int .i64 q.fElse] 79)) HBr.out ((Below.refl _ _).alloc (Nat.le_refl _) _) hlr)
            have hownc := hown.alloc (.cells #[.slice E0 m0 d0, .int .i64 q.fElse] 79)
            clear hsee hcell hsj HSEE
            generalize selText q = y at *
            go_wp2_with fail
            refine HC.out.mono ?_
            rintro e w5 ⟨rfl, hb5⟩
            have hown1 := (hownc.below hb5 (by simp)).alloc (.cells #[Tx y] 9)
            have hW5 : Below w.heap.size w (w5.alloc (.cells #[Tx y] 9)) := (hWc.trans (hb5.mono hWc.size)).alloc (Nat.le_trans hWc.size hb5.size) _
            have HB5 := Lib.hid (box_keep (w' := w5.alloc (.cells #[Tx y] 9)) (box_keep HBc.out hb5 (lt_of_block HBc.out)) ((Below.refl _ _).alloc (Nat.le_refl _) _) (Nat.lt_of_lt_of_le (lt_of_block HBc.out) hb5.size))
            have z5 : w.heap.size + 1 ≤ (w5.alloc (.cells #[Tx y] 9)).heap.size := lt_of_block HB5.out
            clear hb5 cc0 cc1
            go_wp2_with (at_builtin; refine wpList_append_seen rfl (.tmp 44) (.tmp 47) _ rfl (w.heap.size + 1) _ 9 i0 _ 1 16 Tryz.underlying74 hi0 hz0 hz1 hz2 rfl (by omega) A L.length c _ rfl hown1 _ _ 1 1 _ rfl (Seen.one w5 (Tx y) 9) (by simp [Value.oneCell']) (by simp only [maxLen]; omega) (by omega) z5 ?_; intro A5 c5 w6 own5 hb6)
            go_roundw
            case rel => exact ⟨A5, c5, j + 1, L ++ [y], by simp, by go_num, by omega, Lib.hid hnext.out.symm, by simpa using own5, Lib.hid (box_keep HB5.out hb6 hl), hW5.trans (hb6.mono (Nat.le_of_lt hl))⟩
            case measure => simp [intOf]; omega
          · obtain rfl : n2 = j := by omega
            have hst : sels.take n2 = sels := List.take_of_length_le (by rw [HL.out.2.1]; exact Nat.le_refl _)
            have HL2 := Lib.hid (show L = hd ++ sels.map selText by rw [HLL.out, hst])
            have cx3 := box_cell (j := 3) HBr.out rfl
            clear hst
            go_wp2_with fail
            clear cx3
            go_loopw [6, 53] (fun v i wr => ∃ A c j L, v = .slice A (List.length L) c ∧ i = .int .i64 ((j : Nat) : Int) ∧ j ≤ n3 ∧ Hid (L = hd ++ sels.map selText ++ ((procs.take j).map procLines).flatten) ∧ Own wr (w.heap.size + 1) wr.heap.size 9 1 A (List.length L) c (L.map Tx) ∧ Below w.heap.size w wr ∧ w.heap.size + 1 ≤ wr.heap.size) (fun _ i _ => n3 - (intOf i).toNat)
            case atStart => exact ⟨A, c, 0, L, rfl, rfl, Nat.zero_le _, Lib.hid (by rw [HL2.out]; simp), hown, hb, hlr⟩
            case round =>
              have HLW := Lib.hid hlr
              clear hown HBr hb z hlr hlt HLL HL2 hLl
              rename World => wo
              obtain ⟨A, c, j, L, rfl, rfl, hj, HLL, hown, hb, hWO⟩ := hrel
              have z := hb.size
              have hLl : L.length ≤ 2 + 1048576 := by rw [HLL.out]; exact Nat.le_trans (HLP.out j) HLN.out
              by_cases hlt : j < n3
              · obtain ⟨hx, g, o, us, rfl, hg, hsee, hcell⟩ := (s3.below hb hhi).at_ hlt
                obtain ⟨E0, m0, d0, rfl, ⟨hd0, hdm, si⟩⟩ := seeProc hsee
                have cc0 := hcell 0 _ rfl
                simp only [show (layProc).size = 1 from rfl, ← Nat.add_assoc, Nat.add_zero, Nat.mul_one] at cc0
                have hsj : szProc procs[j] ≤ 1048576 := by have := sum_at szProc procs j hx; have := HSZ.out; omega
                have hcl : procs[j].fCode.length = m0 := si.1
                have hm0c : m0 ≤ 1048576 := by rw [← hcl]; exact hsj
                have hnext := Lib.hid (show hd ++ sels.map selText ++ ((procs.take (j + 1)).map procLines).flatten = L ++ [procWn] ++ procs[j].fCode.map codeLine by
                  rw [procs_next hx, HLL.out]
                  simp only [List.append_assoc, List.cons_append, List.nil_append])
                have HPRE := Lib.hid (fun k => show (L ++ [procWn] ++ (procs[j].fCode.take k).map codeLine).length ≤ 2 + 1048576 by
                  have := Nat.le_trans (HLC.out j hx k) HLN.out
                  rw [HLL.out]
                  simpa only [List.append_assoc, List.cons_append, List.nil_append] using this)
                have HCD := Lib.hid hcl
                clear hsee hcell hsj hcl
                generalize procs[j].fCode = code at *
                have hWa : Below w.heap.size w (wo.alloc (.cells #[.slice E0 m0 d0] 83)) := hb.alloc z _
                have hne : blkA A ≠ some wo.heap.size := fun e => Nat.lt_irrefl _ (hown.blk e).2.1
                have HP := Lib.hid (box_keep (w' := (wo.alloc (.cells #[.slice E0 m0 d0] 83)).alloc (.cells #[Tx procWn] 9)) (box_new wo #[.slice E0 m0 d0] 83) ((Below.refl _ _).alloc (Nat.le_refl _) _) (by simp))
                have hown1 := (hown.alloc (.cells #[.slice E0 m0 d0] 83)).alloc (.cells #[Tx procWn] 9)
                have hWb : Below wo.heap.size wo ((wo.alloc (.cells #[.slice E0 m0 d0] 83)).alloc (.cells #[Tx procWn] 9)) := ((Below.refl _ _).alloc (Nat.le_refl _) _).alloc (by simp) _
                go_wp2_with (at_builtin; refine wpList_append_kin rfl (.tmp 57) (.tmp 58) _ rfl (w.heap.size + 1) _ 9 i0 _ 1 16 Tryz.underlying74 hi0 hz0 hz1 hz2 rfl (by omega) A L.length c _ rfl hown1 _ _ 1 1 _ rfl (seen_at _ (Tx procWn) _ (by simp)) (by simp [Value.oneCell']) (by simp only [maxLen]; omega) (by omega) (by simp; omega) ?_; intro A5 c5 w6 own5 hb6 hk6 hA6; have HP6 := Lib.hid ((hk6 wo.heap.size (lt_of_block HP.out) hne).trans HP.out); have cp6 : w6.cell? ⟨wo.heap.size, 0, none⟩ = some (.slice E0 m0 d0) := box_cell HP6.out rfl; have lp6 := lt_of_block HP6.out; clear hk6 hA6)
                have hV6 : Below w.heap.size wo w6 := (hWb.mono z).trans (hb6.mono (Nat.le_of_lt hl))
                have hz6 : w.heap.size + 1 ≤ w6.heap.size := Nat.le_trans hWO (Nat.le_of_lt lp6)
                have hown6 : Own w6 (w.heap.size + 1) w6.heap.size 9 1 A5 (L ++ [procWn]).length c5 ((L ++ [procWn]).map Tx) := by simpa using own5
                have HL6 : Hid ((L ++ [procWn]).length = L.length + 1) := Lib.hid (by simp)
                clear own5 hb6 hWb hown1 HP HP6 hne hWa cc0 hown
                go_loopw [6, 63] (fun v i wr => ∃ A c k L', v = .slice A (List.length L') c ∧ i = .int .i64 ((k : Nat) : Int) ∧ k ≤ m0 ∧ Hid (L' = L ++ [procWn] ++ (code.take k).map codeLine) ∧ Own wr (w.heap.size + 1) wr.heap.size 9 1 A (List.length L') c (L'.map Tx) ∧ Below w.heap.size wo wr ∧ w.heap.size + 1 ≤ wr.heap.size) (fun _ i _ => m0 - (intOf i).toNat)
                case atStart => exact ⟨A5, c5, 0, L ++ [procWn], by rw [HL6.out], rfl, Nat.zero_le _, Lib.hid (by simp), hown6, hV6, hz6⟩
                case round =>
                  clear hown6 hV6 hz6 cp6 lp6
                  rename World => wq
                  obtain ⟨A, c, k, L', rfl, rfl, hk, HLL', hown, hbq, hWq⟩ := hrel
                  have z3 := hbq.size
                  have hwq : Below w.heap.size w wq := hb.trans hbq
                  have hLl' : L'.length ≤ 2 + 1048576 := by rw [HLL'.out]; exact HPRE.out k
                  by_cases hlk : k < m0
                  · obtain ⟨hx2, g2, o2, us2, rfl, hg2, ⟨rfl, hw2⟩, hcell2⟩ := (si.below hbq hhi).at_ hlk
                    have ci0 := hcell2 0 _ rfl
                    have ci1 := hcell2 1 _ rfl
                    have ci2 := hcell2 2 _ rfl
                    have ci3 := hcell2 3 _ rfl
                    simp only [show (layInstr).size = 4 from rfl, ← Nat.add_assoc, Nat.add_zero] at ci0 ci1 ci2 ci3
                    have hnx := Lib.hid (show L ++ [procWn] ++ (code.take (k + 1)).map codeLine = L' ++ [codeLine code[k]] by
                      rw [List.take_succ_eq_append_getElem hx2, HLL'.out]
                      simp only [List.map_append, List.map_cons, List.map_nil, List.append_assoc])
                    clear hcell2
                    generalize code[k] = ii at *
                    obtain ⟨op, a, b, d⟩ := ii
                    simp only at ci0 ci1 ci2 ci3 hw2
                    have hWc : Below w.heap.size w (wq.alloc (.cells #[.int .i64 op, .int .i64 a, .int .i64 b, .int .i64 d] 85)) := hwq.alloc hwq.size _
                    have hVc : Below w.heap.size wo (wq.alloc (.cells #[.int .i64 op, .int .i64 a, .int .i64 b, .int .i64 d] 85)) := hbq.alloc hwq.size _
                    have HI := Lib.hid (show Calls Tryz.prog 38 #[.agg #[.int .i64 op, .int .i64 a, .int .i64 b, .int .i64 d]] (wq.alloc (.cells #[.int .i64 op, .int .i64 a, .int .i64 b, .int .i64 d] 85)) fun e w' => e = .returned (Tx (codeLine ⟨op, a, b, d⟩)) ∧ Below (wq.alloc (.cells #[.int .i64 op, .int .i64 a, .int .i64 b, .int .i64 d] 85)).heap.size (wq.alloc (.cells #[.int .i64 op, .int .i64 a, .int .i64 b, .int .i64 d] 85)) w' from implInstrText_any op a b d _ (HT.out.below hWc (Nat.le_refl _)) ⟨hw2.2.1, hw2.2.2.1, hw2.2.2.2⟩)
                    have hownc := hown.alloc (.cells #[.int .i64 op, .int .i64 a, .int .i64 b, .int .i64 d] 85)
                    generalize codeLine ⟨op, a, b, d⟩ = y at *
                    go_wp2_with fail
                    refine HI.out.mono ?_
                    rintro e w8 ⟨rfl, hb8⟩
                    have hown1 := (hownc.below hb8 (by simp)).alloc (.cells #[Tx y] 9)
                    have hV8 : Below w.heap.size wo (w8.alloc (.cells #[Tx y] 9)) := (hVc.trans (hb8.mono hWc.size)).alloc (Nat.le_trans hWc.size hb8.size) _
                    have z8 : w.heap.size + 1 ≤ (w8.alloc (.cells #[Tx y] 9)).heap.size := by have := hb8.size; simp at this ⊢; omega
                    clear hb8 ci0 ci1 ci2 ci3
                    go_wp2_with (at_builtin; refine wpList_append_seen rfl (.tmp 67) (.tmp 70) _ rfl (w.heap.size + 1) _ 9 i0 _ 1 16 Tryz.underlying74 hi0 hz0 hz1 hz2 rfl (by omega) A L'.length c _ rfl hown1 _ _ 1 1 _ rfl (Seen.one w8 (Tx y) 9) (by simp [Value.oneCell']) (by simp only [maxLen]; omega) (by omega) z8 ?_; intro A5 c5 w6 own5 hb6)
                    go_roundw
                    case rel => exact ⟨A5, c5, k + 1, L' ++ [y], by simp, by go_num, by omega, Lib.hid hnx.out.symm, by simpa using own5, hV8.trans (hb6.mono (Nat.le_of_lt hl)), Nat.le_trans z8 hb6.size⟩
                    case measure => simp [intOf]; omega
                  · obtain rfl : m0 = k := by omega
                    have hct : code.take m0 = code := List.take_of_length_le (by rw [HCD.out]; exact Nat.le_refl _)
                    have HF := Lib.hid (show L' = hd ++ sels.map selText ++ ((procs.take (j + 1)).map procLines).flatten by rw [hnext.out, HLL'.out, hct])
                    clear hct
                    go_wp2_with fail
                    go_roundw
                    case rel => exact ⟨A, c, j + 1, L', rfl, by go_num, by omega, HF, hown, hwq, hWq⟩
                    case measure => simp [intOf]; omega
              · obtain rfl : n3 = j := by omega
                have hst : procs.take n3 = procs := List.take_of_length_le (by rw [HL.out.2.2]; exact Nat.le_refl _)
                have HLF := Lib.hid (show linesOf ⟨caps, mus, sels, procs⟩ = L by rw [HDEF.out, HLL.out, hst])
                have HO := Lib.hid hown.seen
                have hcap := hown.cap
                have hjn : (Lib.join L [10]).length ≤ 200000000 := by
                  have h1 := HLT2.out
                  have h2 := HTL.out
                  rw [← h1, HLF.out, List.length_append] at h2
                  omega
                have HJ := Lib.hid (show Calls Tryz.prog 36 #[.slice A (List.length L) c, .string ⟨#[10]⟩] wo fun e w' => e = .returned (Tx (Lib.join L [10])) ∧ Below wo.heap.size wo w' from join_seen HO.out (Nat.le_refl _) hcap (by omega) (by omega))
                have hfin := Lib.hid (show progText ⟨caps, mus, sels, procs⟩ = Lib.join L [10] ++ [10] by rw [HFIN.out, HLF.out])
                clear hst hown
                generalize Lib.join L [10] = jl at *
                have kE : ∀ W, (Op.stringOp .add (⟨jl.toArray⟩ : ByteArray) ⟨#[10]⟩).run Tryz.prog W = .ok (.string (⟨jl.toArray⟩ ++ ⟨#[10]⟩)) W := fun W => run_string_add_sum W _ _ (by simp only [size_list, List.length_cons, List.length_nil]; omega)
                go_wp2_with fail
                refine HJ.out.mono ?_
                rintro e w9 ⟨rfl, hb9⟩
                go_wp2_with fail
                go_ret
                exact ⟨by rw [hfin.out]; exact congrArg (fun v => Ending.returned (Value.string v)) (Tx_app jl [10]), hb.trans (hb9.mono z)⟩
end Go.Proofs.YtgfkadhojlddpaaGreatDoor
