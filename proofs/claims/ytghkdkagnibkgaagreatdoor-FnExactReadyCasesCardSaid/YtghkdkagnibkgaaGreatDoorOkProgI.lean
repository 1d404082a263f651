
/- The contract of the program's ProgOk. -/

import Derived.Test.YtghkdkagnibkgaaGreatDoorCodeI

import Derived.Test.YtghkdkagnibkgaaGreatDoorOkProgS

namespace Go.Proofs.YtghkdkagnibkgaaGreatDoor
set_option linter.unusedSimpArgs false
set_option linter.unusedVariables false
open Go.RowKit

def capB (v : Int) : Bool := decide (0 ≤ v ∧ v ≤ 4)
def capsB (l : List Int) : Bool := decide (l.length ≤ 6) && l.all capB

set_option maxRecDepth 100000 in
set_option maxHeartbeats 1000000 in
theorem capsOk_any {w : World} {hi n c : Nat} {A : Option Addr} {l : List Int} (h : SeenR Lay.int w hi A n l) (hhi : hi ≤ w.heap.size) :
    Calls Tryz.prog 126 #[.slice A n c] w fun e w' => e = .returned (.bool (capsB l)) ∧ Below w.heap.size w w' := by
  have L := Lib.hid h.1
  by_cases h6 : n ≤ 6
  · go_enter Tryz.func126, Tryz.ntmps126
    go_wp2_with fail
    go_loopw [10] (fun i wr => ∃ k : Nat, k ≤ n ∧ i = .int .i64 k ∧ Hid (∀ (j : Nat) (x : Int), j < k → l[j]? = some x → capB x = true) ∧ Below w.heap.size w wr) (fun i _ => n - (intOf i).toNat)
    case atStart => exact ⟨0, Nat.zero_le _, rfl, Lib.hid (fun j x hj => by omega), Below.refl _ _⟩
    case round =>
      obtain ⟨k, hk, rfl, hall, hb⟩ := hrel
      by_cases hlt : k < n
      · obtain ⟨hx, g, o, vs, rfl, hg, ⟨rfl, hw⟩, hcell⟩ := (h.below hb hhi).at_ hlt
        have cc0 := hcell 0 _ rfl
        simp only [Lay.int, Lay.flat, Nat.add_zero, Nat.mul_one] at cc0
        clear hcell hw
        have hdk := Lib.hid (List.getElem?_eq_getElem hx)
        generalize l[k] = x at *
        clear hx
        by_cases hx : 0 ≤ x ∧ x ≤ 4
        · obtain ⟨hx0, hx4⟩ := hx
          go_wp2_with fail
          go_roundw
          case rel =>
            refine ⟨k + 1, by omega, by go_num, Lib.hid (fun j y hj hy => ?_), hb⟩
            by_cases hjk : j = k
            · subst hjk
              obtain rfl := Option.some.inj (hdk.out.symm.trans hy)
              exact decide_eq_true ⟨hx0, hx4⟩
            · exact hall.out j y (by omega) hy
          case measure => simp [intOf]; omega
        · have hno := Lib.hid (show capsB l = false by rw [capsB, all_no (f := capB) hdk.out (decide_eq_false hx), Bool.and_false])
          have hx' : x < 0 ∨ 4 < x := by omega
          clear hx
          rcases hx' with hx' | hx'
          · go_wp2_with fail
            go_ret
            exact ⟨by rw [hno.out]; rfl, hb⟩
          · have hx2 : decide (x < 0) = false := decide_eq_false (by omega)
            go_wp2_with fail
            go_ret
            exact ⟨by rw [hno.out]; rfl, hb⟩
      · have hyes := Lib.hid (show capsB l = true by rw [capsB, decide_eq_true (by rw [L.out]; exact h6), all_yes (f := capB) fun j x hj hx => hall.out j x (by have := L.out; omega) hx]; rfl)
        go_wp2_with fail
        go_ret
        exact ⟨by rw [hyes.out]; rfl, hb⟩
  · have hno := Lib.hid (show capsB l = false by rw [capsB, decide_eq_false (by rw [L.out]; exact h6), Bool.false_and])
    have h7 : 6 < n := by omega
    clear h h6
    go_enter Tryz.func126, Tryz.ntmps126
    go_wp2_with fail
    go_ret
    exact ⟨by rw [hno.out]; rfl, Below.refl _ _⟩

def selsB (p : DProg) : Bool := decide (p.fSels.length ≤ 6) && p.fSels.all (selTopB p.fCaps.length)

theorem selectB_else {nch : Nat} {n : Int} {s : DSelect} (h : s.fElse < -1) : selectB nch n s = false := by rw [selectB, inB_no (by omega), Bool.and_false]

set_option maxRecDepth 100000 in
set_option maxHeartbeats 4000000 in
theorem selsOk_any {w : World} {hi : Nat} {p : DProg} {A0 A2 A3 : Option Addr} {n0 c0 n2 c2 n3 c3 : Nat} (hl0 : p.fCaps.length = n0) (s2 : SeenR laySelect w hi A2 n2 p.fSels) (hhi : hi ≤ w.heap.size) (hsz : (p.fSels.map szSelect).sum ≤ 1048576) :
    Calls Tryz.prog 127 #[.agg #[.slice A0 n0 c0, .int .i64 p.fMus, .slice A2 n2 c2, .slice A3 n3 c3]] w fun e w' => e = .returned (.bool (selsB p)) ∧ Below w.heap.size w w' := by
  have L0 := Lib.hid hl0
  have L2 := Lib.hid s2.1
  clear hl0
  by_cases h6 : n2 ≤ 6
  · go_enter Tryz.func127, Tryz.ntmps127
    go_wp2_with fail
    go_loopw [12] (fun i wr => ∃ k : Nat, k ≤ n2 ∧ i = .int .i64 k ∧ Hid (∀ (j : Nat) (x : DSelect), j < k → p.fSels[j]? = some x → selTopB n0 x = true) ∧ Below (w.heap.size + 1) (w.alloc (.cells #[.slice A0 n0 c0, .int .i64 p.fMus, .slice A2 n2 c2, .slice A3 n3 c3] 38)) wr) (fun i _ => n2 - (intOf i).toNat)
    case atStart => exact ⟨0, Nat.zero_le _, rfl, Lib.hid (fun j x hj => by omega), by simpa using Below.refl _ _⟩
    case round =>
      rename World => wb
      obtain ⟨k2, hk2, rfl, hall2, hb2⟩ := hrel
      have z2 := hb2.size
      simp only [World.size_alloc] at z2
      obtain ⟨hcl2, hfz2⟩ := bcell hb2
      have hl0a : w.heap.size < w.heap.size + 1 := by omega
      have hz2a : w.heap.size < wb.heap.size := by omega
      have hbw2 : Below w.heap.size w wb := Below.trans (by go_grown) (hb2.mono (by omega))
      by_cases hlt2 : k2 < n2
      · obtain ⟨hx, g, o, vs, rfl, hg, hsee, hcell⟩ := (s2.below hbw2 hhi).at_ hlt2
        have hdk := Lib.hid (List.getElem?_eq_getElem hx)
        have hsl : szSelect p.fSels[k2] ≤ 1048576 := Nat.le_trans (sum_mem_le szSelect (List.getElem_mem hx)) hsz
        generalize p.fSels[k2] = s at *
        clear hx
        have HE := Lib.hid (fun (W : World) (hW : Below wb.heap.size wb W) => implSelectOk_any (w := W) (hi := hi) (s := s) (B0 := A0) (B2 := some ⟨g, o, none⟩) (B3 := A3) (m0 := n0) (b0 := c0) (m2 := n2) (b2 := c2) (m3 := n3) (b3 := c3) (mus := p.fMus) (n := 40) (laySelect.keep hsee fun k hk => hW.block k (by omega)) (by have := hW.size; omega) hsl)
        obtain ⟨B0, m0, b0, rfl, ⟨hd0, he0, t0⟩, hw1⟩ := seeSelect hsee
        have LS := Lib.hid t0.1
        have cc0 := hcell 0 _ rfl
        have cc1 := hcell 1 _ rfl
        simp only [show laySelect.size = 2 from rfl, ← Nat.add_assoc, Nat.add_zero, Nat.mul_one] at cc0 cc1
        clear hcell hsee t0 hw1
        have hba : Below wb.heap.size wb (wb.alloc (.cells #[.slice B0 m0 b0, .int .i64 s.fElse] 93)) := (Below.refl _ _).alloc (Nat.le_refl _) _
        have hB3 := hb2.trans (hba.mono (show w.heap.size + 1 ≤ wb.heap.size by omega))
        have hbw3 := hbw2.trans (hba.mono (by omega))
        have hno' := Lib.hid (fun (hs : selTopB n0 s = false) => show selsB p = false by rw [selsB, all_no (f := selTopB p.fCaps.length) hdk.out (by rw [L0.out]; exact hs), Bool.and_false])
        by_cases hm4 : 4 < m0
        · have hno := Lib.hid (hno'.out (by unfold selTopB; rw [LS.out, decide_eq_false (by omega), Bool.false_and]))
          go_wp2_with fail
          go_ret
          exact ⟨by rw [hno.out]; rfl, hbw3⟩
        · have hm40 : decide (4 < (m0 : Int)) = false := decide_eq_false (by omega)
          by_cases hme : m0 = 0 ∧ s.fElse = -1
          · have hno := Lib.hid (hno'.out (by unfold selTopB; rw [LS.out]; simp [hme.1, hme.2]))
            obtain ⟨rfl, hel⟩ := hme
            have hel2 : (s.fElse == -1) = true := by simp [hel]
            clear hm4 hel
            go_wp2_with fail
            go_ret
            exact ⟨by rw [hno.out]; rfl, hbw3⟩
          · have hst := Lib.hid (show selTopB n0 s = selectB n0 40 s by
              unfold selTopB
              rw [LS.out, decide_eq_true (by omega), Bool.true_and]
              by_cases hel : s.fElse < -1
              · rw [selectB_else hel, Bool.and_false]
              · have : (decide (m0 = 0) && decide (s.fElse < 0)) = false := by
                  rw [Bool.eq_false_iff]
                  intro h
                  simp at h
                  omega
                rw [this]; rfl)
            have hway : (m0 = 0 ∧ (s.fElse == -1) = false) ∨ ((m0 : Int) == 0) = false := by
              by_cases h0 : m0 = 0
              · left; exact ⟨h0, by simp; omega⟩
              · right; simpa using h0
            clear hme hm4
            cases ts : selectB n0 40 s
            · have hno := Lib.hid (hno'.out (by rw [hst.out]; exact ts))
              rcases hway with ⟨hw0, hw1⟩ | hw0
              all_goals
                try subst hw0
                go_wp2_with fail
                refine (HE.out _ hba).mono ?_
                rw [ts]
                rintro e w5 ⟨rfl, hb5⟩
                have hbw5 := hbw3.trans (hb5.mono (by simp; omega))
                go_wp2_with fail
                go_ret
                exact ⟨by rw [hno.out]; rfl, hbw5⟩
            · rcases hway with ⟨hw0, hw1⟩ | hw0
              all_goals
                try subst hw0
                go_wp2_with fail
                refine (HE.out _ hba).mono ?_
                rw [ts]
                rintro e w5 ⟨rfl, hb5⟩
                have hB5 := hB3.trans (hb5.mono (by simp; omega))
                go_wp2_with fail
                go_roundw
                case rel =>
                  refine ⟨k2 + 1, by omega, by go_num, Lib.hid (fun j y hj hy => ?_), hB5⟩
                  by_cases hjk : j = k2
                  · subst hjk
                    obtain rfl := Option.some.inj (hdk.out.symm.trans hy)
                    rw [hst.out]; exact ts
                  · exact hall2.out j y (by omega) hy
                case measure => simp [intOf]; omega
      · have hyes := Lib.hid (show selsB p = true by rw [selsB, decide_eq_true (by rw [L2.out]; exact h6), all_yes (f := selTopB p.fCaps.length) fun j x hj hx => by rw [L0.out]; exact hall2.out j x (by have a := hj; have b := L2.out; omega) hx]; rfl)
        go_wp2_with fail
        go_ret
        exact ⟨by rw [hyes.out]; rfl, hbw2⟩
  · have hno := Lib.hid (show selsB p = false by rw [selsB, decide_eq_false (by rw [L2.out]; exact h6), Bool.false_and])
    have h7 : 6 < n2 := by omega
    clear s2 h6
    go_enter Tryz.func127, Tryz.ntmps127
    go_wp2_with fail
    go_ret
    exact ⟨by rw [hno.out]; rfl, by go_grown⟩

def procsB (p : DProg) : Bool := decide (1 ≤ p.fProcs.length ∧ p.fProcs.length ≤ 6) && p.fProcs.all fun x => procB p x.fCode

set_option maxRecDepth 100000 in
set_option maxHeartbeats 4000000 in
theorem procsOk_any {w : World} {hi : Nat} {p : DProg} {A0 A2 A3 : Option Addr} {n0 c0 n2 c2 n3 c3 : Nat} (hl0 : p.fCaps.length = n0) (s2 : SeenR laySelect w hi A2 n2 p.fSels) (s3 : SeenR layProc w hi A3 n3 p.fProcs) (hhi : hi ≤ w.heap.size) (hC : OpCells w) (hn2 : n2 ≤ 1048576) (hsz : (p.fSels.map szSelect).sum ≤ 1048576) (hsz3 : (p.fProcs.map szProc).sum ≤ 1048576) :
    Calls Tryz.prog 128 #[.agg #[.slice A0 n0 c0, .int .i64 p.fMus, .slice A2 n2 c2, .slice A3 n3 c3]] w fun e w' => e = .returned (.bool (procsB p)) ∧ Below w.heap.size w w' := by
  have L0 := Lib.hid hl0
  have L3 := Lib.hid s3.1
  have HC := Lib.hid hC
  clear hl0 hC
  by_cases h6 : 1 ≤ n3 ∧ n3 ≤ 6
  · obtain ⟨h61, h66⟩ := h6
    go_enter Tryz.func128, Tryz.ntmps128
    go_wp2_with fail
    go_loopw [18] (fun i wr => ∃ k : Nat, k ≤ n3 ∧ i = .int .i64 k ∧ Hid (∀ (j : Nat) (x : DProc), j < k → p.fProcs[j]? = some x → procB p x.fCode = true) ∧ Below (w.heap.size + 1) (w.alloc (.cells #[.slice A0 n0 c0, .int .i64 p.fMus, .slice A2 n2 c2, .slice A3 n3 c3] 38)) wr) (fun i _ => n3 - (intOf i).toNat)
    case atStart => exact ⟨0, Nat.zero_le _, rfl, Lib.hid (fun j x hj => by omega), by simpa using Below.refl _ _⟩
    case round =>
      rename World => wc
      obtain ⟨k3, hk3, rfl, hall3, hb3⟩ := hrel
      have z3 := hb3.size
      simp only [World.size_alloc] at z3
      obtain ⟨hcl3, hfz3⟩ := bcell hb3
      have hl0a : w.heap.size < w.heap.size + 1 := by omega
      have hz3a : w.heap.size < wc.heap.size := by omega
      have hbw3 : Below w.heap.size w wc := Below.trans (by go_grown) (hb3.mono (by omega))
      by_cases hlt3 : k3 < n3
      · obtain ⟨hx, g, o, vs, rfl, hg, hsee, hcell⟩ := (s3.below hbw3 hhi).at_ hlt3
        have hdk := Lib.hid (List.getElem?_eq_getElem hx)
        have hsl : szProc p.fProcs[k3] ≤ 1048576 := Nat.le_trans (sum_mem_le szProc (List.getElem_mem hx)) hsz3
        generalize p.fProcs[k3] = x at *
        clear hx
        obtain ⟨B0, m0, b0, rfl, hd0, he0, t0⟩ := seeProc hsee
        have hml : m0 ≤ 1048576 := by have := hsl; unfold szProc at this; rw [t0.1] at this; exact this
        have HE := Lib.hid (fun (W : World) (hW : Below wc.heap.size wc W) => codeOk_any (w := W) (hi := hi) (p := p) (code := x.fCode) (A0 := A0) (c0 := c0) (c2 := c2) (A3 := some ⟨g, o, none⟩) (c3 := c3) (c := b0) L0.out (s2.keep fun k hk => (hW.block k (by omega)).trans (hbw3.block k (by omega))) L3.out (t0.keep fun k hk => hW.block k (by omega)) (by have := hW.size; omega) (opCells_below HC.out (hbw3.trans (hW.mono (by omega)))) hn2 hsz hml)
        have cc0 := hcell 0 _ rfl
        simp only [show layProc.size = 1 from rfl, ← Nat.add_assoc, Nat.add_zero, Nat.mul_one] at cc0
        clear hcell hsee t0
        have hba : Below wc.heap.size wc (wc.alloc (.cells #[.slice B0 m0 b0] 118)) := (Below.refl _ _).alloc (Nat.le_refl _) _
        have hB3 := hb3.trans (hba.mono (show w.heap.size + 1 ≤ wc.heap.size by omega))
        have hbw4 := hbw3.trans (hba.mono (by omega))
        cases ts : procB p x.fCode
        · have hno := Lib.hid (show procsB p = false by rw [procsB, all_no (f := fun x => procB p x.fCode) hdk.out ts, Bool.and_false])
          go_wp2_with fail
          refine (HE.out _ hba).mono ?_
          rw [ts]
          rintro e w5 ⟨rfl, hb5⟩
          have hbw5 := hbw4.trans (hb5.mono (by simp; omega))
          go_wp2_with fail
          go_ret
          exact ⟨by rw [hno.out]; rfl, hbw5⟩
        · go_wp2_with fail
          refine (HE.out _ hba).mono ?_
          rw [ts]
          rintro e w5 ⟨rfl, hb5⟩
          have hB5 := hB3.trans (hb5.mono (by simp; omega))
          go_wp2_with fail
          go_roundw
          case rel =>
            refine ⟨k3 + 1, by omega, by go_num, Lib.hid (fun j y hj hy => ?_), hB5⟩
            by_cases hjk : j = k3
            · subst hjk
              obtain rfl := Option.some.inj (hdk.out.symm.trans hy)
              exact ts
            · exact hall3.out j y (by omega) hy
          case measure => simp [intOf]; omega
      · have hyes := Lib.hid (show procsB p = true by rw [procsB, decide_eq_true (by rw [L3.out]; exact ⟨h61, h66⟩), all_yes (f := fun x => procB p x.fCode) fun j x hj hx => hall3.out j x (by have a := hj; have b := L3.out; omega) hx]; rfl)
        go_wp2_with fail
        go_ret
        exact ⟨by rw [hyes.out]; rfl, hbw3⟩
  · have hno := Lib.hid (show procsB p = false by rw [procsB, decide_eq_false (by rw [L3.out]; exact h6), Bool.false_and])
    clear s2 s3
    by_cases h1 : n3 < 1
    · clear h6
      go_enter Tryz.func128, Tryz.ntmps128
      go_wp2_with fail
      go_ret
      exact ⟨by rw [hno.out]; rfl, by go_grown⟩
    · have h7 : 6 < n3 := by omega
      have h8 : decide ((n3 : Int) < 1) = false := decide_eq_false (by omega)
      clear h6 h1
      go_enter Tryz.func128, Tryz.ntmps128
      go_wp2_with fail
      go_ret
      exact ⟨by rw [hno.out]; rfl, by go_grown⟩

theorem progOkB_parts (p : DProg) : progOkB p = (capsB p.fCaps && (decide (0 ≤ p.fMus) && (decide (p.fMus ≤ 4) && (selsB p && procsB p)))) := by
  rw [Bool.eq_iff_iff]
  simp only [progOkB, countsB, capsB, selsB, procsB, capB, Bool.and_eq_true, decide_eq_true_eq]
  exact ⟨fun ⟨⟨a1, a2, a3, a4, a5, a6⟩, b, c, d⟩ => ⟨⟨a1, b⟩, a2, a3, ⟨a4, c⟩, ⟨a5, a6⟩, d⟩, fun ⟨⟨a1, b⟩, a2, a3, ⟨a4, c⟩, ⟨a5, a6⟩, d⟩ => ⟨⟨a1, a2, a3, a4, a5, a6⟩, b, c, d⟩⟩

set_option maxRecDepth 100000 in
set_option maxHeartbeats 4000000 in
theorem implProgOk_any {w : World} {hi : Nat} {p : DProg} {vs : List Value} (h : layProg.see w hi p vs) (hhi : hi ≤ w.heap.size) (hC : OpCells w) (hsz : szProg p ≤ 1048576) :
    Calls Tryz.prog 98 #[.agg vs.toArray] w fun e w' => e = .returned (.bool (progOkB p)) ∧ Below w.heap.size w w' := by
  obtain ⟨A0, n0, c0, A2, n2, c2, A3, n3, c3, rfl, ⟨hc0, hm0, s0⟩, hw1, ⟨hc2, hm2, s2⟩, ⟨hc3, hm3, s3⟩⟩ := seeProg h
  have L0 := Lib.hid s0.1
  have L2 := Lib.hid s2.1
  have L3 := Lib.hid s3.1
  have hn0 := hsz
  unfold szProg at hn0
  rw [L0.out, L2.out, L3.out] at hn0
  have HC := Lib.hid hC
  clear h hw1 hC
  have H0 := Lib.hid (fun (W : World) (hW : Below w.heap.size w W) => capsOk_any (w := W) (c := c0) (s0.below hW hhi) (by have := hW.size; omega))
  have H2 := Lib.hid (fun (W : World) (hW : Below w.heap.size w W) => selsOk_any (w := W) (p := p) (A0 := A0) (A3 := A3) (c0 := c0) (c2 := c2) (n3 := n3) (c3 := c3) L0.out (s2.below hW hhi) (by have := hW.size; omega) (by omega))
  have H3 := Lib.hid (fun (W : World) (hW : Below w.heap.size w W) => procsOk_any (w := W) (p := p) (A0 := A0) (c0 := c0) (c2 := c2) (c3 := c3) L0.out (s2.below hW hhi) (s3.below hW hhi) (by have := hW.size; omega) (opCells_below HC.out hW) (by omega) (by omega) (by omega))
  rw [progOkB_parts]
  generalize hF1 : capsB p.fCaps = F1
  generalize hF4 : selsB p = F4
  generalize hF5 : procsB p = F5
  have G1 := Lib.hid hF1
  have G4 := Lib.hid hF4
  have G5 := Lib.hid hF5
  clear hF1 hF4 hF5 s0 s2 s3
  by_cases q2 : 0 ≤ p.fMus
  · by_cases q3 : p.fMus ≤ 4
    · rw [decide_eq_true q2, decide_eq_true q3]
      go_enter Tryz.func98, Tryz.ntmps98
      go_wp2_with fail
      refine (H0.out _ (by go_grown)).mono ?_
      rw [G1.out]
      rintro e wa ⟨rfl, hba⟩
      have za := hba.size
      simp only [World.size_alloc] at za
      obtain ⟨hcla, hfza⟩ := bcell hba
      have hla0 : w.heap.size < wa.heap.size := by omega
      have hBa : Below w.heap.size w wa := Below.trans (by go_grown) (hba.mono (by simp))
      clear hba
      cases F1
      · go_wp2_with fail
        go_ret
        exact ⟨rfl, hBa⟩
      · go_wp2_with fail
        refine (H2.out _ hBa).mono ?_
        rw [G4.out]
        rintro e wb ⟨rfl, hbb⟩
        have zb := hbb.size
        obtain ⟨hclb, hfzb⟩ := bcell hbb
        have hlb0 : w.heap.size < wb.heap.size := by omega
        have hBb : Below w.heap.size w wb := hBa.trans (hbb.mono (by omega))
        clear hbb
        cases F4
        · go_wp2_with fail
          go_ret
          exact ⟨rfl, hBb⟩
        · go_wp2_with fail
          refine (H3.out _ hBb).mono ?_
          rw [G5.out]
          rintro e wc ⟨rfl, hbc⟩
          have hBc : Below w.heap.size w wc := hBb.trans (hbc.mono (by omega))
          clear hbc
          go_wp2_with fail
          go_ret
          exact ⟨rfl, hBc⟩
    · have e3 : decide (p.fMus ≤ 4) = false := decide_eq_false q3
      rw [e3]
      clear q3
      go_enter Tryz.func98, Tryz.ntmps98
      go_wp2_with fail
      refine (H0.out _ (by go_grown)).mono ?_
      rw [G1.out]
      rintro e wa ⟨rfl, hba⟩
      have za := hba.size
      simp only [World.size_alloc] at za
      obtain ⟨hcla, hfza⟩ := bcell hba
      have hla0 : w.heap.size < wa.heap.size := by omega
      have hBa : Below w.heap.size w wa := Below.trans (by go_grown) (hba.mono (by simp))
      clear hba
      cases F1
      · go_wp2_with fail
        go_ret
        exact ⟨rfl, hBa⟩
      · go_wp2_with fail
        go_ret
        exact ⟨by simp, hBa⟩
  · have e3 : decide (0 ≤ p.fMus) = false := decide_eq_false q2
    rw [e3]
    clear q2
    go_enter Tryz.func98, Tryz.ntmps98
    go_wp2_with fail
    refine (H0.out _ (by go_grown)).mono ?_
    rw [G1.out]
    rintro e wa ⟨rfl, hba⟩
    have za := hba.size
    simp only [World.size_alloc] at za
    obtain ⟨hcla, hfza⟩ := bcell hba
    have hla0 : w.heap.size < wa.heap.size := by omega
    have hBa : Below w.heap.size w wa := Below.trans (by go_grown) (hba.mono (by simp))
    clear hba
    cases F1
    · go_wp2_with fail
      go_ret
      exact ⟨rfl, hBa⟩
    · go_wp2_with fail
      go_ret
      exact ⟨rfl, hBa⟩
end Go.Proofs.YtghkdkagnibkgaaGreatDoor
