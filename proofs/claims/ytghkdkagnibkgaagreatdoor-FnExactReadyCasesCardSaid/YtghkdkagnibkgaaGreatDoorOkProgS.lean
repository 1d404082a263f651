
/- The contract of the model's ProgOk. -/

import Derived.Test.YtghkdkagnibkgaaGreatDoorProcS

namespace Go.Proofs.YtghkdkagnibkgaaGreatDoor
set_option linter.unusedSimpArgs false
set_option linter.unusedVariables false
open Go.RowKit

/-- A select by itself. -/
def selTopB (nch : Nat) (s : DSelect) : Bool := decide (s.fCases.length ≤ 4) && (!(decide (s.fCases.length = 0) && decide (s.fElse < 0)) && selectB nch 40 s)
/-- How many there are of each. -/
def countsB (p : DProg) : Bool := decide (p.fCaps.length ≤ 6 ∧ 0 ≤ p.fMus ∧ p.fMus ≤ 4 ∧ p.fSels.length ≤ 6 ∧ 1 ≤ p.fProcs.length ∧ p.fProcs.length ≤ 6)
/-- What the document asks of a program. -/
def progOkB (p : DProg) : Bool := countsB p && (p.fCaps.all (fun v => decide (0 ≤ v ∧ v ≤ 4)) && (p.fSels.all (selTopB p.fCaps.length) && p.fProcs.all fun x => procB p x.fCode))

theorem all_no {α : Type} {f : α → Bool} {l : List α} {k : Nat} {x : α} (hk : l[k]? = some x) (h : f x = false) : l.all f = false := by
  rw [List.all_eq_false]
  exact ⟨x, List.mem_of_getElem? hk, by rw [h]; exact Bool.false_ne_true⟩
theorem all_yes {α : Type} {f : α → Bool} {l : List α} (h : ∀ k x, k < l.length → l[k]? = some x → f x = true) : l.all f = true := by
  rw [List.all_eq_true]
  intro x hx
  obtain ⟨k, hk⟩ := List.getElem?_of_mem hx
  exact h k x (List.getElem?_eq_some_iff.1 hk).1 hk

set_option maxRecDepth 100000 in
set_option maxHeartbeats 4000000 in
theorem specProgOk_any {w : World} {hi : Nat} {p : DProg} {vs : List Value} (h : layProg.see w hi p vs) (hhi : hi ≤ w.heap.size) (hsz : szProg p ≤ 1048576) :
    Calls Tryz.prog 87 #[.agg vs.toArray] w fun e w' => e = .returned (.bool (progOkB p)) ∧ Below w.heap.size w w' := by
  obtain ⟨A0, n0, c0, A2, n2, c2, A3, n3, c3, rfl, ⟨hc0, hm0, s0⟩, hw1, ⟨hc2, hm2, s2⟩, ⟨hc3, hm3, s3⟩⟩ := seeProg h
  have L0 := Lib.hid s0.1
  have L2 := Lib.hid s2.1
  have L3 := Lib.hid s3.1
  have hn0 := hsz
  unfold szProg at hn0
  rw [L0.out, L2.out, L3.out] at hn0
  clear h hw1
  by_cases hcnt : n0 ≤ 6 ∧ 0 ≤ p.fMus ∧ p.fMus ≤ 4 ∧ n2 ≤ 6 ∧ 1 ≤ n3 ∧ n3 ≤ 6
  · have hct := Lib.hid (show countsB p = true by unfold countsB; rw [L0.out, L2.out, L3.out]; exact decide_eq_true hcnt)
    obtain ⟨q1, q2, q3, q4, q5, q6⟩ := hcnt
    go_enter Tryz.func87, Tryz.ntmps87
    go_wp2_with fail
    go_loopw [44] (fun i wr => ∃ k : Nat, k ≤ n0 ∧ i = .int .i64 k ∧ Hid (∀ (j : Nat) (x : Int), j < k → p.fCaps[j]? = some x → decide (0 ≤ x ∧ x ≤ 4) = true) ∧ Below (w.heap.size + 1) (w.alloc (.cells #[.slice A0 n0 c0, .int .i64 p.fMus, .slice A2 n2 c2, .slice A3 n3 c3] 38)) wr) (fun i _ => n0 - (intOf i).toNat)
    case atStart => exact ⟨0, Nat.zero_le _, rfl, Lib.hid (fun j x hj => by omega), by simpa using Below.refl _ _⟩
    case round =>
      rename World => wa
      obtain ⟨k, hk, rfl, hall, hb⟩ := hrel
      have z := hb.size
      simp only [World.size_alloc] at z
      obtain ⟨hcl0, hfz0⟩ := bcell hb
      have hl0a : w.heap.size < w.heap.size + 1 := by omega
      have hz0a : w.heap.size < wa.heap.size := by omega
      have hbw : Below w.heap.size w wa := Below.trans (by go_grown) (hb.mono (by omega))
      by_cases hlt : k < n0
      · obtain ⟨hx, g, o, vs, rfl, hg, ⟨rfl, hw⟩, hcell⟩ := (s0.below hbw hhi).at_ hlt
        have cc0 := hcell 0 _ rfl
        simp only [Lay.int, Lay.flat, Nat.add_zero, Nat.mul_one] at cc0
        clear hcell hw
        have hdk := Lib.hid (List.getElem?_eq_getElem hx)
        generalize p.fCaps[k] = x at *
        clear hx
        by_cases hx : 0 ≤ x ∧ x ≤ 4
        · obtain ⟨hx0, hx4⟩ := hx
          go_wp2_with fail
          go_roundw
          case rel =>
            refine ⟨k + 1, by omega, by go_num, Lib.hid (fun j y hj hy => ?_), hb⟩
            by_cases hjk : j = k
            · subst hjk
              obtain rfl := Option.some.inj (hdk.out.symm.trans hy)
              exact decide_eq_true ⟨hx0, hx4⟩
            · exact hall.out j y (by omega) hy
          case measure => simp [intOf]; omega
        · have hno := Lib.hid (show progOkB p = false by rw [progOkB, all_no (f := fun v : Int => decide (0 ≤ v ∧ v ≤ 4)) hdk.out (decide_eq_false hx), Bool.false_and, Bool.and_false])
          have hx' : x < 0 ∨ 4 < x := by omega
          clear hx
          rcases hx' with hx' | hx'
          · go_wp2_with fail
            go_ret
            exact ⟨by rw [hno.out]; rfl, hbw⟩
          · have hx2 : ¬ x < 0 := by omega
            go_wp2_with fail
            go_ret
            exact ⟨by rw [hno.out]; rfl, hbw⟩
      · have hcaps := Lib.hid (all_yes (f := fun v : Int => decide (0 ≤ v ∧ v ≤ 4)) fun j x hj hx => hall.out j x (by have a := hj; have b := L0.out; omega) hx)
        go_wp2_with fail
        go_loopw [58] (fun i wr => ∃ k : Nat, k ≤ n2 ∧ i = .int .i64 k ∧ Hid (∀ (j : Nat) (x : DSelect), j < k → p.fSels[j]? = some x → selTopB n0 x = true) ∧ Below (w.heap.size + 1) (w.alloc (.cells #[.slice A0 n0 c0, .int .i64 p.fMus, .slice A2 n2 c2, .slice A3 n3 c3] 38)) wr) (fun i _ => n2 - (intOf i).toNat)
        case atStart => exact ⟨0, Nat.zero_le _, rfl, Lib.hid (fun j x hj => by omega), hb⟩
        case round =>
          clear hcl0 hfz0
          rename World => wb
          obtain ⟨k2, hk2, rfl, hall2, hb2⟩ := hrel
          have z2 := hb2.size
          simp only [World.size_alloc] at z2
          obtain ⟨hcl2, hfz2⟩ := bcell hb2
          have hz2a : w.heap.size < wb.heap.size := by omega
          have hbw2 : Below w.heap.size w wb := Below.trans (by go_grown) (hb2.mono (by omega))
          by_cases hlt2 : k2 < n2
          · obtain ⟨hx, g, o, vs, rfl, hg, hsee, hcell⟩ := (s2.below hbw2 hhi).at_ hlt2
            have hdk := Lib.hid (List.getElem?_eq_getElem hx)
            have hsl : szSelect p.fSels[k2] ≤ 1048576 := by have := sum_mem_le szSelect (List.getElem_mem hx); omega
            generalize p.fSels[k2] = s at *
            clear hx
            have HE := Lib.hid (fun (W : World) (hW : Below wb.heap.size wb W) => specSelectOk_any (w := W) (hi := hi) (s := s) (B0 := A0) (B2 := some ⟨g, o, none⟩) (B3 := A3) (m0 := n0) (b0 := c0) (m2 := n2) (b2 := c2) (m3 := n3) (b3 := c3) (mus := p.fMus) (n := 40) (laySelect.keep hsee fun k hk => hW.block k (by omega)) (by have := hW.size; omega) (by omega) (by omega) (by omega) hsl)
            obtain ⟨B0, m0, b0, rfl, ⟨hd0, he0, t0⟩, hw1⟩ := seeSelect hsee
            have LS := Lib.hid t0.1
            have cc0 := hcell 0 _ rfl
            have cc1 := hcell 1 _ rfl
            simp only [show laySelect.size = 2 from rfl, ← Nat.add_assoc, Nat.add_zero, Nat.mul_one] at cc0 cc1
            clear hcell hsee t0 hw1
            have hba : Below wb.heap.size wb (wb.alloc (.cells #[.slice B0 m0 b0, .int .i64 s.fElse] 93)) := (Below.refl _ _).alloc (Nat.le_refl _) _
            have hB3 := hb2.trans (hba.mono (show w.heap.size + 1 ≤ wb.heap.size by omega))
            have hbw3 := hbw2.trans (hba.mono (by omega))
            have hno' := Lib.hid (fun (hs : selTopB n0 s = false) => show progOkB p = false by rw [progOkB, all_no (f := selTopB p.fCaps.length) hdk.out (by rw [L0.out]; exact hs), Bool.false_and, Bool.and_false, Bool.and_false])
            by_cases hm4 : 4 < m0
            · have hno := Lib.hid (hno'.out (by unfold selTopB; rw [LS.out, decide_eq_false (by omega), Bool.false_and]))
              go_wp2_with fail
              go_ret
              exact ⟨by rw [hno.out]; rfl, hbw3⟩
            · by_cases hm0 : m0 = 0
              · by_cases hel : s.fElse < 0
                · have hno := Lib.hid (hno'.out (by unfold selTopB; rw [LS.out]; simp [hm0, hel]))
                  subst hm0
                  go_wp2_with fail
                  go_ret
                  exact ⟨by rw [hno.out]; rfl, hbw3⟩
                · have hst := Lib.hid (show selTopB n0 s = selectB n0 40 s by unfold selTopB; rw [LS.out]; simp [hm0, hel])
                  have hel2 : decide (s.fElse < 0) = false := decide_eq_false hel
                  have hm00 : ((m0 : Int) == 0) = true := by simp [hm0]
                  have hm01 : m0 ≤ 4 := by omega
                  clear hel hm0
                  cases ts : selectB n0 40 s
                  · have hno := Lib.hid (hno'.out (by rw [hst.out]; exact ts))
                    go_wp2_with fail
                    refine (HE.out _ hba).mono ?_
                    rintro e w5 ⟨rfl, hb5⟩
                    have hbw5 := hbw3.trans (hb5.mono (by simp; omega))
                    go_wp2_with fail
                    go_ret
                    exact ⟨by rw [hno.out]; rfl, hbw5⟩
                  · go_wp2_with fail
                    refine (HE.out _ hba).mono ?_
                    rintro e w5 ⟨rfl, hb5⟩
                    have hB5 := hB3.trans (hb5.mono (by simp; omega))
                    go_wp2_with fail
                    go_roundw
                    case rel =>
                      refine ⟨k2 + 1, by omega, by go_num, Lib.hid (fun j y hj hy => ?_), hB5⟩
                      by_cases hjk : j = k2
                      · subst hjk
                        obtain rfl := Option.some.inj (hdk.out.symm.trans hy)
                        rw [hst.out]; exact ts
                      · exact hall2.out j y (by omega) hy
                    case measure => simp [intOf]; omega
              · have hst := Lib.hid (show selTopB n0 s = selectB n0 40 s by unfold selTopB; rw [LS.out]; simp [hm0]; omega)
                have hm00 : ((m0 : Int) == 0) = false := by simpa using hm0
                have hm01 : m0 ≤ 4 := by omega
                clear hm0
                cases ts : selectB n0 40 s
                · have hno := Lib.hid (hno'.out (by rw [hst.out]; exact ts))
                  go_wp2_with fail
                  refine (HE.out _ hba).mono ?_
                  rintro e w5 ⟨rfl, hb5⟩
                  have hbw5 := hbw3.trans (hb5.mono (by simp; omega))
                  go_wp2_with fail
                  go_ret
                  exact ⟨by rw [hno.out]; rfl, hbw5⟩
                · go_wp2_with fail
                  refine (HE.out _ hba).mono ?_
                  rintro e w5 ⟨rfl, hb5⟩
                  have hB5 := hB3.trans (hb5.mono (by simp; omega))
                  go_wp2_with fail
                  go_roundw
                  case rel =>
                    refine ⟨k2 + 1, by omega, by go_num, Lib.hid (fun j y hj hy => ?_), hB5⟩
                    by_cases hjk : j = k2
                    · subst hjk
                      obtain rfl := Option.some.inj (hdk.out.symm.trans hy)
                      rw [hst.out]; exact ts
                    · exact hall2.out j y (by omega) hy
                  case measure => simp [intOf]; omega
          · have hsels := Lib.hid (all_yes (f := selTopB p.fCaps.length) fun j x hj hx => by rw [L0.out]; exact hall2.out j x (by have a := hj; have b := L2.out; omega) hx)
            go_wp2_with fail
            go_loopw [87] (fun i wr => ∃ k : Nat, k ≤ n3 ∧ i = .int .i64 k ∧ Hid (∀ (j : Nat) (x : DProc), j < k → p.fProcs[j]? = some x → procB p x.fCode = true) ∧ Below (w.heap.size + 1) (w.alloc (.cells #[.slice A0 n0 c0, .int .i64 p.fMus, .slice A2 n2 c2, .slice A3 n3 c3] 38)) wr) (fun i _ => n3 - (intOf i).toNat)
            case atStart => exact ⟨0, Nat.zero_le _, rfl, Lib.hid (fun j x hj => by omega), hb2⟩
            case round =>
              clear hcl2 hfz2
              rename World => wc
              obtain ⟨k3, hk3, rfl, hall3, hb3⟩ := hrel
              have z3 := hb3.size
              simp only [World.size_alloc] at z3
              obtain ⟨hcl3, hfz3⟩ := bcell hb3
              have hz3a : w.heap.size < wc.heap.size := by omega
              have hbw3 : Below w.heap.size w wc := Below.trans (by go_grown) (hb3.mono (by omega))
              by_cases hlt3 : k3 < n3
              · obtain ⟨hx, g, o, vs, rfl, hg, hsee, hcell⟩ := (s3.below hbw3 hhi).at_ hlt3
                have hdk := Lib.hid (List.getElem?_eq_getElem hx)
                have hsl : szProc p.fProcs[k3] ≤ 1048576 := by have := sum_mem_le szProc (List.getElem_mem hx); omega
                generalize p.fProcs[k3] = x at *
                clear hx
                obtain ⟨B0, m0, b0, rfl, hd0, he0, t0⟩ := seeProc hsee
                have hml : m0 ≤ 1048576 := by have := hsl; unfold szProc at this; rw [t0.1] at this; exact this
                have HE := Lib.hid (fun (W : World) (hW : Below wc.heap.size wc W) => specProc_any (w := W) (hi := hi) (p := p) (code := x.fCode) (A0 := A0) (c0 := c0) (c2 := c2) (A3 := some ⟨g, o, none⟩) (c3 := c3) (c := b0) L0.out (s2.keep fun k hk => (hW.block k (by omega)).trans (hbw3.block k (by omega))) L3.out (t0.keep fun k hk => hW.block k (by omega)) (by have := hW.size; omega) (by omega) (by omega) (by omega) (by omega) (by omega) (by omega) hml)
                have cc0 := hcell 0 _ rfl
                simp only [show layProc.size = 1 from rfl, ← Nat.add_assoc, Nat.add_zero, Nat.mul_one] at cc0
                clear hcell hsee t0
                have hba : Below wc.heap.size wc (wc.alloc (.cells #[.slice B0 m0 b0] 118)) := (Below.refl _ _).alloc (Nat.le_refl _) _
                have hB3 := hb3.trans (hba.mono (show w.heap.size + 1 ≤ wc.heap.size by omega))
                have hbw4 := hbw3.trans (hba.mono (by omega))
                cases ts : procB p x.fCode
                · have hno := Lib.hid (show progOkB p = false by rw [progOkB, all_no (f := fun x => procB p x.fCode) hdk.out ts, Bool.and_false, Bool.and_false, Bool.and_false])
                  go_wp2_with fail
                  refine (HE.out _ hba).mono ?_
                  rintro e w5 ⟨rfl, hb5⟩
                  have hbw5 := hbw4.trans (hb5.mono (by simp; omega))
                  go_wp2_with fail
                  go_ret
                  exact ⟨by rw [hno.out]; rfl, hbw5⟩
                · go_wp2_with fail
                  refine (HE.out _ hba).mono ?_
                  rintro e w5 ⟨rfl, hb5⟩
                  have hB5 := hB3.trans (hb5.mono (by simp; omega))
                  go_wp2_with fail
                  go_roundw
                  case rel =>
                    refine ⟨k3 + 1, by omega, by go_num, Lib.hid (fun j y hj hy => ?_), hB5⟩
                    by_cases hjk : j = k3
                    · subst hjk
                      obtain rfl := Option.some.inj (hdk.out.symm.trans hy)
                      exact ts
                    · exact hall3.out j y (by omega) hy
                  case measure => simp [intOf]; omega
              · have hprocs := Lib.hid (all_yes (f := fun x => procB p x.fCode) fun j x hj hx => hall3.out j x (by have a := hj; have b := L3.out; omega) hx)
                have hyes := Lib.hid (show progOkB p = true by rw [progOkB, hct.out, hcaps.out, hsels.out, hprocs.out]; rfl)
                go_wp2_with fail
                go_ret
                exact ⟨by rw [hyes.out]; rfl, hbw3⟩
  · have hno := Lib.hid (show progOkB p = false by
      rw [progOkB, show countsB p = false by unfold countsB; rw [L0.out, L2.out, L3.out]; exact decide_eq_false hcnt, Bool.false_and])
    clear s0 s2 s3
    by_cases q1 : n0 ≤ 6
    · by_cases q2 : 0 ≤ p.fMus
      · by_cases q3 : p.fMus ≤ 4
        · by_cases q4 : n2 ≤ 6
          · by_cases q5 : 1 ≤ n3
            · have q6 : 6 < n3 := by omega
              clear hcnt
              go_enter Tryz.func87, Tryz.ntmps87
              go_wp2_with fail
              go_ret
              exact ⟨by rw [hno.out]; rfl, by go_grown⟩
            · have q6 : n3 < 1 := by omega
              clear hcnt q5
              go_enter Tryz.func87, Tryz.ntmps87
              go_wp2_with fail
              go_ret
              exact ⟨by rw [hno.out]; rfl, by go_grown⟩
          · have q6 : 6 < n2 := by omega
            clear hcnt q4
            go_enter Tryz.func87, Tryz.ntmps87
            go_wp2_with fail
            go_ret
            exact ⟨by rw [hno.out]; rfl, by go_grown⟩
        · have q6 : 4 < p.fMus := by omega
          clear hcnt q3
          go_enter Tryz.func87, Tryz.ntmps87
          go_wp2_with fail
          go_ret
          exact ⟨by rw [hno.out]; rfl, by go_grown⟩
      · have q6 : p.fMus < 0 := by omega
        clear hcnt q2
        go_enter Tryz.func87, Tryz.ntmps87
        go_wp2_with fail
        go_ret
        exact ⟨by rw [hno.out]; rfl, by go_grown⟩
    · have q6 : 6 < n0 := by omega
      clear hcnt q1
      go_enter Tryz.func87, Tryz.ntmps87
      go_wp2_with fail
      go_ret
      exact ⟨by rw [hno.out]; rfl, by go_grown⟩
end Go.Proofs.YtghkdkagnibkgaaGreatDoor
