
/- The contracts of the program's caseOk and SelectOk. -/

import Derived.Test.YtghkdkagnibkgaaGreatDoorGFieldI

namespace Go.Proofs.YtghkdkagnibkgaaGreatDoor
set_option linter.unusedSimpArgs false
set_option linter.unusedVariables false
open Go.RowKit

set_option maxRecDepth 100000 in
set_option maxHeartbeats 2000000 in
theorem caseOk_any {A0 A2 A3 : Option Addr} {n0 c0 n2 c2 n3 c3 : Nat} {mus n : Int} {x : DCase} (w : World) :
    Calls Tryz.prog 168 #[.agg #[.slice A0 n0 c0, .int .i64 mus, .slice A2 n2 c2, .slice A3 n3 c3], .int .i64 n, .agg #[.bool x.fSend, .int .i64 x.fChan, .int .i64 x.fReg, .int .i64 x.fOk, .int .i64 x.fTo]] w fun e w' => e = .returned (.bool (caseB n0 n x)) ∧ Below w.heap.size w w' := by
  obtain ⟨send, ch, reg, ok, to⟩ := x
  simp only
  have HE : caseB n0 n ⟨send, ch, reg, ok, to⟩ = (fieldB n0 n2 n3 mus n 4 ch && (fieldB n0 n2 n3 mus n 1 reg && (fieldB n0 n2 n3 mus n (if send then 0 else 1) ok && fieldB n0 n2 n3 mus n 3 to))) := by
    rw [Bool.eq_iff_iff]
    cases send <;> simp [caseB, fieldB, inB, regB] <;> omega
  rw [HE]
  clear HE
  have HS := Lib.hid (fun (nm v : Int) (W : World) (h : 0 ≤ nm ∧ nm ≤ 7) => show Calls Tryz.prog 176 #[.agg #[.slice A0 n0 c0, .int .i64 mus, .slice A2 n2 c2, .slice A3 n3 c3], .int .i64 n, .int .i64 nm, .int .i64 v] W fun e w' => e = .returned (.bool (fieldB n0 n2 n3 mus n nm v)) ∧ Below W.heap.size W w' from fieldOk_any W h)
  generalize hF1 : fieldB n0 n2 n3 mus n 4 ch = F1
  generalize hF2 : fieldB n0 n2 n3 mus n 1 reg = F2
  generalize hF3 : fieldB n0 n2 n3 mus n (if send then 0 else 1) ok = F3
  generalize hF4 : fieldB n0 n2 n3 mus n 3 to = F4
  have G1 := Lib.hid hF1
  have G2 := Lib.hid hF2
  have G3 := Lib.hid hF3
  have G4 := Lib.hid hF4
  clear hF1 hF2 hF3 hF4
  cases send
  all_goals
    simp only [if_true, Bool.false_eq_true, if_false] at G3
    go_enter Tryz.func168, Tryz.ntmps168
    go_wp2_with fail
    refine (HS.out _ _ _ (by decide)).mono ?_
    rw [G1.out]
    rintro e wa ⟨rfl, hba⟩
    have za := hba.size
    simp only [World.size_alloc] at za
    obtain ⟨hcla, hfza⟩ := bcell hba
    have hla0 : w.heap.size < wa.heap.size := by omega
    have hla1 : w.heap.size + 1 < wa.heap.size := by omega
    have hBa : Below w.heap.size w wa := Below.trans (by go_grown) (hba.mono (by simp; omega))
    clear hba
    cases F1
    · go_wp2_with fail
      go_ret
      exact ⟨rfl, hBa⟩
    · go_wp2_with fail
      refine (HS.out _ _ _ (by decide)).mono ?_
      rw [G2.out]
      rintro e wb ⟨rfl, hbb⟩
      have zb := hbb.size
      obtain ⟨hclb, hfzb⟩ := bcell hbb
      have hlb0 : w.heap.size < wb.heap.size := by omega
      have hlb1 : w.heap.size + 1 < wb.heap.size := by omega
      have hBb : Below w.heap.size w wb := hBa.trans (hbb.mono (by omega))
      clear hbb
      cases F2
      · go_wp2_with fail
        go_ret
        exact ⟨rfl, hBb⟩
      · go_wp2_with fail
        refine (HS.out _ _ _ (by decide)).mono ?_
        rw [G3.out]
        rintro e wc ⟨rfl, hbc⟩
        have zc := hbc.size
        obtain ⟨hclc, hfzc⟩ := bcell hbc
        have hlc0 : w.heap.size < wc.heap.size := by omega
        have hlc1 : w.heap.size + 1 < wc.heap.size := by omega
        have hBc : Below w.heap.size w wc := hBb.trans (hbc.mono (by omega))
        clear hbc
        cases F3
        · go_wp2_with fail
          go_ret
          exact ⟨rfl, hBc⟩
        · go_wp2_with fail
          refine (HS.out _ _ _ (by decide)).mono ?_
          rw [G4.out]
          rintro e wd ⟨rfl, hbd⟩
          have hBd : Below w.heap.size w wd := hBc.trans (hbd.mono (by omega))
          clear hbd
          go_wp2_with fail
          go_ret
          exact ⟨rfl, hBd⟩

/-- What the first k cases have met. -/
def metC (cs : List DCase) (k : Nat) : List (Int × Int) := (cs.take k).map fun x => (4, x.fChan)
theorem metC_succ {cs : List DCase} {k : Nat} {x : DCase} (h : cs[k]? = some x) : metC cs (k + 1) = metC cs k ++ [(4, x.fChan)] := by
  unfold metC
  rw [List.take_add_one, h]
  simp
theorem metC_len (cs : List DCase) (k : Nat) : (metC cs k).length ≤ cs.length := by unfold metC; simp; omega
theorem metC_mem {cs : List DCase} {k : Nat} {c : Int} : (metC cs k).contains (4, c) = true ↔ ∃ j y, j < k ∧ cs[j]? = some y ∧ y.fChan = c := by
  unfold metC
  simp only [List.contains_eq_mem, decide_eq_true_eq, List.mem_map, Prod.mk.injEq, true_and]
  constructor
  · rintro ⟨y, hy, rfl⟩
    obtain ⟨j, hj⟩ := List.getElem?_of_mem hy
    rw [List.getElem?_take] at hj
    split at hj
    · exact ⟨j, y, ‹_›, hj, rfl⟩
    · cases hj
  · rintro ⟨j, y, hj, hy, rfl⟩
    exact ⟨y, List.mem_of_getElem? (i := j) (by rw [List.getElem?_take, if_pos hj, hy]), rfl⟩

theorem Turned.cellAt {w w' : World} {B : Nat} (h : Turned B (B + 1) w w') {b o : Nat} (hb : b < w.heap.size) (hne : b ≠ B) : w'.cell? ⟨b, o, none⟩ = w.cell? ⟨b, o, none⟩ :=
  World.cell?_of_block (h.block b hb (by omega))

set_option maxRecDepth 100000 in
set_option maxHeartbeats 4000000 in
theorem implSelectOk_any {w : World} {hi : Nat} {s : DSelect} {vs : List Value} {B0 B2 B3 : Option Addr} {m0 b0 m2 b2 m3 b3 : Nat} {mus n : Int} (h : laySelect.see w hi s vs) (hhi : hi ≤ w.heap.size) (hs : szSelect s ≤ 1048576) :
    Calls Tryz.prog 151 #[.agg #[.slice B0 m0 b0, .int .i64 mus, .slice B2 m2 b2, .slice B3 m3 b3], .int .i64 n, .agg vs.toArray] w fun e w' => e = .returned (.bool (selectB m0 n s)) ∧ Below w.heap.size w w' := by
  obtain ⟨A0, n0, c0, rfl, ⟨hc0, hm0', s0⟩, hw1⟩ := seeSelect h
  have L0 := Lib.hid s0.1
  have hs0 := hs
  unfold szSelect at hs0
  rw [L0.out] at hs0
  clear hw1
  by_cases hel : -1 ≤ s.fElse ∧ s.fElse < n
  · obtain ⟨he1, he2⟩ := hel
    have hels := Lib.hid (inB_yes (n := s.fElse) (lo := -1) (hi := n - 1) (by omega))
    have hmm := @run_makeMap Tryz.prog
    go_enter Tryz.func151, Tryz.ntmps151
    go_wp2_with fail
    go_loopw [23] (fun i wr => ∃ k : Nat, k ≤ n0 ∧ i = .int .i64 k ∧ Hid (∀ j, j < k → caseAt m0 n s.fCases j = true) ∧ Hid (MapIs wr (w.heap.size + 2) (metC s.fCases k)) ∧ Below (w.heap.size + 2) ((w.alloc (.cells #[.slice B0 m0 b0, .int .i64 mus, .slice B2 m2 b2, .slice B3 m3 b3] 38)).alloc (.cells #[.slice A0 n0 c0, .int .i64 s.fElse] 93)) wr) (fun i _ => n0 - (intOf i).toNat)
    case atStart => exact ⟨0, Nat.zero_le _, rfl, Lib.hid (fun j hj => by omega), Lib.hid (by simpa [metC] using MapIs.made ((w.alloc (.cells #[.slice B0 m0 b0, .int .i64 mus, .slice B2 m2 b2, .slice B3 m3 b3] 38)).alloc (.cells #[.slice A0 n0 c0, .int .i64 s.fElse] 93))), (Below.refl _ _).alloc (by simp) _⟩
    case round =>
      rename World => wo
      obtain ⟨k, hk, rfl, hall, hmap, hb⟩ := hrel
      have z := hb.size
      simp only [World.size_alloc] at z
      have zB := hmap.out.lt
      obtain ⟨hcl0, hfz0⟩ := bcell hb
      have hl0a : w.heap.size < w.heap.size + 2 := by omega
      have hl0b : w.heap.size + 1 < w.heap.size + 2 := by omega
      have hz0a : w.heap.size < wo.heap.size := by omega
      have hz0b : w.heap.size + 1 < wo.heap.size := by omega
      have hbw : Below w.heap.size w wo := Below.trans (by go_grown) (hb.mono (by omega))
      by_cases hlt : k < n0
      · obtain ⟨hx, g, o, vs, rfl, hg, ⟨rfl, hw⟩, hcell⟩ := (s0.below hbw hhi).at_ hlt
        have hwc := Lib.hid hw.1
        have cc0 := hcell 0 _ rfl
        have cc1 := hcell 1 _ rfl
        have cc2 := hcell 2 _ rfl
        have cc3 := hcell 3 _ rfl
        have cc4 := hcell 4 _ rfl
        simp only [show layCase.size = 5 from rfl, ← Nat.add_assoc, Nat.add_zero, Nat.mul_one] at cc0 cc1 cc2 cc3 cc4
        clear hcell hw
        have hdk := Lib.hid (List.getElem?_eq_getElem hx)
        have hlt' := Lib.hid (show k < s.fCases.length from hx)
        generalize s.fCases[k] = x at *
        clear hx
        go_wp2_with fail
        refine (caseOk_any (x := x) _).mono ?_
        rintro e w1 ⟨rfl, hb1⟩
        obtain ⟨hcl1, hfz1⟩ := bcell hb1
        have z1 := hb1.size
        simp only [World.size_alloc] at z1
        have hz1a : w.heap.size < w1.heap.size := by omega
        have hz1b : w.heap.size + 1 < w1.heap.size := by omega
        have hz1c : wo.heap.size < w1.heap.size := by omega
        have hbx : Below wo.heap.size wo w1 := by
          refine Below.trans ?_ (hb1.mono ?_)
          · go_grown
          · simp
        have hB1 : Below (w.heap.size + 2) ((w.alloc (.cells #[.slice B0 m0 b0, .int .i64 mus, .slice B2 m2 b2, .slice B3 m3 b3] 38)).alloc (.cells #[.slice (some ⟨g, o, none⟩) n0 c0, .int .i64 s.fElse] 93)) w1 := hb.trans (hbx.mono (by omega))
        have hb2 : Below w.heap.size w w1 := hbw.trans (hbx.mono (by omega))
        cases t1 : caseB m0 n x
        · have hno := Lib.hid (selectB_no (n := n) hlt'.out (caseAt_case (nch := m0) (n := n) hdk.out t1))
          go_wp2_with fail
          go_ret
          exact ⟨by rw [hno.out]; rfl, hb2⟩
        · have hmap1 : MapIs w1 (w.heap.size + 2) (metC s.fCases k) := hmap.out.keep (hbx.block _ zB)
          have hF := Lib.hid (first_any (a := 4) hmap1 (by decide) hwc.out (by have := metC_len s.fCases k; have := L0.out; omega))
          have hcc : w1.cell? ⟨wo.heap.size, 1, none⟩ = some (.int .i64 x.fChan) := by
            rw [hcl1 _ _ (by simp)]
            simp
          have hch := Lib.hid (show -1 ≤ x.fChan by
            have := t1
            simp [caseB, inB] at this
            omega)
          go_wp2_with fail
          refine hF.out.mono ?_
          rintro e w2 ⟨rfl, hmap2, ht2⟩
          have HM2 := Lib.hid hmap2
          have hcc2 : w2.cell? ⟨wo.heap.size, 1, none⟩ = some (.int .i64 x.fChan) := by
            rw [ht2.cellAt (by omega) (by omega)]
            exact hcc
          have hB2 := hB1.trans (ht2.below (by omega) (by omega))
          have hb3 := hb2.trans (ht2.below (B := w.heap.size) (by omega) (by omega))
          have hz2 := ht2.size
          have hz2c : wo.heap.size < w2.heap.size := by omega
          clear hmap2 ht2 hcc
          cases t2 : (metC s.fCases k).contains (4, x.fChan)
          · go_wp2_with fail
            go_roundw
            case rel =>
              refine ⟨k + 1, by omega, by go_num, Lib.hid (fun j hj => ?_), Lib.hid (by rw [metC_succ hdk.out]; exact HM2.out), hB2⟩
              by_cases hjk : j = k
              · subst hjk
                refine caseAt_yes hdk.out t1 fun i y hi hy => ?_
                cases t3 : meetB x y
                · rfl
                · have hc : y.fChan = x.fChan := by simp [meetB] at t3; omega
                  have := metC_mem.2 ⟨i, y, hi, hy, hc⟩
                  rw [t2] at this
                  cases this
              · exact hall.out j (by omega)
            case measure => simp [intOf]; omega
          · obtain ⟨i, y, hi, hy, hyc⟩ := metC_mem.1 t2
            by_cases hneg : x.fChan = -1
            · have hn1 : (x.fChan != -1) = false := by simp [hneg]
              go_wp2_with fail
              go_roundw
              case rel =>
                refine ⟨k + 1, by omega, by go_num, Lib.hid (fun j hj => ?_), Lib.hid (by rw [metC_succ hdk.out]; exact HM2.out), hB2⟩
                by_cases hjk : j = k
                · subst hjk
                  exact caseAt_yes hdk.out t1 fun i y hi hy => by simp [meetB, hneg]
                · exact hall.out j (by omega)
              case measure => simp [intOf]; omega
            · have hno := Lib.hid (selectB_no (n := n) hlt'.out (caseAt_meet (nch := m0) (n := n) hdk.out hi hy (by simp [meetB, hyc]; have := hch.out; omega)))
              have hn1 : (x.fChan != -1) = true := by simpa using hneg
              clear hneg
              go_wp2_with fail
              go_ret
              exact ⟨by rw [hno.out]; rfl, hb3⟩
      · have hyes := Lib.hid (show selectB m0 n s = true by rw [selectB_all fun k' hk' => hall.out k' (by have := L0.out; omega)]; exact hels.out)
        go_wp2_with fail
        go_ret
        exact ⟨by rw [hyes.out]; rfl, hbw⟩
  · have hno := Lib.hid (show selectB m0 n s = false by rw [selectB, inB_no (by omega), Bool.and_false])
    clear s0
    by_cases h1 : s.fElse < -1
    · clear hel
      go_enter Tryz.func151, Tryz.ntmps151
      go_wp2_with fail
      go_ret
      exact ⟨by rw [hno.out]; rfl, by go_grown⟩
    · have h2 : n ≤ s.fElse := by omega
      have h3 : decide (s.fElse < -1) = false := decide_eq_false h1
      clear hel h1
      go_enter Tryz.func151, Tryz.ntmps151
      go_wp2_with fail
      go_ret
      exact ⟨by rw [hno.out]; rfl, by go_grown⟩
end Go.Proofs.YtghkdkagnibkgaaGreatDoor
