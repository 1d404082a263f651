
/- TraceM, TraceI, TraceS, merged for claims. -/

import Derived.Test.YtghkdkagnibkgaaGreatDoorGTabs

import Derived.Test.YtghkdkagnibkgaaGreatDoorGDEng

import Derived.Test.YtghkdkagnibkgaaGreatDoorGItem

import Derived.Deep.Cut

namespace Go.Proofs.YtghkdkagnibkgaaGreatDoor
set_option linter.unusedSimpArgs false
set_option linter.unusedVariables false
open Go.RowKit

def isEndB (i : DItem) : Bool := decide (i.fKind = 9) || decide (i.fKind = 10)
/-- The program's way: which end was met. -/
def trGo : Int → List DItem → Option Int
  | m, [] => some m
  | m, i :: t => if decide (m ≠ 0) || !itemOkB i then none else trGo (if isEndB i then i.fKind else m) t
def trRes (o : Option Int) (en : Int) : Bool := match o with | none => false | some m => decide (m = en)
def endK (st : Int) : Int := if st = 3 then 9 else if st = 4 then 10 else 0
/-- The model's way. -/
def okAt (n k : Nat) (i : DItem) : Bool := itemOkB i && !(isEndB i && decide ((k : Int) < (n : Int) - 1))
def allFrom (n : Nat) : Nat → List DItem → Bool
  | _, [] => true
  | k, i :: t => okAt n k i && allFrom n (k + 1) t
def lastK : List DItem → Int
  | [] => 0
  | [i] => i.fKind
  | _ :: j :: t => lastK (j :: t)
def trSpec (tr : List DItem) (st : Int) : Bool := allFrom tr.length 0 tr && ((decide (lastK tr = 9) == decide (st = 3)) && (decide (lastK tr = 10) == decide (st = 4)))
def eK (k : Int) : Int := if k = 9 ∨ k = 10 then k else 0

theorem trGo_is : ∀ (t : List DItem) (n k : Nat), n = k + t.length → trGo 0 t = if allFrom n k t then some (eK (lastK t)) else none
  | [], n, k, _ => by simp [trGo, allFrom, lastK, eK]
  | i :: t, n, k, hn => by
    simp only [List.length_cons] at hn
    cases hi : itemOkB i
    · simp [trGo, allFrom, okAt, hi]
    · cases he : isEndB i
      · have ih := trGo_is t n (k + 1) (by omega)
        have h1 : trGo 0 (i :: t) = trGo 0 t := by simp [trGo, hi, he]
        have h2 : allFrom n k (i :: t) = allFrom n (k + 1) t := by simp [allFrom, okAt, hi, he]
        rw [h1, h2, ih]
        cases t with
        | nil =>
          have : eK i.fKind = 0 := by
            unfold isEndB at he
            simp at he
            unfold eK
            rw [if_neg (by omega)]
          simp only [allFrom, lastK, this, if_true]
          rfl
        | cons j t => simp [lastK]
      · have hk : i.fKind = 9 ∨ i.fKind = 10 := by
          unfold isEndB at he
          simpa using he
        cases t with
        | nil =>
          simp only [List.length_nil] at hn
          have h2 : okAt n k i = true := by simp [okAt, hi]; right; omega
          simp [trGo, hi, he, allFrom, h2, lastK, eK, hk]
        | cons j t =>
          simp only [List.length_cons] at hn
          have h2 : okAt n k i = false := by
            simp only [okAt, hi, he, Bool.true_and]
            rw [show decide ((k : Int) < (n : Int) - 1) = true from decide_eq_true (by omega)]
            rfl
          have h3 : i.fKind ≠ 0 := by omega
          simp [trGo, hi, he, allFrom, h2, h3]
theorem tr_same {tr : List DItem} {st : Int} (h : 1 ≤ st ∧ st ≤ 4) : trRes (trGo 0 tr) (endK st) = trSpec tr st := by
  rw [trGo_is tr tr.length 0 (by omega)]
  unfold trSpec
  cases allFrom tr.length 0 tr
  · rfl
  · simp only [if_true, trRes, Bool.true_and]
    generalize lastK tr = L
    have hs : st = 1 ∨ st = 2 ∨ st = 3 ∨ st = 4 := by omega
    by_cases h9 : L = 9
    · subst h9
      rcases hs with rfl | rfl | rfl | rfl <;> decide
    · by_cases h10 : L = 10
      · subst h10
        rcases hs with rfl | rfl | rfl | rfl <;> decide
      · rw [show eK L = 0 from if_neg (by omega)]
        rw [show decide (L = 9) = false from decide_eq_false h9, show decide (L = 10) = false from decide_eq_false h10]
        rcases hs with rfl | rfl | rfl | rfl <;> decide
theorem lastK_get : ∀ (tr : List DItem) (h : 0 < tr.length), lastK tr = (tr[tr.length - 1]'(by omega)).fKind
  | [i], _ => rfl
  | _ :: j :: t, _ => by
    have := lastK_get (j :: t) (by simp)
    simp only [lastK, this]
    simp
/-- What asks no program. -/
def gorB (n : Int) (g : DGor) : Bool := decide (0 ≤ g.fPc ∧ g.fPc < n) && (decide (g.fRegs.length = 6) && (decide (1 ≤ g.fState ∧ g.fState ≤ 4) && (g.fRegs.all okV && trSpec g.fTrace g.fState)))
end Go.Proofs.YtghkdkagnibkgaaGreatDoor

namespace Go.Proofs.YtghkdkagnibkgaaGreatDoor
set_option linter.unusedSimpArgs false
set_option linter.unusedVariables false
open Go.RowKit

theorem isState_any (v : Int) (w : World) : Calls Tryz.prog 156 #[.int .i64 v] w fun e w' => e = .returned (.bool (decide (1 ≤ v ∧ v ≤ 4))) ∧ w = w' := by
  by_cases h0 : 1 ≤ v
  · by_cases h1 : v ≤ 4
    · rw [show decide (1 ≤ v ∧ v ≤ 4) = true from decide_eq_true ⟨h0, h1⟩]
      go_enter Tryz.func156, Tryz.ntmps156
      go_wp2
      go_ret
      exact ⟨rfl, rfl⟩
    · rw [show decide (1 ≤ v ∧ v ≤ 4) = false from decide_eq_false (fun h => h1 h.2)]
      have h2 : decide (v ≤ 4) = false := decide_eq_false h1
      clear h1
      go_enter Tryz.func156, Tryz.ntmps156
      go_wp2
      go_ret
      exact ⟨rfl, rfl⟩
  · rw [show decide (1 ≤ v ∧ v ≤ 4) = false from decide_eq_false (fun h => h0 h.1)]
    have h2 : decide (1 ≤ v) = false := decide_eq_false h0
    clear h0
    go_enter Tryz.func156, Tryz.ntmps156
    go_wp2
    go_ret
    exact ⟨rfl, rfl⟩
theorem endKind_any (v : Int) (w : World) : Calls Tryz.prog 158 #[.int .i64 v] w fun e w' => e = .returned (.int .i64 (endK v)) ∧ w = w' := by
  by_cases h3 : v = 3
  · subst h3
    go_enter Tryz.func158, Tryz.ntmps158
    go_wp2
    go_ret
    exact ⟨rfl, rfl⟩
  · by_cases h4 : v = 4
    · subst h4
      go_enter Tryz.func158, Tryz.ntmps158
      go_wp2
      go_ret
      exact ⟨rfl, rfl⟩
    · rw [show endK v = 0 by simp [endK, h3, h4]]
      go_enter Tryz.func158, Tryz.ntmps158
      go_wp2
      go_ret
      exact ⟨rfl, rfl⟩

set_option maxRecDepth 100000 in
set_option maxHeartbeats 4000000 in
theorem traceOk_any {w : World} {hi n c : Nat} {A : Option Addr} {tr : List DItem} {en : Int} (h : SeenR layItem w hi A n tr) (hhi : hi ≤ w.heap.size) (hn : n ≤ 1048576) (hC : ItemCells w) :
    Calls Tryz.prog 157 #[.slice A n c, .int .i64 en] w fun e w' => e = .returned (.bool (trRes (trGo 0 tr) en)) ∧ Below w.heap.size w w' := by
  have HL := Lib.hid h.1
  have HC := Lib.hid hC
  clear hC
  obtain ⟨R, hR⟩ : ∃ R, R = trGo 0 tr := ⟨_, rfl⟩
  rw [← hR]
  have HR := Lib.hid hR
  clear hR
  go_enter Tryz.func157, Tryz.ntmps157
  go_wp2_with fail
  go_loopw [5, 10] (fun q i wr => ∃ (k : Nat) (m : Int), k ≤ n ∧ i = .int .i64 k ∧ q = .int .i64 m ∧ RowKit.Hid (R = trGo m (tr.drop k)) ∧ Below w.heap.size w wr) (fun _ i _ => n - (intOf i).toNat)
  case atStart => exact ⟨0, 0, Nat.zero_le _, rfl, rfl, Lib.hid (by rw [HR.out]; rfl), Below.refl _ _⟩
  case round =>
    obtain ⟨k, m, hk, rfl, rfl, hm, hb⟩ := hrel
    by_cases hlt : k < n
    · obtain ⟨hx, g, o, vs, rfl, hg, ⟨rfl, hw⟩, hcell⟩ := (h.below hb hhi).at_ hlt
      have HD := Lib.hid (show tr.drop k = tr[k] :: tr.drop (k + 1) from List.drop_eq_getElem_cons hx)
      have hz := hb.size
      generalize tr[k] = d at *
      obtain ⟨kd, od, vd, okd⟩ := d
      have HM := Lib.hid (show R = if decide (m ≠ 0) || !itemOkB ⟨kd, od, vd, okd⟩ then none else trGo (if isEndB ⟨kd, od, vd, okd⟩ then kd else m) (tr.drop (k + 1)) by rw [hm.out, HD.out]; rfl)
      have HWV := Lib.hid hw.2.2
      have cc0 := hcell 0 _ rfl
      have cc1 := hcell 1 _ rfl
      have cc2 := hcell 2 _ rfl
      have cc3 := hcell 3 _ rfl
      simp only [show layItem.size = 4 from rfl, ← Nat.add_assoc, Nat.add_zero, Nat.mul_one] at cc0 cc1 cc2 cc3
      clear hcell hw h hm HD
      have HBA := Lib.hid (hb.alloc (by omega) (.cells #[.int .i64 kd, .int .i64 od, .int .i64 vd, .bool okd] 164))
      have hgw : g < wr.heap.size := by omega
      by_cases hm0 : m = 0
      · subst hm0
        go_wp2_with fail
        refine (implItemOk_any (x := ⟨kd, od, vd, okd⟩) (itemCells_below HC.out HBA.out (Nat.le_refl _)) HWV.out).mono ?_
        rintro e w1 ⟨rfl, hb1⟩
        have hbx := box_keep (box_new wr #[.int .i64 kd, .int .i64 od, .int .i64 vd, .bool okd] 164) hb1 (by simp)
        have e0 := box_cell (j := 0) hbx rfl
        have HB1 := Lib.hid (HBA.out.trans (hb1.mono (by simp; omega)))
        clear hb1 hbx cc0 cc1 cc2 cc3 hb
        cases hq : itemOkB ⟨kd, od, vd, okd⟩
        · rw [hq] at HM
          go_wp2_with fail
          go_ret
          exact ⟨by rw [HM.out]; rfl, HB1.out⟩
        · rw [hq] at HM
          by_cases h9 : kd = 9
          · subst h9
            have HN := Lib.hid (show R = trGo 9 (tr.drop (k + 1)) by rw [HM.out]; rfl)
            clear HM hq
            go_wp2_with fail
            go_roundw
            case rel => exact ⟨k + 1, 9, by omega, by go_num, rfl, HN, HB1.out⟩
            case measure => simp [intOf]; omega
          · by_cases h10 : kd = 10
            · subst h10
              have HN := Lib.hid (show R = trGo 10 (tr.drop (k + 1)) by rw [HM.out]; rfl)
              clear HM hq
              go_wp2_with fail
              go_roundw
              case rel => exact ⟨k + 1, 10, by omega, by go_num, rfl, HN, HB1.out⟩
              case measure => simp [intOf]; omega
            · have HN := Lib.hid (show R = trGo 0 (tr.drop (k + 1)) by rw [HM.out]; simp [isEndB, h9, h10])
              have b9 : (kd == 9) = false := by simpa using h9
              have b10 : (kd == 10) = false := by simpa using h10
              clear HM hq
              go_wp2_with fail
              go_roundw
              case rel => exact ⟨k + 1, 0, by omega, by go_num, rfl, HN, HB1.out⟩
              case measure => simp [intOf]; omega
      · have hmb : (m != 0) = true := by simpa using hm0
        have HN := Lib.hid (show R = none by rw [HM.out]; simp [hm0])
        clear HM
        go_wp2_with fail
        go_ret
        exact ⟨by rw [HN.out]; rfl, HBA.out⟩
    · go_wp2_with fail
      go_ret
      obtain rfl : k = n := by omega
      refine ⟨?_, hb⟩
      rw [hm.out, List.drop_of_length_le (by rw [HL.out]; exact Nat.le_refl _)]
      rfl
end Go.Proofs.YtghkdkagnibkgaaGreatDoor

namespace Go.Proofs.YtghkdkagnibkgaaGreatDoor
set_option linter.unusedSimpArgs false
set_option linter.unusedVariables false
open Go.RowKit

set_option maxRecDepth 100000 in
set_option maxHeartbeats 4000000 in
theorem l08Trace_any {w : World} {hi : Nat} {x : DGor} {vs : List Value} (h : layGor.see w hi x vs) (hhi : hi ≤ w.heap.size) (hn : szGor x ≤ 1048576) :
    Calls Tryz.prog 118 #[.agg vs.toArray] w fun e w' => e = .returned (.bool (trSpec x.fTrace x.fState)) ∧ Below w.heap.size w w' := by
  obtain ⟨A2, n2, c2, A4, n, c4, rfl, -, -, ⟨hc2, hm2, s2⟩, -, ⟨hc4, hm4, s4⟩⟩ := seeGor h
  obtain ⟨pr, pc, regs, st, tr⟩ := x
  have l4 := s4.1
  simp only at l4 s4
  have hn4 : n ≤ 1048576 := by unfold szGor at hn; simp at hn; omega
  have HL := Lib.hid l4
  clear s2 h hn l4
  simp only
  obtain ⟨AL, hAL⟩ : ∃ AL, AL = allFrom n 0 tr := ⟨_, rfl⟩
  obtain ⟨LK, hLK⟩ : ∃ LK, LK = lastK tr := ⟨_, rfl⟩
  have HR := Lib.hid (show trSpec tr st = (AL && ((decide (LK = 9) == decide (st = 3)) && (decide (LK = 10) == decide (st = 4)))) by rw [hAL, hLK]; unfold trSpec; rw [HL.out])
  obtain ⟨R, hR⟩ : ∃ R, R = trSpec tr st := ⟨_, rfl⟩
  rw [← hR]
  have HRR := Lib.hid (hR.trans HR.out)
  have HAL := Lib.hid hAL
  have HLK := Lib.hid hLK
  clear hAL hLK HR hR
  have hbx := box_new w #[.int .i64 pr, .int .i64 pc, .slice A2 n2 c2, .int .i64 st, .slice A4 n c4] 65
  have HX := Lib.hid hbx
  have HB0 := Lib.hid ((Below.refl w.heap.size w).alloc (Nat.le_refl _) (.cells #[.int .i64 pr, .int .i64 pc, .slice A2 n2 c2, .int .i64 st, .slice A4 n c4] 65))
  have HX0 := Lib.hid (show Below (w.heap.size + 1) (w.alloc (.cells #[.int .i64 pr, .int .i64 pc, .slice A2 n2 c2, .int .i64 st, .slice A4 n c4] 65)) (w.alloc (.cells #[.int .i64 pr, .int .i64 pc, .slice A2 n2 c2, .int .i64 st, .slice A4 n c4] 65)) from Below.refl _ _)
  have hz0 : w.heap.size + 1 ≤ (w.alloc (.cells #[.int .i64 pr, .int .i64 pc, .slice A2 n2 c2, .int .i64 st, .slice A4 n c4] 65)).heap.size := by simp
  have p4 := box_cell (j := 4) hbx rfl
  clear hbx
  go_enter Tryz.func118, Tryz.ntmps118
  go_upto_region 1 with (fail)
  generalize (w.alloc (.cells #[.int .i64 pr, .int .i64 pc, .slice A2 n2 c2, .int .i64 st, .slice A4 n c4] 65)) = W0 at *
  go_wp2_with fail
  clear p4
  go_loopw [10] (fun i wr => ∃ (k : Nat), k ≤ n ∧ i = .int .i64 k ∧ RowKit.Hid (AL = allFrom n k (tr.drop k)) ∧ Below (w.heap.size + 1) W0 wr) (fun i _ => n - (intOf i).toNat)
  case atStart => exact ⟨0, Nat.zero_le _, rfl, Lib.hid (by rw [HAL.out]; rfl), HX0.out⟩
  case round =>
    obtain ⟨k, hk, rfl, hm, hb⟩ := hrel
    have hzr := hb.size
    have hbX := box_keep HX.out hb (by omega)
    by_cases hlt : k < n
    · obtain ⟨hx, g, o, vs, rfl, hg, ⟨rfl, hw⟩, hcell⟩ := (s4.below (HB0.out.trans (hb.mono (by omega))) hhi).at_ hlt
      have HD := Lib.hid (show tr.drop k = tr[k] :: tr.drop (k + 1) from List.drop_eq_getElem_cons hx)
      generalize tr[k] = d at *
      obtain ⟨kd, od, vd, okd⟩ := d
      have HM := Lib.hid (show AL = (okAt n k ⟨kd, od, vd, okd⟩ && allFrom n (k + 1) (tr.drop (k + 1))) by rw [hm.out, HD.out]; rfl)
      have cc0 := hcell 0 _ rfl
      have cc1 := hcell 1 _ rfl
      have cc2 := hcell 2 _ rfl
      have cc3 := hcell 3 _ rfl
      simp only [show layItem.size = 4 from rfl, ← Nat.add_assoc, Nat.add_zero, Nat.mul_one] at cc0 cc1 cc2 cc3
      clear hcell hw hm HD s4
      have HBA := Lib.hid (hb.alloc (by omega) (.cells #[.int .i64 kd, .int .i64 od, .int .i64 vd, .bool okd] 164))
      have hgw : g < wr.heap.size := by omega
      have hxw : w.heap.size < wr.heap.size := by omega
      have px4 := box_cell (j := 4) hbX rfl
      clear hbX
      by_cases h9 : kd = 9
      · subst h9
        go_wp2_with fail
        refine (specItemOk_any (x := ⟨9, od, vd, okd⟩)).mono ?_
        rintro e w1 ⟨rfl, hb1⟩
        have hz1 := hb1.size
        simp only [World.size_alloc] at hz1
        have hbi := box_keep (box_new wr #[.int .i64 9, .int .i64 od, .int .i64 vd, .bool okd] 164) hb1 (by simp)
        have e0 := box_cell (j := 0) hbi rfl
        have HB1 := Lib.hid (HBA.out.trans (hb1.mono (by simp; omega)))
        have px4a := box_cell (j := 4) (box_keep HX.out HB1.out (by omega)) rfl
        have HBW := Lib.hid (HB0.out.trans (HB1.out.mono (by omega)))
        clear hb1 hbi cc0 cc1 cc2 cc3 hb px4
        cases hq : itemOkB ⟨9, od, vd, okd⟩
        · have HN := Lib.hid (show AL = false by rw [HM.out]; simp [okAt, hq])
          clear HM hq
          go_wp2_with fail
          go_ret
          exact ⟨by rw [HRR.out, HN.out]; rfl, HBW.out⟩
        · by_cases hl : (k : Int) < (n : Int) - 1
          · have HN := Lib.hid (show AL = false by rw [HM.out]; simp [okAt, hq, isEndB, hl])
            clear HM hq
            go_wp2_with fail
            go_ret
            exact ⟨by rw [HRR.out, HN.out]; rfl, HBW.out⟩
          · have HN := Lib.hid (show AL = allFrom n (k + 1) (tr.drop (k + 1)) by rw [HM.out]; simp [okAt, hq, isEndB, hl])
            clear HM hq
            go_wp2_with fail
            go_roundw
            case rel => exact ⟨k + 1, by omega, by go_num, HN, HB1.out⟩
            case measure => simp [intOf]; omega
      · have b9 : (kd == 9) = false := by simpa using h9
        by_cases h10 : kd = 10
        · subst h10
          go_wp2_with fail
          refine (specItemOk_any (x := ⟨10, od, vd, okd⟩)).mono ?_
          rintro e w1 ⟨rfl, hb1⟩
          have hz1 := hb1.size
          simp only [World.size_alloc] at hz1
          have hbi := box_keep (box_new wr #[.int .i64 10, .int .i64 od, .int .i64 vd, .bool okd] 164) hb1 (by simp)
          have e0 := box_cell (j := 0) hbi rfl
          have HB1 := Lib.hid (HBA.out.trans (hb1.mono (by simp; omega)))
          have px4a := box_cell (j := 4) (box_keep HX.out HB1.out (by omega)) rfl
          have HBW := Lib.hid (HB0.out.trans (HB1.out.mono (by omega)))
          clear hb1 hbi cc0 cc1 cc2 cc3 hb px4
          cases hq : itemOkB ⟨10, od, vd, okd⟩
          · have HN := Lib.hid (show AL = false by rw [HM.out]; simp [okAt, hq])
            clear HM hq
            go_wp2_with fail
            go_ret
            exact ⟨by rw [HRR.out, HN.out]; rfl, HBW.out⟩
          · by_cases hl : (k : Int) < (n : Int) - 1
            · have HN := Lib.hid (show AL = false by rw [HM.out]; simp [okAt, hq, isEndB, hl])
              clear HM hq
              go_wp2_with fail
              go_ret
              exact ⟨by rw [HRR.out, HN.out]; rfl, HBW.out⟩
            · have HN := Lib.hid (show AL = allFrom n (k + 1) (tr.drop (k + 1)) by rw [HM.out]; simp [okAt, hq, isEndB, hl])
              clear HM hq
              go_wp2_with fail
              go_roundw
              case rel => exact ⟨k + 1, by omega, by go_num, HN, HB1.out⟩
              case measure => simp [intOf]; omega
        · have b10 : (kd == 10) = false := by simpa using h10
          go_wp2_with fail
          refine (specItemOk_any (x := ⟨kd, od, vd, okd⟩)).mono ?_
          rintro e w1 ⟨rfl, hb1⟩
          have hz1 := hb1.size
          simp only [World.size_alloc] at hz1
          have hbi := box_keep (box_new wr #[.int .i64 kd, .int .i64 od, .int .i64 vd, .bool okd] 164) hb1 (by simp)
          have e0 := box_cell (j := 0) hbi rfl
          have HB1 := Lib.hid (HBA.out.trans (hb1.mono (by simp; omega)))
          have px4a := box_cell (j := 4) (box_keep HX.out HB1.out (by omega)) rfl
          have HBW := Lib.hid (HB0.out.trans (HB1.out.mono (by omega)))
          clear hb1 hbi cc0 cc1 cc2 cc3 hb px4
          cases hq : itemOkB ⟨kd, od, vd, okd⟩
          · have HN := Lib.hid (show AL = false by rw [HM.out]; simp [okAt, hq])
            clear HM hq
            go_wp2_with fail
            go_ret
            exact ⟨by rw [HRR.out, HN.out]; rfl, HBW.out⟩
          · have HN := Lib.hid (show AL = allFrom n (k + 1) (tr.drop (k + 1)) by rw [HM.out]; simp [okAt, hq, isEndB, h9, h10])
            clear HM hq
            go_wp2_with fail
            go_roundw
            case rel => exact ⟨k + 1, by omega, by go_num, HN, HB1.out⟩
            case measure => simp [intOf]; omega
    · obtain rfl : k = n := by omega
      have HA := Lib.hid (show AL = true by rw [hm.out, List.drop_of_length_le (by rw [HL.out]; exact Nat.le_refl _)]; rfl)
      have p3 := box_cell (j := 3) hbX rfl
      have p4 := box_cell (j := 4) hbX rfl
      have HBW := Lib.hid (HB0.out.trans (hb.mono (by omega)))
      rcases Nat.eq_zero_or_pos k with h0 | h0
      · subst h0
        have HK := Lib.hid (show LK = 0 by rw [HLK.out, List.length_eq_zero_iff.1 HL.out]; rfl)
        have HF := Lib.hid (show R = (((0 : Int) == 9) == (st == 3) && ((0 : Int) == 10) == (st == 4)) by rw [HRR.out, HA.out, HK.out]; rfl)
        clear HRR HA HK HAL HLK
        by_cases h3 : st = 3
        · subst h3
          go_wp2_with fail
          go_ret
          exact ⟨by rw [HF.out]; simp [*], HBW.out⟩
        · have b3 : (st == 3) = false := by simpa using h3
          by_cases h4 : st = 4
          · subst h4
            go_wp2_with fail
            go_ret
            exact ⟨by rw [HF.out]; simp [*], HBW.out⟩
          · have b4 : (st == 4) = false := by simpa using h4
            go_wp2_with fail
            go_ret
            exact ⟨by rw [HF.out]; simp [*], HBW.out⟩
      · obtain ⟨hx, g, o, vs, rfl, hg, ⟨rfl, hw⟩, hcell⟩ := (s4.below HBW.out hhi).at_ (i := k - 1) (by omega)
        have HK := Lib.hid (show LK = tr[k - 1].fKind by rw [HLK.out, lastK_get tr (by rw [HL.out]; exact h0)]; simp only [HL.out])
        generalize tr[k - 1] = d at *
        obtain ⟨kd, od, vd, okd⟩ := d
        obtain ⟨q, rfl⟩ : ∃ q, k = q + 1 := ⟨k - 1, by omega⟩
        have cc0 := hcell 0 _ rfl
        simp only [show layItem.size = 4 from rfl, ← Nat.add_assoc, Nat.add_zero, Nat.mul_one, Nat.add_sub_cancel] at cc0
        have hgw : g < wr.heap.size := by omega
        clear hcell hw s4
        have HF := Lib.hid (show R = ((kd == 9) == (st == 3) && (kd == 10) == (st == 4)) by rw [HRR.out, HA.out, HK.out]; rfl)
        clear HRR HA HK HAL HLK
        by_cases h3 : st = 3
        · subst h3
          by_cases k9 : kd = 9
          · subst k9
            go_wp2_with fail
            go_ret
            exact ⟨by rw [HF.out]; simp [*], HBW.out⟩
          · have c9 : (kd == 9) = false := by simpa using k9
            by_cases k10 : kd = 10
            · subst k10
              go_wp2_with fail
              go_ret
              exact ⟨by rw [HF.out]; simp [*], HBW.out⟩
            · have c10 : (kd == 10) = false := by simpa using k10
              go_wp2_with fail
              go_ret
              exact ⟨by rw [HF.out]; simp [*], HBW.out⟩
        · have b3 : (st == 3) = false := by simpa using h3
          by_cases h4 : st = 4
          · subst h4
            by_cases k9 : kd = 9
            · subst k9
              go_wp2_with fail
              go_ret
              exact ⟨by rw [HF.out]; simp [*], HBW.out⟩
            · have c9 : (kd == 9) = false := by simpa using k9
              by_cases k10 : kd = 10
              · subst k10
                go_wp2_with fail
                go_ret
                exact ⟨by rw [HF.out]; simp [*], HBW.out⟩
              · have c10 : (kd == 10) = false := by simpa using k10
                go_wp2_with fail
                go_ret
                exact ⟨by rw [HF.out]; simp [*], HBW.out⟩
          · have b4 : (st == 4) = false := by simpa using h4
            by_cases k9 : kd = 9
            · subst k9
              go_wp2_with fail
              go_ret
              exact ⟨by rw [HF.out]; simp [*], HBW.out⟩
            · have c9 : (kd == 9) = false := by simpa using k9
              by_cases k10 : kd = 10
              · subst k10
                go_wp2_with fail
                go_ret
                exact ⟨by rw [HF.out]; simp [*], HBW.out⟩
              · have c10 : (kd == 10) = false := by simpa using k10
                go_wp2_with fail
                go_ret
                exact ⟨by rw [HF.out]; simp [*], HBW.out⟩
end Go.Proofs.YtghkdkagnibkgaaGreatDoor
