
/- MutI, MutOk, MutOkS, merged for claims. -/

import Derived.Test.YtghkdkagnibkgaaGreatDoorGQueue

import Derived.Maps.OwnOps

import Derived.Maps.Views

import Derived.DeepKeys4

import Derived.MapViews

import Derived.WideKeyEntry

import Derived.RegionTactic

import Derived.ChangeAlike

import Derived.Handy

import Derived.Test.YtghkdkagnibkgaaGreatDoorGDEng

namespace Go.Proofs.YtghkdkagnibkgaaGreatDoor
set_option linter.unusedSimpArgs false
set_option linter.unusedVariables false
set_option maxRecDepth 100000
open Go.RowKit Go.MapKept Go.ChangeMaps

open Go.Maps (Keyed)

theorem metKeyed : Keyed Tryz.prog 3 := Go.Maps.int_keyed Tryz.underlying3
theorem metKey {a : Int} (ha : (Lit.int .i64 a).wf = true) : keyOf Tryz.prog 3 (.int .i64 a) = some (.int .i64 a) := Go.Maps.keyOf_int_mk Tryz.underlying3 ha
theorem zeroIntV (w : World) : (zeroValue 3).run Tryz.prog w = .ok (.int .i64 0) w := by kernel_rfl
theorem wf_smallV {c : Int} (h : 0 ≤ c) (h2 : c ≤ 4611686018427387904) : (Lit.int .i64 c).wf = true := WalkArith.wf_i64 (by omega)

/-- Block B holds, as a map of counts, what was met. -/
def MetIs (w : World) (B : Nat) (met : List Int) : Prop :=
  ∃ D : DataW Unit, w.ownsMap Tryz.prog 3 (plainElem Tryz.prog 3) B met.length D ∧ Go.Maps.IsMap D ∧
    ∀ a, (Lit.int .i64 a).wf = true → D.atKey (.int .i64 a) (.lit (.int .i64 0)) = .lit (.int .i64 (met.count a : Nat))

theorem MetIs.keep {w w' : World} {B : Nat} {met : List Int} (h : MetIs w B met) (hk : w'.heap[B]? = w.heap[B]?) : MetIs w' B met := by
  obtain ⟨D, ⟨es, clock, hb, F, hs, hD⟩, h2⟩ := h
  exact ⟨D, ⟨es, clock, hk.trans hb, F, hs, hD⟩, h2⟩
theorem MetIs.made (w : World) : MetIs (w.alloc (.map #[] 0)) w.heap.size [] :=
  ⟨.map [], World.ownsMap_made _ _ _ _, ⟨[], rfl⟩, fun a _ => by simp [DataW.atKey]⟩
theorem MetIs.lt {w : World} {B : Nat} {met : List Int} (h : MetIs w B met) : B < w.heap.size := by
  obtain ⟨D, h, _⟩ := h
  exact h.lt

/-- What is put into the map under a key: its count so far and 1. -/
theorem MetIs.bump {w : World} {B : Nat} {met : List Int} {a : Int} (h : MetIs w B met) (ha : (Lit.int .i64 a).wf = true) (hl : met.length ≤ 4294967296) :
    (Instr.lookup 223 (.map (some B)) (.int .i64 a) false).run Tryz.prog w = .ok (.int .i64 (met.count a : Nat)) w ∧
    ∃ w', (Instr.mapUpdate 223 (.map (some B)) (.int .i64 a) (.int .i64 ((met.count a : Nat) + 1))).run Tryz.prog w = .ok () w' ∧ MetIs w' B (met ++ [a]) ∧ w.grownBy w' (some B) ∧
      (Instr.lookup 223 (.map (some B)) (.int .i64 a) false).run Tryz.prog w' = .ok (.int .i64 ((met.count a : Nat) + 1)) w' := by
  obtain ⟨D, hown, hD, hat⟩ := h
  have hcm := List.count_le_length (a := a) (l := met)
  obtain ⟨c, hlk, hc, hwc⟩ := hown.lookup_int metKeyed Tryz.underlying223 Tryz.underlying3 (zeroIntV _) (metKey ha)
  have hcc : c = (met.count a : Nat) := by
    have := hat a ha
    rw [hc] at this
    injection this with this
    injection this
  subst hcc
  have hw1 : (Lit.int .i64 ((met.count a : Nat) + 1 : Int)).wf = true := wf_smallV (by omega) (by omega)
  obtain ⟨w', hup, hown', hg⟩ := hown.update metKeyed Tryz.underlying223 (by unfold maxLen; omega) (metKey ha) (plainElem_int Tryz.underlying3 hw1)
  obtain ⟨c2, hlk2, hc2, _⟩ := hown'.lookup_int metKeyed Tryz.underlying223 Tryz.underlying3 (zeroIntV _) (metKey ha)
  rw [Go.Maps.atKey_put_same hD (by trivial)] at hc2
  injection hc2 with hc2
  injection hc2 with _ hc2
  subst hc2
  refine ⟨hlk, w', hup, ⟨_, by simpa using hown', hD.put _ _, fun x hx => ?_⟩, hg, hlk2⟩
  by_cases he : x = a
  · subst he
    rw [Go.Maps.atKey_put_same hD (by trivial)]
    simp [List.count_append]
  · rw [Go.Maps.atKey_put_other (by simpa using he), hat x hx, List.count_append]
    simp [List.count_cons, Ne.symm he]

/-- The function that newcomer gives: below 0, or met, is refused; and now it is met. -/
theorem new1_any {w : World} {B C : Nat} {met : List Int} {g : Int} (h : MetIs w B met) (hC : w.cell? ⟨C, 0, none⟩ = some (.map (some B))) (hne : C ≠ B) (hg : (Lit.int .i64 g).wf = true) (hl : met.length ≤ 4294967296) :
    Calls Tryz.prog 175 (#[.int .i64 g] ++ #[.pointer (some ⟨C, 0, none⟩)]) w fun e w' => e = .returned (.bool (decide (0 ≤ g) && !met.contains g)) ∧ MetIs w' B (met ++ [g]) ∧ Turned B (B + 1) w w' := by
  obtain ⟨hl1, w3, hup, hm3, hg3, hl3⟩ := h.bump hg hl
  have hB := h.lt
  have hcm := List.count_le_length (a := g) (l := met)
  have hC3 : w3.cell? ⟨C, 0, none⟩ = some (.map (some B)) := by
    rw [← hC]
    have hCl : C < w.heap.size := by
      rcases Nat.lt_or_ge C w.heap.size with h1 | h1
      · exact h1
      · simp [World.cell?, Array.getElem?_eq_none h1] at hC
    exact World.cell?_of_block (hg3.block _ hCl (by simp; omega))
  have hbool : decide (0 ≤ g) = true → ((((met.count g : Nat) : Int) + 1) == 1) = !met.contains g := fun _ => by
    rw [Bool.eq_iff_iff]
    have h0 := List.count_eq_zero (a := g) (l := met)
    simp only [beq_iff_eq, Bool.not_eq_true', List.contains_eq_mem, decide_eq_false_iff_not, ← h0]
    omega
  have HP := Lib.hid (And.intro hm3 (show Turned B (B + 1) w w3 from ⟨hg3.os, hg3.tape, hg3.output, hg3.size, fun i hi ho => hg3.block i hi (by simp; omega)⟩))
  have HB := Lib.hid hbool
  clear hm3 hbool hg3 h
  generalize met.count g = m at *
  generalize met.contains g = b at *
  have hwr : wrap64 ((m : Int) + 1) = m + 1 := by unfold wrap64; omega
  have hm0 : m ≤ 4294967296 := by omega
  by_cases h0 : 0 ≤ g
  · have HB' := Lib.hid (HB.out (by simpa using h0))
    go_enter Tryz.func175, Tryz.ntmps175
    go_wp2_with fail
    all_goals
      go_ret
      exact ⟨by rw [← HB'.out]; simp [h0], HP.out⟩
  · go_enter Tryz.func175, Tryz.ntmps175
    go_wp2_with fail
    all_goals
      go_ret
      exact ⟨by simp; intro h; omega, HP.out⟩

/-- newcomer: a function over a new map that has met the owner. -/
theorem newcomer_any {w : World} {o : Int} (ho : (Lit.int .i64 o).wf = true) :
    Calls Tryz.prog 163 #[.int .i64 o] w fun e w' => ∃ C, w.heap.size < C ∧ e = .returned (.func (.func 175) #[] #[.pointer (some ⟨C, 0, none⟩)]) ∧
      MetIs w' w.heap.size [o] ∧ w'.cell? ⟨C, 0, none⟩ = some (.map (some w.heap.size)) ∧ Below w.heap.size w w' := by
  obtain ⟨_, w3, hup, hm3, hg3, _⟩ := (MetIs.made w).bump ho (by simp)
  have hz := hg3.size
  simp at hz hup
  have hmm := @run_makeMap Tryz.prog
  have HM := Lib.hid hm3
  have HG := Lib.hid hg3
  clear hm3 hg3
  go_enter Tryz.func163, Tryz.ntmps163
  go_wp2_with fail
  go_ret
  have hg := HG.out
  have hb1 : Below w.heap.size w w3 := ⟨hg.os.trans rfl, hg.tape.trans rfl, hg.output.trans rfl, by omega, fun k hk => by
    rw [hg.block k (by simp; omega) (by simp; omega)]
    exact Below.heap_alloc w _ _ hk⟩
  refine ⟨w3.heap.size, by omega, by simp, HM.out.keep (Below.heap_alloc w3 _ _ (by omega)), by simp, ?_⟩
  exact hb1.alloc (by omega) _

/-- count over a function that keeps something from call to call: J k is what holds ahead of the call for the element k. -/
theorem countJ_any {f : Nat} (hf : Enters f) {cap : Array Value} {p : Nat → Bool} {J : Nat → World → Prop} {w : World} {b0 n c : Nat} {A : Option Addr} {ds : List Int} (h : SeenR Lay.int w b0 A n ds) (hhi : b0 ≤ w.heap.size) (hn : n ≤ maxLen) (h0 : J 0 w)
    (hp : ∀ k W d, ds[k]? = some d → Below b0 w W → J k W → Calls Tryz.prog f (#[.int .i64 d] ++ cap) W fun e W' => e = .returned (.bool (p k)) ∧ J (k + 1) W' ∧ Below b0 W W') :
    Calls Tryz.prog 172 #[.slice A n c, .func (.func f) #[] cap] w fun e w' => e = .returned (.int .i64 ((List.range n).countP p : Int)) ∧ Below b0 w w' := by
  have HL := Lib.hid h.1
  unfold maxLen at hn
  have HP := Lib.hid hp
  have H0 := Lib.hid h0
  clear hp h0
  go_enter Tryz.func172, Tryz.ntmps172
  go_wp2_with fail
  go_loopw [5, 10] (fun q i wr => ∃ k : Nat, k ≤ n ∧ i = .int .i64 k ∧ q = .int .i64 ((List.range k).countP p : Int) ∧ Below b0 w wr ∧ RowKit.Hid (J k wr)) (fun _ i _ => n - (intOf i).toNat)
  case atStart => exact ⟨0, Nat.zero_le _, rfl, by simp, Below.refl _ _, H0⟩
  case round =>
    obtain ⟨k, hk, rfl, rfl, hb, HJ⟩ := hrel
    by_cases hlt : k < n
    · obtain ⟨hx, g, o, vs, rfl, hg, ⟨rfl, hw⟩, hcell⟩ := (h.below hb (Nat.le_refl _)).at_ hlt
      have HD := Lib.hid (List.getElem?_eq_getElem hx)
      have HC := Lib.hid (List.countP_le_length (p := p) (l := List.range k))
      have HCn : (List.range k).countP p ≤ k := by have := HC.out; rw [List.length_range] at this; omega
      have hz := hb.size
      generalize ds[k] = d at *
      have HT := Lib.hid (show (List.range (k + 1)).countP p = (List.range k).countP p + if p k then 1 else 0 by rw [List.range_succ, List.countP_append]; simp [List.countP_cons])
      generalize (List.range k).countP p = m at *
      have cc0 := hcell 0 _ rfl
      simp only [show Lay.int.size = 1 from rfl, ← Nat.add_assoc, Nat.add_zero, Nat.mul_one] at cc0
      clear hcell hw h
      have HB := Lib.hid hb
      go_wp2_with fail
      rw [hf, Oper.upon_enter]
      refine (HP.out k _ d HD.out HB.out HJ.out).mono ?_
      rintro e w1 ⟨rfl, hj1, hb1⟩
      have HJ1 := Lib.hid hj1
      have HB1 := Lib.hid (HB.out.trans hb1)
      clear hb1 cc0 hj1
      rcases Bool.eq_false_or_eq_true (p k) with hq | hq
      · rw [hq] at HT ⊢
        go_wp2_with fail
        go_roundw
        case rel => exact ⟨k + 1, by omega, by go_num, by rw [HT.out]; simp, HB1.out, HJ1⟩
        case measure => simp [intOf]; omega
      · rw [hq] at HT ⊢
        go_wp2_with fail
        go_roundw
        case rel => exact ⟨k + 1, by omega, by go_num, by rw [HT.out]; simp, HB1.out, HJ1⟩
        case measure => simp [intOf]; omega
    · go_wp2_with fail
      go_ret
      obtain rfl : k = n := by omega
      exact ⟨rfl, hb⟩

theorem allJ_any {f : Nat} (hf : Enters f) {cap : Array Value} {p : Nat → Bool} {J : Nat → World → Prop} {w : World} {b0 n c : Nat} {A : Option Addr} {ds : List Int} (h : SeenR Lay.int w b0 A n ds) (hhi : b0 ≤ w.heap.size) (hn : n ≤ maxLen) (h0 : J 0 w)
    (hp : ∀ k W d, ds[k]? = some d → Below b0 w W → J k W → Calls Tryz.prog f (#[.int .i64 d] ++ cap) W fun e W' => e = .returned (.bool (p k)) ∧ J (k + 1) W' ∧ Below b0 W W') :
    Calls Tryz.prog 154 #[.slice A n c, .func (.func f) #[] cap] w fun e w' => e = .returned (.bool ((List.range n).all p)) ∧ Below b0 w w' := by
  have HC := Lib.hid (countJ_any (c := c) hf h hhi hn h0 hp)
  have hq : (List.range n).all p = decide ((List.range n).countP p = n) := by
    have h1 := List.countP_eq_length (p := p) (l := List.range n)
    rw [List.length_range] at h1
    rw [Bool.eq_iff_iff, List.all_eq_true, decide_eq_true_eq, h1]
  have HQ := Lib.hid hq
  generalize (List.range n).countP p = m at *
  clear hq h hp h0
  go_enter Tryz.func154, Tryz.ntmps154
  go_wp2_with fail
  refine HC.out.mono ?_
  rintro e w1 ⟨rfl, hb⟩
  by_cases he : m = n
  · subst he
    go_wp2_with fail
    go_ret
    exact ⟨by rw [HQ.out]; simp, hb⟩
  · have he2 : ¬ (m : Int) = (n : Int) := by omega
    go_wp2_with fail
    go_ret
    exact ⟨by rw [HQ.out]; simp [he]; try omega, hb⟩
end Go.Proofs.YtghkdkagnibkgaaGreatDoor

namespace Go.Proofs.YtghkdkagnibkgaaGreatDoor
set_option linter.unusedSimpArgs false
set_option linter.unusedVariables false
open Go.RowKit

theorem enters_new1 : Enters 175 := enters_of Tryz.func175 (by kernel_rfl) (by kernel_rfl)

theorem allNew_any {w : World} {B C n c : Nat} {A : Option Addr} {o : Int} {ds : List Int} (h : SeenR Lay.int w B A n ds) (hn : n ≤ 1048576) (hm : MetIs w B [o]) (hC : w.cell? ⟨C, 0, none⟩ = some (.map (some B))) (hne : C ≠ B) :
    Calls Tryz.prog 154 #[.slice A n c, .func (.func 175) #[] #[.pointer (some ⟨C, 0, none⟩)]] w fun e w' => e = .returned (.bool ((List.range n).all (okAtM o ds))) ∧ Below B w w' := by
  have hwf : ∀ x ∈ ds, (Lit.int .i64 x).wf = true := fun x hx => by
    obtain ⟨i, hi⟩ := List.mem_iff_getElem?.1 hx
    rcases h.2 with rfl | ⟨g, o, _, _, f, hf⟩
    · simp at hx
    · exact (hf i x hi).1.2
  have hlen := h.1
  refine allJ_any (J := fun k W => MetIs W B (o :: ds.take k) ∧ W.cell? ⟨C, 0, none⟩ = some (.map (some B))) enters_new1 h (Nat.le_of_lt hm.lt) (by unfold maxLen; omega) ⟨by simpa using hm, hC⟩ ?_
  rintro k W d hd hb ⟨hJ, hJC⟩
  have hk := (List.getElem?_eq_some_iff.1 hd).1
  refine (new1_any hJ hJC hne (hwf d (List.mem_of_getElem? hd)) (by simp; omega)).mono ?_
  rintro e W' ⟨rfl, hm', ht⟩
  refine ⟨by rw [okAtM_of hd], ⟨?_, ?_⟩, ht.below (Nat.le_refl _) (Nat.le_of_lt hJ.lt)⟩
  · rw [List.take_add_one, hd]
    simpa using hm'
  · rw [← hJC]
    exact World.cell?_of_block (ht.block _ (lt_of_cell hJC) (by simp only; omega))

set_option maxRecDepth 100000 in
set_option maxHeartbeats 4000000 in
theorem implMutexOk_any {w : World} {hi : Nat} {x : DMutex} {vs : List Value} (h : layMutex.see w hi x vs) (hhi : hi ≤ w.heap.size) (hn : szMutex x ≤ 1048576) :
    Calls Tryz.prog 132 #[.agg vs.toArray] w fun e w' => e = .returned (.bool (mutOkB x)) ∧ Below w.heap.size w w' := by
  obtain ⟨A1, n1, c1, rfl, hw0, ⟨hc1, hm1, s1⟩⟩ := seeMutex h
  obtain ⟨o, ds⟩ := x
  have l1 := s1.1
  simp only at l1 s1 hw0
  subst l1
  show Calls Tryz.prog 132 #[.agg #[.int .i64 o, .slice A1 ds.length c1]] w fun e w' => e = .returned (.bool (ownB o ds.length && (List.range ds.length).all (okAtM o ds))) ∧ Below w.heap.size w w'
  have hl : ds.length ≤ 1048576 := hn
  have HB := Lib.hid ((Below.refl w.heap.size w).alloc (Nat.le_refl _) (.cells #[.int .i64 o, .slice A1 ds.length c1] 91))
  have HX := Lib.hid (box_new w #[.int .i64 o, .slice A1 ds.length c1] 91)
  have HN := Lib.hid (fun (W : World) => newcomer_any (w := W) hw0)
  have HA := Lib.hid (fun (W : World) (B C : Nat) (hW : Below w.heap.size w W) (hB : w.heap.size ≤ B) (hm : MetIs W B [o]) (hC : W.cell? ⟨C, 0, none⟩ = some (.map (some B))) (hne : C ≠ B) => allNew_any (c := c1) ((s1.below hW hhi).more (Nat.le_trans hhi hB)) hl hm hC hne)
  generalize (List.range ds.length).all (okAtM o ds) = b at *
  generalize ds.length = n at *
  clear s1 h hw0 hn
  by_cases h1 : -1 ≤ o
  · by_cases h2 : o = -1
    · subst h2
      rcases Nat.eq_zero_or_pos n with h3 | h3
      · subst h3
        have hr : ownB (-1) 0 = true := decide_eq_true ⟨by decide, fun _ => rfl⟩
        rw [hr, Bool.true_and]
        go_enter Tryz.func132, Tryz.ntmps132
        go_wp2_with fail
        have HQ := Lib.hid (fun (W : World) (hb : Below (w.alloc (.cells #[.int .i64 (-1), .slice A1 0 c1] 91)).drew.heap.size (w.alloc (.cells #[.int .i64 (-1), .slice A1 0 c1] 91)).drew W) => show W.cell? ⟨w.heap.size, 1, none⟩ = some (.slice A1 0 c1) from box_cell (box_keep HX.out ((below_drawn (Below.refl _ _) 1).trans hb) (by simp)) rfl)
        go_region_with (first
          | (go_at_call 163; refine (HN.out _).mono ?_; rintro e w2 ⟨C, hC1, rfl, hm2, hC2, hb2⟩; have HB2 : Hid (Below w.heap.size w w2) := Lib.hid (HB.out.drew.trans (hb2.mono (by simp))); have q1 : w2.cell? ⟨w.heap.size, 1, none⟩ = some (.slice A1 0 c1) := HQ.out _ hb2)
          | (go_at_call 154; refine (HA.out _ _ _ HB2.out (by simp) hm2 hC2 (by omega)).mono ?_; rintro e w3 ⟨rfl, hb3⟩))
        all_goals
          go_wp2_with fail
          go_ret
          exact ⟨rfl, HB2.out.trans (hb3.mono (by simp))⟩
      · have hr : ownB (-1) n = false := decide_eq_false (fun h => by have := h.2 rfl; omega)
        rw [hr, Bool.false_and]
        go_enter Tryz.func132, Tryz.ntmps132
        go_wp2_with fail
        go_ret
        exact ⟨rfl, HB.out⟩
    · have hr : ownB o n = true := decide_eq_true ⟨h1, fun h => absurd h h2⟩
      rw [hr, Bool.true_and]
      go_enter Tryz.func132, Tryz.ntmps132
      go_wp2_with fail
      have HQ := Lib.hid (fun (W : World) (hb : Below (w.alloc (.cells #[.int .i64 o, .slice A1 n c1] 91)).drew.heap.size (w.alloc (.cells #[.int .i64 o, .slice A1 n c1] 91)).drew W) => show W.cell? ⟨w.heap.size, 1, none⟩ = some (.slice A1 n c1) from box_cell (box_keep HX.out ((below_drawn (Below.refl _ _) 1).trans hb) (by simp)) rfl)
      go_region_with (first
        | (go_at_call 163; refine (HN.out _).mono ?_; rintro e w2 ⟨C, hC1, rfl, hm2, hC2, hb2⟩; have HB2 : Hid (Below w.heap.size w w2) := Lib.hid (HB.out.drew.trans (hb2.mono (by simp))); have q1 : w2.cell? ⟨w.heap.size, 1, none⟩ = some (.slice A1 n c1) := HQ.out _ hb2)
        | (go_at_call 154; refine (HA.out _ _ _ HB2.out (by simp) hm2 hC2 (by omega)).mono ?_; rintro e w3 ⟨rfl, hb3⟩))
      all_goals
        go_wp2_with fail
        go_ret
        exact ⟨rfl, HB2.out.trans (hb3.mono (by simp))⟩
  · have hr : ownB o n = false := decide_eq_false (fun h => h1 h.1)
    rw [hr, Bool.false_and]
    go_enter Tryz.func132, Tryz.ntmps132
    go_wp2_with fail
    go_ret
    exact ⟨rfl, HB.out⟩
end Go.Proofs.YtghkdkagnibkgaaGreatDoor

namespace Go.Proofs.YtghkdkagnibkgaaGreatDoor
set_option linter.unusedSimpArgs false
set_option linter.unusedVariables false
open Go.RowKit

theorem SeenR.front {α : Type} {L : Lay α} {w : World} {hi n : Nat} {A : Option Addr} {xs : List α} (h : SeenR L w hi A n xs) {k : Nat} (hk : k ≤ n) : SeenR L w hi A k (xs.take k) := by
  obtain ⟨h1, h2⟩ := h
  refine ⟨by rw [List.length_take]; omega, ?_⟩
  rcases h2 with rfl | ⟨g, o, e, hg, f, hf⟩
  · exact .inl (by simp)
  · refine .inr ⟨g, o, e, hg, f, fun i x hx => hf i x ?_⟩
    rw [List.getElem?_take] at hx
    split at hx
    · exact hx
    · cases hx

theorem run_front {P : Program} {t e : TypeId} {s : Nat} (ht : P.underlying t = some (.slice e)) (hz : ∀ w, (Go.sizeOf e).run P w = .ok s w) (W : World) (g o n c k : Nat) (h2 : k ≤ c) :
    (Instr.slice t (.slice (some ⟨g, o, none⟩) n c) none (some (.int .i64 k)) none).run P W = .ok (.slice (some ⟨g, o, none⟩) k c) W := by
  have ht' : P.underlying t = some (.slice (P.elem t)) := by simp [Program.elem, ht]
  have he : P.elem t = e := by simp [Program.elem, ht]
  rw [run_slice_h W t _ _ _ ht' .i64 _ (by omega) (by omega), he, hz]
  simp [Result.andThen, sliced, Addr.add]

set_option maxRecDepth 100000 in
set_option maxHeartbeats 2000000 in
theorem specHas_any {w : World} {hi n c : Nat} {A : Option Addr} {g : Int} {ds : List Int} (h : SeenR Lay.int w hi A n ds) (hn : n ≤ maxLen) :
    Calls Tryz.prog 149 #[.slice A n c, .int .i64 g] w fun e w' => e = .returned (.bool (ds.contains g)) ∧ w' = w := by
  have HL := Lib.hid h.1
  unfold maxLen at hn
  obtain ⟨v, hv⟩ : ∃ v, v = ds.contains g := ⟨_, rfl⟩
  rw [← hv]
  have HV := Lib.hid hv
  clear hv
  go_enter Tryz.func149, Tryz.ntmps149
  go_wp2_with fail
  go_loop [9] (fun i => ∃ k : Nat, k ≤ n ∧ i = .int .i64 k ∧ (ds.take k).contains g = false) (fun i => n - (intOf i).toNat)
  case atStart => exact ⟨0, Nat.zero_le _, rfl, by simp⟩
  case round =>
    obtain ⟨k, hk, rfl, hall⟩ := hrel
    by_cases hlt : k < n
    · obtain ⟨hx, b, o, vs, rfl, hg, ⟨rfl, hw⟩, hcell⟩ := h.at_ hlt
      have HD := Lib.hid (List.getElem?_eq_getElem hx)
      generalize ds[k] = d at *
      have HA := Lib.hid hall
      have HT := Lib.hid (show (ds.take (k + 1)).contains g = ((ds.take k).contains g || decide (g = d)) by rw [List.take_add_one, HD.out]; simp)
      have cc0 := hcell 0 _ rfl
      simp only [show Lay.int.size = 1 from rfl, ← Nat.add_assoc, Nat.add_zero, Nat.mul_one] at cc0
      clear hcell hw hall h
      by_cases hq : d = g
      · have HM := Lib.hid (show v = true by rw [HV.out]; simpa using hq ▸ List.mem_of_getElem? HD.out)
        clear HV
        clear HD HT HA
        subst hq
        go_wp2_with fail
        go_ret
        have := HM.out
        subst this
        exact ⟨by simp, rfl⟩
      · go_wp2_with fail
        go_round
        case rel => exact ⟨k + 1, by omega, by go_num, by rw [HT.out, HA.out]; simp; exact fun h => hq h.symm⟩
        case measure => simp [intOf]; omega
    · have HA := Lib.hid hall
      clear hall
      go_wp2_with fail
      go_ret
      obtain rfl : k = n := by omega
      have := HA.out
      rw [List.take_of_length_le (by rw [HL.out]; exact Nat.le_refl _)] at this
      rw [← HV.out] at this
      subst this
      exact ⟨by simp, rfl⟩

set_option maxRecDepth 100000 in
set_option maxHeartbeats 4000000 in
theorem specMutexOk_any {w : World} {hi : Nat} {x : DMutex} {vs : List Value} (h : layMutex.see w hi x vs) (hhi : hi ≤ w.heap.size) :
    Calls Tryz.prog 115 #[.agg vs.toArray] w fun e w' => e = .returned (.bool (mutOkB x)) ∧ Below w.heap.size w w' := by
  obtain ⟨A1, n1, c1, rfl, hw0, ⟨hc1, hm1, s1⟩⟩ := seeMutex h
  obtain ⟨o, ds⟩ := x
  have l1 := s1.1
  simp only at l1 s1 hw0
  subst l1
  show Calls Tryz.prog 115 #[.agg #[.int .i64 o, .slice A1 ds.length c1]] w fun e w' => e = .returned (.bool (ownB o ds.length && (List.range ds.length).all (okAtM o ds))) ∧ Below w.heap.size w w'
  have HB := Lib.hid ((Below.refl w.heap.size w).alloc (Nat.le_refl _) (.cells #[.int .i64 o, .slice A1 ds.length c1] 91))
  have HX := Lib.hid (box_new w #[.int .i64 o, .slice A1 ds.length c1] 91)
  have s1b := s1.below HB.out hhi
  have HL := Lib.hid (show ds.length = ds.length from rfl)
  generalize hN : ds.length = n at *
  clear s1 h hw0
  have hm1' := Nat.le_trans hc1 hm1
  unfold maxLen at hm1'
  obtain ⟨r, hr0⟩ : ∃ r, r = (List.range n).all (okAtM o ds) := ⟨_, rfl⟩
  rw [← hr0]
  have HR := Lib.hid hr0
  clear hr0
  by_cases h1 : -1 ≤ o
  · by_cases h2 : o = -1 ∧ 0 < n
    · obtain ⟨rfl, h3⟩ := h2
      have hr : ownB (-1) n = false := decide_eq_false (fun h => by have := h.2 rfl; omega)
      rw [hr, Bool.false_and]
      go_enter Tryz.func115, Tryz.ntmps115
      go_wp2_with fail
      go_ret
      exact ⟨rfl, HB.out⟩
    · have hr : ownB o n = true := decide_eq_true ⟨h1, fun h => by omega⟩
      rw [hr, Bool.true_and]
      clear hr
      have hor : ¬ o = -1 ∨ (o = -1 ∧ n = 0) := by omega
      rcases hor with h3 | ⟨h3, h4⟩
      · go_enter Tryz.func115, Tryz.ntmps115
        go_wp2_with fail
        go_loop [22] (fun i => ∃ k : Nat, k ≤ n ∧ i = .int .i64 k ∧ (List.range k).all (okAtM o ds) = true) (fun i => n - (intOf i).toNat)
        case atStart => exact ⟨0, Nat.zero_le _, rfl, by simp⟩
        case round =>
          obtain ⟨k, hk, rfl, hall⟩ := hrel
          by_cases hlt : k < n
          · have sF := s1b.front hk
            obtain ⟨hx, g, p, vs, rfl, hg, ⟨rfl, hw⟩, hcell⟩ := s1b.at_ hlt
            have HD := Lib.hid (List.getElem?_eq_getElem hx)
            generalize ds[k] = d at *
            have HA := Lib.hid hall
            have HO := Lib.hid (okAtM_of (o := o) HD.out)
            have HT := Lib.hid (show (List.range (k + 1)).all (okAtM o ds) = ((List.range k).all (okAtM o ds) && okAtM o ds k) by rw [List.range_succ]; simp)
            have HF := Lib.hid (fun (hf : okAtM o ds k = false) => show (List.range n).all (okAtM o ds) = false from List.all_eq_false.2 ⟨k, by simpa using hlt, by rw [hf]; simp⟩)
            have cc0 := hcell 0 _ rfl
            simp only [show Lay.int.size = 1 from rfl, ← Nat.add_assoc, Nat.add_zero, Nat.mul_one] at cc0
            have hcut := fun W => run_front (P := Tryz.prog) Tryz.underlying22 int_size W g p n c1 k (by omega)
            have HH := Lib.hid (specHas_any (c := c1) (g := d) sF (by unfold maxLen; omega))
            clear hcell hw hall s1b sF
            have p0 := box_cell (j := 0) HX.out rfl
            have p1 := box_cell (j := 1) HX.out rfl
            by_cases hd : 0 ≤ d
            · by_cases hq : d = o
              · have hf : r = false := by rw [HR.out]; exact HF.out (by rw [HO.out]; simp [hq])
                subst hf
                clear HD HT HA HF HO HH
                subst hq
                go_wp2_with fail
                go_ret
                exact ⟨by simp, HB.out⟩
              · obtain ⟨v, hv⟩ : ∃ v, v = (ds.take k).contains d := ⟨_, rfl⟩
                rw [← hv] at HH
                have HV := Lib.hid hv
                clear hv
                have HO2 := Lib.hid (show okAtM o ds k = !v by rw [HO.out, HV.out]; simp [hd, hq])
                clear HO HV HD
                go_wp2_with fail
                refine HH.out.mono ?_
                rintro e w3 ⟨rfl, rfl⟩
                rcases Bool.eq_false_or_eq_true v with hb | hb
                · have hf : r = false := by rw [HR.out]; exact HF.out (by rw [HO2.out, hb]; rfl)
                  subst hf hb
                  go_wp2_with fail
                  go_ret
                  exact ⟨by simp, HB.out⟩
                · have HT2 := Lib.hid (show (List.range (k + 1)).all (okAtM o ds) = true by rw [HT.out, HA.out, HO2.out, hb]; rfl)
                  clear HO2
                  subst hb
                  have hz : (d == o) = false := by simpa using hq
                  have hz2 : ¬ d < 0 := by omega
                  go_wp2_with fail
                  go_round
                  case rel => exact ⟨k + 1, by omega, by go_num, HT2.out⟩
                  case measure => simp [intOf]; omega
            · have hf : r = false := by rw [HR.out]; exact HF.out (by rw [HO.out]; simp [hd])
              subst hf
              clear HD HT HA HF HO HH
              go_wp2_with fail
              go_ret
              exact ⟨by simp, HB.out⟩
          · obtain rfl : k = n := by omega
            have hf : r = true := by rw [HR.out]; exact hall
            subst hf
            clear hall
            go_wp2_with fail
            go_ret
            exact ⟨by simp, HB.out⟩
      · subst h3 h4
        have hf : r = true := by rw [HR.out]; rfl
        subst hf
        clear s1b HR HL
        go_enter Tryz.func115, Tryz.ntmps115
        go_wp2_with fail
        go_loop [22] (fun i => i = .int .i64 0) (fun i => 0)
        case atStart => rfl
        case round =>
          subst hrel
          go_wp2_with fail
          go_ret
          exact ⟨by simp, HB.out⟩
  · have hr : ownB o n = false := decide_eq_false (fun h => h1 h.1)
    rw [hr, Bool.false_and]
    go_enter Tryz.func115, Tryz.ntmps115
    go_wp2_with fail
    go_ret
    exact ⟨rfl, HB.out⟩
end Go.Proofs.YtghkdkagnibkgaaGreatDoor
