
/- Who may wait for a mutex: newcomer, the function that it gives (what was met is kept in a map with ints as keys), count and all with a function that keeps something from call to call. -/

import Derived.Test.YtalbbhnfdbacdaaQueue

import Derived.Maps.OwnOps

import Derived.Maps.Views

import Derived.DeepKeys4

import Derived.MapViews

import Derived.WideKeyEntry

import Derived.RegionTactic

import Derived.ChangeAlike

import Derived.Handy

namespace Go.Proofs.Ytalbbhnfdbacdaa
set_option linter.unusedSimpArgs false
set_option linter.unusedVariables false
open Go.RowKit Go.MapKept Go.ChangeMaps

open Go.Maps (Keyed)

theorem metKeyed : Keyed Try.prog 3 := Go.Maps.int_keyed Try.underlying3
theorem metKey {a : Int} (ha : (Lit.int .i64 a).wf = true) : keyOf Try.prog 3 (.int .i64 a) = some (.int .i64 a) := Go.Maps.keyOf_int_mk Try.underlying3 ha
theorem zeroIntV (w : World) : (zeroValue 3).run Try.prog w = .ok (.int .i64 0) w := by kernel_rfl
theorem wf_smallV {c : Int} (h : 0 ≤ c) (h2 : c ≤ 4611686018427387904) : (Lit.int .i64 c).wf = true := WalkArith.wf_i64 (by omega)

/-- Block B holds, as a map of counts, what was met. -/
def MetIs (w : World) (B : Nat) (met : List Int) : Prop :=
  ∃ D : DataW Unit, w.ownsMap Try.prog 3 (plainElem Try.prog 3) B met.length D ∧ Go.Maps.IsMap D ∧
    ∀ a, (Lit.int .i64 a).wf = true → D.atKey (.int .i64 a) (.lit (.int .i64 0)) = .lit (.int .i64 (met.count a : Nat))

theorem MetIs.keep {w w' : World} {B : Nat} {met : List Int} (h : MetIs w B met) (hk : w'.heap[B]? = w.heap[B]?) : MetIs w' B met := by
  obtain ⟨D, ⟨es, clock, hb, F, hs, hD⟩, h2⟩ := h
  exact ⟨D, ⟨es, clock, hk.trans hb, F, hs, hD⟩, h2⟩
theorem MetIs.made (w : World) : MetIs (w.alloc (.map #[] 0)) w.heap.size [] :=
  ⟨.map [], World.ownsMap_made _ _ _ _, ⟨[], rfl⟩, fun a _ => by simp [DataW.atKey]⟩
theorem MetIs.lt {w : World} {B : Nat} {met : List Int} (h : MetIs w B met) : B < w.heap.size := by
  obtain ⟨D, h, _⟩ := h
  exact h.lt

/-- What is put into the map under a key: its count so far and 1. -/
theorem MetIs.bump {w : World} {B : Nat} {met : List Int} {a : Int} (h : MetIs w B met) (ha : (Lit.int .i64 a).wf = true) (hl : met.length ≤ 4294967296) :
    (Instr.lookup 67 (.map (some B)) (.int .i64 a) false).run Try.prog w = .ok (.int .i64 (met.count a : Nat)) w ∧
    ∃ w', (Instr.mapUpdate 67 (.map (some B)) (.int .i64 a) (.int .i64 ((met.count a : Nat) + 1))).run Try.prog w = .ok () w' ∧ MetIs w' B (met ++ [a]) ∧ w.grownBy w' (some B) ∧
      (Instr.lookup 67 (.map (some B)) (.int .i64 a) false).run Try.prog w' = .ok (.int .i64 ((met.count a : Nat) + 1)) w' := by
  obtain ⟨D, hown, hD, hat⟩ := h
  have hcm := List.count_le_length (a := a) (l := met)
  obtain ⟨c, hlk, hc, hwc⟩ := hown.lookup_int metKeyed Try.underlying67 Try.underlying3 (zeroIntV _) (metKey ha)
  have hcc : c = (met.count a : Nat) := by
    have := hat a ha
    rw [hc] at this
    injection this with this
    injection this
  subst hcc
  have hw1 : (Lit.int .i64 ((met.count a : Nat) + 1 : Int)).wf = true := wf_smallV (by omega) (by omega)
  obtain ⟨w', hup, hown', hg⟩ := hown.update metKeyed Try.underlying67 (by unfold maxLen; omega) (metKey ha) (plainElem_int Try.underlying3 hw1)
  obtain ⟨c2, hlk2, hc2, _⟩ := hown'.lookup_int metKeyed Try.underlying67 Try.underlying3 (zeroIntV _) (metKey ha)
  rw [Go.Maps.atKey_put_same hD (by trivial)] at hc2
  injection hc2 with hc2
  injection hc2 with _ hc2
  subst hc2
  refine ⟨hlk, w', hup, ⟨_, by simpa using hown', hD.put _ _, fun x hx => ?_⟩, hg, hlk2⟩
  by_cases he : x = a
  · subst he
    rw [Go.Maps.atKey_put_same hD (by trivial)]
    simp [List.count_append]
  · rw [Go.Maps.atKey_put_other (by simpa using he), hat x hx, List.count_append]
    simp [List.count_cons, Ne.symm he]

/-- The function that newcomer gives: below 0, or met, is refused; and now it is met. -/
theorem new1_any {w : World} {B C : Nat} {met : List Int} {g : Int} (h : MetIs w B met) (hC : w.cell? ⟨C, 0, none⟩ = some (.map (some B))) (hne : C ≠ B) (hg : (Lit.int .i64 g).wf = true) (hl : met.length ≤ 4294967296) :
    Calls Try.prog 44 (#[.int .i64 g] ++ #[.pointer (some ⟨C, 0, none⟩)]) w fun e w' => e = .returned (.bool (decide (0 ≤ g) && !met.contains g)) ∧ MetIs w' B (met ++ [g]) ∧ Turned B (B + 1) w w' := by
  obtain ⟨hl1, w3, hup, hm3, hg3, hl3⟩ := h.bump hg hl
  have hB := h.lt
  have hcm := List.count_le_length (a := g) (l := met)
  have hC3 : w3.cell? ⟨C, 0, none⟩ = some (.map (some B)) := by
    rw [← hC]
    have hCl : C < w.heap.size := by
      rcases Nat.lt_or_ge C w.heap.size with h1 | h1
      · exact h1
      · simp [World.cell?, Array.getElem?_eq_none h1] at hC
    exact World.cell?_of_block (hg3.block _ hCl (by simp; omega))
  have hbool : decide (0 ≤ g) = true → ((((met.count g : Nat) : Int) + 1) == 1) = !met.contains g := fun _ => by
    rw [Bool.eq_iff_iff]
    have h0 := List.count_eq_zero (a := g) (l := met)
    simp only [beq_iff_eq, Bool.not_eq_true', List.contains_eq_mem, decide_eq_false_iff_not, ← h0]
    omega
  have HP := Lib.hid (And.intro hm3 (show Turned B (B + 1) w w3 from ⟨hg3.os, hg3.tape, hg3.output, hg3.size, fun i hi ho => hg3.block i hi (by simp; omega)⟩))
  have HB := Lib.hid hbool
  clear hm3 hbool hg3 h
  generalize met.count g = m at *
  generalize met.contains g = b at *
  have hwr : wrap64 ((m : Int) + 1) = m + 1 := by unfold wrap64; omega
  have hm0 : m ≤ 4294967296 := by omega
  by_cases h0 : 0 ≤ g
  · have HB' := Lib.hid (HB.out (by simpa using h0))
    go_enter Try.func44, Try.ntmps44
    go_wp2_with fail
    all_goals
      go_ret
      exact ⟨by rw [← HB'.out]; simp [h0], HP.out⟩
  · go_enter Try.func44, Try.ntmps44
    go_wp2_with fail
    all_goals
      go_ret
      exact ⟨by simp; intro h; omega, HP.out⟩

/-- newcomer: a function over a new map that has met the owner. -/
theorem newcomer_any {w : World} {o : Int} (ho : (Lit.int .i64 o).wf = true) :
    Calls Try.prog 30 #[.int .i64 o] w fun e w' => ∃ C, w.heap.size < C ∧ e = .returned (.func (.func 44) #[] #[.pointer (some ⟨C, 0, none⟩)]) ∧
      MetIs w' w.heap.size [o] ∧ w'.cell? ⟨C, 0, none⟩ = some (.map (some w.heap.size)) ∧ Below w.heap.size w w' := by
  obtain ⟨_, w3, hup, hm3, hg3, _⟩ := (MetIs.made w).bump ho (by simp)
  have hz := hg3.size
  simp at hz hup
  have hmm := @run_makeMap Try.prog
  have HM := Lib.hid hm3
  have HG := Lib.hid hg3
  clear hm3 hg3
  go_enter Try.func30, Try.ntmps30
  go_wp2_with fail
  go_ret
  have hg := HG.out
  have hb1 : Below w.heap.size w w3 := ⟨hg.os.trans rfl, hg.tape.trans rfl, hg.output.trans rfl, by omega, fun k hk => by
    rw [hg.block k (by simp; omega) (by simp; omega)]
    exact Below.heap_alloc w _ _ hk⟩
  refine ⟨w3.heap.size, by omega, by simp, HM.out.keep (Below.heap_alloc w3 _ _ (by omega)), by simp, ?_⟩
  exact hb1.alloc (by omega) _

/-- count over a function that keeps something from call to call: J k is what holds ahead of the call for the element k. -/
theorem countJ_any {f : Nat} (hf : Enters f) {cap : Array Value} {p : Nat → Bool} {J : Nat → World → Prop} {w : World} {b0 n c : Nat} {A : Option Addr} {ds : List Int} (h : SeenR Lay.int w b0 A n ds) (hhi : b0 ≤ w.heap.size) (hn : n ≤ maxLen) (h0 : J 0 w)
    (hp : ∀ k W d, ds[k]? = some d → Below b0 w W → J k W → Calls Try.prog f (#[.int .i64 d] ++ cap) W fun e W' => e = .returned (.bool (p k)) ∧ J (k + 1) W' ∧ Below b0 W W') :
    Calls Try.prog 43 #[.slice A n c, .func (.func f) #[] cap] w fun e w' => e = .returned (.int .i64 ((List.range n).countP p : Int)) ∧ Below b0 w w' := by
  have HL := Lib.hid h.1
  unfold maxLen at hn
  have HP := Lib.hid hp
  have H0 := Lib.hid h0
  clear hp h0
  go_enter Try.func43, Try.ntmps43
  go_wp2_with fail
  go_loopw [5, 10] (fun q i wr => ∃ k : Nat, k ≤ n ∧ i = .int .i64 k ∧ q = .int .i64 ((List.range k).countP p : Int) ∧ Below b0 w wr ∧ RowKit.Hid (J k wr)) (fun _ i _ => n - (intOf i).toNat)
  case atStart => exact ⟨0, Nat.zero_le _, rfl, by simp, Below.refl _ _, H0⟩
  case round =>
    obtain ⟨k, hk, rfl, rfl, hb, HJ⟩ := hrel
    by_cases hlt : k < n
    · obtain ⟨hx, g, o, vs, rfl, hg, ⟨rfl, hw⟩, hcell⟩ := (h.below hb (Nat.le_refl _)).at_ hlt
      have HD := Lib.hid (List.getElem?_eq_getElem hx)
      have HC := Lib.hid (List.countP_le_length (p := p) (l := List.range k))
      have HCn : (List.range k).countP p ≤ k := by have := HC.out; rw [List.length_range] at this; omega
      have hz := hb.size
      generalize ds[k] = d at *
      have HT := Lib.hid (show (List.range (k + 1)).countP p = (List.range k).countP p + if p k then 1 else 0 by rw [List.range_succ, List.countP_append]; simp [List.countP_cons])
      generalize (List.range k).countP p = m at *
      have cc0 := hcell 0 _ rfl
      simp only [show Lay.int.size = 1 from rfl, ← Nat.add_assoc, Nat.add_zero, Nat.mul_one] at cc0
      clear hcell hw h
      have HB := Lib.hid hb
      go_wp2_with fail
      rw [hf, Oper.upon_enter]
      refine (HP.out k _ d HD.out HB.out HJ.out).mono ?_
      rintro e w1 ⟨rfl, hj1, hb1⟩
      have HJ1 := Lib.hid hj1
      have HB1 := Lib.hid (HB.out.trans hb1)
      clear hb1 cc0 hj1
      rcases Bool.eq_false_or_eq_true (p k) with hq | hq
      · rw [hq] at HT ⊢
        go_wp2_with fail
        go_roundw
        case rel => exact ⟨k + 1, by omega, by go_num, by rw [HT.out]; simp, HB1.out, HJ1⟩
        case measure => simp [intOf]; omega
      · rw [hq] at HT ⊢
        go_wp2_with fail
        go_roundw
        case rel => exact ⟨k + 1, by omega, by go_num, by rw [HT.out]; simp, HB1.out, HJ1⟩
        case measure => simp [intOf]; omega
    · go_wp2_with fail
      go_ret
      obtain rfl : k = n := by omega
      exact ⟨rfl, hb⟩

theorem allJ_any {f : Nat} (hf : Enters f) {cap : Array Value} {p : Nat → Bool} {J : Nat → World → Prop} {w : World} {b0 n c : Nat} {A : Option Addr} {ds : List Int} (h : SeenR Lay.int w b0 A n ds) (hhi : b0 ≤ w.heap.size) (hn : n ≤ maxLen) (h0 : J 0 w)
    (hp : ∀ k W d, ds[k]? = some d → Below b0 w W → J k W → Calls Try.prog f (#[.int .i64 d] ++ cap) W fun e W' => e = .returned (.bool (p k)) ∧ J (k + 1) W' ∧ Below b0 W W') :
    Calls Try.prog 29 #[.slice A n c, .func (.func f) #[] cap] w fun e w' => e = .returned (.bool ((List.range n).all p)) ∧ Below b0 w w' := by
  have HC := Lib.hid (countJ_any (c := c) hf h hhi hn h0 hp)
  have hq : (List.range n).all p = decide ((List.range n).countP p = n) := by
    have h1 := List.countP_eq_length (p := p) (l := List.range n)
    rw [List.length_range] at h1
    rw [Bool.eq_iff_iff, List.all_eq_true, decide_eq_true_eq, h1]
  have HQ := Lib.hid hq
  generalize (List.range n).countP p = m at *
  clear hq h hp h0
  go_enter Try.func29, Try.ntmps29
  go_wp2_with fail
  refine HC.out.mono ?_
  rintro e w1 ⟨rfl, hb⟩
  by_cases he : m = n
  · subst he
    go_wp2_with fail
    go_ret
    exact ⟨by rw [HQ.out]; simp, hb⟩
  · have he2 : ¬ (m : Int) = (n : Int) := by omega
    go_wp2_with fail
    go_ret
    exact ⟨by rw [HQ.out]; simp [he]; try omega, hb⟩
end Go.Proofs.Ytalbbhnfdbacdaa
