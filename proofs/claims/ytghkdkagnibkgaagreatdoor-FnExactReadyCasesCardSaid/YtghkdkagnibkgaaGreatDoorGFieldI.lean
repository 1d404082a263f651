
/- Met, FieldI, InstrI, merged for claims. -/

import Derived.Test.YtghkdkagnibkgaaGreatDoorGBase

import Derived.Test.YtghkdkagnibkgaaGreatDoorRows

import Derived.Maps.OwnOps

import Derived.Maps.Views

import Derived.DeepKeys4

import Derived.MapViews

import Derived.WideKeyEntry

import Derived.RegionTactic

import Derived.ChangeAlike

import Derived.Handy

import Derived.Test.YtghkdkagnibkgaaGreatDoorProcS

import Derived.Test.YtghkdkagnibkgaaGreatDoorGInstrS

namespace Go.Proofs.YtghkdkagnibkgaaGreatDoor
set_option linter.unusedSimpArgs false
set_option linter.unusedVariables false
open Go.RowKit Go.MapKept Go.ChangeMaps

open Go.Maps (Keyed)

open Go.WideElems (Fit rd rg pl rd_key rd_val)

section

variable {P : Program} {w : World} {t k e : TypeId} {B n : Nat} {D : DataW Unit} {key : Value} {kl : Lit}

theorem look_one (K : Keyed P k) (ht : P.underlying t = some (.map k e)) {es : Array MapEntry} {clock : Nat} {z : Value} (hz : (zeroValue e).run P w = .ok z w) (hb : w.heap[B]? = some (.map es clock)) (hk : ∀ x ∈ es.toList, ∃ l, keyOf P k x.key = some l)
    (hkey : keyOf P k key = some kl) {v : Value} (h1 : ∃ x ∈ es.toList, x.key = key) (h2 : ∀ x ∈ es.toList, x.key = key → x.val = v) :
    (Go.Instr.lookup t (.map (some B)) key false).run P w = .ok v w := by
  rcases K.find w hkey es.toList hk with ⟨a1, a2⟩ | ⟨j, e0, a1, a2, a3⟩
  · obtain ⟨x, hx, hxk⟩ := h1
    exact absurd hxk (a2 x hx)
  · have := h2 e0 (List.mem_of_getElem? a2) a3
    simp [Go.Instr.lookup, run_underlying ht, MapKept.run_getObj_map hb, K.check w _ hkey, a1, this, Result.andThen]

/-- 'm[key] = .. m[key] ..' over integers, in the operations that the translation lays: whatever order the first two come in. -/
theorem bump_any (K : WideMaps.KeyLaw P k) (ht : P.underlying t = some (.map k e)) (he : P.underlying e = some (.int .i64)) (hz : ∀ u : World, (zeroValue e).run P u = .ok (.int .i64 0) u)
    (h : w.ownsMap P k (plainElem P e) B n D) (hn : n < maxLen) (hkey : keyOf P k key = some kl) :
    ∃ (c : Int) (st : Nat) (w1 : World), D.atKey kl (.lit (.int .i64 0)) = .lit (.int .i64 c) ∧ (Lit.int .i64 c).wf = true ∧
      (Go.Instr.lookup t (.map (some B)) key false).run P w = .ok (.int .i64 c) w ∧
      (Go.Instr.mapEntry t (.map (some B)) key).run P w = .ok (.tuple #[.int .i64 c, .int .i64 st]) w1 ∧
      (Go.Instr.lookup t (.map (some B)) key false).run P w1 = .ok (.int .i64 c) w1 ∧
      ∀ c' : Int, (Lit.int .i64 c').wf = true → ∃ w3, (Go.Instr.entryStore t (.map (some B)) (.int .i64 st) (.int .i64 c')).run P w1 = .ok () w3 ∧
        w3.ownsMap P k (plainElem P e) B (n + 1) (D.put kl (.lit (.int .i64 c'))) ∧ w.grownBy w3 (some B) := by
  obtain ⟨c, hl, hat, hwc⟩ := h.lookup_int (Keyed.of_law K) ht he (hz w) hkey
  have hstore := fun (c' : Int) (hc : (Lit.int .i64 c').wf = true) => h.update (val := .int .i64 c') (Keyed.of_law K) ht hn hkey (plainElem_int he hc)
  obtain ⟨es, clock, hb, F, hs, hD⟩ := h
  obtain ⟨v0, st, es1, clock1, hent, hv0, hst⟩ := Go.WideElems.entry_then_store K ht hz hb F hkey
  have hb1 : (setBlock w B (.map es1 clock1)).heap[B]? = some (.map es1 clock1) := heap_setBlock_same hb _
  have hsame : ∀ {v' : Value} {s' : Nat} {es2 : Array MapEntry} {clock2 : Nat}, (Go.Instr.mapEntry t (.map (some B)) key).run P w = .ok (.tuple #[v', goInt s']) (setBlock w B (.map es2 clock2)) → v0 = v' ∧ es1 = es2 := by
    intro v' s' es2 clock2 h2
    rw [hent] at h2
    injection h2 with h3 h4
    injection h3 with h3
    have h5 := congrArg (fun W : World => W.heap[B]?) h4
    simp only [hb1, heap_setBlock_same hb] at h5
    injection h5 with h5
    injection h5 with h5 h6
    refine ⟨?_, h5⟩
    simp at h3
    exact h3.1
  have hkeys : ∀ x ∈ es.toList, ∃ l, keyOf P k x.key = some l := F.keys
  obtain ⟨hstA, hstB⟩ : ((∃ x ∈ es1.toList, x.key = key) ∧ (∀ x ∈ es1.toList, x.key = key → x.val = v0) ∧ ∀ x ∈ es1.toList, ∃ l, keyOf P k x.key = some l) ∧ v0 = .int .i64 c := by
    rcases K.find w hkey es.toList hkeys with ⟨h1, h2⟩ | ⟨j, e0, h1, h2, h3⟩
    · have hrun : (Go.Instr.mapEntry t (.map (some B)) key).run P w = .ok (.tuple #[.int .i64 0, goInt clock]) (setBlock w B (.map (es.push ⟨key, .int .i64 0, clock⟩) (clock + 1))) := by
        simp [Go.Instr.mapEntry, run_underlying ht, MapKept.run_getObj_map hb, K.check w false hkey, h1, hz, MapKept.run_setObj_map _ hb, Result.andThen, setBlock]
      obtain ⟨rfl, rfl⟩ := hsame hrun
      have hl2 : (Go.Instr.lookup t (.map (some B)) key false).run P w = .ok (.int .i64 0) w := by
        simp [Go.Instr.lookup, run_underlying ht, MapKept.run_getObj_map hb, K.check w _ hkey, h1, hz, Result.andThen]
      rw [hl2] at hl
      injection hl with hl _
      refine ⟨⟨⟨⟨key, .int .i64 0, clock⟩, by simp, rfl⟩, fun x hx hxk => ?_, fun x hx => ?_⟩, hl⟩
      · simp only [Array.toList_push, List.mem_append, List.mem_singleton] at hx
        rcases hx with hx | rfl
        · exact absurd hxk (h2 x hx)
        · rfl
      · simp only [Array.toList_push, List.mem_append, List.mem_singleton] at hx
        rcases hx with hx | rfl
        · exact hkeys x hx
        · exact ⟨kl, hkey⟩
    · have hj : es[j]? = some e0 := by simpa using h2
      have hm : es.modify j (fun e => { e with key := key }) = es := by
        apply Array.ext'
        rw [Array.toList_modify, modify_eq_set _ _ _ _ h2]
        have : ({ e0 with key := key } : MapEntry) = e0 := by rw [← h3]
        rw [this]
        exact Go.WideElems.set_self _ _ _ h2
      have hrun : (Go.Instr.mapEntry t (.map (some B)) key).run P w = .ok (.tuple #[e0.val, goInt e0.born]) (setBlock w B (.map es clock)) := by
        simp [Go.Instr.mapEntry, run_underlying ht, MapKept.run_getObj_map hb, K.check w false hkey, h1, hj, h3, K.stays w hkey, hm, MapKept.run_setObj_map _ hb, Result.andThen, setBlock]
      obtain ⟨rfl, rfl⟩ := hsame hrun
      have hl2 : (Go.Instr.lookup t (.map (some B)) key false).run P w = .ok e0.val w := by
        simp [Go.Instr.lookup, run_underlying ht, MapKept.run_getObj_map hb, K.check w _ hkey, h1, Result.andThen]
      rw [hl2] at hl
      injection hl with hl _
      refine ⟨⟨⟨e0, List.mem_of_getElem? h2, h3⟩, fun x hx hxk => ?_, hkeys⟩, hl⟩
      obtain ⟨i, hi⟩ := List.getElem?_of_mem hx
      by_cases hij : i = j
      · subst hij
        rw [h2] at hi
        injection hi with hi
        rw [hi]
      · exact absurd (hxk.trans h3.symm) (h3.symm ▸ Go.WideElems.other_key F h2 hi hij)
  subst hstB
  refine ⟨c, st, _, hat, hwc, hl, hent, look_one (Keyed.of_law K) ht (hz _) hb1 hstA.2.2 hkey hstA.1 hstA.2.1, fun c' hc => ?_⟩
  obtain ⟨es', clock', r1, r2⟩ := hst _ (.int .i64 c') hb1
  obtain ⟨w3, r3, r4, r5⟩ := hstore c' hc
  rw [r2] at r3
  injection r3 with _ r3
  refine ⟨w3, ?_, r4, r5⟩
  rw [← r3]
  have e2 : setBlock (setBlock w B (.map es1 clock1)) B (.map es' clock') = setBlock w B (.map es' clock') := by simp [setBlock]
  rw [← e2]
  exact r1
end

theorem laidOutP : laidOutB Tryz.prog = true := by kernel_rfl
theorem keyLaw : WideMaps.KeyLaw Tryz.prog 219 :=
  deep_law_laid laidOutP (m := 2) (by omega) (of_decide_eq_true (by kernel_rfl)) (by kernel_rfl) (by rw [Tryz.underlying219])
theorem zeroInt (w : World) : (zeroValue 3).run Tryz.prog w = .ok (.int .i64 0) w := by kernel_rfl

/-- What a target is told by as a key. -/
def keyL (a b : Int) : Lit := .string (keyBytes [.int .i64 a, .int .i64 b])
theorem keyL_of {a b : Int} (ha : (Lit.int .i64 a).wf = true) (hb : (Lit.int .i64 b).wf = true) : keyOf Tryz.prog 219 (.agg #[.int .i64 a, .int .i64 b]) = some (keyL a b) := by
  have h1 : Tryz.prog.keyType 219 = true := by kernel_rfl
  have h2 : (Value.agg #[.int .i64 a, .int .i64 b]).formed Tryz.prog 219 = true := by
    have : Tryz.prog.cellsOf 219 = 2 := by kernel_rfl
    simp [Value.formed, Tryz.underlying219, this]
  have h3 : Tryz.prog.keyLits (Tryz.prog.types.size + 1) 219 [.int .i64 a, .int .i64 b] = some [.int .i64 a, .int .i64 b] := by
    obtain ⟨m, hm⟩ : ∃ m, Tryz.prog.types.size = m + 1 := ⟨Tryz.prog.types.size - 1, by have : 1 ≤ Tryz.prog.types.size := of_decide_eq_true (by kernel_rfl); omega⟩
    have c1 : Tryz.prog.cellsOf 219 = 2 := by kernel_rfl
    have c2 : Tryz.prog.cellsOf 3 = 1 := by kernel_rfl
    rw [hm]
    simp [Program.keyLits, Tryz.underlying219, Tryz.underlying3, c1, c2, ha, hb]
  unfold keyOf
  rw [Tryz.underlying219]
  simp only [h1, h2, Bool.and_self, if_true]
  show (Option.map _ (Tryz.prog.keyLits (Tryz.prog.types.size + 1) 219 [.int .i64 a, .int .i64 b])) = _
  rw [h3]
  rfl

/-- Block B holds, as a map of counts, what was met. -/
def MapIs (w : World) (B : Nat) (met : List (Int × Int)) : Prop :=
  ∃ D : DataW Unit, w.ownsMap Tryz.prog 219 (plainElem Tryz.prog 3) B met.length D ∧ Go.Maps.IsMap D ∧
    ∀ a b, (Lit.int .i64 a).wf = true → (Lit.int .i64 b).wf = true → D.atKey (keyL a b) (.lit (.int .i64 0)) = .lit (.int .i64 (met.count (a, b) : Nat))

theorem MapIs.keep {w w' : World} {B : Nat} {met : List (Int × Int)} (h : MapIs w B met) (hk : w'.heap[B]? = w.heap[B]?) : MapIs w' B met := by
  obtain ⟨D, ⟨es, clock, hb, F, hs, hD⟩, h2⟩ := h
  exact ⟨D, ⟨es, clock, hk.trans hb, F, hs, hD⟩, h2⟩
theorem MapIs.made (w : World) : MapIs (w.alloc (.map #[] 0)) w.heap.size [] :=
  ⟨.map [], World.ownsMap_made _ _ _ _, ⟨[], rfl⟩, fun a b _ _ => by simp [DataW.atKey]⟩
theorem MapIs.lt {w : World} {B : Nat} {met : List (Int × Int)} (h : MapIs w B met) : B < w.heap.size := by
  obtain ⟨D, h, _⟩ := h
  exact h.lt

theorem wf_small {c : Int} (h : 0 ≤ c) (h2 : c ≤ 4611686018427387904) : (Lit.int .i64 c).wf = true := WalkArith.wf_i64 (by omega)

set_option maxRecDepth 100000 in
set_option maxHeartbeats 2000000 in
theorem first_any {w : World} {B : Nat} {met : List (Int × Int)} {a b : Int} (h : MapIs w B met) (ha : (Lit.int .i64 a).wf = true) (hb : (Lit.int .i64 b).wf = true) (hl : met.length ≤ 4294967296) :
    Calls Tryz.prog 169 #[.map (some B), .agg #[.int .i64 a, .int .i64 b]] w fun e w' => e = .returned (.bool (!met.contains (a, b))) ∧ MapIs w' B (met ++ [(a, b)]) ∧ Turned B (B + 1) w w' := by
  obtain ⟨D, hown, hD, hat⟩ := h
  have hB := hown.lt
  have hk := keyL_of ha hb
  have hcm := List.count_le_length (a := (a, b)) (l := met)
  obtain ⟨c, st, w1, hc, hwc, hl0, hent, hl1, hst⟩ := bump_any (w := (w.alloc (.cells #[.int .i64 a, .int .i64 b] 219)).drew) keyLaw Tryz.underlying215 Tryz.underlying3 zeroInt (hown.alloc (.cells #[.int .i64 a, .int .i64 b] 219)) (by unfold maxLen; omega) hk
  have hcc : c = (met.count (a, b) : Nat) := by
    have := hat a b ha hb
    rw [hc] at this
    injection this with this
    injection this
  obtain ⟨w3, hst3, hown3, hg3⟩ := hst (c + 1) (wf_small (by omega) (by omega))
  have hD3 : Go.Maps.IsMap (D.put (keyL a b) (.lit (.int .i64 (c + 1)))) := Go.Maps.IsMap.put hD _ _
  have hat3 : (D.put (keyL a b) (.lit (.int .i64 (c + 1)))).atKey (keyL a b) (.lit (.int .i64 0)) = .lit (.int .i64 (c + 1)) := Go.Maps.atKey_put_same hD (by unfold keyL; trivial) _ _
  obtain ⟨c3, hl3, hc3, _⟩ := hown3.lookup_int (Keyed.of_law keyLaw) Tryz.underlying215 Tryz.underlying3 (zeroInt _) hk
  have hc3' : c3 = c + 1 := by
    rw [hat3] at hc3
    injection hc3 with hc3
    injection hc3 with _ hc3
    exact hc3.symm
  subst hc3'
  have hpost : MapIs w3 B (met ++ [(a, b)]) := by
    refine ⟨_, by simpa using hown3, hD3, fun a' b' ha' hb' => ?_⟩
    by_cases he : (a', b') = (a, b)
    · injection he with e1 e2
      subst e1 e2
      rw [hat3, hcc]
      simp [List.count_append]
    · have hne : keyL a' b' ≠ keyL a b := fun e => he (by
        have h1 := keyL_of ha' hb'
        rw [e] at h1
        have := (Keyed.of_law keyLaw).inj h1 hk
        simp at this
        rw [this.1, this.2])
      rw [Go.Maps.atKey_put_other hne, hat a' b' ha' hb', List.count_append]
      simp [List.count_cons, Ne.symm he]
  have hbool : ((c + 1 : Int) == 1) = !met.contains (a, b) := by
    rw [hcc, Bool.eq_iff_iff]
    have h0 := List.count_eq_zero (a := (a, b)) (l := met)
    simp only [beq_iff_eq, Bool.not_eq_true', List.contains_eq_mem, decide_eq_false_iff_not, ← h0]
    omega
  have hturn : Turned B (B + 1) w w3 := ⟨hg3.os, hg3.tape, hg3.output, by have := hg3.size; simp at this; omega, fun i hi ho => by
    rw [hg3.block i (by simp; omega) (by simp; omega)]
    exact Below.heap_alloc w _ _ hi⟩
  have hcl : ∀ j, w3.cell? ⟨w.heap.size, j, none⟩ = (w.alloc (.cells #[.int .i64 a, .int .i64 b] 219)).cell? ⟨w.heap.size, j, none⟩ := fun j =>
    World.cell?_of_block (hg3.block _ (by simp) (by simp; omega))
  have hcl0 : w3.cell? ⟨w.heap.size, 0, none⟩ = some (.int .i64 a) := by rw [hcl]; simp
  have hcl1 : w3.cell? ⟨w.heap.size, 0 + 1, none⟩ = some (.int .i64 b) := by rw [hcl]; simp
  have hwr : wrap64 (c + 1) = c + 1 := by unfold wrap64; omega
  have HP := Lib.hid (And.intro hpost hturn)
  have hz3 := hturn.size
  have hlt3 : w.heap.size < w3.heap.size := by have := hg3.size; simp at this; omega
  clear hpost hturn hst hown hown3 hat hat3 hD hD3 hc hc3 hcl hg3 hcm hcc
  go_enter Tryz.func169, Tryz.ntmps169
  go_wp2
  go_region
  all_goals
    go_wp2
    go_ret
    exact ⟨by simp, HP.out⟩
end Go.Proofs.YtghkdkagnibkgaaGreatDoor

namespace Go.Proofs.YtghkdkagnibkgaaGreatDoor
set_option linter.unusedSimpArgs false
set_option linter.unusedVariables false
open Go.RowKit

theorem isPlaceIn_any (v c : Int) (w : World) : Calls Tryz.prog 65 #[.int .i64 v, .int .i64 c] w fun e w' => e = .returned (.bool (inB v 0 (c - 1))) ∧ w = w' := by
  by_cases h0 : 0 ≤ v
  · by_cases h1 : v < c
    · rw [inB_yes (by omega)]
      go_enter Tryz.func65, Tryz.ntmps65
      go_wp2
      go_ret
      exact ⟨rfl, rfl⟩
    · rw [inB_no (by omega)]
      have h2 : decide (v < c) = false := decide_eq_false h1
      clear h1
      go_enter Tryz.func65, Tryz.ntmps65
      go_wp2
      go_ret
      exact ⟨rfl, rfl⟩
  · rw [inB_no (by omega)]
    have h2 : decide (0 ≤ v) = false := decide_eq_false h0
    clear h0
    go_enter Tryz.func65, Tryz.ntmps65
    go_wp2
    go_ret
    exact ⟨rfl, rfl⟩

theorem isVal_any (v : Int) (w : World) : Calls Tryz.prog 155 #[.int .i64 v] w fun e w' => e = .returned (.bool (valB v)) ∧ w = w' := by
  by_cases h0 : 0 ≤ v
  · by_cases h1 : v ≤ 999
    · rw [valB_yes (by omega)]
      go_enter Tryz.func155, Tryz.ntmps155
      go_wp2
      go_ret
      exact ⟨rfl, rfl⟩
    · rw [valB_no (by omega)]
      have h2 : decide (v ≤ 999) = false := decide_eq_false h1
      clear h1
      go_enter Tryz.func155, Tryz.ntmps155
      go_wp2
      go_ret
      exact ⟨rfl, rfl⟩
  · rw [valB_no (by omega)]
    have h2 : decide (0 ≤ v) = false := decide_eq_false h0
    clear h0
    go_enter Tryz.func155, Tryz.ntmps155
    go_wp2
    go_ret
    exact ⟨rfl, rfl⟩

/-- What the document asks of a field that names so. -/
def fieldB (n0 n2 n3 : Nat) (mus n name v : Int) : Bool :=
  if name = 1 then regB v
  else if name = 2 then valB v
  else if name = 3 then inB v 0 (n - 1)
  else if name = 4 then inB v (-1) ((n0 : Int) - 1)
  else if name = 5 then inB v 0 ((n2 : Int) - 1)
  else if name = 6 then inB v 0 (mus - 1)
  else if name = 7 then inB v 0 ((n3 : Int) - 1)
  else v == 0

set_option maxRecDepth 100000 in
set_option maxHeartbeats 2000000 in
theorem fieldOk_any {A0 A2 A3 : Option Addr} {n0 c0 n2 c2 n3 c3 : Nat} {mus n name v : Int} (w : World) (hname : 0 ≤ name ∧ name ≤ 7) :
    Calls Tryz.prog 176 #[.agg #[.slice A0 n0 c0, .int .i64 mus, .slice A2 n2 c2, .slice A3 n3 c3], .int .i64 n, .int .i64 name, .int .i64 v] w fun e w' => e = .returned (.bool (fieldB n0 n2 n3 mus n name v)) ∧ Below w.heap.size w w' := by
  have hn : name = 0 ∨ name = 1 ∨ name = 2 ∨ name = 3 ∨ name = 4 ∨ name = 5 ∨ name = 6 ∨ name = 7 := by omega
  clear hname
  rcases hn with rfl | rfl | rfl | rfl | rfl | rfl | rfl | rfl
  · have e0 : fieldB n0 n2 n3 mus n 0 v = (v == 0) := rfl
    rw [e0]
    go_enter Tryz.func176, Tryz.ntmps176
    go_wp2_with fail
    go_ret
    exact ⟨rfl, by go_grown⟩
  · have e0 : fieldB n0 n2 n3 mus n 1 v = inB v 0 (6 - 1) := rfl
    rw [e0]
    go_enter Tryz.func176, Tryz.ntmps176
    go_wp2_with fail
    refine (isPlaceIn_any _ _ _).mono ?_
    rintro e w1 ⟨rfl, rfl⟩
    go_wp2_with fail
    go_ret
    exact ⟨rfl, by go_grown⟩
  · have e0 : fieldB n0 n2 n3 mus n 2 v = valB v := rfl
    rw [e0]
    go_enter Tryz.func176, Tryz.ntmps176
    go_wp2_with fail
    refine (isVal_any _ _).mono ?_
    rintro e w1 ⟨rfl, rfl⟩
    go_wp2_with fail
    go_ret
    exact ⟨rfl, by go_grown⟩
  · have e0 : fieldB n0 n2 n3 mus n 3 v = inB v 0 (n - 1) := rfl
    rw [e0]
    go_enter Tryz.func176, Tryz.ntmps176
    go_wp2_with fail
    refine (isPlaceIn_any _ _ _).mono ?_
    rintro e w1 ⟨rfl, rfl⟩
    go_wp2_with fail
    go_ret
    exact ⟨rfl, by go_grown⟩
  · have e0 : fieldB n0 n2 n3 mus n 4 v = inB v (-1) ((n0 : Int) - 1) := rfl
    rw [e0]
    by_cases hv : v = -1
    · subst hv
      rw [inB_yes (by omega)]
      go_enter Tryz.func176, Tryz.ntmps176
      go_wp2_with fail
      go_ret
      exact ⟨rfl, by go_grown⟩
    · have e1 : inB v (-1) ((n0 : Int) - 1) = inB v 0 ((n0 : Int) - 1) := by unfold inB; exact decide_eq_decide.2 (by omega)
      have e2 : (v == -1) = false := by simpa using hv
      rw [e1]
      clear hv e1 e0
      go_enter Tryz.func176, Tryz.ntmps176
      go_wp2_with fail
      refine (isPlaceIn_any _ _ _).mono ?_
      rintro e w1 ⟨rfl, rfl⟩
      go_wp2_with fail
      go_ret
      exact ⟨rfl, by go_grown⟩
  · have e0 : fieldB n0 n2 n3 mus n 5 v = inB v 0 ((n2 : Int) - 1) := rfl
    rw [e0]
    go_enter Tryz.func176, Tryz.ntmps176
    go_wp2_with fail
    refine (isPlaceIn_any _ _ _).mono ?_
    rintro e w1 ⟨rfl, rfl⟩
    go_wp2_with fail
    go_ret
    exact ⟨rfl, by go_grown⟩
  · have e0 : fieldB n0 n2 n3 mus n 6 v = inB v 0 (mus - 1) := rfl
    rw [e0]
    go_enter Tryz.func176, Tryz.ntmps176
    go_wp2_with fail
    refine (isPlaceIn_any _ _ _).mono ?_
    rintro e w1 ⟨rfl, rfl⟩
    go_wp2_with fail
    go_ret
    exact ⟨rfl, by go_grown⟩
  · have e0 : fieldB n0 n2 n3 mus n 7 v = inB v 0 ((n3 : Int) - 1) := rfl
    rw [e0]
    go_enter Tryz.func176, Tryz.ntmps176
    go_wp2_with fail
    refine (isPlaceIn_any _ _ _).mono ?_
    rintro e w1 ⟨rfl, rfl⟩
    go_wp2_with fail
    go_ret
    exact ⟨rfl, by go_grown⟩
end Go.Proofs.YtghkdkagnibkgaaGreatDoor

namespace Go.Proofs.YtghkdkagnibkgaaGreatDoor
set_option linter.unusedSimpArgs false
set_option linter.unusedVariables false
open Go.RowKit

set_option maxRecDepth 100000 in
set_option maxHeartbeats 2000000 in
theorem implInstrOk_at {A0 A2 A3 : Option Addr} {n0 c0 n2 c2 n3 c3 : Nat} {mus n a b c n1 n2' n3' : Int} {w : World} (z : Nat) (hz : 1 ≤ z) (hz2 : z ≤ 15) (h1 : 0 ≤ n1 ∧ n1 ≤ 7) (h2 : 0 ≤ n2' ∧ n2' ≤ 7) (h3 : 0 ≤ n3' ∧ n3' ≤ 7)
    (c1 : w.cell? ⟨0, z * 4 + 1, none⟩ = some (.int .i64 n1)) (c2' : w.cell? ⟨0, z * 4 + 1 + 1, none⟩ = some (.int .i64 n2')) (c3' : w.cell? ⟨0, z * 4 + 1 + 2, none⟩ = some (.int .i64 n3')) :
    Calls Tryz.prog 171 #[.agg #[.slice A0 n0 c0, .int .i64 mus, .slice A2 n2 c2, .slice A3 n3 c3], .int .i64 n, .agg #[.int .i64 (z : Int), .int .i64 a, .int .i64 b, .int .i64 c]] w fun e w' => e = .returned (.bool (fieldB n0 n2 n3 mus n n1 a && (fieldB n0 n2 n3 mus n n2' b && fieldB n0 n2 n3 mus n n3' c))) ∧ Below w.heap.size w w' := by
  have hg0 : 0 < w.heap.size := World.block_lt_of_cell? w _ c1
  have hgz : ¬ w.heap.size = 0 := by omega
  have hgp : 0 < w.heap.size := by omega
  have e1 := inB_yes (n := (z : Int)) (lo := 1) (hi := 15) (by omega)
  have step : ∀ (nm v : Int) (W : World), 0 ≤ nm ∧ nm ≤ 7 → Calls Tryz.prog 176 #[.agg #[.slice A0 n0 c0, .int .i64 mus, .slice A2 n2 c2, .slice A3 n3 c3], .int .i64 n, .int .i64 nm, .int .i64 v] W fun e w' => e = .returned (.bool (fieldB n0 n2 n3 mus n nm v)) ∧ Below W.heap.size W w' := fun nm v W h => fieldOk_any W h
  have HS := Lib.hid step
  clear step
  generalize hF1 : fieldB n0 n2 n3 mus n n1 a = F1
  generalize hF2 : fieldB n0 n2 n3 mus n n2' b = F2
  generalize hF3 : fieldB n0 n2 n3 mus n n3' c = F3
  have G1 := Lib.hid hF1
  have G2 := Lib.hid hF2
  have G3 := Lib.hid hF3
  clear hF1 hF2 hF3
  go_enter Tryz.func171, Tryz.ntmps171
  go_wp2_with fail
  refine (isOp_any _ _).mono ?_
  rw [e1]
  rintro e w1 ⟨rfl, rfl⟩
  go_wp2_with fail
  refine (HS.out _ _ _ h1).mono ?_
  rw [G1.out]
  rintro e wa ⟨rfl, hba⟩
  have za := hba.size
  simp only [World.size_alloc] at za
  obtain ⟨hcla, hfza⟩ := bcell hba
  have hla0 : w.heap.size < wa.heap.size := by omega
  have hla1 : w.heap.size + 1 < wa.heap.size := by omega
  have hla2 : w.heap.size + 1 + 1 < wa.heap.size := by omega
  have hBa : Below w.heap.size w wa := Below.trans (by go_grown) (hba.mono (by simp; omega))
  clear hba
  cases F1
  · go_wp2_with fail
    go_ret
    exact ⟨rfl, hBa⟩
  · go_wp2_with fail
    refine (HS.out _ _ _ h2).mono ?_
    rw [G2.out]
    rintro e wb ⟨rfl, hbb⟩
    have zb := hbb.size
    obtain ⟨hclb, hfzb⟩ := bcell hbb
    have hlb0 : w.heap.size < wb.heap.size := by omega
    have hlb1 : w.heap.size + 1 < wb.heap.size := by omega
    have hlb2 : w.heap.size + 1 + 1 < wb.heap.size := by omega
    have hBb : Below w.heap.size w wb := hBa.trans (hbb.mono (by omega))
    clear hbb
    cases F2
    · go_wp2_with fail
      go_ret
      exact ⟨rfl, hBb⟩
    · go_wp2_with fail
      refine (HS.out _ _ _ h3).mono ?_
      rw [G3.out]
      rintro e wc ⟨rfl, hbc⟩
      have hBc : Below w.heap.size w wc := hBb.trans (hbc.mono (by omega))
      clear hbc
      go_wp2_with fail
      go_ret
      exact ⟨rfl, hBc⟩

theorem instr_names {n0 n2 n3 : Nat} {mus n a b c : Int} :
    (fieldB n0 n2 n3 mus n 0 a && (fieldB n0 n2 n3 mus n 0 b && fieldB n0 n2 n3 mus n 0 c)) = instrOkB n0 n2 n3 mus n 1 a b c ∧
    (fieldB n0 n2 n3 mus n 1 a && (fieldB n0 n2 n3 mus n 2 b && fieldB n0 n2 n3 mus n 0 c)) = instrOkB n0 n2 n3 mus n 2 a b c ∧
    (fieldB n0 n2 n3 mus n 1 a && (fieldB n0 n2 n3 mus n 1 b && fieldB n0 n2 n3 mus n 1 c)) = instrOkB n0 n2 n3 mus n 3 a b c ∧
    (fieldB n0 n2 n3 mus n 1 a && (fieldB n0 n2 n3 mus n 1 b && fieldB n0 n2 n3 mus n 1 c)) = instrOkB n0 n2 n3 mus n 4 a b c ∧
    (fieldB n0 n2 n3 mus n 1 a && (fieldB n0 n2 n3 mus n 1 b && fieldB n0 n2 n3 mus n 1 c)) = instrOkB n0 n2 n3 mus n 5 a b c ∧
    (fieldB n0 n2 n3 mus n 3 a && (fieldB n0 n2 n3 mus n 0 b && fieldB n0 n2 n3 mus n 0 c)) = instrOkB n0 n2 n3 mus n 6 a b c ∧
    (fieldB n0 n2 n3 mus n 1 a && (fieldB n0 n2 n3 mus n 3 b && fieldB n0 n2 n3 mus n 0 c)) = instrOkB n0 n2 n3 mus n 7 a b c ∧
    (fieldB n0 n2 n3 mus n 4 a && (fieldB n0 n2 n3 mus n 1 b && fieldB n0 n2 n3 mus n 0 c)) = instrOkB n0 n2 n3 mus n 8 a b c ∧
    (fieldB n0 n2 n3 mus n 4 a && (fieldB n0 n2 n3 mus n 1 b && fieldB n0 n2 n3 mus n 1 c)) = instrOkB n0 n2 n3 mus n 9 a b c ∧
    (fieldB n0 n2 n3 mus n 4 a && (fieldB n0 n2 n3 mus n 0 b && fieldB n0 n2 n3 mus n 0 c)) = instrOkB n0 n2 n3 mus n 10 a b c ∧
    (fieldB n0 n2 n3 mus n 5 a && (fieldB n0 n2 n3 mus n 0 b && fieldB n0 n2 n3 mus n 0 c)) = instrOkB n0 n2 n3 mus n 11 a b c ∧
    (fieldB n0 n2 n3 mus n 6 a && (fieldB n0 n2 n3 mus n 0 b && fieldB n0 n2 n3 mus n 0 c)) = instrOkB n0 n2 n3 mus n 12 a b c ∧
    (fieldB n0 n2 n3 mus n 6 a && (fieldB n0 n2 n3 mus n 0 b && fieldB n0 n2 n3 mus n 0 c)) = instrOkB n0 n2 n3 mus n 13 a b c ∧
    (fieldB n0 n2 n3 mus n 7 a && (fieldB n0 n2 n3 mus n 1 b && fieldB n0 n2 n3 mus n 0 c)) = instrOkB n0 n2 n3 mus n 14 a b c ∧
    (fieldB n0 n2 n3 mus n 1 a && (fieldB n0 n2 n3 mus n 0 b && fieldB n0 n2 n3 mus n 0 c)) = instrOkB n0 n2 n3 mus n 15 a b c := by
  refine ⟨?_, ?_, ?_, ?_, ?_, ?_, ?_, ?_, ?_, ?_, ?_, ?_, ?_, ?_, ?_⟩
  all_goals
    rw [Bool.eq_iff_iff]
    simp [fieldB, instrOkB, restB, inB, regB, valB]
    try omega

set_option maxRecDepth 100000 in
set_option maxHeartbeats 2000000 in
theorem implInstrOk_any {A0 A2 A3 : Option Addr} {n0 c0 n2 c2 n3 c3 : Nat} {mus n op a b c : Int} {w : World} (hC : OpCells w) :
    Calls Tryz.prog 171 #[.agg #[.slice A0 n0 c0, .int .i64 mus, .slice A2 n2 c2, .slice A3 n3 c3], .int .i64 n, .agg #[.int .i64 op, .int .i64 a, .int .i64 b, .int .i64 c]] w fun e w' => e = .returned (.bool (instrOkB n0 n2 n3 mus n op a b c)) ∧ Below w.heap.size w w' := by
  by_cases h : 1 ≤ op ∧ op ≤ 15
  · have E := @instr_names n0 n2 n3 mus n a b c
    obtain ⟨e1, e2, e3, e4, e5, e6, e7, e8, e9, e10, e11, e12, e13, e14, e15⟩ := E
    rcases op_cases h with rfl | rfl | rfl | rfl | rfl | rfl | rfl | rfl | rfl | rfl | rfl | rfl | rfl | rfl | rfl
    · rw [← e1]
      exact implInstrOk_at (n1 := 0) (n2' := 0) (n3' := 0) 1 (by decide) (by decide) (by decide) (by decide) (by decide) (hC 0 (by decide)).2.1 (hC 0 (by decide)).2.2.1 (hC 0 (by decide)).2.2.2
    · rw [← e2]
      exact implInstrOk_at (n1 := 1) (n2' := 2) (n3' := 0) 2 (by decide) (by decide) (by decide) (by decide) (by decide) (hC 1 (by decide)).2.1 (hC 1 (by decide)).2.2.1 (hC 1 (by decide)).2.2.2
    · rw [← e3]
      exact implInstrOk_at (n1 := 1) (n2' := 1) (n3' := 1) 3 (by decide) (by decide) (by decide) (by decide) (by decide) (hC 2 (by decide)).2.1 (hC 2 (by decide)).2.2.1 (hC 2 (by decide)).2.2.2
    · rw [← e4]
      exact implInstrOk_at (n1 := 1) (n2' := 1) (n3' := 1) 4 (by decide) (by decide) (by decide) (by decide) (by decide) (hC 3 (by decide)).2.1 (hC 3 (by decide)).2.2.1 (hC 3 (by decide)).2.2.2
    · rw [← e5]
      exact implInstrOk_at (n1 := 1) (n2' := 1) (n3' := 1) 5 (by decide) (by decide) (by decide) (by decide) (by decide) (hC 4 (by decide)).2.1 (hC 4 (by decide)).2.2.1 (hC 4 (by decide)).2.2.2
    · rw [← e6]
      exact implInstrOk_at (n1 := 3) (n2' := 0) (n3' := 0) 6 (by decide) (by decide) (by decide) (by decide) (by decide) (hC 5 (by decide)).2.1 (hC 5 (by decide)).2.2.1 (hC 5 (by decide)).2.2.2
    · rw [← e7]
      exact implInstrOk_at (n1 := 1) (n2' := 3) (n3' := 0) 7 (by decide) (by decide) (by decide) (by decide) (by decide) (hC 6 (by decide)).2.1 (hC 6 (by decide)).2.2.1 (hC 6 (by decide)).2.2.2
    · rw [← e8]
      exact implInstrOk_at (n1 := 4) (n2' := 1) (n3' := 0) 8 (by decide) (by decide) (by decide) (by decide) (by decide) (hC 7 (by decide)).2.1 (hC 7 (by decide)).2.2.1 (hC 7 (by decide)).2.2.2
    · rw [← e9]
      exact implInstrOk_at (n1 := 4) (n2' := 1) (n3' := 1) 9 (by decide) (by decide) (by decide) (by decide) (by decide) (hC 8 (by decide)).2.1 (hC 8 (by decide)).2.2.1 (hC 8 (by decide)).2.2.2
    · rw [← e10]
      exact implInstrOk_at (n1 := 4) (n2' := 0) (n3' := 0) 10 (by decide) (by decide) (by decide) (by decide) (by decide) (hC 9 (by decide)).2.1 (hC 9 (by decide)).2.2.1 (hC 9 (by decide)).2.2.2
    · rw [← e11]
      exact implInstrOk_at (n1 := 5) (n2' := 0) (n3' := 0) 11 (by decide) (by decide) (by decide) (by decide) (by decide) (hC 10 (by decide)).2.1 (hC 10 (by decide)).2.2.1 (hC 10 (by decide)).2.2.2
    · rw [← e12]
      exact implInstrOk_at (n1 := 6) (n2' := 0) (n3' := 0) 12 (by decide) (by decide) (by decide) (by decide) (by decide) (hC 11 (by decide)).2.1 (hC 11 (by decide)).2.2.1 (hC 11 (by decide)).2.2.2
    · rw [← e13]
      exact implInstrOk_at (n1 := 6) (n2' := 0) (n3' := 0) 13 (by decide) (by decide) (by decide) (by decide) (by decide) (hC 12 (by decide)).2.1 (hC 12 (by decide)).2.2.1 (hC 12 (by decide)).2.2.2
    · rw [← e14]
      exact implInstrOk_at (n1 := 7) (n2' := 1) (n3' := 0) 14 (by decide) (by decide) (by decide) (by decide) (by decide) (hC 13 (by decide)).2.1 (hC 13 (by decide)).2.2.1 (hC 13 (by decide)).2.2.2
    · rw [← e15]
      exact implInstrOk_at (n1 := 1) (n2' := 0) (n3' := 0) 15 (by decide) (by decide) (by decide) (by decide) (by decide) (hC 14 (by decide)).2.1 (hC 14 (by decide)).2.2.1 (hC 14 (by decide)).2.2.2
  · have e0 : instrOkB n0 n2 n3 mus n op a b c = false := by
      unfold instrOkB
      repeat rw [if_neg (by omega)]
    rw [e0]
    have e1 := inB_no h
    clear h hC e0
    go_enter Tryz.func171, Tryz.ntmps171
    go_wp2_with fail
    refine (isOp_any _ _).mono ?_
    rw [e1]
    rintro e w1 ⟨rfl, rfl⟩
    go_wp2_with fail
    go_ret
    exact ⟨rfl, by go_grown⟩
end Go.Proofs.YtghkdkagnibkgaaGreatDoor
