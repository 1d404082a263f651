
/- What was met, kept in a map with structs as keys; the contract of first. -/

import Derived.Test.YtgfkadhojlddpaaDoorBase

import Derived.Test.YtgfkadhojlddpaaDoorRows

import Derived.Maps.OwnOps

import Derived.Maps.Views

import Derived.DeepKeys4

import Derived.MapViews

import Derived.WideKeyEntry

import Derived.RegionTactic

import Derived.ChangeAlike

import Derived.Handy

namespace Go.Proofs.YtgfkadhojlddpaaDoor
set_option linter.unusedSimpArgs false
set_option linter.unusedVariables false
open Go.RowKit Go.MapKept Go.ChangeMaps

open Go.Maps (Keyed)

open Go.WideElems (Fit rd rg pl rd_key rd_val)

section

variable {P : Program} {w : World} {t k e : TypeId} {B n : Nat} {D : DataW Unit} {key : Value} {kl : Lit}

theorem look_one (K : Keyed P k) (ht : P.underlying t = some (.map k e)) {es : Array MapEntry} {clock : Nat} {z : Value} (hz : (zeroValue e).run P w = .ok z w) (hb : w.heap[B]? = some (.map es clock)) (hk : ∀ x ∈ es.toList, ∃ l, keyOf P k x.key = some l)
    (hkey : keyOf P k key = some kl) {v : Value} (h1 : ∃ x ∈ es.toList, x.key = key) (h2 : ∀ x ∈ es.toList, x.key = key → x.val = v) :
    (Go.Instr.lookup t (.map (some B)) key false).run P w = .ok v w := by
  rcases K.find w hkey es.toList hk with ⟨a1, a2⟩ | ⟨j, e0, a1, a2, a3⟩
  · obtain ⟨x, hx, hxk⟩ := h1
    exact absurd hxk (a2 x hx)
  · have := h2 e0 (List.mem_of_getElem? a2) a3
    simp [Go.Instr.lookup, run_underlying ht, MapKept.run_getObj_map hb, K.check w _ hkey, a1, this, Result.andThen]

/-- 'm[key] = .. m[key] ..' over integers, in the operations that the translation lays: whatever order the first two come in. -/
theorem bump_any (K : WideMaps.KeyLaw P k) (ht : P.underlying t = some (.map k e)) (he : P.underlying e = some (.int .i64)) (hz : ∀ u : World, (zeroValue e).run P u = .ok (.int .i64 0) u)
    (h : w.ownsMap P k (plainElem P e) B n D) (hn : n < maxLen) (hkey : keyOf P k key = some kl) :
    ∃ (c : Int) (st : Nat) (w1 : World), D.atKey kl (.lit (.int .i64 0)) = .lit (.int .i64 c) ∧ (Lit.int .i64 c).wf = true ∧
      (Go.Instr.lookup t (.map (some B)) key false).run P w = .ok (.int .i64 c) w ∧
      (Go.Instr.mapEntry t (.map (some B)) key).run P w = .ok (.tuple #[.int .i64 c, .int .i64 st]) w1 ∧
      (Go.Instr.lookup t (.map (some B)) key false).run P w1 = .ok (.int .i64 c) w1 ∧
      ∀ c' : Int, (Lit.int .i64 c').wf = true → ∃ w3, (Go.Instr.entryStore t (.map (some B)) (.int .i64 st) (.int .i64 c')).run P w1 = .ok () w3 ∧
        w3.ownsMap P k (plainElem P e) B (n + 1) (D.put kl (.lit (.int .i64 c'))) ∧ w.grownBy w3 (some B) := by
  obtain ⟨c, hl, hat, hwc⟩ := h.lookup_int (Keyed.of_law K) ht he (hz w) hkey
  have hstore := fun (c' : Int) (hc : (Lit.int .i64 c').wf = true) => h.update (val := .int .i64 c') (Keyed.of_law K) ht hn hkey (plainElem_int he hc)
  obtain ⟨es, clock, hb, F, hs, hD⟩ := h
  obtain ⟨v0, st, es1, clock1, hent, hv0, hst⟩ := Go.WideElems.entry_then_store K ht hz hb F hkey
  have hb1 : (setBlock w B (.map es1 clock1)).heap[B]? = some (.map es1 clock1) := heap_setBlock_same hb _
  have hsame : ∀ {v' : Value} {s' : Nat} {es2 : Array MapEntry} {clock2 : Nat}, (Go.Instr.mapEntry t (.map (some B)) key).run P w = .ok (.tuple #[v', goInt s']) (setBlock w B (.map es2 clock2)) → v0 = v' ∧ es1 = es2 := by
    intro v' s' es2 clock2 h2
    rw [hent] at h2
    injection h2 with h3 h4
    injection h3 with h3
    have h5 := congrArg (fun W : World => W.heap[B]?) h4
    simp only [hb1, heap_setBlock_same hb] at h5
    injection h5 with h5
    injection h5 with h5 h6
    refine ⟨?_, h5⟩
    simp at h3
    exact h3.1
  have hkeys : ∀ x ∈ es.toList, ∃ l, keyOf P k x.key = some l := F.keys
  obtain ⟨hstA, hstB⟩ : ((∃ x ∈ es1.toList, x.key = key) ∧ (∀ x ∈ es1.toList, x.key = key → x.val = v0) ∧ ∀ x ∈ es1.toList, ∃ l, keyOf P k x.key = some l) ∧ v0 = .int .i64 c := by
    rcases K.find w hkey es.toList hkeys with ⟨h1, h2⟩ | ⟨j, e0, h1, h2, h3⟩
    · have hrun : (Go.Instr.mapEntry t (.map (some B)) key).run P w = .ok (.tuple #[.int .i64 0, goInt clock]) (setBlock w B (.map (es.push ⟨key, .int .i64 0, clock⟩) (clock + 1))) := by
        simp [Go.Instr.mapEntry, run_underlying ht, MapKept.run_getObj_map hb, K.check w false hkey, h1, hz, MapKept.run_setObj_map _ hb, Result.andThen, setBlock]
      obtain ⟨rfl, rfl⟩ := hsame hrun
      have hl2 : (Go.Instr.lookup t (.map (some B)) key false).run P w = .ok (.int .i64 0) w := by
        simp [Go.Instr.lookup, run_underlying ht, MapKept.run_getObj_map hb, K.check w _ hkey, h1, hz, Result.andThen]
      rw [hl2] at hl
      injection hl with hl _
      refine ⟨⟨⟨⟨key, .int .i64 0, clock⟩, by simp, rfl⟩, fun x hx hxk => ?_, fun x hx => ?_⟩, hl⟩
      · simp only [Array.toList_push, List.mem_append, List.mem_singleton] at hx
        rcases hx with hx | rfl
        · exact absurd hxk (h2 x hx)
        · rfl
      · simp only [Array.toList_push, List.mem_append, List.mem_singleton] at hx
        rcases hx with hx | rfl
        · exact hkeys x hx
        · exact ⟨kl, hkey⟩
    · have hj : es[j]? = some e0 := by simpa using h2
      have hm : es.modify j (fun e => { e with key := key }) = es := by
        apply Array.ext'
        rw [Array.toList_modify, modify_eq_set _ _ _ _ h2]
        have : ({ e0 with key := key } : MapEntry) = e0 := by rw [← h3]
        rw [this]
        exact Go.WideElems.set_self _ _ _ h2
      have hrun : (Go.Instr.mapEntry t (.map (some B)) key).run P w = .ok (.tuple #[e0.val, goInt e0.born]) (setBlock w B (.map es clock)) := by
        simp [Go.Instr.mapEntry, run_underlying ht, MapKept.run_getObj_map hb, K.check w false hkey, h1, hj, h3, K.stays w hkey, hm, MapKept.run_setObj_map _ hb, Result.andThen, setBlock]
      obtain ⟨rfl, rfl⟩ := hsame hrun
      have hl2 : (Go.Instr.lookup t (.map (some B)) key false).run P w = .ok e0.val w := by
        simp [Go.Instr.lookup, run_underlying ht, MapKept.run_getObj_map hb, K.check w _ hkey, h1, Result.andThen]
      rw [hl2] at hl
      injection hl with hl _
      refine ⟨⟨⟨e0, List.mem_of_getElem? h2, h3⟩, fun x hx hxk => ?_, hkeys⟩, hl⟩
      obtain ⟨i, hi⟩ := List.getElem?_of_mem hx
      by_cases hij : i = j
      · subst hij
        rw [h2] at hi
        injection hi with hi
        rw [hi]
      · exact absurd (hxk.trans h3.symm) (h3.symm ▸ Go.WideElems.other_key F h2 hi hij)
  subst hstB
  refine ⟨c, st, _, hat, hwc, hl, hent, look_one (Keyed.of_law K) ht (hz _) hb1 hstA.2.2 hkey hstA.1 hstA.2.1, fun c' hc => ?_⟩
  obtain ⟨es', clock', r1, r2⟩ := hst _ (.int .i64 c') hb1
  obtain ⟨w3, r3, r4, r5⟩ := hstore c' hc
  rw [r2] at r3
  injection r3 with _ r3
  refine ⟨w3, ?_, r4, r5⟩
  rw [← r3]
  have e2 : setBlock (setBlock w B (.map es1 clock1)) B (.map es' clock') = setBlock w B (.map es' clock') := by simp [setBlock]
  rw [← e2]
  exact r1
end

theorem laidOutP : laidOutB Tryd.prog = true := by kernel_rfl
theorem keyLaw : WideMaps.KeyLaw Tryd.prog 188 :=
  deep_law_laid laidOutP (m := 2) (by omega) (of_decide_eq_true (by kernel_rfl)) (by kernel_rfl) (by rw [Tryd.underlying188])
theorem zeroInt (w : World) : (zeroValue 3).run Tryd.prog w = .ok (.int .i64 0) w := by kernel_rfl

/-- What a target is told by as a key. -/
def keyL (a b : Int) : Lit := .string (keyBytes [.int .i64 a, .int .i64 b])
theorem keyL_of {a b : Int} (ha : (Lit.int .i64 a).wf = true) (hb : (Lit.int .i64 b).wf = true) : keyOf Tryd.prog 188 (.agg #[.int .i64 a, .int .i64 b]) = some (keyL a b) := by
  have h1 : Tryd.prog.keyType 188 = true := by kernel_rfl
  have h2 : (Value.agg #[.int .i64 a, .int .i64 b]).formed Tryd.prog 188 = true := by
    have : Tryd.prog.cellsOf 188 = 2 := by kernel_rfl
    simp [Value.formed, Tryd.underlying188, this]
  have h3 : Tryd.prog.keyLits (Tryd.prog.types.size + 1) 188 [.int .i64 a, .int .i64 b] = some [.int .i64 a, .int .i64 b] := by
    obtain ⟨m, hm⟩ : ∃ m, Tryd.prog.types.size = m + 1 := ⟨Tryd.prog.types.size - 1, by have : 1 ≤ Tryd.prog.types.size := of_decide_eq_true (by kernel_rfl); omega⟩
    have c1 : Tryd.prog.cellsOf 188 = 2 := by kernel_rfl
    have c2 : Tryd.prog.cellsOf 3 = 1 := by kernel_rfl
    rw [hm]
    simp [Program.keyLits, Tryd.underlying188, Tryd.underlying3, c1, c2, ha, hb]
  unfold keyOf
  rw [Tryd.underlying188]
  simp only [h1, h2, Bool.and_self, if_true]
  show (Option.map _ (Tryd.prog.keyLits (Tryd.prog.types.size + 1) 188 [.int .i64 a, .int .i64 b])) = _
  rw [h3]
  rfl

/-- Block B holds, as a map of counts, what was met. -/
def MapIs (w : World) (B : Nat) (met : List (Int × Int)) : Prop :=
  ∃ D : DataW Unit, w.ownsMap Tryd.prog 188 (plainElem Tryd.prog 3) B met.length D ∧ Go.Maps.IsMap D ∧
    ∀ a b, (Lit.int .i64 a).wf = true → (Lit.int .i64 b).wf = true → D.atKey (keyL a b) (.lit (.int .i64 0)) = .lit (.int .i64 (met.count (a, b) : Nat))

theorem MapIs.keep {w w' : World} {B : Nat} {met : List (Int × Int)} (h : MapIs w B met) (hk : w'.heap[B]? = w.heap[B]?) : MapIs w' B met := by
  obtain ⟨D, ⟨es, clock, hb, F, hs, hD⟩, h2⟩ := h
  exact ⟨D, ⟨es, clock, hk.trans hb, F, hs, hD⟩, h2⟩
theorem MapIs.made (w : World) : MapIs (w.alloc (.map #[] 0)) w.heap.size [] :=
  ⟨.map [], World.ownsMap_made _ _ _ _, ⟨[], rfl⟩, fun a b _ _ => by simp [DataW.atKey]⟩
theorem MapIs.lt {w : World} {B : Nat} {met : List (Int × Int)} (h : MapIs w B met) : B < w.heap.size := by
  obtain ⟨D, h, _⟩ := h
  exact h.lt

theorem wf_small {c : Int} (h : 0 ≤ c) (h2 : c ≤ 4611686018427387904) : (Lit.int .i64 c).wf = true := WalkArith.wf_i64 (by omega)

set_option maxRecDepth 100000 in
set_option maxHeartbeats 2000000 in
theorem first_any {w : World} {B : Nat} {met : List (Int × Int)} {a b : Int} (h : MapIs w B met) (ha : (Lit.int .i64 a).wf = true) (hb : (Lit.int .i64 b).wf = true) (hl : met.length ≤ 4294967296) :
    Calls Tryd.prog 148 #[.map (some B), .agg #[.int .i64 a, .int .i64 b]] w fun e w' => e = .returned (.bool (!met.contains (a, b))) ∧ MapIs w' B (met ++ [(a, b)]) ∧ Turned B (B + 1) w w' := by
  obtain ⟨D, hown, hD, hat⟩ := h
  have hB := hown.lt
  have hk := keyL_of ha hb
  have hcm := List.count_le_length (a := (a, b)) (l := met)
  obtain ⟨c, st, w1, hc, hwc, hl0, hent, hl1, hst⟩ := bump_any (w := (w.alloc (.cells #[.int .i64 a, .int .i64 b] 188)).drew) keyLaw Tryd.underlying184 Tryd.underlying3 zeroInt (hown.alloc (.cells #[.int .i64 a, .int .i64 b] 188)) (by unfold maxLen; omega) hk
  have hcc : c = (met.count (a, b) : Nat) := by
    have := hat a b ha hb
    rw [hc] at this
    injection this with this
    injection this
  obtain ⟨w3, hst3, hown3, hg3⟩ := hst (c + 1) (wf_small (by omega) (by omega))
  have hD3 : Go.Maps.IsMap (D.put (keyL a b) (.lit (.int .i64 (c + 1)))) := Go.Maps.IsMap.put hD _ _
  have hat3 : (D.put (keyL a b) (.lit (.int .i64 (c + 1)))).atKey (keyL a b) (.lit (.int .i64 0)) = .lit (.int .i64 (c + 1)) := Go.Maps.atKey_put_same hD (by unfold keyL; trivial) _ _
  obtain ⟨c3, hl3, hc3, _⟩ := hown3.lookup_int (Keyed.of_law keyLaw) Tryd.underlying184 Tryd.underlying3 (zeroInt _) hk
  have hc3' : c3 = c + 1 := by
    rw [hat3] at hc3
    injection hc3 with hc3
    injection hc3 with _ hc3
    exact hc3.symm
  subst hc3'
  have hpost : MapIs w3 B (met ++ [(a, b)]) := by
    refine ⟨_, by simpa using hown3, hD3, fun a' b' ha' hb' => ?_⟩
    by_cases he : (a', b') = (a, b)
    · injection he with e1 e2
      subst e1 e2
      rw [hat3, hcc]
      simp [List.count_append]
    · have hne : keyL a' b' ≠ keyL a b := fun e => he (by
        have h1 := keyL_of ha' hb'
        rw [e] at h1
        have := (Keyed.of_law keyLaw).inj h1 hk
        simp at this
        rw [this.1, this.2])
      rw [Go.Maps.atKey_put_other hne, hat a' b' ha' hb', List.count_append]
      simp [List.count_cons, Ne.symm he]
  have hbool : ((c + 1 : Int) == 1) = !met.contains (a, b) := by
    rw [hcc, Bool.eq_iff_iff]
    have h0 := List.count_eq_zero (a := (a, b)) (l := met)
    simp only [beq_iff_eq, Bool.not_eq_true', List.contains_eq_mem, decide_eq_false_iff_not, ← h0]
    omega
  have hturn : Turned B (B + 1) w w3 := ⟨hg3.os, hg3.tape, hg3.output, by have := hg3.size; simp at this; omega, fun i hi ho => by
    rw [hg3.block i (by simp; omega) (by simp; omega)]
    exact Below.heap_alloc w _ _ hi⟩
  have hcl : ∀ j, w3.cell? ⟨w.heap.size, j, none⟩ = (w.alloc (.cells #[.int .i64 a, .int .i64 b] 188)).cell? ⟨w.heap.size, j, none⟩ := fun j =>
    World.cell?_of_block (hg3.block _ (by simp) (by simp; omega))
  have hcl0 : w3.cell? ⟨w.heap.size, 0, none⟩ = some (.int .i64 a) := by rw [hcl]; simp
  have hcl1 : w3.cell? ⟨w.heap.size, 0 + 1, none⟩ = some (.int .i64 b) := by rw [hcl]; simp
  have hwr : wrap64 (c + 1) = c + 1 := by unfold wrap64; omega
  have HP := Lib.hid (And.intro hpost hturn)
  have hz3 := hturn.size
  have hlt3 : w.heap.size < w3.heap.size := by have := hg3.size; simp at this; omega
  clear hpost hturn hst hown hown3 hat hat3 hD hD3 hc hc3 hcl hg3 hcm hcc
  go_enter Tryd.func148, Tryd.ntmps148
  go_wp2
  go_region
  all_goals
    go_wp2
    go_ret
    exact ⟨by simp, HP.out⟩
end Go.Proofs.YtgfkadhojlddpaaDoor
