
/- Roll, RollB, RollC, Waits, merged for claims. -/

import Derived.Test.YtghkdkagnibkgaaGreatDoorGCasM

import Derived.Test.YtghkdkagnibkgaaGreatDoorGFieldI

import Derived.Maps.RangeWalk

import Derived.Test.YtghkdkagnibkgaaGreatDoorPlaceI

import Derived.Deep.Cut

import Derived.Carry

namespace Go.Proofs.YtghkdkagnibkgaaGreatDoor
set_option linter.unusedSimpArgs false
set_option linter.unusedVariables false
open Go.RowKit Go.MapKept Go.ChangeMaps

open Go.Maps (Keyed)

theorem keyLawP : WideMaps.KeyLaw Tryz.prog 174 :=
  deep_law_laid laidOutP (m := 3) (by omega) (of_decide_eq_true (by kernel_rfl)) (by kernel_rfl) (by rw [Tryz.underlying174])
/-- What a place is told by as a key. -/
def keyP (x : DPlace) : Lit := .string (keyBytes [.bool x.fMutex, .int .i64 x.fObj, .bool x.fSend, .int .i64 x.fG, .int .i64 x.fCase, .int .i64 x.fVal])
theorem size3 : ∃ m, Tryz.prog.types.size = m + 2 := ⟨Tryz.prog.types.size - 2, by have : 2 ≤ Tryz.prog.types.size := of_decide_eq_true (by kernel_rfl); omega⟩
set_option maxRecDepth 100000 in
theorem keyP_of {x : DPlace} (h : wfP x) : keyOf Tryz.prog 174 (.agg (plC x).toArray) = some (keyP x) := by
  obtain ⟨ha, hb, hc, hd⟩ := h
  obtain ⟨mu, ob, sn, g, ca, va⟩ := x
  simp only at ha hb hc hd
  have h1 : Tryz.prog.keyType 174 = true := by kernel_rfl
  have h2 : (Value.agg (plC ⟨mu, ob, sn, g, ca, va⟩).toArray).formed Tryz.prog 174 = true := by
    have : Tryz.prog.cellsOf 174 = 6 := by kernel_rfl
    simp [Value.formed, Tryz.underlying174, this]
  have h3 : Tryz.prog.keyLits (Tryz.prog.types.size + 1) 174 (plC ⟨mu, ob, sn, g, ca, va⟩) = some [.bool mu, .int .i64 ob, .bool sn, .int .i64 g, .int .i64 ca, .int .i64 va] := by
    obtain ⟨m, hm⟩ := size3
    have c1 : Tryz.prog.cellsOf 174 = 6 := by kernel_rfl
    have c2 : Tryz.prog.cellsOf 3 = 1 := by kernel_rfl
    have c3 : Tryz.prog.cellsOf 4 = 1 := by kernel_rfl
    have c4 : Tryz.prog.cellsOf 166 = 3 := by kernel_rfl
    rw [hm]
    simp [Program.keyLits, Tryz.underlying174, Tryz.underlying3, Tryz.underlying4, Tryz.underlying166, c1, c2, c3, c4, ha, hb, hc, hd]
    rw [if_pos (by intro i hi; match i, hi with | 0, _ => simp | 1, _ => simp | 2, _ => simp)]
    rfl
  unfold keyOf
  rw [Tryz.underlying174]
  simp only [h1, h2, Bool.and_self, if_true]
  show (Option.map _ (Tryz.prog.keyLits (Tryz.prog.types.size + 1) 174 (plC ⟨mu, ob, sn, g, ca, va⟩))) = _
  rw [h3]
  rfl
set_option maxRecDepth 100000 in
theorem lits_int {d : Nat} {v : Value} {l : List Lit} (h : Tryz.prog.keyLits (d + 1) 3 [v] = some l) : ∃ z, v = .int .i64 z ∧ (Lit.int .i64 z).wf = true ∧ l = [.int .i64 z] := by
  unfold Program.keyLits at h
  rw [Tryz.underlying3] at h
  cases v <;> simp at h
  obtain ⟨⟨rfl, hw⟩, rfl⟩ := h
  exact ⟨_, rfl, hw, rfl⟩
set_option maxRecDepth 100000 in
theorem lits_bool {d : Nat} {v : Value} {l : List Lit} (h : Tryz.prog.keyLits (d + 1) 4 [v] = some l) : ∃ b, v = .bool b ∧ l = [.bool b] := by
  unfold Program.keyLits at h
  rw [Tryz.underlying4] at h
  cases v <;> simp at h
  subst h
  exact ⟨_, rfl, rfl⟩
set_option maxRecDepth 100000 in
theorem lits_waiter {d : Nat} {u v w : Value} {l : List Lit} (h : Tryz.prog.keyLits (d + 2) 166 [u, v, w] = some l) : ∃ a b c, u = .int .i64 a ∧ v = .int .i64 b ∧ w = .int .i64 c ∧ (Lit.int .i64 a).wf = true ∧ (Lit.int .i64 b).wf = true ∧ (Lit.int .i64 c).wf = true ∧ l = [.int .i64 a, .int .i64 b, .int .i64 c] := by
  have c2 : Tryz.prog.cellsOf 3 = 1 := by kernel_rfl
  have c4 : Tryz.prog.cellsOf 166 = 3 := by kernel_rfl
  unfold Program.keyLits at h
  rw [Tryz.underlying166] at h
  simp [c2, c4, Option.bind_eq_some_iff] at h
  obtain ⟨la, h0, _, ⟨lb, h1, _, ⟨lc, h2, rfl⟩, rfl⟩, rfl⟩ := h
  obtain ⟨a, rfl, wa, rfl⟩ := lits_int h0
  obtain ⟨b, rfl, wb, rfl⟩ := lits_int h1
  obtain ⟨c, rfl, wc, rfl⟩ := lits_int h2
  exact ⟨a, b, c, rfl, rfl, rfl, wa, wb, wc, rfl⟩
set_option maxRecDepth 100000 in
/-- Every key is a place. -/
theorem keyP_inv {v : Value} {kl : Lit} (h : keyOf Tryz.prog 174 v = some kl) : ∃ x, v = .agg (plC x).toArray ∧ wfP x ∧ kl = keyP x := by
  have c1 : Tryz.prog.cellsOf 174 = 6 := by kernel_rfl
  have c2 : Tryz.prog.cellsOf 3 = 1 := by kernel_rfl
  have c3 : Tryz.prog.cellsOf 4 = 1 := by kernel_rfl
  have c4 : Tryz.prog.cellsOf 166 = 3 := by kernel_rfl
  unfold keyOf at h
  rw [Tryz.underlying174] at h
  simp only at h
  split at h
  · rename_i hf
    rw [Bool.and_eq_true] at hf
    have hf2 := hf.2
    unfold Value.formed at hf2
    cases v <;> simp [Tryz.underlying174] at hf2
    rename_i cs
    rw [c1] at hf2
    obtain ⟨l, rfl⟩ : ∃ l : List Value, cs = l.toArray := ⟨cs.toList, by simp⟩
    simp at hf2
    match l, hf2 with
    | [v0, v1, v2, v3, v4, v5], _ =>
      obtain ⟨m, hm⟩ := size3
      rw [hm] at h
      rw [Option.map_eq_some_iff] at h
      obtain ⟨ls, h, rfl⟩ := h
      unfold Program.keyLits at h
      rw [Tryz.underlying174] at h
      simp [c1, c2, c3, c4, Value.cells, Option.bind_eq_some_iff] at h
      obtain ⟨la, h0, _, ⟨lb, h1, _, ⟨lc, h2, _, ⟨ld, h3, rfl⟩, rfl⟩, rfl⟩, rfl⟩ := h
      obtain ⟨mu, rfl, rfl⟩ := lits_bool h0
      obtain ⟨ob, rfl, w1, rfl⟩ := lits_int h1
      obtain ⟨sn, rfl, rfl⟩ := lits_bool h2
      obtain ⟨g, ca, va, rfl, rfl, rfl, w3, w4, w5, rfl⟩ := lits_waiter h3
      exact ⟨⟨mu, ob, sn, g, ca, va⟩, rfl, ⟨w1, w3, w4, w5⟩, rfl⟩
  · cases h
theorem keyP_inj {x y : DPlace} (hx : wfP x) (hy : wfP y) (h : keyP x = keyP y) : x = y := by
  have h1 := keyP_of hx
  rw [h] at h1
  have h2 := (Keyed.of_law keyLawP).inj h1 (keyP_of hy)
  obtain ⟨mu, ob, sn, g, ca, va⟩ := x
  obtain ⟨mu', ob', sn', g', ca', va'⟩ := y
  simp at h2
  obtain ⟨rfl, rfl, rfl, rfl, rfl, rfl⟩ := h2
  rfl

/-- Block B holds, for each place, how often it was told less how often it was found. -/
def RollIs (w : World) (B : Nat) (a b : List DPlace) : Prop :=
  ∃ D : DataW Unit, w.ownsMap Tryz.prog 174 (plainElem Tryz.prog 3) B (a.length + b.length) D ∧ Go.Maps.IsMap D ∧
    ∀ x, wfP x → D.atKey (keyP x) (.lit (.int .i64 0)) = .lit (.int .i64 ((a.count x : Int) - (b.count x : Int)))
theorem RollIs.keep {w w' : World} {B : Nat} {a b : List DPlace} (h : RollIs w B a b) (hk : w'.heap[B]? = w.heap[B]?) : RollIs w' B a b := by
  obtain ⟨D, ⟨es, clock, hb, F, hs, hD⟩, h2⟩ := h
  exact ⟨D, ⟨es, clock, hk.trans hb, F, hs, hD⟩, h2⟩
theorem RollIs.lt {w : World} {B : Nat} {a b : List DPlace} (h : RollIs w B a b) : B < w.heap.size := by
  obtain ⟨D, h, _⟩ := h
  exact h.lt
theorem RollIs.made (w : World) : RollIs (w.alloc (.map #[] 0)) w.heap.size [] [] :=
  ⟨.map [], World.ownsMap_made _ _ _ _, ⟨[], rfl⟩, fun x _ => by simp [DataW.atKey]⟩
set_option maxRecDepth 100000 in
/-- One place more is told or found: what the operations of 'm[key]++' and 'm[key]--' do, whatever order the first come in. -/
theorem RollIs.bump {w : World} {B : Nat} {a b : List DPlace} {x : DPlace} (h : RollIs w B a b) (hx : wfP x) (hl : a.length + b.length ≤ 4194304) :
    ∃ (c : Int) (st : Nat) (w1 : World), (Go.Instr.lookup 188 (.map (some B)) (.agg (plC x).toArray) false).run Tryz.prog w = .ok (.int .i64 c) w ∧
      (Go.Instr.mapEntry 188 (.map (some B)) (.agg (plC x).toArray)).run Tryz.prog w = .ok (.tuple #[.int .i64 c, .int .i64 st]) w1 ∧
      (Go.Instr.lookup 188 (.map (some B)) (.agg (plC x).toArray) false).run Tryz.prog w1 = .ok (.int .i64 c) w1 ∧ (-4194304 ≤ c ∧ c ≤ 4194304) ∧
      (∃ w3, (Go.Instr.entryStore 188 (.map (some B)) (.int .i64 st) (.int .i64 (c + 1))).run Tryz.prog w1 = .ok () w3 ∧ RollIs w3 B (a ++ [x]) b ∧ w.grownBy w3 (some B)) ∧
      (∃ w3, (Go.Instr.entryStore 188 (.map (some B)) (.int .i64 st) (.int .i64 (c - 1))).run Tryz.prog w1 = .ok () w3 ∧ RollIs w3 B a (b ++ [x]) ∧ w.grownBy w3 (some B)) := by
  obtain ⟨D, hown, hD, hat⟩ := h
  have hk := keyP_of hx
  obtain ⟨c, st, w1, hc, hwc, hl0, hent, hl1, hst⟩ := bump_any keyLawP Tryz.underlying188 Tryz.underlying3 zeroInt hown (by unfold maxLen; omega) hk
  have hca := List.count_le_length (a := x) (l := a)
  have hcb := List.count_le_length (a := x) (l := b)
  have hcc : c = (a.count x : Int) - (b.count x : Int) := by
    have := hat x hx
    rw [hc] at this
    injection this with this
    injection this
  have hput : ∀ (d : Int) (y : DPlace), wfP y → (D.put (keyP x) (.lit (.int .i64 d))).atKey (keyP y) (.lit (.int .i64 0)) = if y = x then .lit (.int .i64 d) else .lit (.int .i64 ((a.count y : Int) - (b.count y : Int))) := by
    intro d y hy
    by_cases he : y = x
    · subst he
      rw [if_pos rfl]
      exact Go.Maps.atKey_put_same hD (by unfold keyP; trivial) _ _
    · rw [if_neg he, Go.Maps.atKey_put_other (fun e => he (keyP_inj hy hx e)), hat y hy]
  refine ⟨c, st, w1, hl0, hent, hl1, by omega, ?_, ?_⟩
  · obtain ⟨w3, h1, h2, h3⟩ := hst (c + 1) (WalkArith.wf_i64 (by omega))
    refine ⟨w3, h1, ⟨_, by rw [List.length_append]; have e : a.length + [x].length + b.length = a.length + b.length + 1 := by simp; omega
                           rw [e]; exact h2, Go.Maps.IsMap.put hD _ _, fun y hy => ?_⟩, h3⟩
    rw [hput _ y hy, List.count_append]
    by_cases he : y = x
    · subst he
      rw [if_pos rfl, hcc]
      simp [List.count_cons]
      omega
    · rw [if_neg he]
      simp [List.count_cons, Ne.symm he]
  · obtain ⟨w3, h1, h2, h3⟩ := hst (c - 1) (WalkArith.wf_i64 (by omega))
    refine ⟨w3, h1, ⟨_, by rw [List.length_append]; exact h2, Go.Maps.IsMap.put hD _ _, fun y hy => ?_⟩, h3⟩
    rw [hput _ y hy, List.count_append]
    by_cases he : y = x
    · subst he
      rw [if_pos rfl, hcc]
      simp [List.count_cons]
      omega
    · rw [if_neg he]
      simp [List.count_cons, Ne.symm he]
theorem turned_grown {w w' : World} {B : Nat} (h : w.grownBy w' (some B)) : Turned B (B + 1) w w' :=
  ⟨h.os, h.tape, h.output, h.size, fun i hi ho => h.block i hi (by simp; omega)⟩

set_option maxRecDepth 100000 in
set_option maxHeartbeats 4000000 in
theorem tell_any {w : World} {B n cp c9 : Nat} {A : Option Addr} {a b ps : List DPlace} {F : Nat → Prop} (h : RollIs w B a b) (hs : OwnR layPlace 174 w F A n c9 ps) (hF : ∀ g, F g → B < g ∧ g < w.heap.size) (hn : n ≤ 1048576) (hl : a.length + n + b.length ≤ 4194304) (hw : ∀ x ∈ ps, wfP x) :
    Calls Tryz.prog 133 #[.map (some B), .slice A n cp] w fun e w' => e = .returned (.tuple #[]) ∧ RollIs w' B (a ++ ps) b ∧ Turned B (B + 1) w w' := by
  have HL := Lib.hid hs.1
  have HW := Lib.hid hw
  have HS := Lib.hid (fun (W : World) (hW : Turned B (B + 1) w W) => (hs.stay (w' := W) (fun g hg hlt => hW.block g hlt (.inr (by have := hF g hg; omega))) hW.size).seen (hi := W.heap.size) (fun g hg => by have := hF g hg; have := hW.size; omega))
  go_enter Tryz.func133, Tryz.ntmps133
  go_wp2_with fail
  go_loopw [8] (fun i wr => ∃ k : Nat, k ≤ n ∧ i = .int .i64 k ∧ RollIs wr B (a ++ ps.take k) b ∧ Turned B (B + 1) w wr) (fun i _ => n - (intOf i).toNat)
  case atStart => exact ⟨0, Nat.zero_le _, rfl, by simpa using h, Turned.refl _ _ _⟩
  case round =>
    obtain ⟨k, hk, rfl, hr, ht⟩ := hrel
    by_cases hlt : k < n
    · obtain ⟨hx, g, o, vs, rfl, hg, ⟨rfl, hwx⟩, hcell⟩ := (HS.out wr ht).at_ hlt
      have hdk := Lib.hid (List.getElem?_eq_getElem hx)
      generalize ps[k] = x at *
      have cc0 := hcell 0 _ rfl
      have cc1 := hcell 1 _ rfl
      have cc2 := hcell 2 _ rfl
      have cc3 := hcell 3 _ rfl
      have cc4 := hcell 4 _ rfl
      have cc5 := hcell 5 _ rfl
      simp only [show layPlace.size = 6 from rfl, ← Nat.add_assoc, Nat.add_zero] at cc0 cc1 cc2 cc3 cc4 cc5
      clear hcell
      have hBr := hr.lt
      have hb0 : Below wr.heap.size wr (wr.alloc (.cells (plC x).toArray 174)).drew := ((Below.refl _ _).alloc (Nat.le_refl _) _).drew
      obtain ⟨c, st, w1, l0, ent, l1, hcr, ⟨w3, hst, hr3, hg3⟩, -⟩ := RollIs.bump (hr.keep (w' := (wr.alloc (.cells (plC x).toArray 174)).drew) (hb0.block _ hBr)) hwx (by rw [List.length_append, List.length_take]; omega)
      have hwr : wrap64 (c + 1) = c + 1 := by unfold wrap64; omega
      have HR3 := Lib.hid hr3
      have HT3 := Lib.hid (ht.trans ((Turned.of_below hb0 B (B + 1)).trans (turned_grown hg3)))
      clear hr3 hg3 hr
      go_wp2
      go_region
      all_goals
        go_wp2
        go_roundw
        case rel => exact ⟨k + 1, by omega, by go_num, by rw [List.take_add_one, hdk.out]; simpa using HR3.out, HT3.out⟩
        case measure => simp [intOf]; omega
    · obtain rfl : k = n := by omega
      rw [List.take_of_length_le (by rw [HL.out]; exact Nat.le_refl _)] at hr
      have HR := Lib.hid hr
      clear hr
      go_wp2_with fail
      refine bodyPost_end (v := .tuple #[]) ?_ rfl ?_; · simp [results, Tryz.results133, go_sem]
      exact ⟨rfl, HR.out, ht⟩
end Go.Proofs.YtghkdkagnibkgaaGreatDoor

namespace Go.Proofs.YtghkdkagnibkgaaGreatDoor
set_option linter.unusedSimpArgs false
set_option linter.unusedVariables false
open Go.RowKit Go.MapKept Go.ChangeMaps

open Go.Maps (Keyed)

set_option maxRecDepth 100000 in
set_option maxHeartbeats 4000000 in
theorem isEven_any {w : World} {B : Nat} {a b : List DPlace} (h : RollIs w B a b) (ha : ∀ x ∈ a, wfP x) (hb : ∀ x ∈ b, wfP x) :
    Calls Tryz.prog 137 #[.map (some B)] w fun e w' => e = .returned (.bool (decide (a.Perm b))) ∧ Below w.heap.size w w' := by
  obtain ⟨D, hown, hD, hat⟩ := h
  have HA := Lib.hid hat
  have HWA := Lib.hid ha
  have HWB := Lib.hid hb
  have HB := Lib.hid hown.lt
  clear hat ha hb
  go_enter Tryz.func137, Tryz.ntmps137
  go_wp2_with (first | (at_range; refine wpList_range_own _ rfl _ 188 rfl 174 3 (Keyed.of_law keyLawP) Tryz.underlying188 _ B _ D rfl hown ?_; intro w0 hrg0 hg0 hs0) | go_in)
  go_frame
  go_loopw [4] (fun _ wr => ∃ (left : Lit → Bool) (cnt : Nat), wr.ranges Tryz.prog 174 (plainElem Tryz.prog 3) B w.heap.size (a.length + b.length) D left cnt ∧ Hid (∀ y, wfP y → left (keyP y) = false → D.atKey (keyP y) (.lit (.int .i64 0)) = .lit (.int .i64 0)) ∧ Below w.heap.size w wr) (fun _ wr => wr.rangeLeft B w.heap.size)
  case atStart => exact ⟨_, _, hrg0, Lib.hid (fun y _ hl => Go.Maps.atKey_of_not_has hl _), ⟨hg0.os, hg0.tape, hg0.output, hg0.size, fun i hi => hg0.block i hi (by simp)⟩⟩
  case round =>
    obtain ⟨left, cnt, hrg, HZ, hbr⟩ := hrel
    go_wp2_with (first | (at_next; refine wpList_next_ranges _ rfl _ rfl 174 (Keyed.of_law keyLawP) (plainElem Tryz.prog 3) (fun x : DPlace => .agg (plC x).toArray) (Value.int .i64) (fun key kl hkey => by obtain ⟨x, hx, -, -⟩ := keyP_inv hkey; exact ⟨x, hx⟩) (fun v y hv => by obtain ⟨c, rfl, _⟩ := plainElem_int_inv Tryz.underlying3 hv; exact ⟨c, rfl⟩) B w.heap.size _ D left cnt rfl hrg ?_ ?_) | go_in)
    · intro hc0 hl0
      have HR := Lib.hid (show decide (a.Perm b) = true from decide_eq_true ((even_perm a b).2 fun y => by
        by_cases hy : wfP y
        · have h1 := HZ.out y hy (hl0 _)
          rw [HA.out y hy] at h1
          injection h1 with h1
          injection h1
        · rw [List.count_eq_zero.2 (fun hm => hy (HWA.out y hm)), List.count_eq_zero.2 (fun hm => hy (HWB.out y hm))]
          rfl))
      clear HZ hrg
      go_wp2_with fail
      go_ret
      exact ⟨by rw [HR.out]; rfl, hbr⟩
    · intro x c kl y1 y2 w1 cnt1 hkey hlk hv hat hrg1 hlt hg1 hs1 hen
      obtain ⟨x', hx', hwx, rfl⟩ := keyP_inv hkey
      have hxx : x = x' := by
        obtain ⟨mu, ob, sn, g, ca, va⟩ := x
        obtain ⟨mu', ob', sn', g', ca', va'⟩ := x'
        simp at hx'
        obtain ⟨rfl, rfl, rfl, rfl, rfl, rfl⟩ := hx'
        rfl
      subst hxx
      obtain ⟨c', ec, ez, hwc⟩ := plainElem_int_inv Tryz.underlying3 hv
      injection ec with _ ec
      subst ec
      injection ez with ez1 ez2
      subst ez1 ez2
      have HAT := Lib.hid hat
      have hb1 : Below w.heap.size w w1 := hbr.trans ⟨hg1.os, hg1.tape, hg1.output, hg1.size, fun i hi => hg1.block i (by have := hbr.size; omega) (by simp; omega)⟩
      have HB1 := Lib.hid hb1
      have HRG1 := Lib.hid hrg1
      have HM := Lib.hid (show w1.rangeLeft B w.heap.size < wr.rangeLeft B w.heap.size by rw [hrg1.left_eq, hrg.left_eq]; exact hlt)
      clear hat hb1 hrg1 hv hkey hx'
      by_cases h0 : c = 0
      · subst h0
        go_wp2_with fail
        go_roundw
        case rel =>
          refine ⟨_, _, HRG1.out, Lib.hid (fun y hy hl => ?_), HB1.out⟩
          simp only [Bool.and_eq_false_iff, Bool.not_eq_false'] at hl
          rcases hl with hl | hl
          · exact HZ.out y hy hl
          · rw [WideAt.sameKey_eq hl]
            exact HAT.out _
        case measure => exact HM.out
      · have q0 : (c != 0) = true := by simp [h0]
        have HR := Lib.hid (show decide (a.Perm b) = false from decide_eq_false (fun hp => h0 (by
          have h1 := (even_perm a b).1 hp x
          have h2 := HA.out x hwx
          rw [HAT.out] at h2
          injection h2 with h2
          injection h2 with _ h2
          omega)))
        clear h0
        go_wp2_with fail
        go_ret
        exact ⟨by rw [HR.out]; rfl, HB1.out⟩

set_option maxRecDepth 100000 in
set_option maxHeartbeats 4000000 in
theorem findChan_any {w : World} {B hi : Nat} {a b : List DPlace} {x : DChan} {vs : List Value} {num : Int} (h : RollIs w B a b) (hs : layChan.see w hi x vs) (hhi : hi ≤ w.heap.size) (hB : hi ≤ B) (hl : a.length + b.length + szChan x ≤ 4194304) (hnum : (Lit.int .i64 num).wf = true) :
    Calls Tryz.prog 135 #[.map (some B), .int .i64 num, .agg vs.toArray] w fun e w' => e = .returned (.tuple #[]) ∧ RollIs w' B a (b ++ atChan num x) ∧ Turned B (B + 1) w w' := by
  obtain ⟨A1, n1, c1, A2, n2, c2, A3, n3, c3, rfl, -, -, ⟨hc2, hm2, s2⟩, ⟨hc3, hm3, s3⟩⟩ := seeChan hs
  have HL2 := Lib.hid s2.1
  have HL3 := Lib.hid s3.1
  have hn2 : n2 ≤ 4194304 := by have := s2.1; unfold szChan at hl; omega
  have hn3 : n3 ≤ 4194304 := by have := s3.1; unfold szChan at hl; omega
  have hl2 : a.length + b.length + n2 + n3 ≤ 4194304 := by have := s2.1; have := s3.1; unfold szChan at hl; omega
  have hBw := h.lt
  have hb0 : Below w.heap.size w (w.alloc (.cells #[.int .i64 x.fCap, .slice A1 n1 c1, .slice A2 n2 c2, .slice A3 n3 c3, .bool x.fClosed] 124)) := (Below.refl _ _).alloc (Nat.le_refl _) _
  have hbx := box_new w #[.int .i64 x.fCap, .slice A1 n1 c1, .slice A2 n2 c2, .slice A3 n3 c3, .bool x.fClosed] 124
  have hr0 := h.keep (hb0.block _ hBw)
  have hz0 : (w.alloc (.cells #[.int .i64 x.fCap, .slice A1 n1 c1, .slice A2 n2 c2, .slice A3 n3 c3, .bool x.fClosed] 124)).heap.size = w.heap.size + 1 := by simp
  have HS2 := Lib.hid (fun (W : World) (hW : Turned B (B + 1) (w.alloc (.cells #[.int .i64 x.fCap, .slice A1 n1 c1, .slice A2 n2 c2, .slice A3 n3 c3, .bool x.fClosed] 124)) W) => (s2.below hb0 hhi).keep (w' := W) fun k hk => hW.block k (by omega) (.inl (by omega)))
  have HS3 := Lib.hid (fun (W : World) (hW : Turned B (B + 1) (w.alloc (.cells #[.int .i64 x.fCap, .slice A1 n1 c1, .slice A2 n2 c2, .slice A3 n3 c3, .bool x.fClosed] 124)) W) => (s3.below hb0 hhi).keep (w' := W) fun k hk => hW.block k (by omega) (.inl (by omega)))
  have HBX := Lib.hid (fun (W : World) (hW : Turned B (B + 1) (w.alloc (.cells #[.int .i64 x.fCap, .slice A1 n1 c1, .slice A2 n2 c2, .slice A3 n3 c3, .bool x.fClosed] 124)) W) => show W.heap[w.heap.size]? = some (.cells #[.int .i64 x.fCap, .slice A1 n1 c1, .slice A2 n2 c2, .slice A3 n3 c3, .bool x.fClosed] 124 (0, 0)) from by rw [hW.block w.heap.size (by omega) (.inr (by omega))]; exact hbx)
  have HB0 := Lib.hid (Turned.of_below hb0 B (B + 1))
  clear h hs s2 s3 hb0
  go_enter Tryz.func135, Tryz.ntmps135
  go_upto_region 1 with (fail)
  generalize hW0 : (w.alloc (.cells #[.int .i64 x.fCap, .slice A1 n1 c1, .slice A2 n2 c2, .slice A3 n3 c3, .bool x.fClosed] 124)) = W0 at *
  clear hW0
  have x2 := box_cell (j := 2) hbx rfl
  have ht0 := Turned.refl B (B + 1) W0
  go_wp2_with fail
  clear x2
  go_loopw [13] (fun i wr => ∃ k : Nat, k ≤ n2 ∧ i = .int .i64 k ∧ RollIs wr B a (b ++ (x.fSends.take k).map (plW num true)) ∧ Turned B (B + 1) W0 wr) (fun i _ => n2 - (intOf i).toNat)
  case atStart => exact ⟨0, Nat.zero_le _, rfl, by simpa using hr0, ht0⟩
  case round =>
    rename World => wr
    obtain ⟨k, hk, rfl, hr, ht⟩ := hrel
    by_cases hlt : k < n2
    · obtain ⟨hx, g, o, vs, rfl, hg, ⟨rfl, hwx⟩, hcell⟩ := (HS2.out wr ht).at_ hlt
      have hdk := Lib.hid (List.getElem?_eq_getElem hx)
      generalize x.fSends[k] = d at *
      have cc0 := hcell 0 _ rfl
      have cc1 := hcell 1 _ rfl
      have cc2 := hcell 2 _ rfl
      simp only [show layWaiter.size = 3 from rfl, ← Nat.add_assoc, Nat.add_zero] at cc0 cc1 cc2
      clear hcell
      have hBr := hr.lt
      have hb0 : Below wr.heap.size wr (wr.alloc (.cells #[.int .i64 d.fG, .int .i64 d.fCase, .int .i64 d.fVal] 166)).drew := ((Below.refl _ _).alloc (Nat.le_refl _) _).drew
      obtain ⟨c, st, w1, l0, ent, l1, hcr, -, ⟨w3, hst, hr3, hg3⟩⟩ := RollIs.bump (x := plW num true d) (hr.keep (w' := (wr.alloc (.cells #[.int .i64 d.fG, .int .i64 d.fCase, .int .i64 d.fVal] 166)).drew) (hb0.block _ hBr)) ⟨hnum, hwx.1, hwx.2.1, hwx.2.2⟩ (by simp only [List.length_append, List.length_map, List.length_take]; omega)
      simp only [plC, plW] at l0 ent l1
      have hwr : wrap64 (c - 1) = c - 1 := by unfold wrap64; omega
      have HR3 := Lib.hid hr3
      have HT3 := Lib.hid (ht.trans ((Turned.of_below hb0 B (B + 1)).trans (turned_grown hg3)))
      clear hr3 hg3 hr
      go_wp2
      go_region
      all_goals
        go_wp2
        go_roundw
        case rel => exact ⟨k + 1, by omega, by go_num, by rw [List.take_add_one, hdk.out, Option.toList_some, List.map_append, ← List.append_assoc]; exact HR3.out, HT3.out⟩
        case measure => simp [intOf]; omega
    · obtain rfl : k = n2 := by omega
      rw [List.take_of_length_le (by rw [HL2.out]; exact Nat.le_refl _)] at hr
      have x3 := box_cell (j := 3) (HBX.out wr ht) rfl
      have hr0 : RollIs wr B a (b ++ x.fSends.map (plW num true)) := hr
      have ht0 := ht
      clear hr ht
      go_wp2_with fail
      clear x3
      go_loopw [29] (fun i wr => ∃ k : Nat, k ≤ n3 ∧ i = .int .i64 k ∧ RollIs wr B a (b ++ x.fSends.map (plW num true) ++ (x.fRecvs.take k).map (plW num false)) ∧ Turned B (B + 1) W0 wr) (fun i _ => n3 - (intOf i).toNat)
      case atStart => exact ⟨0, Nat.zero_le _, rfl, by simpa using hr0, ht0⟩
      case round =>
        rename World => wr
        obtain ⟨k, hk, rfl, hr, ht⟩ := hrel
        by_cases hlt : k < n3
        · obtain ⟨hx, g, o, vs, rfl, hg, ⟨rfl, hwx⟩, hcell⟩ := (HS3.out wr ht).at_ hlt
          have hdk := Lib.hid (List.getElem?_eq_getElem hx)
          generalize x.fRecvs[k] = d at *
          have cc0 := hcell 0 _ rfl
          have cc1 := hcell 1 _ rfl
          have cc2 := hcell 2 _ rfl
          simp only [show layWaiter.size = 3 from rfl, ← Nat.add_assoc, Nat.add_zero] at cc0 cc1 cc2
          clear hcell
          have hBr := hr.lt
          have hb0 : Below wr.heap.size wr (wr.alloc (.cells #[.int .i64 d.fG, .int .i64 d.fCase, .int .i64 d.fVal] 166)).drew := ((Below.refl _ _).alloc (Nat.le_refl _) _).drew
          obtain ⟨c, st, w1, l0, ent, l1, hcr, -, ⟨w3, hst, hr3, hg3⟩⟩ := RollIs.bump (x := plW num false d) (hr.keep (w' := (wr.alloc (.cells #[.int .i64 d.fG, .int .i64 d.fCase, .int .i64 d.fVal] 166)).drew) (hb0.block _ hBr)) ⟨hnum, hwx.1, hwx.2.1, hwx.2.2⟩ (by simp only [List.length_append, List.length_map, List.length_take]; have := HL2.out; omega)
          simp only [plC, plW] at l0 ent l1
          have hwr : wrap64 (c - 1) = c - 1 := by unfold wrap64; omega
          have HR3 := Lib.hid hr3
          have HT3 := Lib.hid (ht.trans ((Turned.of_below hb0 B (B + 1)).trans (turned_grown hg3)))
          clear hr3 hg3 hr
          go_wp2
          go_region
          all_goals
            go_wp2
            go_roundw
            case rel => exact ⟨k + 1, by omega, by go_num, by rw [List.take_add_one, hdk.out, Option.toList_some, List.map_append, ← List.append_assoc]; exact HR3.out, HT3.out⟩
            case measure => simp [intOf]; omega
        · obtain rfl : k = n3 := by omega
          rw [List.take_of_length_le (by rw [HL3.out]; exact Nat.le_refl _)] at hr
          have HR := Lib.hid hr
          clear hr
          go_wp2_with fail
          refine bodyPost_end (v := .tuple #[]) ?_ rfl ?_; · simp [results, Tryz.results135, go_sem]
          exact ⟨rfl, by unfold atChan; rw [← List.append_assoc]; exact HR.out, HB0.out.trans ht⟩
end Go.Proofs.YtghkdkagnibkgaaGreatDoor

namespace Go.Proofs.YtghkdkagnibkgaaGreatDoor
set_option linter.unusedSimpArgs false
set_option linter.unusedVariables false
open Go.RowKit Go.MapKept Go.ChangeMaps

open Go.Maps (Keyed)

set_option maxRecDepth 100000 in
set_option maxHeartbeats 4000000 in
theorem findMutex_any {w : World} {B hi : Nat} {a b : List DPlace} {x : DMutex} {vs : List Value} {num : Int} (h : RollIs w B a b) (hs : layMutex.see w hi x vs) (hhi : hi ≤ w.heap.size) (hB : hi ≤ B) (hl : a.length + b.length + szMutex x ≤ 4194304) (hnum : (Lit.int .i64 num).wf = true) :
    Calls Tryz.prog 136 #[.map (some B), .int .i64 num, .agg vs.toArray] w fun e w' => e = .returned (.tuple #[]) ∧ RollIs w' B a (b ++ x.fWait.map (plM num)) ∧ Turned B (B + 1) w w' := by
  obtain ⟨A1, n1, c1, rfl, -, ⟨hc1, hm1, s1⟩⟩ := seeMutex hs
  have HL := Lib.hid s1.1
  have hn1 : n1 ≤ 4194304 := by have := s1.1; unfold szMutex at hl; omega
  have hl2 : a.length + b.length + n1 ≤ 4194304 := by have := s1.1; unfold szMutex at hl; omega
  have hBw := h.lt
  have hb0 : Below w.heap.size w (w.alloc (.cells #[.int .i64 x.fOwner, .slice A1 n1 c1] 91)) := (Below.refl _ _).alloc (Nat.le_refl _) _
  have hbx := box_new w #[.int .i64 x.fOwner, .slice A1 n1 c1] 91
  have hr0 := h.keep (hb0.block _ hBw)
  have hz0 : (w.alloc (.cells #[.int .i64 x.fOwner, .slice A1 n1 c1] 91)).heap.size = w.heap.size + 1 := by simp
  have HS := Lib.hid (fun (W : World) (hW : Turned B (B + 1) (w.alloc (.cells #[.int .i64 x.fOwner, .slice A1 n1 c1] 91)) W) => (s1.below hb0 hhi).keep (w' := W) fun k hk => hW.block k (by omega) (.inl (by omega)))
  have HB0 := Lib.hid (Turned.of_below hb0 B (B + 1))
  clear h hs s1 hb0
  go_enter Tryz.func136, Tryz.ntmps136
  go_upto_region 1 with (fail)
  generalize hW0 : (w.alloc (.cells #[.int .i64 x.fOwner, .slice A1 n1 c1] 91)) = W0 at *
  clear hW0
  have x1 := box_cell (j := 1) hbx rfl
  have ht0 := Turned.refl B (B + 1) W0
  go_wp2_with fail
  clear x1
  go_loopw [11] (fun i wr => ∃ k : Nat, k ≤ n1 ∧ i = .int .i64 k ∧ RollIs wr B a (b ++ (x.fWait.take k).map (plM num)) ∧ Turned B (B + 1) W0 wr) (fun i _ => n1 - (intOf i).toNat)
  case atStart => exact ⟨0, Nat.zero_le _, rfl, by simpa using hr0, ht0⟩
  case round =>
    rename World => wr
    obtain ⟨k, hk, rfl, hr, ht⟩ := hrel
    by_cases hlt : k < n1
    · obtain ⟨hx, g, o, vs, rfl, hg, ⟨rfl, hwx⟩, hcell⟩ := (HS.out wr ht).at_ hlt
      have hdk := Lib.hid (List.getElem?_eq_getElem hx)
      generalize x.fWait[k] = d at *
      have cc0 := hcell 0 _ rfl
      simp only [Lay.int, Lay.flat, Nat.add_zero, Nat.mul_one] at cc0
      clear hcell
      have hBr := hr.lt
      have hlen : a.length + (b ++ (x.fWait.take k).map (plM num)).length ≤ 4194304 := by simp only [List.length_append, List.length_map, List.length_take]; omega
      have HLEN := Lib.hid hlen
      have HRR := Lib.hid (fun (W : World) (hW : Below wr.heap.size wr.drew W) => RollIs.bump (x := plM num d) (hr.keep (w' := W) (hW.block _ hBr)) ⟨hnum, hwx, wf_m1, wf_0⟩ hlen)
      have HTR := Lib.hid ht
      have HDK := Lib.hid (show ∀ W, RollIs W B a (b ++ (x.fWait.take k).map (plM num) ++ [plM num d]) → RollIs W B a (b ++ (x.fWait.take (k + 1)).map (plM num)) from fun W hW => by rw [List.take_add_one, hdk.out, Option.toList_some, List.map_append, ← List.append_assoc]; exact hW)
      clear hr ht hdk
      go_wp2_with fail
      go_region_with (go_at_call 165; refine (lockPlace_any num d _).mono ?_; rintro e w5 ⟨rfl, hb5⟩; obtain ⟨c, st, w1, l0, ent, l1, hcr, -, ⟨w3, hst, hr3, hg3⟩⟩ := HRR.out w5 hb5; have hwr : wrap64 (c - 1) = c - 1 := (by unfold wrap64; omega); have hwk : IntKind.i64.wrap (c - 1) = c - 1 := ((IntKind.wrap_i64 _).trans (by omega)); have HR3 := Lib.hid hr3; have HT3 := Lib.hid (HTR.out.drew.trans ((Turned.of_below hb5 B (B + 1)).trans (turned_grown hg3))); clear hr3 hg3 hb5)
      all_goals
        go_wp2_with fail
        go_roundw
        case rel => exact ⟨k + 1, by omega, by go_num, HDK.out _ HR3.out, HT3.out⟩
        case measure => simp [intOf]; omega
    · obtain rfl : k = n1 := by omega
      rw [List.take_of_length_le (by rw [HL.out]; exact Nat.le_refl _)] at hr
      have HR := Lib.hid hr
      clear hr
      go_wp2_with fail
      refine bodyPost_end (v := .tuple #[]) ?_ rfl ?_; · simp [results, Tryz.results136, go_sem]
      exact ⟨rfl, HR.out, HB0.out.trans ht⟩
end Go.Proofs.YtghkdkagnibkgaaGreatDoor

namespace Go.Proofs.YtghkdkagnibkgaaGreatDoor
set_option linter.unusedSimpArgs false
set_option linter.unusedVariables false
open Go.RowKit Go.MapKept Go.ChangeMaps

open Go.Maps (Keyed)

theorem atChan_len (k : Int) (c : DChan) : (atChan k c).length ≤ szChan c := by
  unfold atChan szChan
  simp
  try omega
theorem foundC_step {cs : List DChan} {k : Nat} {c : DChan} (h : cs[k]? = some c) : foundC cs (k + 1) = foundC cs k ++ atChan k c := by
  unfold foundC
  rw [flat_step, h]
theorem foundM_step {ms : List DMutex} {k : Nat} {m : DMutex} (h : ms[k]? = some m) : foundM ms (k + 1) = foundM ms k ++ m.fWait.map (plM k) := by
  unfold foundM
  rw [flat_step, h]
theorem toldTo_step {p : DProg} {gs : List DGor} {k : Nat} {g : DGor} (h : gs[k]? = some g) : toldTo p gs (k + 1) = toldTo p gs k ++ toldOf p g k := by
  unfold toldTo
  rw [flat_step, h]
theorem foundC_len {cs : List DChan} : ∀ k, k ≤ cs.length → (foundC cs k).length ≤ ((cs.take k).map szChan).sum
  | 0, _ => by simp [foundC]
  | k + 1, hk => by
    have h1 := foundC_len k (by omega : k ≤ cs.length)
    have h2 : cs[k]? = some cs[k] := List.getElem?_eq_getElem (by omega)
    rw [foundC_step h2, List.length_append, sum_take_succ h2]
    have := atChan_len k cs[k]
    omega
theorem foundM_len {ms : List DMutex} : ∀ k, k ≤ ms.length → (foundM ms k).length ≤ ((ms.take k).map szMutex).sum
  | 0, _ => by simp [foundM]
  | k + 1, hk => by
    have h1 := foundM_len k (by omega : k ≤ ms.length)
    have h2 : ms[k]? = some ms[k] := List.getElem?_eq_getElem (by omega)
    rw [foundM_step h2, List.length_append, List.length_map, sum_take_succ h2]
    have : szMutex ms[k] = ms[k].fWait.length := rfl
    omega
theorem toldOf_len {p : DProg} {g : DGor} {n : Int} (hp : progOkB p = true) (hg : gorB (instrsZ p g.fProc) g = true) : (toldOf p g n).length ≤ 4 := by
  unfold toldOf
  split
  · exact placesL_len hp hg
  · simp
theorem toldTo_len {p : DProg} (hp : progOkB p = true) {gs : List DGor} (hg : ∀ g ∈ gs, gorB (instrsZ p g.fProc) g = true) : ∀ k, k ≤ gs.length → (toldTo p gs k).length ≤ 4 * k
  | 0, _ => by simp [toldTo]
  | k + 1, hk => by
    have h1 := toldTo_len hp hg k (by omega : k ≤ gs.length)
    have h2 : gs[k]? = some gs[k] := List.getElem?_eq_getElem (by omega)
    rw [toldTo_step h2, List.length_append]
    have := toldOf_len (n := k) hp (hg _ (List.getElem_mem (by omega : k < gs.length)))
    omega
theorem toldOf_wf {p : DProg} {g : DGor} {n : Int} (hp : progOkB p = true) (hg : gorB (instrsZ p g.fProc) g = true) (hn : (Lit.int .i64 n).wf = true) : ∀ x ∈ toldOf p g n, wfP x := by
  intro x hx
  unfold toldOf at hx
  split at hx
  · exact placesL_wf hp hg hn x hx
  · cases hx
theorem toldTo_wf {p : DProg} (hp : progOkB p = true) {gs : List DGor} (hl : gs.length ≤ 1048576) (hg : ∀ g ∈ gs, gorB (instrsZ p g.fProc) g = true) : ∀ x ∈ toldTo p gs gs.length, wfP x := by
  intro x hx
  unfold toldTo at hx
  obtain ⟨j, hj, hx⟩ := List.mem_flatMap.1 hx
  have hjl := List.mem_range.1 hj
  rw [List.getElem?_eq_getElem hjl] at hx
  exact toldOf_wf hp (hg _ (List.getElem_mem hjl)) (WalkArith.wf_i64 (by omega)) x hx
theorem seenW_wf {w : World} {hi n : Nat} {A : Option Addr} {l : List DWaiter} (h : SeenR layWaiter w hi A n l) : ∀ d ∈ l, (Lit.int .i64 d.fG).wf = true ∧ (Lit.int .i64 d.fCase).wf = true ∧ (Lit.int .i64 d.fVal).wf = true := by
  intro d hd
  obtain ⟨i, hi9⟩ := List.getElem?_of_mem hd
  have h8 := (List.getElem?_eq_some_iff.1 hi9)
  obtain ⟨hx, g, o, ws, -, -, ⟨rfl, hw⟩, -⟩ := h.at_ (i := i) (by rw [← h.1]; exact h8.1)
  rw [h8.2] at hw
  exact hw
theorem foundC_wf {w : World} {hi n : Nat} {A : Option Addr} {cs : List DChan} (h : SeenR layChan w hi A n cs) (hn : n ≤ 1048576) : ∀ x ∈ foundC cs cs.length, wfP x := by
  intro x hx
  unfold foundC at hx
  obtain ⟨j, hj, hx⟩ := List.mem_flatMap.1 hx
  have hjl := List.mem_range.1 hj
  rw [List.getElem?_eq_getElem hjl] at hx
  have hjn : j < n := by rw [← h.1]; exact hjl
  obtain ⟨_, g, o, ws, -, -, hsee, -⟩ := h.at_ hjn
  obtain ⟨A1, n1, c1, A2, n2, c2, A3, n3, c3, rfl, -, -, ⟨-, -, s2⟩, ⟨-, -, s3⟩⟩ := seeChan hsee
  have hk : (Lit.int .i64 ((j : Nat) : Int)).wf = true := WalkArith.wf_i64 (by omega)
  unfold atChan at hx
  rcases List.mem_append.1 hx with hx | hx
  · obtain ⟨d, hd, rfl⟩ := List.mem_map.1 hx
    have h9 := seenW_wf s2 d hd
    exact ⟨hk, h9.1, h9.2.1, h9.2.2⟩
  · obtain ⟨d, hd, rfl⟩ := List.mem_map.1 hx
    have h9 := seenW_wf s3 d hd
    exact ⟨hk, h9.1, h9.2.1, h9.2.2⟩
theorem foundM_wf {w : World} {hi n : Nat} {A : Option Addr} {ms : List DMutex} (h : SeenR layMutex w hi A n ms) (hn : n ≤ 1048576) : ∀ x ∈ foundM ms ms.length, wfP x := by
  intro x hx
  unfold foundM at hx
  obtain ⟨j, hj, hx⟩ := List.mem_flatMap.1 hx
  have hjl := List.mem_range.1 hj
  rw [List.getElem?_eq_getElem hjl] at hx
  have hjn : j < n := by rw [← h.1]; exact hjl
  obtain ⟨_, g, o, ws, -, -, hsee, -⟩ := h.at_ hjn
  obtain ⟨A1, n1, c1, rfl, -, ⟨-, -, s1⟩⟩ := seeMutex hsee
  obtain ⟨d, hd, rfl⟩ := List.mem_map.1 hx
  obtain ⟨i, hi9⟩ := List.getElem?_of_mem hd
  have h8 := (List.getElem?_eq_some_iff.1 hi9)
  obtain ⟨hx, g, o, ws, -, -, ⟨rfl, hw⟩, -⟩ := s1.at_ (i := i) (by rw [← s1.1]; exact h8.1)
  rw [h8.2] at hw
  exact ⟨WalkArith.wf_i64 (by simp only [plM]; omega), hw, wf_m1, wf_0⟩

set_option maxRecDepth 100000 in
set_option maxHeartbeats 8000000 in
theorem waitsAsTold_any {w : World} {hi : Nat} {p : DProg} {x : DEng} {vs us : List Value} (hp : layProg.see w hi p vs) (he : layEng.see w hi x us) (hhi : hi ≤ w.heap.size) (hnp : szProg p ≤ 1048576) (hne : szEng x ≤ 1048576) (hok : progOkB p = true) (hgs : ∀ g ∈ x.fGs, gorB (instrsZ p g.fProc) g = true) :
    Calls Tryz.prog 102 #[.agg vs.toArray, .agg us.toArray] w fun e w' => e = .returned (.bool (decide ((toldL p x).Perm (foundL x)))) ∧ Below w.heap.size w w' := by
  have HPS := Lib.hid (fun (W : World) (hW : ∀ k, k < w.heap.size → W.heap[k]? = w.heap[k]?) => layProg.keep hp (w' := W) fun k hk => hW k (by omega))
  obtain ⟨A0, n0, c0, B2, m2, d2, A3, n3, c3, rfl, -⟩ := seeProg hp
  obtain ⟨A4, n4, c4, A5, n5, c5, A6, n6, c6, rfl, ⟨hc4, hm4, s4⟩, ⟨hc5, hm5, s5⟩, ⟨hc6, hm6, s6⟩⟩ := seeEng he
  obtain ⟨gs, cs, ms⟩ := x
  simp only at s4 s5 s6 hgs
  have L4 := s4.1
  have L5 := s5.1
  have L6 := s6.1
  have hz : n4 + (gs.map szGor).sum + (n5 + (cs.map szChan).sum) + (n6 + (ms.map szMutex).sum) ≤ 1048576 := by unfold szEng at hne; simp only at hne; omega
  have HWT := Lib.hid (toldTo_wf hok (by omega) hgs)
  have HWF := Lib.hid (show ∀ y ∈ foundC cs cs.length ++ foundM ms ms.length, wfP y from fun y hy => by
    rcases List.mem_append.1 hy with hy | hy
    · exact foundC_wf s5 (by omega) y hy
    · exact foundM_wf s6 (by omega) y hy)
  have HS4 := Lib.hid (fun (W : World) (hW : ∀ k, k < w.heap.size → W.heap[k]? = w.heap[k]?) => s4.keep (w' := W) fun k hk => hW k (by omega))
  have HS5 := Lib.hid (fun (W : World) (hW : ∀ k, k < w.heap.size → W.heap[k]? = w.heap[k]?) => s5.keep (w' := W) fun k hk => hW k (by omega))
  have HS6 := Lib.hid (fun (W : World) (hW : ∀ k, k < w.heap.size → W.heap[k]? = w.heap[k]?) => s6.keep (w' := W) fun k hk => hW k (by omega))
  have HGS := Lib.hid hgs
  have HL4 := Lib.hid L4
  have HL5 := Lib.hid L5
  have HL6 := Lib.hid L6
  clear hp he hgs s4 s5 s6 hne L4 L5 L6
  unfold toldL foundL
  simp only
  have hB0 : Below w.heap.size w ((w.alloc (.cells #[.slice A0 n0 c0, .int .i64 p.fMus, .slice B2 m2 d2, .slice A3 n3 c3] 38)).alloc (.cells #[.slice A4 n4 c4, .slice A5 n5 c5, .slice A6 n6 c6] 44)) := ((Below.refl _ _).alloc (Nat.le_refl _) _).alloc (by simp) _
  have hP0 := box_keep (box_new w #[.slice A0 n0 c0, .int .i64 p.fMus, .slice B2 m2 d2, .slice A3 n3 c3] 38) ((Below.refl _ _).alloc (Nat.le_refl _) (.cells #[.slice A4 n4 c4, .slice A5 n5 c5, .slice A6 n6 c6] 44)) (by simp)
  have hE0 := box_new (w.alloc (.cells #[.slice A0 n0 c0, .int .i64 p.fMus, .slice B2 m2 d2, .slice A3 n3 c3] 38)) #[.slice A4 n4 c4, .slice A5 n5 c5, .slice A6 n6 c6] 44
  rw [World.size_alloc] at hE0
  have hz0 : ((w.alloc (.cells #[.slice A0 n0 c0, .int .i64 p.fMus, .slice B2 m2 d2, .slice A3 n3 c3] 38)).alloc (.cells #[.slice A4 n4 c4, .slice A5 n5 c5, .slice A6 n6 c6] 44)).heap.size = w.heap.size + 2 := by simp
  have hmm := @run_makeMap Tryz.prog
  go_enter Tryz.func102, Tryz.ntmps102
  go_upto_region 1 with (fail)
  generalize ((w.alloc (.cells #[.slice A0 n0 c0, .int .i64 p.fMus, .slice B2 m2 d2, .slice A3 n3 c3] 38)).alloc (.cells #[.slice A4 n4 c4, .slice A5 n5 c5, .slice A6 n6 c6] 44)) = W0 at *
  have hr1 := RollIs.made W0
  rw [hz0] at hr1
  have hb1 : Below W0.heap.size W0 (W0.alloc (.map #[] 0)) := (Below.refl _ _).alloc (Nat.le_refl _) _
  have hz1 : (W0.alloc (.map #[] 0)).heap.size = w.heap.size + 3 := by simp [hz0]
  have hP1 := box_keep hP0 hb1 (by omega)
  have hE1 := box_keep hE0 hb1 (by omega)
  have hB1 := hB0.trans (hb1.mono (by omega))
  go_upto_region 2 with (fail)
  generalize (W0.alloc (.map #[] 0)) = W1 at *
  clear hmm
  (try simp only [hz0])
  have HK := Lib.hid (fun (W : World) (hW : Turned (w.heap.size + 2) (w.heap.size + 3) W1 W) => show (∀ k, k < w.heap.size → W.heap[k]? = w.heap[k]?) from fun k hk => (hW.block k (by omega) (.inl (by omega))).trans (hB1.block k hk))
  have HP1 := Lib.hid (fun (W : World) (hW : Turned (w.heap.size + 2) (w.heap.size + 3) W1 W) => show W.heap[w.heap.size]? = some (.cells #[.slice A0 n0 c0, .int .i64 p.fMus, .slice B2 m2 d2, .slice A3 n3 c3] 38 (0, 0)) from by rw [hW.block _ (by omega) (.inl (by omega))]; exact hP1)
  have HE1 := Lib.hid (fun (W : World) (hW : Turned (w.heap.size + 2) (w.heap.size + 3) W1 W) => show W.heap[w.heap.size + 1]? = some (.cells #[.slice A4 n4 c4, .slice A5 n5 c5, .slice A6 n6 c6] 44 (0, 0)) from by rw [hW.block _ (by omega) (.inl (by omega))]; exact hE1)
  have HB1 := Lib.hid hB1
  have HT1 := Lib.hid (Turned.refl (w.heap.size + 2) (w.heap.size + 3) W1)
  have HR1 := Lib.hid hr1
  clear hP0 hE0 hP1 hE1 hB1 hr1 hb1 hB0
  have e0 := box_cell (j := 0) (HE1.out W1 HT1.out) rfl
  go_wp2_with fail
  clear e0
  go_loopw [16] (fun i wr => ∃ k : Nat, k ≤ n4 ∧ i = .int .i64 k ∧ RollIs wr (w.heap.size + 2) (toldTo p gs k) [] ∧ Turned (w.heap.size + 2) (w.heap.size + 3) W1 wr) (fun i _ => n4 - (intOf i).toNat)
  case atStart => exact ⟨0, Nat.zero_le _, rfl, HR1.out, HT1.out⟩
  case round =>
    obtain ⟨k, hk, rfl, hr, ht⟩ := hrel
    have hzr := ht.size
    by_cases hlt : k < n4
    · obtain ⟨hx, g, o, ws, rfl, hg, hsee, hcell⟩ := (HS4.out wr (HK.out wr ht)).at_ hlt
      have hdk := List.getElem?_eq_getElem hx
      have hgb := HGS.out _ (List.getElem_mem hx)
      have HST := Lib.hid (toldTo_step (p := p) hdk)
      have htl := toldTo_len hok HGS.out k (by omega)
      generalize gs[k] = d at *
      have hwt := toldOf_wf (n := (k : Int)) hok hgb (WalkArith.wf_i64 (by omega))
      have htn := toldOf_len (n := (k : Int)) hok hgb
      have hsee0 := hsee
      obtain ⟨E2, m2', e2, E4, m4', e4, rfl, -⟩ := seeGor hsee
      have cc0 := hcell 0 _ rfl
      have cc1 := hcell 1 _ rfl
      have cc2 := hcell 2 _ rfl
      have cc3 := hcell 3 _ rfl
      have cc4 := hcell 4 _ rfl
      simp only [show layGor.size = 5 from rfl, ← Nat.add_assoc, Nat.add_zero, Nat.mul_one] at cc0 cc1 cc2 cc3 cc4
      have hbA : Below wr.heap.size wr (wr.alloc (.cells #[.int .i64 d.fProc, .int .i64 d.fPc, .slice E2 m2' e2, .int .i64 d.fState, .slice E4 m4' e4] 65)) := (Below.refl _ _).alloc (Nat.le_refl _) _
      have htA := ht.trans (Turned.of_below hbA _ _)
      have hP9 := HP1.out _ htA
      have p0 := box_cell (j := 0) hP9 rfl
      have p1 := box_cell (j := 1) hP9 rfl
      have p2 := box_cell (j := 2) hP9 rfl
      have p3 := box_cell (j := 3) hP9 rfl
      have HPO := Lib.hid (placesOf_any (n := (k : Int)) (HPS.out _ (HK.out _ htA)) (layGor.keep hsee0 (w' := (wr.alloc (.cells #[.int .i64 d.fProc, .int .i64 d.fPc, .slice E2 m2' e2, .int .i64 d.fState, .slice E4 m4' e4] 65))) fun k9 hk9 => hbA.block k9 (by omega)) (by simp; omega) hnp hok hgb)
      have HRA := Lib.hid (hr.keep (w' := (wr.alloc (.cells #[.int .i64 d.fProc, .int .i64 d.fPc, .slice E2 m2' e2, .int .i64 d.fState, .slice E4 m4' e4] 65))) (hbA.block _ hr.lt))
      have HTA := Lib.hid htA
      have hzA : (wr.alloc (.cells #[.int .i64 d.fProc, .int .i64 d.fPc, .slice E2 m2' e2, .int .i64 d.fState, .slice E4 m4' e4] 65)).heap.size = wr.heap.size + 1 := by simp
      clear hcell hsee hsee0 hr ht htA hbA hP9 hgb
      go_wp2_with fail
      refine HPO.out.mono ?_
      rintro e w5 ⟨B5, c9, rfl, own5, hb5⟩
      have hz5 := hb5.size
      have hr5 := HRA.out.keep (hb5.block _ (by omega))
      have ht5 := HTA.out.trans (Turned.of_below hb5 _ _)
      have hrow := rowP own5 hwt
      have HTL := Lib.hid (tell_any (cp := c9) hr5 hrow (fun g9 hg9 => by have h8 := hg9.1; exact ⟨by omega, hg9.2⟩) (by omega) (by simp only [List.length_nil]; omega) hwt)
      have HT5 := Lib.hid ht5
      clear p0 p1 p2 p3 cc0 cc1 cc2 cc3 cc4 own5 hb5 hr5 ht5 hrow
      go_wp2_with fail
      refine HTL.out.mono ?_
      rintro e w6 ⟨rfl, hr6, ht6⟩
      have HR6 := Lib.hid hr6
      have HT6 := Lib.hid (HT5.out.trans ht6)
      clear hr6 ht6
      go_wp2_with fail
      go_roundw
      case rel => exact ⟨k + 1, by omega, by go_num, by rw [HST.out]; exact HR6.out, HT6.out⟩
      case measure => simp [intOf]; omega
    · obtain rfl : k = n4 := by omega
      have HR4 := Lib.hid hr
      have HT4 := Lib.hid ht
      have hz4 : wr.heap.size ≥ w.heap.size + 3 := by omega
      clear hr ht hzr
      have e1 := box_cell (j := 1) (HE1.out wr HT4.out) rfl
      go_wp2_with fail
      clear e1
      have htl := toldTo_len hok HGS.out k (by rw [HL4.out]; exact Nat.le_refl _)
      go_loopw [31] (fun i wq => ∃ j : Nat, j ≤ n5 ∧ i = .int .i64 j ∧ RollIs wq (w.heap.size + 2) (toldTo p gs k) (foundC cs j) ∧ Turned (w.heap.size + 2) (w.heap.size + 3) W1 wq) (fun i _ => n5 - (intOf i).toNat)
      case atStart => exact ⟨0, Nat.zero_le _, rfl, HR4.out, HT4.out⟩
      case round =>
        rename World => wq
        obtain ⟨j, hj, rfl, hr, ht⟩ := hrel
        have hzr := ht.size
        by_cases hlt : j < n5
        · obtain ⟨hx, g, o, ws, rfl, hg, hsee, hcell⟩ := (HS5.out wq (HK.out wq ht)).at_ hlt
          have hdk := List.getElem?_eq_getElem hx
          have HST := Lib.hid (foundC_step hdk)
          have hfl := foundC_len (cs := cs) j (by omega)
          have hfs := sum_take_succ (f := szChan) hdk
          have hft := sum_take_le szChan cs (j + 1)
          generalize cs[j] = d at *
          have hsee0 := hsee
          obtain ⟨E1, m1', e1, E2, m2', e2, E3, m3', e3, rfl, -⟩ := seeChan hsee
          have cc0 := hcell 0 _ rfl
          have cc1 := hcell 1 _ rfl
          have cc2 := hcell 2 _ rfl
          have cc3 := hcell 3 _ rfl
          have cc4 := hcell 4 _ rfl
          simp only [show layChan.size = 5 from rfl, ← Nat.add_assoc, Nat.add_zero, Nat.mul_one] at cc0 cc1 cc2 cc3 cc4
          have hbA : Below wq.heap.size wq (wq.alloc (.cells #[.int .i64 d.fCap, .slice E1 m1' e1, .slice E2 m2' e2, .slice E3 m3' e3, .bool d.fClosed] 124)) := (Below.refl _ _).alloc (Nat.le_refl _) _
          have htA := ht.trans (Turned.of_below hbA _ _)
          have HFC := Lib.hid (findChan_any (num := (j : Int)) (hr.keep (w' := (wq.alloc (.cells #[.int .i64 d.fCap, .slice E1 m1' e1, .slice E2 m2' e2, .slice E3 m3' e3, .bool d.fClosed] 124))) (hbA.block _ hr.lt)) (layChan.keep hsee0 (w' := (wq.alloc (.cells #[.int .i64 d.fCap, .slice E1 m1' e1, .slice E2 m2' e2, .slice E3 m3' e3, .bool d.fClosed] 124))) fun k9 hk9 => hbA.block k9 (by omega)) (by simp; omega) (by omega) (by omega) (WalkArith.wf_i64 (by omega)))
          have HTA := Lib.hid htA
          clear hcell hsee hsee0 hr ht htA hbA
          go_wp2_with fail
          refine HFC.out.mono ?_
          rintro e w6 ⟨rfl, hr6, ht6⟩
          have HR6 := Lib.hid hr6
          have HT6 := Lib.hid (HTA.out.trans ht6)
          clear hr6 ht6
          go_wp2_with fail
          go_roundw
          case rel => exact ⟨j + 1, by omega, by go_num, by rw [HST.out]; exact HR6.out, HT6.out⟩
          case measure => simp [intOf]; omega
        · obtain rfl : j = n5 := by omega
          have HR5 := Lib.hid hr
          have HT5 := Lib.hid ht
          clear hr ht hzr
          have e2 := box_cell (j := 2) (HE1.out wq HT5.out) rfl
          go_wp2_with fail
          clear e2
          have hfl := foundC_len (cs := cs) j (by rw [HL5.out]; exact Nat.le_refl _)
          have hft := sum_take_le szChan cs j
          go_loopw [44] (fun i wt => ∃ l : Nat, l ≤ n6 ∧ i = .int .i64 l ∧ RollIs wt (w.heap.size + 2) (toldTo p gs k) (foundC cs j ++ foundM ms l) ∧ Turned (w.heap.size + 2) (w.heap.size + 3) W1 wt) (fun i _ => n6 - (intOf i).toNat)
          case atStart => exact ⟨0, Nat.zero_le _, rfl, by simpa [foundM] using HR5.out, HT5.out⟩
          case round =>
            rename World => wt
            obtain ⟨l, hl, rfl, hr, ht⟩ := hrel
            have hzr := ht.size
            by_cases hlt : l < n6
            · obtain ⟨hx, g, o, ws, rfl, hg, hsee, hcell⟩ := (HS6.out wt (HK.out wt ht)).at_ hlt
              have hdk := List.getElem?_eq_getElem hx
              have HST := Lib.hid (foundM_step hdk)
              have hml := foundM_len (ms := ms) l (by omega)
              have hms := sum_take_succ (f := szMutex) hdk
              have hmt := sum_take_le szMutex ms (l + 1)
              generalize ms[l] = d at *
              have hsee0 := hsee
              obtain ⟨E1, m1', e1, rfl, -⟩ := seeMutex hsee
              have cc0 := hcell 0 _ rfl
              have cc1 := hcell 1 _ rfl
              simp only [show layMutex.size = 2 from rfl, ← Nat.add_assoc, Nat.add_zero, Nat.mul_one] at cc0 cc1
              have hbA : Below wt.heap.size wt (wt.alloc (.cells #[.int .i64 d.fOwner, .slice E1 m1' e1] 91)) := (Below.refl _ _).alloc (Nat.le_refl _) _
              have htA := ht.trans (Turned.of_below hbA _ _)
              have HFM := Lib.hid (findMutex_any (num := (l : Int)) (hr.keep (w' := (wt.alloc (.cells #[.int .i64 d.fOwner, .slice E1 m1' e1] 91))) (hbA.block _ hr.lt)) (layMutex.keep hsee0 (w' := (wt.alloc (.cells #[.int .i64 d.fOwner, .slice E1 m1' e1] 91))) fun k9 hk9 => hbA.block k9 (by omega)) (by simp; omega) (by omega) (by rw [List.length_append]; omega) (WalkArith.wf_i64 (by omega)))
              have HTA := Lib.hid htA
              clear hcell hsee hsee0 hr ht htA hbA
              go_wp2_with fail
              refine HFM.out.mono ?_
              rintro e w6 ⟨rfl, hr6, ht6⟩
              have HR6 := Lib.hid hr6
              have HT6 := Lib.hid (HTA.out.trans ht6)
              clear hr6 ht6
              go_wp2_with fail
              go_roundw
              case rel => exact ⟨l + 1, by omega, by go_num, by rw [HST.out, ← List.append_assoc]; exact HR6.out, HT6.out⟩
              case measure => simp [intOf]; omega
            · obtain rfl : l = n6 := by omega
              have HEV := Lib.hid (isEven_any hr (by rw [← HL4.out]; exact HWT.out) (by rw [← HL5.out, ← HL6.out]; exact HWF.out))
              have HT6 := Lib.hid ht
              clear hr ht
              go_wp2_with fail
              refine HEV.out.mono ?_
              rintro e w7 ⟨rfl, hb7⟩
              have HB7 := Lib.hid (HB1.out.trans ((HT6.out.below (B := w.heap.size) (by omega) (by omega)).trans (hb7.mono (by omega))))
              clear hb7
              go_wp2_with fail
              go_ret
              exact ⟨by rw [HL4.out, HL5.out, HL6.out]; rfl, HB7.out⟩
end Go.Proofs.YtghkdkagnibkgaaGreatDoor
