
/- The model's draw of a channel that is right: l06Draw, MakeChan. -/

import Derived.Test.YtgdmcdblhpdlmaaDraw

import Derived.Test.YtgdmcdblhpdlmaaChanX

import Derived.Test.YtgdmcdblhpdlmaaChanCopy

import Derived.Test.YtgdmcdblhpdlmaaChanOkI

import Derived.Test.YtgdmcdblhpdlmaaGrow

import Derived.Deep.RegionLaw

import Derived.Deep.Cut

namespace Go.Proofs.Ytgdmcdblhpdlmaa
set_option linter.unusedSimpArgs false
set_option linter.unusedVariables false
open Go.RowKit

theorem box_turned {w w' : World} {l r b : Nat} {x : Obj} (h : w.heap[b]? = some x) (ht : Turned l r w w') (hb : b < l ∨ r ≤ b) : w'.heap[b]? = some x := by
  rw [ht.block b (lt_of_block h) hb]; exact h
theorem CurAt.laterC {w w' : World} {g n c b : Nat} {A : Option Addr} (h : CurAt w g A n c) (hb : Below b w w') (hB : g < b) : CurAt w' g A n c := h.keep (hb.block g hB)

/-- A call of a Go function, as one step of a region that draws. -/
theorem step_calls {P : Program} {ops : Array Oper} {o : Oper} {a : Act} {w : World} {K : Act → World → Prop} {Q : Exit → Act → World → Prop} {E : Prop} {R : Ending → World → Prop}
    (hg : o.guard = none) (f : FuncId) (x y : Operand) (tys : Array TypeId) (hop : o.op = .call { callee := .value (.func f), args := #[x, y], argTypes := tys })
    (hf : ∀ (args : Array Value) (w : World), Sem.run P (callFunc f args) w = .ok (.enter f args) w) (vx vy : Value) (hx : a.eval x = vx) (hy : a.eval y = vy) (hc : Calls P f #[vx, vy] w R) (h : ∀ e w', R e w' → ∃ v, e = .returned v ∧ K (a.put o.dst v) w') :
    if Region.wanted o (yielded ops a.tmps) = true then Oper.wp P o a w K Q else E := by
  have hw : Region.wanted o (yielded ops a.tmps) = true := by simp [Region.wanted, hg]
  rw [if_pos hw]
  subst hx hy
  unfold Oper.wp
  simp only [execOp, hop, resolve, Act.eval, Deferred.ofValue, invoke, Sem.run_bind, Sem.run_pure, Result.andThen_ok, hf, Array.append_empty, Array.empty_append, List.map_toArray, List.map_cons, List.map_nil, Oper.upon_enter]
  refine hc.mono ?_
  intro e w' hR
  obtain ⟨v, rfl, hK⟩ := h e w' hR
  exact hK
theorem enters_below : Enters 70 := enters_of Try.func70 (by kernel_rfl) (by kernel_rfl)

/-- A channel's box and its rows while it is drawn: each row in blocks of its own from its bound on. -/
def DrawB (wr : World) (bx lo1 lo2 : Nat) (cap : Nat) (A1 : Option Addr) (c1 : Nat) (buf : List Int) (A2 : Option Addr) (c2 : Nat) (sends : List DWaiter) (A3 : Option Addr) (c3 : Nat) (recvs : List DWaiter) : Prop :=
  wr.heap[bx]? = some (.cells #[.int .i64 (cap : Int), .slice A1 buf.length c1, .slice A2 sends.length c2, .slice A3 recvs.length c3, .bool false] 26 (0, 0)) ∧
    Own wr lo1 lo2 3 1 A1 buf.length c1 ((buf.map fun z => [Value.int .i64 z]).flatten) ∧
    Own wr lo2 wr.heap.size 29 3 A2 sends.length c2 ((sends.map fun x => [Value.int .i64 x.fG, .int .i64 x.fCase, .int .i64 x.fVal]).flatten) ∧
    Own wr lo2 wr.heap.size 29 3 A3 recvs.length c3 ((recvs.map fun x => [Value.int .i64 x.fG, .int .i64 x.fCase, .int .i64 x.fVal]).flatten) ∧ lo2 ≤ wr.heap.size
def smallV (l : List Int) : Prop := ∀ v ∈ l, 0 ≤ v ∧ v ≤ 19
def smallW (l : List DWaiter) : Prop := ∀ d ∈ l, 0 ≤ d.fG ∧ d.fG ≤ 3 ∧ -1 ≤ d.fCase ∧ d.fCase ≤ 1 ∧ 0 ≤ d.fVal ∧ d.fVal ≤ 19
theorem smallV.snoc {l : List Int} (h : smallV l) {v : Int} (hv : 0 ≤ v ∧ v ≤ 19) : smallV (l ++ [v]) := by
  intro x hx
  rcases List.mem_append.1 hx with hx | hx
  · exact h x hx
  · simp at hx; subst hx; exact hv
theorem smallW.snoc {l : List DWaiter} (h : smallW l) {d : DWaiter} (hd : 0 ≤ d.fG ∧ d.fG ≤ 3 ∧ -1 ≤ d.fCase ∧ d.fCase ≤ 1 ∧ 0 ≤ d.fVal ∧ d.fVal ≤ 19) : smallW (l ++ [d]) := by
  intro x hx
  rcases List.mem_append.1 hx with hx | hx
  · exact h x hx
  · simp at hx; subst hx; exact hd
theorem seen_three' (w : World) (a b c : Value) (t : TypeId) : Seen (w.alloc (.cells #[a, b, c] t)) (w.heap.size + 1) 3 (some ⟨w.heap.size, 0, none⟩) 1 [a, b, c] := by
  refine ⟨rfl, .inr ⟨w.heap.size, 0, rfl, by omega, fun j u hu => ?_⟩⟩
  have hx := box_new w #[a, b, c] t
  match j, hu with
  | 0, hu => simp at hu; subst hu; exact box_cell hx rfl
  | 1, hu => simp at hu; subst hu; exact box_cell hx rfl
  | 2, hu => simp at hu; subst hu; exact box_cell hx rfl
  | k + 3, hu => simp at hu
theorem wf_small {v : Int} (h0 : -1 ≤ v) (h1 : v ≤ 4294967296) : (Lit.int .i64 v).wf = true := by
  simp [Lit.wf, IntKind.min, IntKind.max, IntKind.signed, IntKind.bits]
  omega

theorem ok_plain {cap : Nat} {buf : List Int} {cl : Bool} (h : smallV buf) (hc : cap ≤ 3) (hb : buf.length ≤ cap) : chanOkB ⟨cap, buf, [], [], cl⟩ = true := by
  have hall : buf.all okV = true := by
    rw [List.all_eq_true]
    intro v hv
    exact okV_yes (by have := h v hv; omega)
  have hr : rangeB buf.length (cap : Int) = true := decide_eq_true (by omega)
  unfold chanOkB
  simp [hr, hall, vainB]

/-- Receivers bring no value. -/
def smallR (l : List DWaiter) : Prop := ∀ d ∈ l, 0 ≤ d.fG ∧ d.fG ≤ 3 ∧ -1 ≤ d.fCase ∧ d.fCase ≤ 1 ∧ d.fVal = 0
theorem smallR.snoc {l : List DWaiter} (h : smallR l) {d : DWaiter} (hd : 0 ≤ d.fG ∧ d.fG ≤ 3 ∧ -1 ≤ d.fCase ∧ d.fCase ≤ 1 ∧ d.fVal = 0) : smallR (l ++ [d]) := by
  intro x hx
  rcases List.mem_append.1 hx with hx | hx
  · exact h x hx
  · simp at hx; subst hx; exact hd
theorem okW_small {d : DWaiter} (h : 0 ≤ d.fG ∧ -1 ≤ d.fCase ∧ 0 ≤ d.fVal ∧ d.fVal ≤ 19) : okW d = true := by
  unfold okW
  rw [decide_eq_true (show 0 ≤ d.fG ∧ -1 ≤ d.fCase from ⟨h.1, h.2.1⟩), okV_yes (by omega)]
  rfl
theorem ok_recvs {cap : Nat} {recvs : List DWaiter} (h : smallR recvs) (hc : cap ≤ 3) : chanOkB ⟨cap, [], [], recvs, false⟩ = true := by
  have hall : recvs.all okR = true := by
    rw [List.all_eq_true]
    intro d hd
    have h1 := h d hd
    unfold okR
    rw [okW_small (by omega), decide_eq_true h1.2.2.2.2]
    rfl
  have hr : rangeB 0 (cap : Int) = true := decide_eq_true (by omega)
  unfold chanOkB
  simp [hr, hall, vainB, givesB]
theorem ok_sends {cap : Nat} {buf : List Int} {sends : List DWaiter} (h : smallV buf) (h2 : smallW sends) (hc : cap ≤ 3) (hb : buf.length = cap) : chanOkB ⟨cap, buf, sends, [], false⟩ = true := by
  have hall : buf.all okV = true := by
    rw [List.all_eq_true]
    intro v hv
    exact okV_yes (by have := h v hv; omega)
  have hall2 : sends.all okW = true := by
    rw [List.all_eq_true]
    intro d hd
    exact okW_small (by have := h2 d hd; omega)
  have hr : rangeB buf.length (cap : Int) = true := decide_eq_true (by omega)
  have ht : takesB buf.length 0 (cap : Int) false = false := by
    unfold takesB
    rw [decide_eq_false (by omega)]
    rfl
  unfold chanOkB
  simp [hr, hall, hall2, vainB, ht]

/-- A channel that is right has been drawn; of what was there only the cursor's block has turned. -/
def DrewChan (w : World) (g : Nat) (e : Ending) (w' : World) : Prop :=
  ∃ (x : DChan) (vs : List Value), chanOkB x = true ∧ szChan x ≤ 16 ∧ e = .returned (.agg vs.toArray) ∧ layChan.own w' (fun b => w.heap.size ≤ b ∧ b < w'.heap.size) x vs ∧ Turned g (g + 1) w w'

set_option maxRecDepth 100000 in
set_option maxHeartbeats 8000000 in
theorem l06Draw_any {A : Option Addr} {n c hi g : Nat} {bs : List UInt8} {w : World} (hs : Seen w hi 1 A n (bs.map B)) (hh : hi ≤ g) (hn : n ≤ 16777216) (hc : CurAt w g A n c) :
    Calls Try.prog 42 #[.pointer (some ⟨g, 0, none⟩)] w (DrewChan w g) := by
  have hgs := hc.lt
  obtain ⟨i0, hi0, hiz0, hiz1, hiz2⟩ := info_parts infoIntC
  obtain ⟨j0, hj0, hjz0, hjz1, hjz2⟩ := info_parts infoWaiter
  have hb0 : Below w.heap.size w (w.alloc (.cells #[.int .i64 0, .slice none 0 0, .slice none 0 0, .slice none 0 0, .bool false] 26)) := (Below.refl _ _).alloc (Nat.le_refl _) _
  have HBL := Lib.hid (fun (W : World) (N : Nat) (hN : N ≤ 4294967296) (hW : Turned g (g + 1) w W) (hcW : CurAt W g A n c) => l01Below_any (N := N) (hs.turned hW hh (by omega)) hh hn hN hcW)
  have hT0 : Turned g (g + 1) w (w.alloc (.cells #[.int .i64 0, .slice none 0 0, .slice none 0 0, .slice none 0 0, .bool false] 26)) := Turned.of_below hb0 _ _
  have hc0 := hc.laterC hb0 hgs
  have HR0 := Lib.hid (box_new w #[.int .i64 0, .slice none 0 0, .slice none 0 0, .slice none 0 0, .bool false] 26)
  have hz0 : (w.alloc (.cells #[.int .i64 0, .slice none 0 0, .slice none 0 0, .slice none 0 0, .bool false] 26)).heap.size = w.heap.size + 1 := by simp
  have HT0 := Lib.hid hT0
  have HC0 := Lib.hid hc0
  have HZ0 := Lib.hid hz0
  clear hs hc hb0 hT0 hc0 hz0
  go_enter Try.func42, Try.ntmps42
  go_upto_region 1 with (fail)
  generalize w.alloc (.cells #[.int .i64 0, .slice none 0 0, .slice none 0 0, .slice none 0 0, .bool false] 26) = w0 at *
  go_wp2_with fail
  refine (HBL.out _ 4 (by omega) HT0.out HC0.out).mono ?_
  rintro e w1 ⟨cap, hcap, rfl, hc1, ht1⟩
  have hz1 := ht1.size
  have hzz0 := HZ0.out
  have HR1 := Lib.hid (box_turned HR0.out ht1 (.inr (by omega)))
  have HT1 := Lib.hid (HT0.out.trans ht1)
  have hal : Below w1.heap.size w1 (w1.alloc (.cells #[.int .i64 (cap : Int), .slice none 0 0, .slice none 0 0, .slice none 0 0, .bool false] 26)) := (Below.refl _ _).alloc (Nat.le_refl _) _
  have HX2 := Lib.hid (box_new w1 #[.int .i64 (cap : Int), .slice none 0 0, .slice none 0 0, .slice none 0 0, .bool false] 26)
  have HR2 := Lib.hid (box_keep HR1.out hal (by omega))
  have HC2 := Lib.hid (hc1.laterC hal (by omega))
  have HT2 := Lib.hid (HT1.out.then_below hal (by omega))
  have hz2a : w1.heap.size + 1 ≤ (w1.alloc (.cells #[.int .i64 (cap : Int), .slice none 0 0, .slice none 0 0, .slice none 0 0, .bool false] 26)).heap.size := by simp
  clear hal hc1 ht1 hzz0
  go_upto_region 2 with (fail)
  generalize w1.alloc (.cells #[.int .i64 (cap : Int), .slice none 0 0, .slice none 0 0, .slice none 0 0, .bool false] 26) = w2 at *
  go_wp2_with fail
  refine (HBL.out _ 4 (by omega) HT2.out HC2.out).mono ?_
  rintro e w3 ⟨kk, hkk, rfl, hc3, ht3⟩
  have hz3 := ht3.size
  have hzz0 := HZ0.out
  have HX3 := Lib.hid (box_turned HX2.out ht3 (.inr (by omega)))
  have HR3 := Lib.hid (box_turned HR2.out ht3 (.inr (by omega)))
  have HT3 := Lib.hid (HT2.out.trans ht3)
  have HC3 := Lib.hid hc3
  have hcap3 : cap ≤ 3 := by omega
  have p0 := box_cell (j := 0) HX3.out rfl
  clear hc3 ht3 hzz0
  go_wp2_with fail
  have hcc := HBL.out w3 (cap + 1) (by omega) HT3.out HC3.out
  rw [show ((cap + 1 : Nat) : Int) = (cap : Int) + 1 by omega] at hcc
  refine hcc.mono ?_
  rintro e w4 ⟨nn, hnn, rfl, hc4, ht4⟩
  have hz4 := ht4.size
  have hzz0 := HZ0.out
  have HX4 := Lib.hid (box_turned HX3.out ht4 (.inr (by omega)))
  have HR4 := Lib.hid (box_turned HR3.out ht4 (.inr (by omega)))
  have HT4 := Lib.hid (HT3.out.trans ht4)
  have HC4 := Lib.hid hc4
  have hnn2 : nn ≤ cap := by omega
  clear hc4 ht4 hzz0 p0
  have hw01 : w.heap.size + 1 ≤ w1.heap.size := by have := HZ0.out; omega
  have hgb : g + 1 ≤ w1.heap.size := by have := HZ0.out; omega
  go_wp2_with fail
  go_loopw [5] (fun i wr => ∃ (m : Nat) (A1 : Option Addr) (c1 : Nat) (buf : List Int), i = .int .i64 (m : Int) ∧ buf.length + m ≤ cap ∧ smallV buf ∧ (wr.heap[w1.heap.size]? = some (.cells #[.int .i64 (cap : Int), .slice A1 buf.length c1, .slice none 0 0, .slice none 0 0, .bool false] 26 (0, 0)) ∧ Own wr (w1.heap.size + 1) wr.heap.size 3 1 A1 buf.length c1 ((buf.map fun z => [Value.int .i64 z]).flatten)) ∧ CurAt wr g A n c ∧ wr.heap[w.heap.size]? = some (.cells #[.int .i64 0, .slice none 0 0, .slice none 0 0, .slice none 0 0, .bool false] 26 (0, 0)) ∧ Turned g (g + 1) w wr) (fun i _ => (intOf i).toNat)
  case atStart => exact ⟨nn, none, 0, [], rfl, by simpa using hnn2, by intro v hv; simp at hv, ⟨HX4.out, Own.nil_ _ _ _ _ _⟩, HC4.out, HR4.out, HT4.out⟩
  case round =>
    obtain ⟨m, A1, c1, buf, rfl, hle, hsm, ⟨hbx, hown⟩, hcr, hrr, htr⟩ := hrel
    by_cases hm : 0 < m
    · skip
      have HBX := Lib.hid hbx
      have HOWN := Lib.hid hown
      have HRR := Lib.hid hrr
      have HSM := Lib.hid hsm
      have hzr := htr.size
      have hbl := lt_of_block hbx
      have HTR := Lib.hid htr
      have HCR := Lib.hid hcr
      have p1 := box_cell (j := 1) hbx rfl
      have p0 := box_cell (j := 0) hbx rfl
      clear hbx hown hrr hsm htr hcr
      go_wp2_with fail
      go_region_law (first | (refine step_calls rfl 70 _ _ _ rfl enters_below (.pointer (some ⟨g, 0, none⟩)) (.int .i64 20) rfl rfl (show Calls Try.prog 70 #[.pointer (some ⟨g, 0, none⟩), .int .i64 20] wr.drew (Drew (fun x => x < 20 ∨ x = 0) wr.drew g A n c) from HBL.out wr.drew 20 (by omega) HTR.out.drew HCR.out) ?_; rintro e y1 ⟨v1, hv1, rfl, hcy1, hty1⟩; refine ⟨_, rfl, ?_⟩; have tt1 : Turned g (g + 1) wr y1 := ⟨hty1.os, hty1.tape, hty1.output, hty1.size, hty1.block⟩; have zy1 := tt1.size; have xx1 := box_turned HBX.out tt1 (.inr (by omega)); have pp1 := box_cell (j := 1) xx1 rfl; have HX5 := Lib.hid (box_keep xx1 ((Below.refl _ _).alloc (Nat.le_refl _) (.cells #[.int .i64 (v1 : Int)] 3)) (by omega)); have p1c := box_cell (j := 1) HX5.out rfl; have hown5 := (HOWN.out.turned tt1 (.inr (by omega))).alloc (.cells #[.int .i64 (v1 : Int)] 3); have hbase5 : (w1.heap.size + 1) ≤ (y1.alloc (.cells #[.int .i64 (v1 : Int)] 3)).heap.size := (by simp; omega); have hbxlo : w1.heap.size < (w1.heap.size + 1) := (by omega); have HSN := Lib.hid (Seen.one y1 (.int .i64 (v1 : Int)) 3)) | (refine step_append_kin rfl (.tmp 23) (.tmp 26) _ rfl (w1.heap.size + 1) _ 3 i0 _ 1 8 Try.underlying23 hi0 hiz0 hiz1 hiz2 rfl (by omega) A1 buf.length c1 _ rfl hown5 _ ⟨y1.heap.size, 0, none⟩ 1 1 [.int .i64 (v1 : Int)] rfl HSN.out (by simp [Value.oneCell']) (by omega) (by simp only [maxLen]; omega) (by omega) hbase5 ?_; intro A6 c6 w6 own6 hb6 hk6 hA6; have hx6 := box_keep HX5.out hb6 hbxlo; have q1 := box_cell (j := 1) hx6 rfl; have ffq := box_free hx6 1))
      all_goals
        have zal : y1.heap.size + 1 ≤ w6.heap.size := by have := hb6.size; simp at this; omega
        have hB6 : Below (w1.heap.size + 1) y1 w6 := (((Below.refl _ _).alloc (Nat.le_refl _) _).mono (by omega)).trans hb6
        have hB7 : Below w.heap.size y1 (w6.setCell ⟨w1.heap.size, 1, none⟩ (.slice A6 (buf.length + 1) c6)) := below_set (hB6.mono (by omega)) (by simp only; omega) _
        have hx7 := box_set (j := 1) (u := .slice A6 (buf.length + 1) c6) hx6
        have hzs : (w6.setCell ⟨w1.heap.size, 1, none⟩ (.slice A6 (buf.length + 1) c6)).heap.size = w6.heap.size := by simp [World.setCell]
        have hrr7 : (w6.setCell ⟨w1.heap.size, 1, none⟩ (.slice A6 (buf.length + 1) c6)).heap[w.heap.size]? = some (.cells #[.int .i64 0, .slice none 0 0, .slice none 0 0, .slice none 0 0, .bool false] 26 (0, 0)) := (Below.heap_setCell w6 ⟨w1.heap.size, 1, none⟩ _ w.heap.size (by simp only; omega)).trans (box_keep (box_turned HRR.out tt1 (.inr (by omega))) hB6 (by omega))
        have hc7 := hcy1.laterC hB7 hgs
        have ht7 := (HTR.out.trans tt1).then_below hB7 (Nat.le_refl _)
        have hfl : (buf.map fun z => [Value.int .i64 z]).flatten ++ [.int .i64 (v1 : Int)] = ((buf ++ [(v1 : Int)]).map fun z => [Value.int .i64 z]).flatten := by simp
        rw [hfl] at own6
        have ho7 : Own (w6.setCell ⟨w1.heap.size, 1, none⟩ (.slice A6 (buf.length + 1) c6)) (w1.heap.size + 1) (w6.setCell ⟨w1.heap.size, 1, none⟩ (.slice A6 (buf.length + 1) c6)).heap.size 3 1 A6 (buf.length + 1) c6 (((buf ++ [(v1 : Int)]).map fun z => [Value.int .i64 z]).flatten) := (own6.keep (w' := w6.setCell ⟨w1.heap.size, 1, none⟩ (.slice A6 (buf.length + 1) c6)) fun k h1 _ _ => Below.heap_setCell w6 _ _ k (by simp only; omega)).wider (Nat.le_refl _) (by omega)
        have hv19 : 0 ≤ (v1 : Int) ∧ (v1 : Int) ≤ 19 := by omega
        go_wp2_with fail
        go_roundw
        case rel => exact ⟨m - 1, A6, c6, buf ++ [(v1 : Int)], by go_num, by simp; omega, HSM.out.snoc hv19, ⟨by simpa using hx7, by simpa using ho7⟩, hc7, hrr7, ht7⟩
        case measure => simp [intOf]; omega
    · obtain rfl : m = 0 := by omega
      have HBX := Lib.hid hbx
      have HOWN := Lib.hid hown
      have HRR := Lib.hid hrr
      have HSM := Lib.hid hsm
      have hzr := htr.size
      have hbl := lt_of_block hbx
      have HTR := Lib.hid htr
      have HCR := Lib.hid hcr
      clear hbx hown hrr hsm htr hcr
      have hkk4 : kk = 0 ∨ kk = 1 ∨ kk = 2 ∨ kk = 3 := by omega
      rcases hkk4 with rfl | rfl | rfl | rfl
      · skip
        go_wp2_with fail
        go_loopw [] (fun wr => ∃ (A1 : Option Addr) (c1 : Nat) (buf : List Int), buf.length ≤ cap ∧ smallV buf ∧ (wr.heap[w1.heap.size]? = some (.cells #[.int .i64 (cap : Int), .slice A1 buf.length c1, .slice none 0 0, .slice none 0 0, .bool false] 26 (0, 0)) ∧ Own wr (w1.heap.size + 1) wr.heap.size 3 1 A1 buf.length c1 ((buf.map fun z => [Value.int .i64 z]).flatten)) ∧ CurAt wr g A n c ∧ wr.heap[w.heap.size]? = some (.cells #[.int .i64 0, .slice none 0 0, .slice none 0 0, .slice none 0 0, .bool false] 26 (0, 0)) ∧ Turned g (g + 1) w wr) (fun wr => match wr.cell? ⟨w1.heap.size, 1, none⟩ with | some (.slice _ q _) => cap - q | _ => 0)
        case atStart => exact ⟨A1, c1, buf, by omega, HSM.out, ⟨HBX.out, HOWN.out⟩, HCR.out, HRR.out, HTR.out⟩
        case round =>
          clear HBX HOWN HRR HSM HTR HCR
          obtain ⟨A1, c1, buf, hle, hsm, ⟨hbx, hown⟩, hcr, hrr, htr⟩ := hrel
          by_cases hlt : buf.length < cap
          · have hltz : (buf.length : Int) < (cap : Int) := by omega
            have hmeas : wr.cell? ⟨w1.heap.size, 1, none⟩ = some (.slice A1 buf.length c1) := box_cell (j := 1) hbx rfl
            have HME := Lib.hid hmeas
            clear hmeas
            have HBX := Lib.hid hbx
            have HOWN := Lib.hid hown
            have HRR := Lib.hid hrr
            have HSM := Lib.hid hsm
            have hzr := htr.size
            have hbl := lt_of_block hbx
            have HTR := Lib.hid htr
            have HCR := Lib.hid hcr
            have p1 := box_cell (j := 1) hbx rfl
            have p0 := box_cell (j := 0) hbx rfl
            clear hbx hown hrr hsm htr hcr
            go_wp2_with fail
            go_region_law (first | (refine step_calls rfl 70 _ _ _ rfl enters_below (.pointer (some ⟨g, 0, none⟩)) (.int .i64 20) rfl rfl (show Calls Try.prog 70 #[.pointer (some ⟨g, 0, none⟩), .int .i64 20] wr.drew (Drew (fun x => x < 20 ∨ x = 0) wr.drew g A n c) from HBL.out wr.drew 20 (by omega) HTR.out.drew HCR.out) ?_; rintro e y1 ⟨v1, hv1, rfl, hcy1, hty1⟩; refine ⟨_, rfl, ?_⟩; have tt1 : Turned g (g + 1) wr y1 := ⟨hty1.os, hty1.tape, hty1.output, hty1.size, hty1.block⟩; have zy1 := tt1.size; have xx1 := box_turned HBX.out tt1 (.inr (by omega)); have pp1 := box_cell (j := 1) xx1 rfl; have HX5 := Lib.hid (box_keep xx1 ((Below.refl _ _).alloc (Nat.le_refl _) (.cells #[.int .i64 (v1 : Int)] 3)) (by omega)); have p1c := box_cell (j := 1) HX5.out rfl; have hown5 := (HOWN.out.turned tt1 (.inr (by omega))).alloc (.cells #[.int .i64 (v1 : Int)] 3); have hbase5 : (w1.heap.size + 1) ≤ (y1.alloc (.cells #[.int .i64 (v1 : Int)] 3)).heap.size := (by simp; omega); have hbxlo : w1.heap.size < (w1.heap.size + 1) := (by omega); have HSN := Lib.hid (Seen.one y1 (.int .i64 (v1 : Int)) 3)) | (refine step_append_kin rfl (.tmp 38) (.tmp 41) _ rfl (w1.heap.size + 1) _ 3 i0 _ 1 8 Try.underlying23 hi0 hiz0 hiz1 hiz2 rfl (by omega) A1 buf.length c1 _ rfl hown5 _ ⟨y1.heap.size, 0, none⟩ 1 1 [.int .i64 (v1 : Int)] rfl HSN.out (by simp [Value.oneCell']) (by omega) (by simp only [maxLen]; omega) (by omega) hbase5 ?_; intro A6 c6 w6 own6 hb6 hk6 hA6; have hx6 := box_keep HX5.out hb6 hbxlo; have q1 := box_cell (j := 1) hx6 rfl; have ffq := box_free hx6 1))
            all_goals
              have zal : y1.heap.size + 1 ≤ w6.heap.size := by have := hb6.size; simp at this; omega
              have hB6 : Below (w1.heap.size + 1) y1 w6 := (((Below.refl _ _).alloc (Nat.le_refl _) _).mono (by omega)).trans hb6
              have hB7 : Below w.heap.size y1 (w6.setCell ⟨w1.heap.size, 1, none⟩ (.slice A6 (buf.length + 1) c6)) := below_set (hB6.mono (by omega)) (by simp only; omega) _
              have hx7 := box_set (j := 1) (u := .slice A6 (buf.length + 1) c6) hx6
              have hzs : (w6.setCell ⟨w1.heap.size, 1, none⟩ (.slice A6 (buf.length + 1) c6)).heap.size = w6.heap.size := by simp [World.setCell]
              have hrr7 : (w6.setCell ⟨w1.heap.size, 1, none⟩ (.slice A6 (buf.length + 1) c6)).heap[w.heap.size]? = some (.cells #[.int .i64 0, .slice none 0 0, .slice none 0 0, .slice none 0 0, .bool false] 26 (0, 0)) := (Below.heap_setCell w6 ⟨w1.heap.size, 1, none⟩ _ w.heap.size (by simp only; omega)).trans (box_keep (box_turned HRR.out tt1 (.inr (by omega))) hB6 (by omega))
              have hc7 := hcy1.laterC hB7 hgs
              have ht7 := (HTR.out.trans tt1).then_below hB7 (Nat.le_refl _)
              have hfl : (buf.map fun z => [Value.int .i64 z]).flatten ++ [.int .i64 (v1 : Int)] = ((buf ++ [(v1 : Int)]).map fun z => [Value.int .i64 z]).flatten := by simp
              rw [hfl] at own6
              have ho7 : Own (w6.setCell ⟨w1.heap.size, 1, none⟩ (.slice A6 (buf.length + 1) c6)) (w1.heap.size + 1) (w6.setCell ⟨w1.heap.size, 1, none⟩ (.slice A6 (buf.length + 1) c6)).heap.size 3 1 A6 (buf.length + 1) c6 (((buf ++ [(v1 : Int)]).map fun z => [Value.int .i64 z]).flatten) := (own6.keep (w' := w6.setCell ⟨w1.heap.size, 1, none⟩ (.slice A6 (buf.length + 1) c6)) fun k h1 _ _ => Below.heap_setCell w6 _ _ k (by simp only; omega)).wider (Nat.le_refl _) (by omega)
              have hv19 : 0 ≤ (v1 : Int) ∧ (v1 : Int) ≤ 19 := by omega
              go_wp2_with fail
              go_roundw
              case rel => exact ⟨A6, c6, buf ++ [(v1 : Int)], by simp; omega, HSM.out.snoc hv19, ⟨by simpa using hx7, by simpa using ho7⟩, hc7, hrr7, ht7⟩
              case measure =>
                have hm7 : (w6.setCell ⟨w1.heap.size, 1, none⟩ (.slice A6 (buf.length + 1) c6)).cell? ⟨w1.heap.size, 1, none⟩ = some (.slice A6 (buf.length + 1) c6) := box_cell (j := 1) hx7 rfl
                simp only [HME.out, hm7]
                omega
          · have hltz : ¬ (buf.length : Int) < (cap : Int) := by omega
            have HBX := Lib.hid hbx
            have HOWN := Lib.hid hown
            have HRR := Lib.hid hrr
            have HSM := Lib.hid hsm
            have hzr := htr.size
            have hbl := lt_of_block hbx
            have HTR := Lib.hid htr
            have HCR := Lib.hid hcr
            have p1 := box_cell (j := 1) hbx rfl
            have p0 := box_cell (j := 0) hbx rfl
            clear hbx hown hrr hsm htr hcr
            go_wp2_with fail
            refine (HBL.out wr 4 (by omega) HTR.out HCR.out).mono ?_
            rintro e wd ⟨sn, hsn, rfl, hcd, htd⟩
            have hzd := htd.size
            have HBX3 := Lib.hid (box_turned HBX.out htd (.inr (by omega)))
            have HRR3 := Lib.hid (box_turned HRR.out htd (.inr (by omega)))
            have HTR3 := Lib.hid (HTR.out.trans htd)
            have HCR3 := Lib.hid hcd
            have HOWN3 := Lib.hid (HOWN.out.turned htd (.inr (by omega)))
            have HSMB := Lib.hid HSM.out
            have hsn3 : sn ≤ 3 := by omega
            have hbc : buf.length = cap := by omega
            have HBC := Lib.hid hbc
            have hbl3 : buf.length ≤ 3 := by omega
            clear HOWN HBX HRR HTR HCR hcd htd p0 p1 hbc HSM
            have hL : wr.heap.size ≤ wd.heap.size := hzd
            have hB1 : ∀ k, blkA A1 = some k → (w1.heap.size + 1) ≤ k ∧ k < wr.heap.size := fun k hk => ⟨(HOWN3.out.blk hk).1, (HOWN3.out.blk hk).2.1⟩
            have HB1 := Lib.hid hB1
            clear hB1
            obtain ⟨LL, hLL⟩ : ∃ LL, LL = wr.heap.size := ⟨_, rfl⟩
            have hLL1 : (w1.heap.size + 1) ≤ LL := by omega
            have hLL2 : LL ≤ wd.heap.size := by omega
            rw [← hLL] at HOWN3 HB1
            have HLL := Lib.hid hLL
            clear hLL
            go_wp2_with fail
            go_loopw [6] (fun i wr => ∃ (m : Nat) (A2 : Option Addr) (c2 : Nat) (sends : List DWaiter), i = .int .i64 (m : Int) ∧ sends.length + m ≤ 3 ∧ smallW sends ∧ (wr.heap[w1.heap.size]? = some (.cells #[.int .i64 (cap : Int), .slice A1 buf.length c1, .slice A2 sends.length c2, .slice none 0 0, .bool false] 26 (0, 0)) ∧ Own wr LL wr.heap.size 29 3 A2 sends.length c2 ((sends.map fun x => [Value.int .i64 x.fG, .int .i64 x.fCase, .int .i64 x.fVal]).flatten)) ∧ Own wr (w1.heap.size + 1) LL 3 1 A1 buf.length c1 ((buf.map fun z => [Value.int .i64 z]).flatten) ∧ LL ≤ wr.heap.size ∧ CurAt wr g A n c ∧ wr.heap[w.heap.size]? = some (.cells #[.int .i64 0, .slice none 0 0, .slice none 0 0, .slice none 0 0, .bool false] 26 (0, 0)) ∧ Turned g (g + 1) w wr) (fun i _ => (intOf i).toNat)
            case atStart => exact ⟨sn, none, 0, [], rfl, by simpa using hsn3, by intro v hv; simp at hv, ⟨HBX3.out, Own.nil_ _ _ _ _ _⟩, HOWN3.out, hLL2, HCR3.out, HRR3.out, HTR3.out⟩
            case round =>
              clear HBX3 HOWN3 HCR3 HRR3 HTR3
              obtain ⟨m, A2, c2, sends, rfl, hle3, hsm, ⟨hbx, hown⟩, hownB, hLw, hcr, hrr, htr⟩ := hrel
              have HOB := Lib.hid hownB
              clear hownB
              by_cases hm : 0 < m
              · skip
                have HBX := Lib.hid hbx
                have HOWN := Lib.hid hown
                have HRR := Lib.hid hrr
                have HSM := Lib.hid hsm
                have hzr := htr.size
                have hbl := lt_of_block hbx
                have HTR := Lib.hid htr
                have HCR := Lib.hid hcr
                have p0 := box_cell (j := 0) hbx rfl
                have p1 := box_cell (j := 1) hbx rfl
                have p2 := box_cell (j := 2) hbx rfl
                have p3 := box_cell (j := 3) hbx rfl
                clear hbx hown hrr hsm htr hcr
                go_wp2_with fail
                go_region_law (first | (refine step_calls rfl 70 _ _ _ rfl enters_below (.pointer (some ⟨g, 0, none⟩)) (.int .i64 4) rfl rfl (show Calls Try.prog 70 #[.pointer (some ⟨g, 0, none⟩), .int .i64 4] wr.drew (Drew (fun x => x < 4 ∨ x = 0) wr.drew g A n c) from HBL.out wr.drew 4 (by omega) HTR.out.drew HCR.out) ?_; rintro e y1 ⟨v1, hv1, rfl, hcy1, hty1⟩; refine ⟨_, rfl, ?_⟩; have tt1 : Turned g (g + 1) wr y1 := ⟨hty1.os, hty1.tape, hty1.output, hty1.size, hty1.block⟩; have zy1 := tt1.size; have xx1 := box_turned HBX.out tt1 (.inr (by omega)); have pp1 := box_cell (j := 2) xx1 rfl) | (refine step_calls rfl 70 _ _ _ rfl enters_below (.pointer (some ⟨g, 0, none⟩)) (.int .i64 3) rfl rfl (show Calls Try.prog 70 #[.pointer (some ⟨g, 0, none⟩), .int .i64 3] y1 (Drew (fun x => x < 3 ∨ x = 0) y1 g A n c) from HBL.out y1 3 (by omega) (HTR.out.trans tt1) hcy1) ?_; rintro e y2 ⟨v2, hv2, rfl, hcy2, hty2⟩; refine ⟨_, rfl, ?_⟩; have tt2 : Turned g (g + 1) wr y2 := tt1.trans hty2; have zy2 := tt2.size; have xx2 := box_turned HBX.out tt2 (.inr (by omega)); have pp2 := box_cell (j := 2) xx2 rfl) | (refine step_calls rfl 70 _ _ _ rfl enters_below (.pointer (some ⟨g, 0, none⟩)) (.int .i64 20) rfl rfl (show Calls Try.prog 70 #[.pointer (some ⟨g, 0, none⟩), .int .i64 20] y2 (Drew (fun x => x < 20 ∨ x = 0) y2 g A n c) from HBL.out y2 20 (by omega) (HTR.out.trans tt2) hcy2) ?_; rintro e y3 ⟨v3, hv3, rfl, hcy3, hty3⟩; refine ⟨_, rfl, ?_⟩; have tt3 : Turned g (g + 1) wr y3 := tt2.trans hty3; have zy3 := tt3.size; have xx3 := box_turned HBX.out tt3 (.inr (by omega)); have pp3 := box_cell (j := 2) xx3 rfl; have HX5 := Lib.hid (box_keep xx3 ((Below.refl _ _).alloc (Nat.le_refl _) (.cells #[.int .i64 (v1 : Int), .int .i64 (IntKind.i64.wrap ((v2 : Int) - 1)), .int .i64 (v3 : Int)] 29)) (by omega)); have p1c := box_cell (j := 2) HX5.out rfl; have hown5 := (HOWN.out.turned tt3 (.inr (by omega))).alloc (.cells #[.int .i64 (v1 : Int), .int .i64 (IntKind.i64.wrap ((v2 : Int) - 1)), .int .i64 (v3 : Int)] 29); have hbase5 : LL ≤ (y3.alloc (.cells #[.int .i64 (v1 : Int), .int .i64 (IntKind.i64.wrap ((v2 : Int) - 1)), .int .i64 (v3 : Int)] 29)).heap.size := (by simp; omega); have hbxlo : w1.heap.size < LL := (by omega); have HSN := Lib.hid (seen_three' y3 (.int .i64 (v1 : Int)) (.int .i64 (IntKind.i64.wrap ((v2 : Int) - 1))) (.int .i64 (v3 : Int)) 29)) | (refine step_append_kin rfl (.tmp 51) (.tmp 60) _ rfl LL _ 29 j0 _ 3 24 Try.underlying24 hj0 hjz0 hjz1 hjz2 rfl (by omega) A2 sends.length c2 _ rfl hown5 _ ⟨y3.heap.size, 0, none⟩ 1 1 [.int .i64 (v1 : Int), .int .i64 (IntKind.i64.wrap ((v2 : Int) - 1)), .int .i64 (v3 : Int)] rfl HSN.out (by simp [Value.oneCell']) (by omega) (by simp only [maxLen]; omega) (by omega) hbase5 ?_; intro A6 c6 w6 own6 hb6 hk6 hA6; have hx6 := box_keep HX5.out hb6 hbxlo; have q1 := box_cell (j := 2) hx6 rfl; have ffq := box_free hx6 2))
                all_goals
                  have zal : y3.heap.size + 1 ≤ w6.heap.size := by have := hb6.size; simp at this; omega
                  have hB6 : Below LL y3 w6 := (((Below.refl _ _).alloc (Nat.le_refl _) _).mono (by omega)).trans hb6
                  have hB7 : Below w.heap.size y3 (w6.setCell ⟨w1.heap.size, 2, none⟩ (.slice A6 (sends.length + 1) c6)) := below_set (hB6.mono (by omega)) (by simp only; omega) _
                  have hx7 := box_set (j := 2) (u := .slice A6 (sends.length + 1) c6) hx6
                  have hzs : (w6.setCell ⟨w1.heap.size, 2, none⟩ (.slice A6 (sends.length + 1) c6)).heap.size = w6.heap.size := by simp [World.setCell]
                  have hrr7 : (w6.setCell ⟨w1.heap.size, 2, none⟩ (.slice A6 (sends.length + 1) c6)).heap[w.heap.size]? = some (.cells #[.int .i64 0, .slice none 0 0, .slice none 0 0, .slice none 0 0, .bool false] 26 (0, 0)) := (Below.heap_setCell w6 ⟨w1.heap.size, 2, none⟩ _ w.heap.size (by simp only; omega)).trans (box_keep (box_turned HRR.out tt3 (.inr (by omega))) hB6 (by omega))
                  have hc7 := hcy3.laterC hB7 hgs
                  have ht7 := (HTR.out.trans tt3).then_below hB7 (Nat.le_refl _)
                  have hwr : IntKind.i64.wrap ((v2 : Int) - 1) = (v2 : Int) - 1 := by rw [IntKind.wrap_i64]; omega
                  have hfl : (sends.map fun x => [Value.int .i64 x.fG, .int .i64 x.fCase, .int .i64 x.fVal]).flatten ++ [.int .i64 (v1 : Int), .int .i64 (IntKind.i64.wrap ((v2 : Int) - 1)), .int .i64 (v3 : Int)] = ((sends ++ [(⟨(v1 : Int), (v2 : Int) - 1, (v3 : Int)⟩ : DWaiter)]).map fun x => [Value.int .i64 x.fG, .int .i64 x.fCase, .int .i64 x.fVal]).flatten := by simp [hwr]
                  rw [hfl] at own6
                  have ho7 : Own (w6.setCell ⟨w1.heap.size, 2, none⟩ (.slice A6 (sends.length + 1) c6)) LL (w6.setCell ⟨w1.heap.size, 2, none⟩ (.slice A6 (sends.length + 1) c6)).heap.size 29 3 A6 (sends.length + 1) c6 (((sends ++ [(⟨(v1 : Int), (v2 : Int) - 1, (v3 : Int)⟩ : DWaiter)]).map fun x => [Value.int .i64 x.fG, .int .i64 x.fCase, .int .i64 x.fVal]).flatten) := (own6.keep (w' := (w6.setCell ⟨w1.heap.size, 2, none⟩ (.slice A6 (sends.length + 1) c6))) fun k h1 _ _ => Below.heap_setCell w6 _ _ k (by simp only; omega)).wider (Nat.le_refl _) (by omega)
                  have hd : 0 ≤ (v1 : Int) ∧ (v1 : Int) ≤ 3 ∧ -1 ≤ (v2 : Int) - 1 ∧ (v2 : Int) - 1 ≤ 1 ∧ 0 ≤ (v3 : Int) ∧ (v3 : Int) ≤ 19 := by omega
                  have hob7 : Own (w6.setCell ⟨w1.heap.size, 2, none⟩ (.slice A6 (sends.length + 1) c6)) (w1.heap.size + 1) LL 3 1 A1 buf.length c1 ((buf.map fun z => [Value.int .i64 z]).flatten) := HOB.out.keep fun k h1 h2 h3 => (Below.heap_setCell w6 _ _ k (by simp only; omega)).trans ((hB6.block k (by omega)).trans (tt3.block k h3 (.inr (by omega))))
                  have hL7 : LL ≤ (w6.setCell ⟨w1.heap.size, 2, none⟩ (.slice A6 (sends.length + 1) c6)).heap.size := by omega
                  go_wp2_with fail
                  go_roundw
                  case rel => exact ⟨m - 1, A6, c6, sends ++ [(⟨(v1 : Int), (v2 : Int) - 1, (v3 : Int)⟩ : DWaiter)], by go_num, by simp; omega, HSM.out.snoc hd, ⟨by simpa using hx7, by simpa using ho7⟩, hob7, hL7, hc7, hrr7, ht7⟩
                  case measure => simp [intOf]; omega
              · obtain rfl : m = 0 := by omega
                have HBX := Lib.hid hbx
                have HOWN := Lib.hid hown
                have HRR := Lib.hid hrr
                have HSM := Lib.hid hsm
                have hzr := htr.size
                have hbl := lt_of_block hbx
                have HTR := Lib.hid htr
                have HCR := Lib.hid hcr
                clear hbx hown hrr hsm htr hcr
                have e0 := box_cell (j := 0) HBX.out rfl
                have e1 := box_cell (j := 1) HBX.out rfl
                have e2 := box_cell (j := 2) HBX.out rfl
                have e3 := box_cell (j := 3) HBX.out rfl
                have e4 := box_cell (j := 4) HBX.out rfl
                have r0 := box_cell (j := 0) HRR.out rfl
                have f0 := box_free HRR.out 0
                have r1 := box_cell (j := 1) HRR.out rfl
                have f1 := box_free HRR.out 1
                have r2 := box_cell (j := 2) HRR.out rfl
                have f2 := box_free HRR.out 2
                have r3 := box_cell (j := 3) HRR.out rfl
                have f3 := box_free HRR.out 3
                have r4 := box_cell (j := 4) HRR.out rfl
                have f4 := box_free HRR.out 4
                go_wp2_with fail
                have hfin := (box_set (j := 4) (u := .bool false) (box_set (j := 3) (u := .slice none 0 0) (box_set (j := 2) (u := .slice A2 sends.length c2) (box_set (j := 1) (u := .slice A1 buf.length c1) (box_set (j := 0) (u := .int .i64 (cap : Int)) HRR.out)))))
                have z0 := box_cell (j := 0) hfin rfl
                have z1 := box_cell (j := 1) hfin rfl
                have z2 := box_cell (j := 2) hfin rfl
                have z3 := box_cell (j := 3) hfin rfl
                have z4 := box_cell (j := 4) hfin rfl
                have hBF : Below w.heap.size wr (((((wr.setCell ⟨w.heap.size, 0, none⟩ (.int .i64 (cap : Int))).setCell ⟨w.heap.size, 1, none⟩ (.slice A1 buf.length c1)).setCell ⟨w.heap.size, 2, none⟩ (.slice A2 sends.length c2)).setCell ⟨w.heap.size, 3, none⟩ (.slice none 0 0)).setCell ⟨w.heap.size, 4, none⟩ (.bool false)) := below_set (below_set (below_set (below_set (below_set (Below.refl w.heap.size wr) (Nat.le_refl _) _) (Nat.le_refl _) _) (Nat.le_refl _) _) (Nat.le_refl _) _) (Nat.le_refl _) _
                have htF := HTR.out.then_below hBF (Nat.le_refl _)
                have hkF : ∀ k, k ≠ w.heap.size → (((((wr.setCell ⟨w.heap.size, 0, none⟩ (.int .i64 (cap : Int))).setCell ⟨w.heap.size, 1, none⟩ (.slice A1 buf.length c1)).setCell ⟨w.heap.size, 2, none⟩ (.slice A2 sends.length c2)).setCell ⟨w.heap.size, 3, none⟩ (.slice none 0 0)).setCell ⟨w.heap.size, 4, none⟩ (.bool false)).heap[k]? = wr.heap[k]? := fun k hk => ((((Below.heap_setCell _ _ _ k (by simpa using hk)).trans (Below.heap_setCell _ _ _ k (by simpa using hk))).trans (Below.heap_setCell _ _ _ k (by simpa using hk))).trans (Below.heap_setCell _ _ _ k (by simpa using hk))).trans (Below.heap_setCell _ _ _ k (by simpa using hk))
                have hzF : (((((wr.setCell ⟨w.heap.size, 0, none⟩ (.int .i64 (cap : Int))).setCell ⟨w.heap.size, 1, none⟩ (.slice A1 buf.length c1)).setCell ⟨w.heap.size, 2, none⟩ (.slice A2 sends.length c2)).setCell ⟨w.heap.size, 3, none⟩ (.slice none 0 0)).setCell ⟨w.heap.size, 4, none⟩ (.bool false)).heap.size = wr.heap.size := by simp [World.setCell]
                generalize (((((wr.setCell ⟨w.heap.size, 0, none⟩ (.int .i64 (cap : Int))).setCell ⟨w.heap.size, 1, none⟩ (.slice A1 buf.length c1)).setCell ⟨w.heap.size, 2, none⟩ (.slice A2 sends.length c2)).setCell ⟨w.heap.size, 3, none⟩ (.slice none 0 0)).setCell ⟨w.heap.size, 4, none⟩ (.bool false)) = WF at *
                refine bodyPost_ret (v := .agg #[.int .i64 (cap : Int), .slice A1 buf.length c1, .slice A2 sends.length c2, .slice none 0 0, .bool false]) (by simp [results, Try.results42, go_sem, z0, z1, z2, z3, z4]) rfl ?_
                refine ⟨⟨cap, buf, sends, [], false⟩, _, ok_sends HSMB.out HSM.out (by omega) HBC.out, by simp [szChan]; omega, rfl, ?_, htF⟩
                have ho1 := (HOB.out).keep (w' := WF) fun k h1 _ _ => hkF k (by omega)
                have hr1 : OwnR Lay.int 3 WF (fun b => (w1.heap.size + 1) ≤ b ∧ b < LL) A1 buf.length c1 buf := ownR_flat ho1 rfl (fun v hv => wf_small (by have := HSMB.out v hv; omega) (by have := HSMB.out v hv; omega))
                have hrt1 := TailR.of hr1
                have ho2 := (HOWN.out).keep (w' := WF) fun k h1 _ _ => hkF k (by omega)
                have hr2 : OwnR layWaiter 29 WF (fun b => LL ≤ b ∧ b < wr.heap.size) A2 sends.length c2 sends := ownR_flat ho2 rfl (fun d hd => ⟨wf_small (by have := HSM.out d hd; omega) (by have := HSM.out d hd; omega), wf_small (by have := HSM.out d hd; omega) (by have := HSM.out d hd; omega), wf_small (by have := HSM.out d hd; omega) (by have := HSM.out d hd; omega)⟩)
                have hrt2 := TailR.of hr2
                exact ownChan (x := (⟨cap, buf, sends, [], false⟩ : DChan)) (wf_small (by simp only; omega) (by simp only; omega)) hrt1 hrt2 (TailR.of (ownR_nil _ _ _)) (fun b hb => by omega) (fun b hb => by omega) (fun _ h => h.elim) (fun b hb hb2 => by omega) (fun _ _ h => h) (fun _ _ h => h)
      · skip
        have f1b := box_free HBX.out 1
        have e1b := box_cell (j := 1) HBX.out rfl
        go_upto_region 16 with (fail)
        have HBX2 := Lib.hid (box_set (j := 1) (u := .slice none 0 0) HBX.out)
        have HRR2 := Lib.hid ((Below.heap_setCell wr ⟨w1.heap.size, 1, none⟩ (.slice none 0 0) w.heap.size (by simp only; omega)).trans HRR.out)
        have hbs : Below w.heap.size wr (wr.setCell ⟨w1.heap.size, 1, none⟩ (.slice none 0 0)) := below_set (p := ⟨w1.heap.size, 1, none⟩) (Below.refl w.heap.size wr) (by simp only; omega) (.slice none 0 0)
        have HTR2 := Lib.hid (HTR.out.then_below hbs (Nat.le_refl _))
        have HCR2 := Lib.hid (HCR.out.laterC hbs hgs)
        have hzw := Nat.le_of_eq (show (wr.setCell ⟨w1.heap.size, 1, none⟩ (.slice none 0 0)).heap.size = wr.heap.size by simp [World.setCell])
        have hzw2 := Nat.le_of_eq (show wr.heap.size = (wr.setCell ⟨w1.heap.size, 1, none⟩ (.slice none 0 0)).heap.size by simp [World.setCell])
        clear f1b e1b hbs
        generalize (wr.setCell ⟨w1.heap.size, 1, none⟩ (.slice none 0 0)) = wc at *
        go_wp2_with fail
        refine (HBL.out wc 4 (by omega) HTR2.out HCR2.out).mono ?_
        rintro e wd ⟨rn, hrn, rfl, hcd, htd⟩
        have hzd := htd.size
        have HBX3 := Lib.hid (box_turned HBX2.out htd (.inr (by omega)))
        have HRR3 := Lib.hid (box_turned HRR2.out htd (.inr (by omega)))
        have HTR3 := Lib.hid (HTR2.out.trans htd)
        have HCR3 := Lib.hid hcd
        have hrn3 : rn ≤ 3 := by omega
        clear HOWN HBX HRR HTR HCR hcd htd HBX2 HRR2 HTR2 HCR2
        go_wp2_with fail
        go_loopw [7] (fun i wr => ∃ (m : Nat) (A3 : Option Addr) (c3 : Nat) (recvs : List DWaiter), i = .int .i64 (m : Int) ∧ recvs.length + m ≤ 3 ∧ smallR recvs ∧ (wr.heap[w1.heap.size]? = some (.cells #[.int .i64 (cap : Int), .slice none 0 0, .slice none 0 0, .slice A3 recvs.length c3, .bool false] 26 (0, 0)) ∧ Own wr (w1.heap.size + 1) wr.heap.size 29 3 A3 recvs.length c3 ((recvs.map fun x => [Value.int .i64 x.fG, .int .i64 x.fCase, .int .i64 x.fVal]).flatten)) ∧ CurAt wr g A n c ∧ wr.heap[w.heap.size]? = some (.cells #[.int .i64 0, .slice none 0 0, .slice none 0 0, .slice none 0 0, .bool false] 26 (0, 0)) ∧ Turned g (g + 1) w wr) (fun i _ => (intOf i).toNat)
        case atStart => exact ⟨rn, none, 0, [], rfl, by simpa using hrn3, by intro v hv; simp at hv, ⟨HBX3.out, Own.nil_ _ _ _ _ _⟩, HCR3.out, HRR3.out, HTR3.out⟩
        case round =>
          obtain ⟨m, A3, c3, recvs, rfl, hle3, hsm, ⟨hbx, hown⟩, hcr, hrr, htr⟩ := hrel
          by_cases hm : 0 < m
          · skip
            have HBX := Lib.hid hbx
            have HOWN := Lib.hid hown
            have HRR := Lib.hid hrr
            have HSM := Lib.hid hsm
            have hzr := htr.size
            have hbl := lt_of_block hbx
            have HTR := Lib.hid htr
            have HCR := Lib.hid hcr
            have p0 := box_cell (j := 0) hbx rfl
            have p1 := box_cell (j := 1) hbx rfl
            have p2 := box_cell (j := 2) hbx rfl
            have p3 := box_cell (j := 3) hbx rfl
            clear hbx hown hrr hsm htr hcr
            go_wp2_with fail
            go_region_law (first | (refine step_calls rfl 70 _ _ _ rfl enters_below (.pointer (some ⟨g, 0, none⟩)) (.int .i64 4) rfl rfl (show Calls Try.prog 70 #[.pointer (some ⟨g, 0, none⟩), .int .i64 4] wr.drew (Drew (fun x => x < 4 ∨ x = 0) wr.drew g A n c) from HBL.out wr.drew 4 (by omega) HTR.out.drew HCR.out) ?_; rintro e y1 ⟨v1, hv1, rfl, hcy1, hty1⟩; refine ⟨_, rfl, ?_⟩; have tt1 : Turned g (g + 1) wr y1 := ⟨hty1.os, hty1.tape, hty1.output, hty1.size, hty1.block⟩; have zy1 := tt1.size; have xx1 := box_turned HBX.out tt1 (.inr (by omega)); have pp1 := box_cell (j := 3) xx1 rfl) | (refine step_calls rfl 70 _ _ _ rfl enters_below (.pointer (some ⟨g, 0, none⟩)) (.int .i64 3) rfl rfl (show Calls Try.prog 70 #[.pointer (some ⟨g, 0, none⟩), .int .i64 3] y1 (Drew (fun x => x < 3 ∨ x = 0) y1 g A n c) from HBL.out y1 3 (by omega) (HTR.out.trans tt1) hcy1) ?_; rintro e y2 ⟨v2, hv2, rfl, hcy2, hty2⟩; refine ⟨_, rfl, ?_⟩; have tt2 : Turned g (g + 1) wr y2 := tt1.trans hty2; have zy2 := tt2.size; have xx2 := box_turned HBX.out tt2 (.inr (by omega)); have pp2 := box_cell (j := 3) xx2 rfl; have HX5 := Lib.hid (box_keep xx2 ((Below.refl _ _).alloc (Nat.le_refl _) (.cells #[.int .i64 (v1 : Int), .int .i64 (IntKind.i64.wrap ((v2 : Int) - 1)), .int .i64 0] 29)) (by omega)); have p1c := box_cell (j := 3) HX5.out rfl; have hown5 := (HOWN.out.turned tt2 (.inr (by omega))).alloc (.cells #[.int .i64 (v1 : Int), .int .i64 (IntKind.i64.wrap ((v2 : Int) - 1)), .int .i64 0] 29); have hbase5 : (w1.heap.size + 1) ≤ (y2.alloc (.cells #[.int .i64 (v1 : Int), .int .i64 (IntKind.i64.wrap ((v2 : Int) - 1)), .int .i64 0] 29)).heap.size := (by simp; omega); have hbxlo : w1.heap.size < (w1.heap.size + 1) := (by omega); have HSN := Lib.hid (seen_three' y2 (.int .i64 (v1 : Int)) (.int .i64 (IntKind.i64.wrap ((v2 : Int) - 1))) (.int .i64 0) 29)) | (refine step_append_kin rfl (.tmp 73) (.tmp 80) _ rfl (w1.heap.size + 1) _ 29 j0 _ 3 24 Try.underlying24 hj0 hjz0 hjz1 hjz2 rfl (by omega) A3 recvs.length c3 _ rfl hown5 _ ⟨y2.heap.size, 0, none⟩ 1 1 [.int .i64 (v1 : Int), .int .i64 (IntKind.i64.wrap ((v2 : Int) - 1)), .int .i64 0] rfl HSN.out (by simp [Value.oneCell']) (by omega) (by simp only [maxLen]; omega) (by omega) hbase5 ?_; intro A6 c6 w6 own6 hb6 hk6 hA6; have hx6 := box_keep HX5.out hb6 hbxlo; have q1 := box_cell (j := 3) hx6 rfl; have ffq := box_free hx6 3))
            all_goals
              have zal : y2.heap.size + 1 ≤ w6.heap.size := by have := hb6.size; simp at this; omega
              have hB6 : Below (w1.heap.size + 1) y2 w6 := (((Below.refl _ _).alloc (Nat.le_refl _) _).mono (by omega)).trans hb6
              have hB7 : Below w.heap.size y2 (w6.setCell ⟨w1.heap.size, 3, none⟩ (.slice A6 (recvs.length + 1) c6)) := below_set (hB6.mono (by omega)) (by simp only; omega) _
              have hx7 := box_set (j := 3) (u := .slice A6 (recvs.length + 1) c6) hx6
              have hzs : (w6.setCell ⟨w1.heap.size, 3, none⟩ (.slice A6 (recvs.length + 1) c6)).heap.size = w6.heap.size := by simp [World.setCell]
              have hrr7 : (w6.setCell ⟨w1.heap.size, 3, none⟩ (.slice A6 (recvs.length + 1) c6)).heap[w.heap.size]? = some (.cells #[.int .i64 0, .slice none 0 0, .slice none 0 0, .slice none 0 0, .bool false] 26 (0, 0)) := (Below.heap_setCell w6 ⟨w1.heap.size, 3, none⟩ _ w.heap.size (by simp only; omega)).trans (box_keep (box_turned HRR.out tt2 (.inr (by omega))) hB6 (by omega))
              have hc7 := hcy2.laterC hB7 hgs
              have ht7 := (HTR.out.trans tt2).then_below hB7 (Nat.le_refl _)
              have hwr : IntKind.i64.wrap ((v2 : Int) - 1) = (v2 : Int) - 1 := by rw [IntKind.wrap_i64]; omega
              have hfl : (recvs.map fun x => [Value.int .i64 x.fG, .int .i64 x.fCase, .int .i64 x.fVal]).flatten ++ [.int .i64 (v1 : Int), .int .i64 (IntKind.i64.wrap ((v2 : Int) - 1)), .int .i64 0] = ((recvs ++ [(⟨(v1 : Int), (v2 : Int) - 1, 0⟩ : DWaiter)]).map fun x => [Value.int .i64 x.fG, .int .i64 x.fCase, .int .i64 x.fVal]).flatten := by simp [hwr]
              rw [hfl] at own6
              have ho7 : Own (w6.setCell ⟨w1.heap.size, 3, none⟩ (.slice A6 (recvs.length + 1) c6)) (w1.heap.size + 1) (w6.setCell ⟨w1.heap.size, 3, none⟩ (.slice A6 (recvs.length + 1) c6)).heap.size 29 3 A6 (recvs.length + 1) c6 (((recvs ++ [(⟨(v1 : Int), (v2 : Int) - 1, 0⟩ : DWaiter)]).map fun x => [Value.int .i64 x.fG, .int .i64 x.fCase, .int .i64 x.fVal]).flatten) := (own6.keep (w' := (w6.setCell ⟨w1.heap.size, 3, none⟩ (.slice A6 (recvs.length + 1) c6))) fun k h1 _ _ => Below.heap_setCell w6 _ _ k (by simp only; omega)).wider (Nat.le_refl _) (by omega)
              have hd : 0 ≤ (v1 : Int) ∧ (v1 : Int) ≤ 3 ∧ -1 ≤ (v2 : Int) - 1 ∧ (v2 : Int) - 1 ≤ 1 ∧ (0 : Int) = 0 := by omega
              go_wp2_with fail
              go_roundw
              case rel => exact ⟨m - 1, A6, c6, recvs ++ [(⟨(v1 : Int), (v2 : Int) - 1, 0⟩ : DWaiter)], by go_num, by simp; omega, HSM.out.snoc hd, ⟨by simpa using hx7, by simpa using ho7⟩, hc7, hrr7, ht7⟩
              case measure => simp [intOf]; omega
          · obtain rfl : m = 0 := by omega
            have HBX := Lib.hid hbx
            have HOWN := Lib.hid hown
            have HRR := Lib.hid hrr
            have HSM := Lib.hid hsm
            have hzr := htr.size
            have hbl := lt_of_block hbx
            have HTR := Lib.hid htr
            have HCR := Lib.hid hcr
            clear hbx hown hrr hsm htr hcr
            have e0 := box_cell (j := 0) HBX.out rfl
            have e1 := box_cell (j := 1) HBX.out rfl
            have e2 := box_cell (j := 2) HBX.out rfl
            have e3 := box_cell (j := 3) HBX.out rfl
            have e4 := box_cell (j := 4) HBX.out rfl
            have r0 := box_cell (j := 0) HRR.out rfl
            have f0 := box_free HRR.out 0
            have r1 := box_cell (j := 1) HRR.out rfl
            have f1 := box_free HRR.out 1
            have r2 := box_cell (j := 2) HRR.out rfl
            have f2 := box_free HRR.out 2
            have r3 := box_cell (j := 3) HRR.out rfl
            have f3 := box_free HRR.out 3
            have r4 := box_cell (j := 4) HRR.out rfl
            have f4 := box_free HRR.out 4
            go_wp2_with fail
            have hfin := (box_set (j := 4) (u := .bool false) (box_set (j := 3) (u := .slice A3 recvs.length c3) (box_set (j := 2) (u := .slice none 0 0) (box_set (j := 1) (u := .slice none 0 0) (box_set (j := 0) (u := .int .i64 (cap : Int)) HRR.out)))))
            have z0 := box_cell (j := 0) hfin rfl
            have z1 := box_cell (j := 1) hfin rfl
            have z2 := box_cell (j := 2) hfin rfl
            have z3 := box_cell (j := 3) hfin rfl
            have z4 := box_cell (j := 4) hfin rfl
            have hBF : Below w.heap.size wr (((((wr.setCell ⟨w.heap.size, 0, none⟩ (.int .i64 (cap : Int))).setCell ⟨w.heap.size, 1, none⟩ (.slice none 0 0)).setCell ⟨w.heap.size, 2, none⟩ (.slice none 0 0)).setCell ⟨w.heap.size, 3, none⟩ (.slice A3 recvs.length c3)).setCell ⟨w.heap.size, 4, none⟩ (.bool false)) := below_set (below_set (below_set (below_set (below_set (Below.refl w.heap.size wr) (Nat.le_refl _) _) (Nat.le_refl _) _) (Nat.le_refl _) _) (Nat.le_refl _) _) (Nat.le_refl _) _
            have htF := HTR.out.then_below hBF (Nat.le_refl _)
            have hkF : ∀ k, k ≠ w.heap.size → (((((wr.setCell ⟨w.heap.size, 0, none⟩ (.int .i64 (cap : Int))).setCell ⟨w.heap.size, 1, none⟩ (.slice none 0 0)).setCell ⟨w.heap.size, 2, none⟩ (.slice none 0 0)).setCell ⟨w.heap.size, 3, none⟩ (.slice A3 recvs.length c3)).setCell ⟨w.heap.size, 4, none⟩ (.bool false)).heap[k]? = wr.heap[k]? := fun k hk => ((((Below.heap_setCell _ _ _ k (by simpa using hk)).trans (Below.heap_setCell _ _ _ k (by simpa using hk))).trans (Below.heap_setCell _ _ _ k (by simpa using hk))).trans (Below.heap_setCell _ _ _ k (by simpa using hk))).trans (Below.heap_setCell _ _ _ k (by simpa using hk))
            have hzF : (((((wr.setCell ⟨w.heap.size, 0, none⟩ (.int .i64 (cap : Int))).setCell ⟨w.heap.size, 1, none⟩ (.slice none 0 0)).setCell ⟨w.heap.size, 2, none⟩ (.slice none 0 0)).setCell ⟨w.heap.size, 3, none⟩ (.slice A3 recvs.length c3)).setCell ⟨w.heap.size, 4, none⟩ (.bool false)).heap.size = wr.heap.size := by simp [World.setCell]
            generalize (((((wr.setCell ⟨w.heap.size, 0, none⟩ (.int .i64 (cap : Int))).setCell ⟨w.heap.size, 1, none⟩ (.slice none 0 0)).setCell ⟨w.heap.size, 2, none⟩ (.slice none 0 0)).setCell ⟨w.heap.size, 3, none⟩ (.slice A3 recvs.length c3)).setCell ⟨w.heap.size, 4, none⟩ (.bool false)) = WF at *
            refine bodyPost_ret (v := .agg #[.int .i64 (cap : Int), .slice none 0 0, .slice none 0 0, .slice A3 recvs.length c3, .bool false]) (by simp [results, Try.results42, go_sem, z0, z1, z2, z3, z4]) rfl ?_
            refine ⟨⟨cap, [], [], recvs, false⟩, _, ok_recvs HSM.out (by omega), by simp [szChan]; omega, rfl, ?_, htF⟩
            have ho3 := (HOWN.out).keep (w' := WF) fun k h1 _ _ => hkF k (by omega)
            have hr3 : OwnR layWaiter 29 WF (fun b => (w1.heap.size + 1) ≤ b ∧ b < wr.heap.size) A3 recvs.length c3 recvs := ownR_flat ho3 rfl (fun d hd => ⟨wf_small (by have := HSM.out d hd; omega) (by have := HSM.out d hd; omega), wf_small (by have := HSM.out d hd; omega) (by have := HSM.out d hd; omega), wf_small (by have := HSM.out d hd; omega) (by have := HSM.out d hd; omega)⟩)
            have hrt3 := TailR.of hr3
            exact ownChan (x := (⟨cap, [], [], recvs, false⟩ : DChan)) (wf_small (by simp only; omega) (by simp only; omega)) (TailR.of (ownR_nil _ _ _)) (TailR.of (ownR_nil _ _ _)) hrt3 (fun _ h => h.elim) (fun _ h => h.elim) (fun b hb => by omega) (fun _ h => h.elim) (fun _ h => h.elim) (fun _ h => h.elim)
      · skip
        have f4b := box_free HBX.out 4
        have e4b := box_cell (j := 4) HBX.out rfl
        go_upto_region 22 with (fail)
        have HBX2 := Lib.hid (box_set (j := 4) (u := .bool true) HBX.out)
        have HRR2 := Lib.hid ((Below.heap_setCell wr ⟨w1.heap.size, 4, none⟩ (.bool true) w.heap.size (by simp only; omega)).trans HRR.out)
        have HTR2 := Lib.hid (HTR.out.then_below (below_set (p := ⟨w1.heap.size, 4, none⟩) (Below.refl w.heap.size wr) (by simp only; omega) (.bool true)) (Nat.le_refl _))
        have HOWN2 := Lib.hid (HOWN.out.keep (w' := (wr.setCell ⟨w1.heap.size, 4, none⟩ (.bool true))) fun k h1 _ _ => Below.heap_setCell wr _ _ k (by simp only; omega))
        have hzw := Nat.le_of_eq (show (wr.setCell ⟨w1.heap.size, 4, none⟩ (.bool true)).heap.size = wr.heap.size by simp [World.setCell])
        have hzw2 := Nat.le_of_eq (show wr.heap.size = (wr.setCell ⟨w1.heap.size, 4, none⟩ (.bool true)).heap.size by simp [World.setCell])
        clear f4b e4b
        generalize (wr.setCell ⟨w1.heap.size, 4, none⟩ (.bool true)) = wc at *
        have e0 := box_cell (j := 0) HBX2.out rfl
        have e1 := box_cell (j := 1) HBX2.out rfl
        have e2 := box_cell (j := 2) HBX2.out rfl
        have e3 := box_cell (j := 3) HBX2.out rfl
        have e4 := box_cell (j := 4) HBX2.out rfl
        have r0 := box_cell (j := 0) HRR2.out rfl
        have f0 := box_free HRR2.out 0
        have r1 := box_cell (j := 1) HRR2.out rfl
        have f1 := box_free HRR2.out 1
        have r2 := box_cell (j := 2) HRR2.out rfl
        have f2 := box_free HRR2.out 2
        have r3 := box_cell (j := 3) HRR2.out rfl
        have f3 := box_free HRR2.out 3
        have r4 := box_cell (j := 4) HRR2.out rfl
        have f4 := box_free HRR2.out 4
        go_wp2_with fail
        have hfin := (box_set (j := 4) (u := .bool true) (box_set (j := 3) (u := .slice none 0 0) (box_set (j := 2) (u := .slice none 0 0) (box_set (j := 1) (u := .slice A1 buf.length c1) (box_set (j := 0) (u := .int .i64 (cap : Int)) HRR2.out)))))
        have z0 := box_cell (j := 0) hfin rfl
        have z1 := box_cell (j := 1) hfin rfl
        have z2 := box_cell (j := 2) hfin rfl
        have z3 := box_cell (j := 3) hfin rfl
        have z4 := box_cell (j := 4) hfin rfl
        have hBF : Below w.heap.size wc (((((wc.setCell ⟨w.heap.size, 0, none⟩ (.int .i64 (cap : Int))).setCell ⟨w.heap.size, 1, none⟩ (.slice A1 buf.length c1)).setCell ⟨w.heap.size, 2, none⟩ (.slice none 0 0)).setCell ⟨w.heap.size, 3, none⟩ (.slice none 0 0)).setCell ⟨w.heap.size, 4, none⟩ (.bool true)) := below_set (below_set (below_set (below_set (below_set (Below.refl w.heap.size wc) (Nat.le_refl _) _) (Nat.le_refl _) _) (Nat.le_refl _) _) (Nat.le_refl _) _) (Nat.le_refl _) _
        have htF := HTR2.out.then_below hBF (Nat.le_refl _)
        have hkF : ∀ k, k ≠ w.heap.size → (((((wc.setCell ⟨w.heap.size, 0, none⟩ (.int .i64 (cap : Int))).setCell ⟨w.heap.size, 1, none⟩ (.slice A1 buf.length c1)).setCell ⟨w.heap.size, 2, none⟩ (.slice none 0 0)).setCell ⟨w.heap.size, 3, none⟩ (.slice none 0 0)).setCell ⟨w.heap.size, 4, none⟩ (.bool true)).heap[k]? = wc.heap[k]? := fun k hk => ((((Below.heap_setCell _ _ _ k (by simpa using hk)).trans (Below.heap_setCell _ _ _ k (by simpa using hk))).trans (Below.heap_setCell _ _ _ k (by simpa using hk))).trans (Below.heap_setCell _ _ _ k (by simpa using hk))).trans (Below.heap_setCell _ _ _ k (by simpa using hk))
        have hzF : (((((wc.setCell ⟨w.heap.size, 0, none⟩ (.int .i64 (cap : Int))).setCell ⟨w.heap.size, 1, none⟩ (.slice A1 buf.length c1)).setCell ⟨w.heap.size, 2, none⟩ (.slice none 0 0)).setCell ⟨w.heap.size, 3, none⟩ (.slice none 0 0)).setCell ⟨w.heap.size, 4, none⟩ (.bool true)).heap.size = wc.heap.size := by simp [World.setCell]
        generalize (((((wc.setCell ⟨w.heap.size, 0, none⟩ (.int .i64 (cap : Int))).setCell ⟨w.heap.size, 1, none⟩ (.slice A1 buf.length c1)).setCell ⟨w.heap.size, 2, none⟩ (.slice none 0 0)).setCell ⟨w.heap.size, 3, none⟩ (.slice none 0 0)).setCell ⟨w.heap.size, 4, none⟩ (.bool true)) = WF at *
        refine bodyPost_ret (v := .agg #[.int .i64 (cap : Int), .slice A1 buf.length c1, .slice none 0 0, .slice none 0 0, .bool true]) (by simp [results, Try.results42, go_sem, z0, z1, z2, z3, z4]) rfl ?_
        refine ⟨⟨cap, buf, [], [], true⟩, _, ok_plain HSM.out (by omega) (by omega), by simp [szChan]; omega, rfl, ?_, htF⟩
        have ho1 := (HOWN2.out).keep (w' := WF) fun k h1 _ _ => hkF k (by omega)
        have hr1 : OwnR Lay.int 3 WF (fun b => (w1.heap.size + 1) ≤ b ∧ b < wr.heap.size) A1 buf.length c1 buf := ownR_flat ho1 rfl (fun v hv => wf_small (by have := HSM.out v hv; omega) (by have := HSM.out v hv; omega))
        have hrt1 := TailR.of hr1
        exact ownChan (x := (⟨cap, buf, [], [], true⟩ : DChan)) (wf_small (by simp only; omega) (by simp only; omega)) hrt1 (TailR.of (ownR_nil _ _ _)) (TailR.of (ownR_nil _ _ _)) (fun b hb => by omega) (fun _ h => h.elim) (fun _ h => h.elim) (fun _ _ h => h) (fun _ _ h => h) (fun _ h => h.elim)
      · skip
        have e0 := box_cell (j := 0) HBX.out rfl
        have e1 := box_cell (j := 1) HBX.out rfl
        have e2 := box_cell (j := 2) HBX.out rfl
        have e3 := box_cell (j := 3) HBX.out rfl
        have e4 := box_cell (j := 4) HBX.out rfl
        have r0 := box_cell (j := 0) HRR.out rfl
        have f0 := box_free HRR.out 0
        have r1 := box_cell (j := 1) HRR.out rfl
        have f1 := box_free HRR.out 1
        have r2 := box_cell (j := 2) HRR.out rfl
        have f2 := box_free HRR.out 2
        have r3 := box_cell (j := 3) HRR.out rfl
        have f3 := box_free HRR.out 3
        have r4 := box_cell (j := 4) HRR.out rfl
        have f4 := box_free HRR.out 4
        go_wp2_with fail
        have hfin := (box_set (j := 4) (u := .bool false) (box_set (j := 3) (u := .slice none 0 0) (box_set (j := 2) (u := .slice none 0 0) (box_set (j := 1) (u := .slice A1 buf.length c1) (box_set (j := 0) (u := .int .i64 (cap : Int)) HRR.out)))))
        have z0 := box_cell (j := 0) hfin rfl
        have z1 := box_cell (j := 1) hfin rfl
        have z2 := box_cell (j := 2) hfin rfl
        have z3 := box_cell (j := 3) hfin rfl
        have z4 := box_cell (j := 4) hfin rfl
        have hBF : Below w.heap.size wr (((((wr.setCell ⟨w.heap.size, 0, none⟩ (.int .i64 (cap : Int))).setCell ⟨w.heap.size, 1, none⟩ (.slice A1 buf.length c1)).setCell ⟨w.heap.size, 2, none⟩ (.slice none 0 0)).setCell ⟨w.heap.size, 3, none⟩ (.slice none 0 0)).setCell ⟨w.heap.size, 4, none⟩ (.bool false)) := below_set (below_set (below_set (below_set (below_set (Below.refl w.heap.size wr) (Nat.le_refl _) _) (Nat.le_refl _) _) (Nat.le_refl _) _) (Nat.le_refl _) _) (Nat.le_refl _) _
        have htF := HTR.out.then_below hBF (Nat.le_refl _)
        have hkF : ∀ k, k ≠ w.heap.size → (((((wr.setCell ⟨w.heap.size, 0, none⟩ (.int .i64 (cap : Int))).setCell ⟨w.heap.size, 1, none⟩ (.slice A1 buf.length c1)).setCell ⟨w.heap.size, 2, none⟩ (.slice none 0 0)).setCell ⟨w.heap.size, 3, none⟩ (.slice none 0 0)).setCell ⟨w.heap.size, 4, none⟩ (.bool false)).heap[k]? = wr.heap[k]? := fun k hk => ((((Below.heap_setCell _ _ _ k (by simpa using hk)).trans (Below.heap_setCell _ _ _ k (by simpa using hk))).trans (Below.heap_setCell _ _ _ k (by simpa using hk))).trans (Below.heap_setCell _ _ _ k (by simpa using hk))).trans (Below.heap_setCell _ _ _ k (by simpa using hk))
        have hzF : (((((wr.setCell ⟨w.heap.size, 0, none⟩ (.int .i64 (cap : Int))).setCell ⟨w.heap.size, 1, none⟩ (.slice A1 buf.length c1)).setCell ⟨w.heap.size, 2, none⟩ (.slice none 0 0)).setCell ⟨w.heap.size, 3, none⟩ (.slice none 0 0)).setCell ⟨w.heap.size, 4, none⟩ (.bool false)).heap.size = wr.heap.size := by simp [World.setCell]
        generalize (((((wr.setCell ⟨w.heap.size, 0, none⟩ (.int .i64 (cap : Int))).setCell ⟨w.heap.size, 1, none⟩ (.slice A1 buf.length c1)).setCell ⟨w.heap.size, 2, none⟩ (.slice none 0 0)).setCell ⟨w.heap.size, 3, none⟩ (.slice none 0 0)).setCell ⟨w.heap.size, 4, none⟩ (.bool false)) = WF at *
        refine bodyPost_ret (v := .agg #[.int .i64 (cap : Int), .slice A1 buf.length c1, .slice none 0 0, .slice none 0 0, .bool false]) (by simp [results, Try.results42, go_sem, z0, z1, z2, z3, z4]) rfl ?_
        refine ⟨⟨cap, buf, [], [], false⟩, _, ok_plain HSM.out (by omega) (by omega), by simp [szChan]; omega, rfl, ?_, htF⟩
        have ho1 := (HOWN.out).keep (w' := WF) fun k h1 _ _ => hkF k (by omega)
        have hr1 : OwnR Lay.int 3 WF (fun b => (w1.heap.size + 1) ≤ b ∧ b < wr.heap.size) A1 buf.length c1 buf := ownR_flat ho1 rfl (fun v hv => wf_small (by have := HSM.out v hv; omega) (by have := HSM.out v hv; omega))
        have hrt1 := TailR.of hr1
        exact ownChan (x := (⟨cap, buf, [], [], false⟩ : DChan)) (wf_small (by simp only; omega) (by simp only; omega)) hrt1 (TailR.of (ownR_nil _ _ _)) (TailR.of (ownR_nil _ _ _)) (fun b hb => by omega) (fun _ h => h.elim) (fun _ h => h.elim) (fun _ _ h => h) (fun _ _ h => h) (fun _ h => h.elim)
end Go.Proofs.Ytgdmcdblhpdlmaa
