
/- The program's count over a queue (with any function of one element), all, ChanOk, CanSend, CanRecv, Waits. -/

import Derived.Test.YtakogbpjijbpeaaDoorChanI

namespace Go.Proofs.YtakogbpjijbpeaaDoor
set_option linter.unusedSimpArgs false
set_option linter.unusedVariables false
open Go.RowKit

/-- The function may be entered. -/
def Enters (f : Nat) : Prop := ∀ (args : Array Value) (w : World), Sem.run Tryd.prog (callFunc f args) w = .ok (.enter f args) w
theorem enters_of {f : Nat} {fn : Func} (h : Tryd.prog.funcs[f]? = some fn) (h1 : (fn.name == "runtime.NumGoroutine") = false) (h2 : fn.body.isNone = false) : Enters f := fun args w => by
  have h3 : ¬ fn.name = "runtime.NumGoroutine" := by simpa using h1
  have h4 : ¬ fn.body = none := fun h => by rw [h] at h2; simp at h2
  simp [callFunc, go_sem, h, h3, h4]
theorem enters_val : Enters 41 := enters_of Tryd.func41 (by kernel_rfl) (by kernel_rfl)
set_option maxRecDepth 100000 in
set_option maxHeartbeats 2000000 in
theorem countV_any {f : Nat} (hf : Enters f) {cap : Array Value} {p : Int → Bool} {w : World} {hi n c : Nat} {A : Option Addr} {ds : List Int} (h : SeenR Lay.int w hi A n ds) (hhi : hi ≤ w.heap.size) (hn : n ≤ maxLen)
    (hp : ∀ W d, Below w.heap.size w W → Calls Tryd.prog f (#[.int .i64 d] ++ cap) W fun e W' => e = .returned (.bool (p d)) ∧ Below W.heap.size W W') :
    Calls Tryd.prog 64 #[.slice A n c, .func (.func f) #[] cap] w fun e w' => e = .returned (.int .i64 (ds.countP p : Int)) ∧ Below w.heap.size w w' := by
  have HL := Lib.hid h.1
  unfold maxLen at hn
  go_enter Tryd.func64, Tryd.ntmps64
  go_wp2_with fail
  go_loopw [5, 10] (fun q i wr => ∃ k : Nat, k ≤ n ∧ i = .int .i64 k ∧ q = .int .i64 ((ds.take k).countP p : Int) ∧ Below w.heap.size w wr) (fun _ i _ => n - (intOf i).toNat)
  case atStart => exact ⟨0, Nat.zero_le _, rfl, by simp, Below.refl _ _⟩
  case round =>
    obtain ⟨k, hk, rfl, rfl, hb⟩ := hrel
    by_cases hlt : k < n
    · obtain ⟨hx, g, o, vs, rfl, hg, ⟨rfl, hw⟩, hcell⟩ := (h.below hb hhi).at_ hlt
      have HD := Lib.hid (List.getElem?_eq_getElem hx)
      have HC := Lib.hid (List.countP_le_length (p := p) (l := ds.take k))
      have HCn : (ds.take k).countP p ≤ k := by have := HC.out; rw [List.length_take] at this; omega
      have hz := hb.size
      have HP := Lib.hid hp
      generalize ds[k] = d at *
      have HT := Lib.hid (show (ds.take (k + 1)).countP p = (ds.take k).countP p + if p d then 1 else 0 by rw [List.take_add_one, HD.out, List.countP_append]; simp [List.countP_cons])
      generalize (ds.take k).countP p = m at *
      have cc0 := hcell 0 _ rfl
      simp only [show Lay.int.size = 1 from rfl, ← Nat.add_assoc, Nat.add_zero, Nat.mul_one] at cc0
      clear hcell hw hp h
      have HB := Lib.hid hb
      go_wp2_with fail
      rw [hf, Oper.upon_enter]
      refine (HP.out _ d HB.out).mono ?_
      rintro e w1 ⟨rfl, hb1⟩
      have HB1 := Lib.hid (HB.out.trans (hb1.mono (by omega)))
      clear hb1 cc0
      cases hq : p d
      · rw [hq] at HT
        go_wp2_with fail
        go_roundw
        case rel => exact ⟨k + 1, by omega, by go_num, by rw [HT.out]; simp, HB1.out⟩
        case measure => simp [intOf]; omega
      · rw [hq] at HT
        go_wp2_with fail
        go_roundw
        case rel => exact ⟨k + 1, by omega, by go_num, by rw [HT.out]; simp, HB1.out⟩
        case measure => simp [intOf]; omega
    · go_wp2_with fail
      go_ret
      obtain rfl : k = n := by omega
      rw [List.take_of_length_le (by rw [HL.out]; exact Nat.le_refl _)]
      exact ⟨rfl, hb⟩

set_option maxRecDepth 100000 in
set_option maxHeartbeats 1000000 in
theorem allV_any {f : Nat} (hf : Enters f) {cap : Array Value} {p : Int → Bool} {w : World} {hi n c : Nat} {A : Option Addr} {ds : List Int} (h : SeenR Lay.int w hi A n ds) (hhi : hi ≤ w.heap.size) (hn : n ≤ maxLen)
    (hp : ∀ W d, Below w.heap.size w W → Calls Tryd.prog f (#[.int .i64 d] ++ cap) W fun e W' => e = .returned (.bool (p d)) ∧ Below W.heap.size W W') :
    Calls Tryd.prog 40 #[.slice A n c, .func (.func f) #[] cap] w fun e w' => e = .returned (.bool (ds.all p)) ∧ Below w.heap.size w w' := by
  have HC := Lib.hid (countV_any (c := c) hf h hhi hn hp)
  have hl := h.1
  have hq : ds.all p = decide (ds.countP p = n) := by
    rw [← hl, Bool.eq_iff_iff, List.all_eq_true, decide_eq_true_eq, List.countP_eq_length]
  have HQ := Lib.hid hq
  generalize ds.countP p = m at *
  clear hq h hl hp
  go_enter Tryd.func40, Tryd.ntmps40
  go_wp2_with fail
  refine HC.out.mono ?_
  rintro e w1 ⟨rfl, hb⟩
  by_cases he : m = n
  · subst he
    go_wp2_with fail
    go_ret
    exact ⟨by rw [HQ.out]; simp, hb⟩
  · have he2 : ¬ (m : Int) = (n : Int) := by omega
    go_wp2_with fail
    go_ret
    exact ⟨by rw [HQ.out]; simp [he]; try omega, hb⟩

theorem hpVal (w W : World) (d : Int) (h : Below w.heap.size w W) : Calls Tryd.prog 41 (#[.int .i64 d] ++ #[]) W fun e W' => e = .returned (.bool (okV d)) ∧ Below W.heap.size W W' := by
  rw [Array.append_empty]
  exact (isValC_any d W).mono fun e W' h => ⟨h.1, by rw [← h.2]; exact Below.refl _ _⟩
end Go.Proofs.YtakogbpjijbpeaaDoor
