
/- Pick: how it lies, how it is opened as an argument; the contracts of the laws' helpers over it. Laid by wip/tools/gen.py. -/

import Derived.Test.YtegbnmlipajclaaGBase

namespace Go.Proofs.Ytegbnmlipajclaa
set_option linter.unusedSimpArgs false
set_option linter.unusedVariables false
open Go.RowKit

structure DPick where
  fG : Int
  fC : Int
/-- How it lies: in its cells alone. -/
def layPick : Lay DPick := Lay.flat 2 (fun x => [.int .i64 x.fG, .int .i64 x.fC]) (fun x => (Lit.int .i64 x.fG).wf = true ∧ (Lit.int .i64 x.fC).wf = true) (fun _ => rfl)
set_option maxRecDepth 100000 in
set_option maxHeartbeats 1000000 in
theorem eqPick_same {w : World} (x : DPick) : Calls Try.prog 17 #[.agg #[.int .i64 x.fG, .int .i64 x.fC], .agg #[.int .i64 x.fG, .int .i64 x.fC]] w (SaysTrue w) := by
  have hb0 : Below w.heap.size w ((w.alloc (.cells #[.int .i64 x.fG, .int .i64 x.fC] 34)).alloc (.cells #[.int .i64 x.fG, .int .i64 x.fC] 34)) := ((Below.refl _ _).alloc (Nat.le_refl _) _).alloc (by simp) _
  go_enter Try.func17, Try.ntmps17
  go_wp2
  repeat (go_quiet (fail); go_wp2)
  go_ret
  exact ⟨rfl, by first | exact hb0 | exact below_drawn hb0 _ | go_grown⟩

set_option maxRecDepth 100000 in
set_option maxHeartbeats 1000000 in
theorem eqPickS_same {A A' : Option Addr} {n c c' hi hi' : Nat} {xs : List DPick} {w : World} (h : SeenR layPick w hi A n xs) (h' : SeenR layPick w hi' A' n xs) (hh : hi ≤ w.heap.size) (hh' : hi' ≤ w.heap.size) (hn : n ≤ 1048576) :
    Calls Try.prog 10 #[.slice A n c, .slice A' n c'] w (SaysTrue w) := by
  go_enter Try.func10, Try.ntmps10
  go_wp2
  go_loopw [5] (fun i wr => ∃ k : Nat, k ≤ n ∧ i = .int .i64 k ∧ Below w.heap.size w wr) (fun i _ => n - (intOf i).toNat)
  case atStart => exact ⟨0, Nat.zero_le _, rfl, Below.refl _ _⟩
  case round =>
    obtain ⟨k, hk, rfl, hb⟩ := hrel
    have z := hb.size
    by_cases hlt : k < n
    · obtain ⟨hx, g, o, vs, rfl, hg, ⟨rfl, hw⟩, hc⟩ := (h.below hb hh).at_ hlt
      obtain ⟨hx', g', o', vs', rfl, hg', ⟨rfl, hw'⟩, hc'⟩ := (h'.below hb hh').at_ hlt
      have cc0 := hc 0 _ rfl
      have dd0 := hc' 0 _ rfl
      have cc1 := hc 1 _ rfl
      have dd1 := hc' 1 _ rfl
      simp only [show layPick.size = 2 from rfl, ← Nat.add_assoc, Nat.add_zero, Nat.mul_one] at cc0 cc1 dd0 dd1
      clear hc hc' hw hw'
      generalize xs[k] = x at *
      have HE := Lib.hid (fun W : World => eqPick_same (w := W) x)
      have hi0 : (0 : Int) ≤ (k : Int) := by omega
      have hi1 : (k : Int) < (n : Int) := by omega
      go_wp2_with fail
      go_region_with (go_at_call 17; refine (HE.out _).mono ?_; rintro e w1 ⟨rfl, hb1⟩)
      all_goals
        have hbb : Below w.heap.size w w1 := hb.drew.trans (hb1.mono z)
        clear hb1 HE cc0 cc1 dd0 dd1
        go_wp2_with fail
        go_roundw
        case rel => exact ⟨k + 1, by omega, by go_num, hbb⟩
        case measure => simp [intOf]; omega
    · go_wp2
      go_ret
      exact ⟨rfl, hb⟩

theorem infoPick : (Try.prog.info? 34).map (fun i => (i.zero, i.size, i.bytes)) = some (some (.agg #[.int .i64 0, .int .i64 0]), 2, 16) := by kernel_rfl

end Go.Proofs.Ytegbnmlipajclaa
