
/- Place: how it lies, how it is opened as an argument; the contracts of the laws' helpers over it. Laid by wip/tools/gen.py and turned by hand. -/

import Derived.Test.YtgfkadhojlddpaaGreatDoorDInt

import Derived.Test.YtgfkadhojlddpaaGreatDoorGDEng

namespace Go.Proofs.YtgfkadhojlddpaaGreatDoor
set_option linter.unusedSimpArgs false
set_option linter.unusedVariables false
open Go.RowKit

structure DPlace where
  fMutex : Bool
  fObj : Int
  fSend : Bool
  fG : Int
  fCase : Int
  fVal : Int
deriving DecidableEq
/-- How it lies: in its cells alone. -/
def layPlace : Lay DPlace := Lay.flat 6 (fun x => [.bool x.fMutex, .int .i64 x.fObj, .bool x.fSend, .int .i64 x.fG, .int .i64 x.fCase, .int .i64 x.fVal]) (fun x => (Lit.int .i64 x.fObj).wf = true ∧ (Lit.int .i64 x.fG).wf = true ∧ (Lit.int .i64 x.fCase).wf = true ∧ (Lit.int .i64 x.fVal).wf = true) (fun _ => rfl)
set_option maxRecDepth 100000 in
set_option maxHeartbeats 1000000 in
theorem eqPlace_same {w : World} (x : DPlace) : Calls Tryz.prog 48 #[.agg #[.bool x.fMutex, .int .i64 x.fObj, .bool x.fSend, .int .i64 x.fG, .int .i64 x.fCase, .int .i64 x.fVal], .agg #[.bool x.fMutex, .int .i64 x.fObj, .bool x.fSend, .int .i64 x.fG, .int .i64 x.fCase, .int .i64 x.fVal]] w (SaysTrue w) := by
  have hb0 : Below w.heap.size w ((w.alloc (.cells #[.bool x.fMutex, .int .i64 x.fObj, .bool x.fSend, .int .i64 x.fG, .int .i64 x.fCase, .int .i64 x.fVal] 97)).alloc (.cells #[.bool x.fMutex, .int .i64 x.fObj, .bool x.fSend, .int .i64 x.fG, .int .i64 x.fCase, .int .i64 x.fVal] 97)) := ((Below.refl _ _).alloc (Nat.le_refl _) _).alloc (by simp) _
  go_enter Tryz.func48, Tryz.ntmps48
  go_wp2_with fail
  (try (go_quiet (fail)))
  go_wp2_with fail
  (try (go_quiet (fail)))
  go_wp2_with fail
  (try (go_quiet (fail)))
  go_wp2_with fail
  refine (eqWaiter_same ⟨x.fG, x.fCase, x.fVal⟩).mono ?_
  rintro e w1 ⟨rfl, hb1⟩
  have hB1 : Below w.heap.size w w1 := hb0.trans (hb1.mono (by simp; omega))
  go_wp2_with fail
  go_ret
  exact ⟨rfl, by first | exact hB1 | exact below_drawn hB1 _ | go_grown⟩

set_option maxRecDepth 100000 in
set_option maxHeartbeats 1000000 in
theorem eqPlaceS_same {A A' : Option Addr} {n c c' hi hi' : Nat} {xs : List DPlace} {w : World} (h : SeenR layPlace w hi A n xs) (h' : SeenR layPlace w hi' A' n xs) (hh : hi ≤ w.heap.size) (hh' : hi' ≤ w.heap.size) (hn : n ≤ 1048576) :
    Calls Tryz.prog 15 #[.slice A n c, .slice A' n c'] w (SaysTrue w) := by
  go_enter Tryz.func15, Tryz.ntmps15
  go_wp2
  go_loopw [5] (fun i wr => ∃ k : Nat, k ≤ n ∧ i = .int .i64 k ∧ Below w.heap.size w wr) (fun i _ => n - (intOf i).toNat)
  case atStart => exact ⟨0, Nat.zero_le _, rfl, Below.refl _ _⟩
  case round =>
    obtain ⟨k, hk, rfl, hb⟩ := hrel
    have z := hb.size
    by_cases hlt : k < n
    · obtain ⟨hx, g, o, vs, rfl, hg, ⟨rfl, hw⟩, hc⟩ := (h.below hb hh).at_ hlt
      obtain ⟨hx', g', o', vs', rfl, hg', ⟨rfl, hw'⟩, hc'⟩ := (h'.below hb hh').at_ hlt
      have cc0 := hc 0 _ rfl
      have dd0 := hc' 0 _ rfl
      have cc1 := hc 1 _ rfl
      have dd1 := hc' 1 _ rfl
      have cc2 := hc 2 _ rfl
      have dd2 := hc' 2 _ rfl
      have cc3 := hc 3 _ rfl
      have dd3 := hc' 3 _ rfl
      have cc4 := hc 4 _ rfl
      have dd4 := hc' 4 _ rfl
      have cc5 := hc 5 _ rfl
      have dd5 := hc' 5 _ rfl
      simp only [show layPlace.size = 6 from rfl, ← Nat.add_assoc, Nat.add_zero, Nat.mul_one] at cc0 cc1 cc2 cc3 cc4 cc5 dd0 dd1 dd2 dd3 dd4 dd5
      clear hc hc' hw hw'
      generalize xs[k] = x at *
      have HE := Lib.hid (fun W : World => eqPlace_same (w := W) x)
      have hi0 : (0 : Int) ≤ (k : Int) := by omega
      have hi1 : (k : Int) < (n : Int) := by omega
      go_wp2_with fail
      go_region_with (go_at_call 48; refine (HE.out _).mono ?_; rintro e w1 ⟨rfl, hb1⟩)
      all_goals
        have hbb : Below w.heap.size w w1 := hb.drew.trans (hb1.mono z)
        clear hb1 HE cc0 cc1 cc2 cc3 cc4 cc5 dd0 dd1 dd2 dd3 dd4 dd5
        go_wp2_with fail
        go_roundw
        case rel => exact ⟨k + 1, by omega, by go_num, hbb⟩
        case measure => simp [intOf]; omega
    · go_wp2
      go_ret
      exact ⟨rfl, hb⟩

end Go.Proofs.YtgfkadhojlddpaaGreatDoor
