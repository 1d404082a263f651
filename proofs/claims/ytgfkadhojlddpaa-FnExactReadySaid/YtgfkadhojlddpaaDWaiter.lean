
/- Waiter: how it lies, how it is opened as an argument; the contracts of the laws' helpers over it. Laid by wip/tools/gen.py. -/

import Derived.Test.YtgfkadhojlddpaaDInt

namespace Go.Proofs.Ytgfkadhojlddpaa
set_option linter.unusedSimpArgs false
set_option linter.unusedVariables false
open Go.RowKit

structure DWaiter where
  fG : Int
  fCase : Int
  fVal : Int
/-- How it lies: in its cells alone. -/
def layWaiter : Lay DWaiter := Lay.flat 3 (fun x => [.int .i64 x.fG, .int .i64 x.fCase, .int .i64 x.fVal]) (fun x => (Lit.int .i64 x.fG).wf = true ∧ (Lit.int .i64 x.fCase).wf = true ∧ (Lit.int .i64 x.fVal).wf = true) (fun _ => rfl)
theorem opensWaiter : Opens Try.prog 94 layWaiter := by
  refine Opens.to (opens_struct Try.underlying94 (by kernel_rfl) (.cons rfl (opens_int Try.underlying3 (by kernel_rfl)) (.cons rfl (opens_int Try.underlying3 (by kernel_rfl)) (.one rfl (opens_int Try.underlying3 (by kernel_rfl)))))) rfl fun w hi a vs h => ?_
  obtain ⟨a0, a1, a2⟩ := a
  obtain ⟨_, _, rfl, s0, ⟨_, _, rfl, s1, s2⟩⟩ := h
  obtain ⟨rfl, h0⟩ := s0
  obtain ⟨rfl, h1⟩ := s1
  obtain ⟨rfl, h2⟩ := s2
  exact ⟨⟨a0, a1, a2⟩, rfl, h0, h1, h2⟩

theorem szWaiterS_any {w : World} {A : Option Addr} {n c l : Nat} (hl : l ≤ 1048576) (hn : n ≤ maxLen) :
    Calls Try.prog 43 #[.slice A n c, .int .i64 (l : Int)] w (SzPost w l n) := by
  unfold maxLen at hn
  by_cases h : n ≤ l
  · have hs : Hid ((l : Int) - (n : Int) = ((l - n : Nat) : Int)) := Lib.hid (by omega)
    go_enter Try.func43, Try.ntmps43
    go_wp2
    go_ret
    exact ⟨Below.refl _ _, .inl ⟨h, by rw [hs.out]; rfl⟩⟩
  · have h' : l < n := by omega
    go_enter Try.func43, Try.ntmps43
    go_wp2
    go_ret
    exact ⟨Below.refl _ _, .inr ⟨h', rfl⟩⟩

set_option maxRecDepth 100000 in
set_option maxHeartbeats 1000000 in
theorem eqWaiter_same {w : World} (x : DWaiter) : Calls Try.prog 52 #[.agg #[.int .i64 x.fG, .int .i64 x.fCase, .int .i64 x.fVal], .agg #[.int .i64 x.fG, .int .i64 x.fCase, .int .i64 x.fVal]] w (SaysTrue w) := by
  have hb0 : Below w.heap.size w ((w.alloc (.cells #[.int .i64 x.fG, .int .i64 x.fCase, .int .i64 x.fVal] 90)).alloc (.cells #[.int .i64 x.fG, .int .i64 x.fCase, .int .i64 x.fVal] 90)) := ((Below.refl _ _).alloc (Nat.le_refl _) _).alloc (by simp) _
  go_enter Try.func52, Try.ntmps52
  go_wp2
  repeat (go_quiet (fail); go_wp2)
  go_ret
  exact ⟨rfl, by first | exact hb0 | exact below_drawn hb0 _ | go_grown⟩

set_option maxRecDepth 100000 in
set_option maxHeartbeats 1000000 in
theorem eqWaiterS_same {A A' : Option Addr} {n c c' hi hi' : Nat} {xs : List DWaiter} {w : World} (h : SeenR layWaiter w hi A n xs) (h' : SeenR layWaiter w hi' A' n xs) (hh : hi ≤ w.heap.size) (hh' : hi' ≤ w.heap.size) (hn : n ≤ 1048576) :
    Calls Try.prog 48 #[.slice A n c, .slice A' n c'] w (SaysTrue w) := by
  go_enter Try.func48, Try.ntmps48
  go_wp2
  go_loopw [5] (fun i wr => ∃ k : Nat, k ≤ n ∧ i = .int .i64 k ∧ Below w.heap.size w wr) (fun i _ => n - (intOf i).toNat)
  case atStart => exact ⟨0, Nat.zero_le _, rfl, Below.refl _ _⟩
  case round =>
    obtain ⟨k, hk, rfl, hb⟩ := hrel
    have z := hb.size
    by_cases hlt : k < n
    · obtain ⟨hx, g, o, vs, rfl, hg, ⟨rfl, hw⟩, hc⟩ := (h.below hb hh).at_ hlt
      obtain ⟨hx', g', o', vs', rfl, hg', ⟨rfl, hw'⟩, hc'⟩ := (h'.below hb hh').at_ hlt
      have cc0 := hc 0 _ rfl
      have dd0 := hc' 0 _ rfl
      have cc1 := hc 1 _ rfl
      have dd1 := hc' 1 _ rfl
      have cc2 := hc 2 _ rfl
      have dd2 := hc' 2 _ rfl
      simp only [show layWaiter.size = 3 from rfl, ← Nat.add_assoc, Nat.add_zero, Nat.mul_one] at cc0 cc1 cc2 dd0 dd1 dd2
      clear hc hc' hw hw'
      generalize xs[k] = x at *
      have HE := Lib.hid (fun W : World => eqWaiter_same (w := W) x)
      have hi0 : (0 : Int) ≤ (k : Int) := by omega
      have hi1 : (k : Int) < (n : Int) := by omega
      go_wp2_with fail
      go_region_with (go_at_call 52; refine (HE.out _).mono ?_; rintro e w1 ⟨rfl, hb1⟩)
      all_goals
        have hbb : Below w.heap.size w w1 := hb.drew.trans (hb1.mono z)
        clear hb1 HE cc0 cc1 cc2 dd0 dd1 dd2
        go_wp2_with fail
        go_roundw
        case rel => exact ⟨k + 1, by omega, by go_num, hbb⟩
        case measure => simp [intOf]; omega
    · go_wp2
      go_ret
      exact ⟨rfl, hb⟩

set_option maxRecDepth 100000 in
set_option maxHeartbeats 1000000 in
theorem toWaiter_any {w : World} {hi : Nat} {x : DWaiter} {vs : List Value} (h : layWaiter.see w hi x vs) :
    Calls Try.prog 50 #[.agg vs.toArray] w (MadeL layWaiter w x) := by
  obtain ⟨rfl, hw⟩ := h
  have HW := Lib.hid hw
  clear hw
  show Calls Try.prog 50 #[.agg #[.int .i64 x.fG, .int .i64 x.fCase, .int .i64 x.fVal]] w (MadeL layWaiter w x)
  go_enter Try.func50, Try.ntmps50
  go_wp2
  refine bodyPost_ret (v := .agg #[.int .i64 x.fG, .int .i64 x.fCase, .int .i64 x.fVal]) (by simp [results, Try.results50, go_sem]) rfl ?_
  exact ⟨_, rfl, ⟨rfl, HW.out⟩, by go_grown⟩

theorem infoWaiter : (Try.prog.info? 90).map (fun i => (i.zero, i.size, i.bytes)) = some (some (.agg #[.int .i64 0, .int .i64 0, .int .i64 0]), 3, 24) := by kernel_rfl

set_option maxRecDepth 100000 in
set_option maxHeartbeats 1000000 in
theorem toWaiterS_any {w : World} {A : Option Addr} {n c hi : Nat} {xs : List DWaiter} (h : SeenR layWaiter w hi A n xs) (hhi : hi ≤ w.heap.size) (hn : n ≤ 1048576) :
    Calls Try.prog 46 #[.slice A n c] w (MadeR layWaiter 90 w n xs) := by
  obtain ⟨i0, hi0, hz0, hz1, hz2⟩ := info_parts infoWaiter
  have hmk := fun W : World => run_make (P := Try.prog) W 69 90 i0 _ Try.underlying69 hi0 hz0 .i64 .i64 n n (by omega) (by omega) (by rw [hz2]; omega) (by omega)
  simp only [hz1, Int.toNat_natCast] at hmk
  have HL := Lib.hid h.1
  clear hi0 hz0 hz1 hz2
  go_enter Try.func46, Try.ntmps46
  go_wp2
  clear hmk
  go_loopw [4] (fun i wr => ∃ k : Nat, k ≤ n ∧ i = .int .i64 k ∧ Part layWaiter 90 wr w.heap.size n xs k wr.heap.size ∧ Below w.heap.size w wr) (fun i _ => n - (intOf i).toNat)
  case atStart =>
    refine ⟨0, Nat.zero_le _, rfl, ?_, (Below.refl _ _).alloc (Nat.le_refl _) _⟩
    have hm := Own.made (size := 3) (e := 90) w (madeCells #[.int .i64 0, .int .i64 0, .int .i64 0] (n * 3)) n n (by simp only [maxLen]; omega) (by simp [size_madeCells]) (Nat.le_refl _)
    exact Part.start HL.out hm (by simp)
  case round =>
    obtain ⟨k, hk, rfl, hpart, hb⟩ := hrel
    have z := hb.size
    by_cases hlt : k < n
    · obtain ⟨hx, g, o, vs, rfl, hg, hsee, hcell⟩ := (h.below hb hhi).at_ hlt
      have hdk := Lib.hid (List.getElem?_eq_getElem hx)
      generalize xs[k] = x at *
      have HE := Lib.hid (fun (W : World) (hW : Below wr.heap.size wr W) => toWaiter_any (w := W) (layWaiter.keep hsee fun k hk => hW.block k (by omega)))
      obtain ⟨rfl, hw⟩ := hsee
      have cc0 := hcell 0 _ rfl
      have cc1 := hcell 1 _ rfl
      have cc2 := hcell 2 _ rfl
      simp only [show layWaiter.size = 3 from rfl, ← Nat.add_assoc, Nat.add_zero, Nat.mul_one] at cc0 cc1 cc2
      clear hcell
      go_wp2_with fail
      refine (HE.out _ (Below.refl _ _)).mono ?_
      rintro e w1 ⟨us, rfl, own1, hb1⟩
      have hus := layWaiter.len (layWaiter.seen own1 (hi := w1.heap.size) fun g hg => hg.2)
      have hsu := layWaiter.seen own1 (hi := w1.heap.size) fun g hg => hg.2
      obtain ⟨rfl, hwu⟩ := hsu
      have hp1 := hpart.below hb1
      obtain ⟨⟨v0, ho0⟩, hf0⟩ := hp1.room hlt 0 (by decide)
      obtain ⟨⟨v1, ho1⟩, hf1⟩ := hp1.room hlt 1 (by decide)
      obtain ⟨⟨v2, ho2⟩, hf2⟩ := hp1.room hlt 2 (by decide)
      have hp2 := hp1.step hdk.out hus own1 (fun g hg => hg)
      have hb2 : Below w.heap.size w w1 := hb.trans (hb1.mono z)
      simp only [show layWaiter.size = 3 from rfl, ← Nat.add_assoc, Nat.add_zero, Nat.mul_one] at ho0 hf0 ho1 hf1 ho2 hf2 hp2
      clear hpart hp1 hb1 HE own1 hus cc0 cc1 cc2
      go_wp2_with fail
      go_roundw
      case rel => exact ⟨k + 1, by omega, by go_num, by simpa [putCells] using hp2, by go_grown⟩
      case measure => simp [intOf]; omega
    · go_wp2_with fail
      go_ret
      obtain rfl : k = n := by omega
      exact ⟨_, _, rfl, hpart.done, hb⟩
end Go.Proofs.Ytgfkadhojlddpaa
