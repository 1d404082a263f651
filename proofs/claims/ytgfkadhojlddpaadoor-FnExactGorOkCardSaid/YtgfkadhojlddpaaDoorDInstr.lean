
/- Instr: how it lies, how it is opened as an argument; the contracts of the laws' helpers over it. Laid by wip/tools/gen.py. -/

import Derived.Test.YtgfkadhojlddpaaDoorDInt

namespace Go.Proofs.YtgfkadhojlddpaaDoor
set_option linter.unusedSimpArgs false
set_option linter.unusedVariables false
open Go.RowKit

structure DInstr where
  fOp : Int
  fA : Int
  fB : Int
  fC : Int
/-- How it lies: in its cells alone. -/
def layInstr : Lay DInstr := Lay.flat 4 (fun x => [.int .i64 x.fOp, .int .i64 x.fA, .int .i64 x.fB, .int .i64 x.fC]) (fun x => (Lit.int .i64 x.fOp).wf = true ∧ (Lit.int .i64 x.fA).wf = true ∧ (Lit.int .i64 x.fB).wf = true ∧ (Lit.int .i64 x.fC).wf = true) (fun _ => rfl)
theorem opensInstr : Opens Tryd.prog 23 layInstr := by
  refine Opens.to (opens_struct Tryd.underlying23 (by kernel_rfl) (.cons rfl (opens_int Tryd.underlying3 (by kernel_rfl)) (.cons rfl (opens_int Tryd.underlying3 (by kernel_rfl)) (.cons rfl (opens_int Tryd.underlying3 (by kernel_rfl)) (.one rfl (opens_int Tryd.underlying3 (by kernel_rfl))))))) rfl fun w hi a vs h => ?_
  obtain ⟨a0, a1, a2, a3⟩ := a
  obtain ⟨_, _, rfl, s0, ⟨_, _, rfl, s1, ⟨_, _, rfl, s2, s3⟩⟩⟩ := h
  obtain ⟨rfl, h0⟩ := s0
  obtain ⟨rfl, h1⟩ := s1
  obtain ⟨rfl, h2⟩ := s2
  obtain ⟨rfl, h3⟩ := s3
  exact ⟨⟨a0, a1, a2, a3⟩, rfl, h0, h1, h2, h3⟩

theorem szInstrS_any {w : World} {A : Option Addr} {n c l : Nat} (hl : l ≤ 1048576) (hn : n ≤ maxLen) :
    Calls Tryd.prog 131 #[.slice A n c, .int .i64 (l : Int)] w (SzPost w l n) := by
  unfold maxLen at hn
  by_cases h : n ≤ l
  · have hs : Hid ((l : Int) - (n : Int) = ((l - n : Nat) : Int)) := Lib.hid (by omega)
    go_enter Tryd.func131, Tryd.ntmps131
    go_wp2
    go_ret
    exact ⟨Below.refl _ _, .inl ⟨h, by rw [hs.out]; rfl⟩⟩
  · have h' : l < n := by omega
    go_enter Tryd.func131, Tryd.ntmps131
    go_wp2
    go_ret
    exact ⟨Below.refl _ _, .inr ⟨h', rfl⟩⟩

set_option maxRecDepth 100000 in
set_option maxHeartbeats 1000000 in
theorem eqInstr_same {w : World} (x : DInstr) : Calls Tryd.prog 151 #[.agg #[.int .i64 x.fOp, .int .i64 x.fA, .int .i64 x.fB, .int .i64 x.fC], .agg #[.int .i64 x.fOp, .int .i64 x.fA, .int .i64 x.fB, .int .i64 x.fC]] w (SaysTrue w) := by
  have hb0 : Below w.heap.size w ((w.alloc (.cells #[.int .i64 x.fOp, .int .i64 x.fA, .int .i64 x.fB, .int .i64 x.fC] 25)).alloc (.cells #[.int .i64 x.fOp, .int .i64 x.fA, .int .i64 x.fB, .int .i64 x.fC] 25)) := ((Below.refl _ _).alloc (Nat.le_refl _) _).alloc (by simp) _
  go_enter Tryd.func151, Tryd.ntmps151
  go_wp2
  repeat (go_quiet (fail); go_wp2)
  go_ret
  exact ⟨rfl, by first | exact hb0 | exact below_drawn hb0 _ | go_grown⟩

set_option maxRecDepth 100000 in
set_option maxHeartbeats 1000000 in
theorem eqInstrS_same {A A' : Option Addr} {n c c' hi hi' : Nat} {xs : List DInstr} {w : World} (h : SeenR layInstr w hi A n xs) (h' : SeenR layInstr w hi' A' n xs) (hh : hi ≤ w.heap.size) (hh' : hi' ≤ w.heap.size) (hn : n ≤ 1048576) :
    Calls Tryd.prog 142 #[.slice A n c, .slice A' n c'] w (SaysTrue w) := by
  go_enter Tryd.func142, Tryd.ntmps142
  go_wp2
  go_loopw [5] (fun i wr => ∃ k : Nat, k ≤ n ∧ i = .int .i64 k ∧ Below w.heap.size w wr) (fun i _ => n - (intOf i).toNat)
  case atStart => exact ⟨0, Nat.zero_le _, rfl, Below.refl _ _⟩
  case round =>
    obtain ⟨k, hk, rfl, hb⟩ := hrel
    have z := hb.size
    by_cases hlt : k < n
    · obtain ⟨hx, g, o, vs, rfl, hg, ⟨rfl, hw⟩, hc⟩ := (h.below hb hh).at_ hlt
      obtain ⟨hx', g', o', vs', rfl, hg', ⟨rfl, hw'⟩, hc'⟩ := (h'.below hb hh').at_ hlt
      have cc0 := hc 0 _ rfl
      have dd0 := hc' 0 _ rfl
      have cc1 := hc 1 _ rfl
      have dd1 := hc' 1 _ rfl
      have cc2 := hc 2 _ rfl
      have dd2 := hc' 2 _ rfl
      have cc3 := hc 3 _ rfl
      have dd3 := hc' 3 _ rfl
      simp only [show layInstr.size = 4 from rfl, ← Nat.add_assoc, Nat.add_zero, Nat.mul_one] at cc0 cc1 cc2 cc3 dd0 dd1 dd2 dd3
      clear hc hc' hw hw'
      generalize xs[k] = x at *
      have HE := Lib.hid (fun W : World => eqInstr_same (w := W) x)
      have hi0 : (0 : Int) ≤ (k : Int) := by omega
      have hi1 : (k : Int) < (n : Int) := by omega
      go_wp2_with fail
      go_region_with (go_at_call 151; refine (HE.out _).mono ?_; rintro e w1 ⟨rfl, hb1⟩)
      all_goals
        have hbb : Below w.heap.size w w1 := hb.drew.trans (hb1.mono z)
        clear hb1 HE cc0 cc1 cc2 cc3 dd0 dd1 dd2 dd3
        go_wp2_with fail
        go_roundw
        case rel => exact ⟨k + 1, by omega, by go_num, hbb⟩
        case measure => simp [intOf]; omega
    · go_wp2
      go_ret
      exact ⟨rfl, hb⟩

set_option maxRecDepth 100000 in
set_option maxHeartbeats 1000000 in
theorem toInstr_any {w : World} {hi : Nat} {x : DInstr} {vs : List Value} (h : layInstr.see w hi x vs) :
    Calls Tryd.prog 9 #[.agg vs.toArray] w (MadeL layInstr w x) := by
  obtain ⟨rfl, hw⟩ := h
  have HW := Lib.hid hw
  clear hw
  show Calls Tryd.prog 9 #[.agg #[.int .i64 x.fOp, .int .i64 x.fA, .int .i64 x.fB, .int .i64 x.fC]] w (MadeL layInstr w x)
  go_enter Tryd.func9, Tryd.ntmps9
  go_wp2
  refine bodyPost_ret (v := .agg #[.int .i64 x.fOp, .int .i64 x.fA, .int .i64 x.fB, .int .i64 x.fC]) (by simp [results, Tryd.results9, go_sem]) rfl ?_
  exact ⟨_, rfl, ⟨rfl, HW.out⟩, by go_grown⟩

theorem infoInstr : (Tryd.prog.info? 25).map (fun i => (i.zero, i.size, i.bytes)) = some (some (.agg #[.int .i64 0, .int .i64 0, .int .i64 0, .int .i64 0]), 4, 32) := by kernel_rfl

set_option maxRecDepth 100000 in
set_option maxHeartbeats 1000000 in
theorem toInstrS_any {w : World} {A : Option Addr} {n c hi : Nat} {xs : List DInstr} (h : SeenR layInstr w hi A n xs) (hhi : hi ≤ w.heap.size) (hn : n ≤ 1048576) :
    Calls Tryd.prog 137 #[.slice A n c] w (MadeR layInstr 25 w n xs) := by
  obtain ⟨i0, hi0, hz0, hz1, hz2⟩ := info_parts infoInstr
  have hmk := fun W : World => run_make (P := Tryd.prog) W 136 25 i0 _ Tryd.underlying136 hi0 hz0 .i64 .i64 n n (by omega) (by omega) (by rw [hz2]; omega) (by omega)
  simp only [hz1, Int.toNat_natCast] at hmk
  have HL := Lib.hid h.1
  clear hi0 hz0 hz1 hz2
  go_enter Tryd.func137, Tryd.ntmps137
  go_wp2
  clear hmk
  go_loopw [4] (fun i wr => ∃ k : Nat, k ≤ n ∧ i = .int .i64 k ∧ Part layInstr 25 wr w.heap.size n xs k wr.heap.size ∧ Below w.heap.size w wr) (fun i _ => n - (intOf i).toNat)
  case atStart =>
    refine ⟨0, Nat.zero_le _, rfl, ?_, (Below.refl _ _).alloc (Nat.le_refl _) _⟩
    have hm := Own.made (size := 4) (e := 25) w (madeCells #[.int .i64 0, .int .i64 0, .int .i64 0, .int .i64 0] (n * 4)) n n (by simp only [maxLen]; omega) (by simp [size_madeCells]) (Nat.le_refl _)
    exact Part.start HL.out hm (by simp)
  case round =>
    obtain ⟨k, hk, rfl, hpart, hb⟩ := hrel
    have z := hb.size
    by_cases hlt : k < n
    · obtain ⟨hx, g, o, vs, rfl, hg, hsee, hcell⟩ := (h.below hb hhi).at_ hlt
      have hdk := Lib.hid (List.getElem?_eq_getElem hx)
      generalize xs[k] = x at *
      have HE := Lib.hid (fun (W : World) (hW : Below wr.heap.size wr W) => toInstr_any (w := W) (layInstr.keep hsee fun k hk => hW.block k (by omega)))
      obtain ⟨rfl, hw⟩ := hsee
      have cc0 := hcell 0 _ rfl
      have cc1 := hcell 1 _ rfl
      have cc2 := hcell 2 _ rfl
      have cc3 := hcell 3 _ rfl
      simp only [show layInstr.size = 4 from rfl, ← Nat.add_assoc, Nat.add_zero, Nat.mul_one] at cc0 cc1 cc2 cc3
      clear hcell
      go_wp2_with fail
      refine (HE.out _ (Below.refl _ _)).mono ?_
      rintro e w1 ⟨us, rfl, own1, hb1⟩
      have hus := layInstr.len (layInstr.seen own1 (hi := w1.heap.size) fun g hg => hg.2)
      have hsu := layInstr.seen own1 (hi := w1.heap.size) fun g hg => hg.2
      obtain ⟨rfl, hwu⟩ := hsu
      have hp1 := hpart.below hb1
      obtain ⟨⟨v0, ho0⟩, hf0⟩ := hp1.room hlt 0 (by decide)
      obtain ⟨⟨v1, ho1⟩, hf1⟩ := hp1.room hlt 1 (by decide)
      obtain ⟨⟨v2, ho2⟩, hf2⟩ := hp1.room hlt 2 (by decide)
      obtain ⟨⟨v3, ho3⟩, hf3⟩ := hp1.room hlt 3 (by decide)
      have hp2 := hp1.step hdk.out hus own1 (fun g hg => hg)
      have hb2 : Below w.heap.size w w1 := hb.trans (hb1.mono z)
      simp only [show layInstr.size = 4 from rfl, ← Nat.add_assoc, Nat.add_zero, Nat.mul_one] at ho0 hf0 ho1 hf1 ho2 hf2 ho3 hf3 hp2
      clear hpart hp1 hb1 HE own1 hus cc0 cc1 cc2 cc3
      go_wp2_with fail
      go_roundw
      case rel => exact ⟨k + 1, by omega, by go_num, by simpa [putCells] using hp2, by go_grown⟩
      case measure => simp [intOf]; omega
    · go_wp2_with fail
      go_ret
      obtain rfl : k = n := by omega
      exact ⟨_, _, rfl, hpart.done, hb⟩
end Go.Proofs.YtgfkadhojlddpaaDoor
