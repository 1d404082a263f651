
/- Prog: how it lies, how it is opened as an argument; the contracts of the laws' helpers over it. Laid by wip/tools/gen.py. -/

import Derived.Test.YtgfkadhojlddpaaDoorDInt

import Derived.Test.YtgfkadhojlddpaaDoorDSelect

import Derived.Test.YtgfkadhojlddpaaDoorDProc

namespace Go.Proofs.YtgfkadhojlddpaaDoor
set_option linter.unusedSimpArgs false
set_option linter.unusedVariables false
open Go.RowKit

structure DProg where
  fCaps : List Int
  fMus : Int
  fSels : List DSelect
  fProcs : List DProc
/-- How it lies: its slices in blocks of their own. -/
def layProg : Lay DProg := ((Lay.int.slice 3).pair (Lay.int.pair ((laySelect.slice 35).pair (layProc.slice 138)))).via fun x => (x.fCaps, (x.fMus, (x.fSels, x.fProcs)))
theorem opensProg : Opens Tryd.prog 43 layProg :=
  opens_via _ (fun a => ⟨⟨a.1, a.2.1, a.2.2.1, a.2.2.2⟩, rfl⟩) (opens_struct Tryd.underlying43 (by kernel_rfl) (.cons rfl (opens_slice Tryd.underlying39 (by kernel_rfl) (by decide) (opens_int Tryd.underlying3 (by kernel_rfl))) (.cons rfl (opens_int Tryd.underlying3 (by kernel_rfl)) (.cons rfl (opens_slice Tryd.underlying40 (by kernel_rfl) (by decide) opensSelect) (.one rfl (opens_slice Tryd.underlying41 (by kernel_rfl) (by decide) opensProc))))))
theorem seeProg {w : World} {hi : Nat} {x : DProg} {vs : List Value} (h : layProg.see w hi x vs) : ∃ A0 n0 c0 A2 n2 c2 A3 n3 c3, vs = [.slice A0 n0 c0, .int .i64 x.fMus, .slice A2 n2 c2, .slice A3 n3 c3] ∧ (n0 ≤ c0 ∧ c0 ≤ maxLen ∧ SeenR Lay.int w hi A0 n0 x.fCaps) ∧ (Lit.int .i64 x.fMus).wf = true ∧ (n2 ≤ c2 ∧ c2 ≤ maxLen ∧ SeenR laySelect w hi A2 n2 x.fSels) ∧ (n3 ≤ c3 ∧ c3 ≤ maxLen ∧ SeenR layProc w hi A3 n3 x.fProcs) := by
  obtain ⟨_, _, rfl, s0, ⟨_, _, rfl, s1, ⟨_, _, rfl, s2, s3⟩⟩⟩ := h
  obtain ⟨A0, n0, c0, rfl, h0⟩ := s0
  obtain ⟨rfl, h1⟩ := s1
  obtain ⟨A2, n2, c2, rfl, h2⟩ := s2
  obtain ⟨A3, n3, c3, rfl, h3⟩ := s3
  exact ⟨A0, n0, c0, A2, n2, c2, A3, n3, c3, rfl, h0, h1, h2, h3⟩
theorem ownProg {w : World} {F : Nat → Prop} {x : DProg} {A0 : Option Addr} {n0 c0 : Nat} {F0 : Nat → Prop} (h0 : OwnR Lay.int 3 w F0 A0 n0 c0 x.fCaps) (h1 : (Lit.int .i64 x.fMus).wf = true) {A2 : Option Addr} {n2 c2 : Nat} {F2 : Nat → Prop} (h2 : OwnR laySelect 35 w F2 A2 n2 c2 x.fSels) {A3 : Option Addr} {n3 c3 : Nat} {F3 : Nat → Prop} (h3 : OwnR layProc 138 w F3 A3 n3 c3 x.fProcs) (k0 : ∀ g, F0 g → F g) (k2 : ∀ g, F2 g → F g) (k3 : ∀ g, F3 g → F g) (d02 : ∀ g, F0 g → ¬ F2 g) (d03 : ∀ g, F0 g → ¬ F3 g) (d23 : ∀ g, F2 g → ¬ F3 g) : layProg.own w F x [.slice A0 n0 c0, .int .i64 x.fMus, .slice A2 n2 c2, .slice A3 n3 c3] := by
  exact ⟨_, _, F0, (fun g => F2 g ∨ F3 g), rfl, ⟨A0, n0, c0, rfl, h0⟩, ⟨_, _, (fun _ => False), (fun g => F2 g ∨ F3 g), rfl, ⟨rfl, h1⟩, ⟨_, _, F2, (fun g => F3 g), rfl, ⟨A2, n2, c2, rfl, h2⟩, ⟨A3, n3, c3, rfl, h3⟩, (fun g h => Or.inl h), (fun g h => Or.inr h), (fun g h h2 => by first | exact d23 g h h2)⟩, (fun g h => h.elim), (fun g h => h), (fun g h => h.elim)⟩, k0, (fun g h => by rcases h with h | h <;> first | exact k2 g h | exact k3 g h), (fun g h h2 => by rcases h2 with h2 | h2 <;> first | exact d02 g h h2 | exact d03 g h h2)⟩

/-- How much it holds. -/
def szProg (x : DProg) : Nat := x.fCaps.length + (x.fSels.length + (x.fSels.map szSelect).sum) + (x.fProcs.length + (x.fProcs.map szProc).sum)

set_option maxRecDepth 100000 in
set_option maxHeartbeats 1000000 in
theorem szProg_any {w : World} {hi l : Nat} {x : DProg} {vs : List Value} (h : layProg.see w hi x vs) (hhi : hi ≤ w.heap.size) (hl : l ≤ 1048576) :
    Calls Tryd.prog 16 #[.agg vs.toArray, .int .i64 (l : Int)] w (SzPost w l (szProg x)) := by
  obtain ⟨A0, n0, c0, A2, n2, c2, A3, n3, c3, rfl, ⟨hc0, hm0, s0⟩, hw1, ⟨hc2, hm2, s2⟩, ⟨hc3, hm3, s3⟩⟩ := seeProg h
  have hb0 : Below w.heap.size w (w.alloc (.cells #[.slice A0 n0 c0, .int .i64 x.fMus, .slice A2 n2 c2, .slice A3 n3 c3] 43)) := (Below.refl _ _).alloc (Nat.le_refl _) _
  have hz0 : w.heap.size + 1 ≤ (w.alloc (.cells #[.slice A0 n0 c0, .int .i64 x.fMus, .slice A2 n2 c2, .slice A3 n3 c3] 43)).heap.size := by simp
  go_enter Tryd.func16, Tryd.ntmps16
  have L0 := Lib.hid s0.1
  go_wp2_with fail
  refine (szIntS_any (l := l) (by omega) (Nat.le_trans hc0 hm0)).mono ?_
  rintro e w1 ⟨hb1, hcase⟩
  have z1 := hb1.size
  obtain ⟨hcl1, hfz1⟩ := bcell hb1
  simp only [World.size_alloc] at z1
  have hl1a : w.heap.size < w1.heap.size := by omega
  have hB1 : Below w.heap.size w w1 := hb0.trans (hb1.mono (by simp))
  rcases hcase with ⟨h10, rfl⟩ | ⟨h10, rfl⟩
  · skip
    have L2 := Lib.hid s2.1
    go_wp2_with fail
    refine (szSelectS_any (l := l - n0) (s2.below hB1 hhi) (by have := hB1.size; omega) (by omega) (Nat.le_trans hc2 hm2)).mono ?_
    rintro e w2 ⟨hb2, hcase⟩
    have z2 := hb2.size
    obtain ⟨hcl2, hfz2⟩ := bcell hb2
    have hl2a : w.heap.size < w2.heap.size := by omega
    have hB2 : Below w.heap.size w w2 := hB1.trans (hb2.mono (by omega))
    rcases hcase with ⟨h11, rfl⟩ | ⟨h11, rfl⟩
    · skip
      have L3 := Lib.hid s3.1
      go_wp2_with fail
      refine (szProcS_any (l := l - n0 - (n2 + (x.fSels.map szSelect).sum)) (s3.below hB2 hhi) (by have := hB2.size; omega) (by omega) (Nat.le_trans hc3 hm3)).mono ?_
      rintro e w3 ⟨hb3, hcase⟩
      have z3 := hb3.size
      obtain ⟨hcl3, hfz3⟩ := bcell hb3
      have hl3a : w.heap.size < w3.heap.size := by omega
      have hB3 : Below w.heap.size w w3 := hB2.trans (hb3.mono (by omega))
      rcases hcase with ⟨h12, rfl⟩ | ⟨h12, rfl⟩
      · go_wp2_with fail
        go_ret
        exact ⟨hB3, .inl ⟨by unfold szProg; rw [L0.out]; rw [L2.out]; rw [L3.out]; omega, by unfold szProg; rw [L0.out]; rw [L2.out]; rw [L3.out]; go_num⟩⟩
      · go_wp2_with fail
        go_ret
        exact ⟨hB3, .inr ⟨by unfold szProg; rw [L0.out]; rw [L2.out]; rw [L3.out]; omega, rfl⟩⟩
    · go_wp2_with fail
      go_ret
      exact ⟨hB2, .inr ⟨by unfold szProg; rw [L0.out]; rw [L2.out]; omega, rfl⟩⟩
  · go_wp2_with fail
    go_ret
    exact ⟨hB1, .inr ⟨by unfold szProg; rw [L0.out]; omega, rfl⟩⟩

set_option maxRecDepth 100000 in
set_option maxHeartbeats 1000000 in
theorem eqProg_same {w : World} {hi hi' : Nat} {x : DProg} {vs vs' : List Value} (h : layProg.see w hi x vs) (h' : layProg.see w hi' x vs') (hhi : hi ≤ w.heap.size) (hhi' : hi' ≤ w.heap.size) (hn : szProg x ≤ 1048576) :
    Calls Tryd.prog 22 #[.agg vs.toArray, .agg vs'.toArray] w (SaysTrue w) := by
  obtain ⟨A0, n0, c0, A2, n2, c2, A3, n3, c3, rfl, ⟨hc0, hm0, s0⟩, hw1, ⟨hc2, hm2, s2⟩, ⟨hc3, hm3, s3⟩⟩ := seeProg h
  obtain ⟨A0', n0', c0', A2', n2', c2', A3', n3', c3', rfl, ⟨hc0', hm0', s0'⟩, hw1', ⟨hc2', hm2', s2'⟩, ⟨hc3', hm3', s3'⟩⟩ := seeProg h'
  obtain rfl : n0 = n0' := s0.1.symm.trans s0'.1
  have L0 := Lib.hid s0.1
  obtain rfl : n2 = n2' := s2.1.symm.trans s2'.1
  have L2 := Lib.hid s2.1
  obtain rfl : n3 = n3' := s3.1.symm.trans s3'.1
  have L3 := Lib.hid s3.1
  have hn0 := hn
  unfold szProg at hn0
  rw [L0.out] at hn0
  rw [L2.out] at hn0
  rw [L3.out] at hn0
  have hb0 : Below w.heap.size w ((w.alloc (.cells #[.slice A0 n0 c0, .int .i64 x.fMus, .slice A2 n2 c2, .slice A3 n3 c3] 53)).alloc (.cells #[.slice A0' n0 c0', .int .i64 x.fMus, .slice A2' n2 c2', .slice A3' n3 c3'] 53)) := ((Below.refl _ _).alloc (Nat.le_refl _) _).alloc (by simp) _
  go_enter Tryd.func22, Tryd.ntmps22
  go_wp2_with fail
  refine (eqIntS_same (s0.below hb0 hhi) (s0'.below hb0 hhi')  (by omega)).mono ?_
  rintro e w1 ⟨rfl, hb1⟩
  have z1 := hb1.size
  obtain ⟨hcl1, hfz1⟩ := bcell hb1
  have hB1 : Below w.heap.size w w1 := hb0.trans (hb1.mono (by simp; omega))
  simp only [World.size_alloc] at z1
  have hl1a : w.heap.size < w1.heap.size := by omega
  have hl1b : w.heap.size + 1 < w1.heap.size := by omega
  go_wp2_with fail
  (try (go_quiet (fail)))
  go_wp2_with fail
  refine (eqSelectS_same (s2.below hB1 hhi) (s2'.below hB1 hhi') (by have := hB1.size; omega) (by have := hB1.size; omega) (by omega) (by omega)).mono ?_
  rintro e w2 ⟨rfl, hb2⟩
  have z2 := hb2.size
  obtain ⟨hcl2, hfz2⟩ := bcell hb2
  have hB2 : Below w.heap.size w w2 := hB1.trans (hb2.mono (by omega))
  have hl2a : w.heap.size < w2.heap.size := by omega
  have hl2b : w.heap.size + 1 < w2.heap.size := by omega
  go_wp2_with fail
  refine (eqProcS_same (s3.below hB2 hhi) (s3'.below hB2 hhi') (by have := hB2.size; omega) (by have := hB2.size; omega) (by omega) (by omega)).mono ?_
  rintro e w3 ⟨rfl, hb3⟩
  have z3 := hb3.size
  obtain ⟨hcl3, hfz3⟩ := bcell hb3
  have hB3 : Below w.heap.size w w3 := hB2.trans (hb3.mono (by omega))
  have hl3a : w.heap.size < w3.heap.size := by omega
  have hl3b : w.heap.size + 1 < w3.heap.size := by omega
  go_wp2_with fail
  go_ret
  exact ⟨rfl, by first | exact hB3 | exact below_drawn hB3 _⟩

set_option maxRecDepth 100000 in
set_option maxHeartbeats 2000000 in
theorem toProg_any {w : World} {hi : Nat} {x : DProg} {vs : List Value} (h : layProg.see w hi x vs) (hhi : hi ≤ w.heap.size) (hn : szProg x ≤ 1048576) :
    Calls Tryd.prog 19 #[.agg vs.toArray] w (MadeL layProg w x) := by
  obtain ⟨A0, n0, c0, A2, n2, c2, A3, n3, c3, rfl, ⟨hc0, hm0, s0⟩, hw1, ⟨hc2, hm2, s2⟩, ⟨hc3, hm3, s3⟩⟩ := seeProg h
  have L0 := Lib.hid s0.1
  have L2 := Lib.hid s2.1
  have L3 := Lib.hid s3.1
  have hn0 := hn
  unfold szProg at hn0
  rw [L0.out] at hn0
  rw [L2.out] at hn0
  rw [L3.out] at hn0
  have hb0 : Below w.heap.size w (((w.alloc (.cells #[.slice A0 n0 c0, .int .i64 x.fMus, .slice A2 n2 c2, .slice A3 n3 c3] 43)).alloc (.cells #[.slice none 0 0, .int .i64 0, .slice none 0 0, .slice none 0 0] 53)).alloc (.cells #[.slice none 0 0, .int .i64 0, .slice none 0 0, .slice none 0 0] 53)) := by go_grown
  go_enter Tryd.func19, Tryd.ntmps19
  go_wp2_with fail
  refine (toIntS_any (s0.below (B := w.heap.size) ?_ hhi) ?_ (by omega)).mono ?_
  · go_grown
  · simp; omega
  rintro e w1 ⟨B0, e0, rfl, own1, hb1⟩
  have z1 := hb1.size
  simp only [World.size_alloc] at z1 own1
  have hB1 : Below w.heap.size w w1 := Below.trans (by go_grown) (hb1.mono (by simp; omega))
  obtain ⟨hcl1, hfz1⟩ := bcell hb1
  have hl1a : w.heap.size < w1.heap.size := by omega
  have hl1b : w.heap.size + 1 < w1.heap.size := by omega
  have hl1c : w.heap.size + 1 + 1 < w1.heap.size := by omega
  go_wp2_with fail
  refine (toSelectS_any (s2.below (B := w.heap.size) ?_ hhi) ?_ (by omega) (by omega)).mono ?_
  · repeat (refine Below.setCell ?_ (by dsimp only; omega) _)
    exact hB1
  · simp; omega
  rintro e w2 ⟨B2, e2, rfl, own2, hb2⟩
  have z2 := hb2.size
  simp only [World.size_setCell] at z2 own2
  have ht2 : Turned (w.heap.size + 1) (w.heap.size + 3) w1 w2 := by
    refine Turned.trans ?_ (Turned.of_below hb2 _ _)
    repeat (refine Turned.setCell ?_ (by simp) (by simp) _)
    exact Turned.refl _ _ _
  have hB2 : Below w.heap.size w w2 := hB1.trans (ht2.below (by omega) (by omega))
  replace own1 := own1.turned ht2 (fun g hg => .inl (by omega))
  obtain ⟨hcl2, hfz2⟩ := bcell hb2
  have hl2a : w.heap.size < w2.heap.size := by omega
  have hl2b : w.heap.size + 1 < w2.heap.size := by omega
  have hl2c : w.heap.size + 1 + 1 < w2.heap.size := by omega
  go_wp2_with fail
  refine (toProcS_any (s3.below (B := w.heap.size) ?_ hhi) ?_ (by omega) (by omega)).mono ?_
  · repeat (refine Below.setCell ?_ (by dsimp only; omega) _)
    exact hB2
  · simp; omega
  rintro e w3 ⟨B3, e3, rfl, own3, hb3⟩
  have z3 := hb3.size
  simp only [World.size_setCell] at z3 own3
  have ht3 : Turned (w.heap.size + 1) (w.heap.size + 3) w2 w3 := by
    refine Turned.trans ?_ (Turned.of_below hb3 _ _)
    repeat (refine Turned.setCell ?_ (by simp) (by simp) _)
    exact Turned.refl _ _ _
  have hB3 : Below w.heap.size w w3 := hB2.trans (ht3.below (by omega) (by omega))
  replace own1 := own1.turned ht3 (fun g hg => .inl (by omega))
  replace own2 := own2.turned ht3 (fun g hg => .inl (by omega))
  obtain ⟨hcl3, hfz3⟩ := bcell hb3
  have hl3a : w.heap.size < w3.heap.size := by omega
  have hl3b : w.heap.size + 1 < w3.heap.size := by omega
  have hl3c : w.heap.size + 1 + 1 < w3.heap.size := by omega
  go_wp2_with fail
  refine bodyPost_ret (v := .agg #[.slice B0 n0 e0, .int .i64 x.fMus, .slice B2 n2 e2, .slice B3 n3 e3]) (by simp [results, Tryd.results19, go_sem, hcl1, hl1a, hl1b, hl1c, hcl2, hl2a, hl2b, hl2c, hcl3, hl3a, hl3b, hl3c]) rfl ?_
  refine ⟨_, rfl, ?_, ?_⟩
  · refine ownProg (F := _) (OwnR.turned own1 (l := w.heap.size + 1) (r := w.heap.size + 3) ?t0 (fun g hg => .inl (by omega))) hw1 (OwnR.turned own2 (l := w.heap.size + 1) (r := w.heap.size + 3) ?t2 (fun g hg => .inl (by omega))) (OwnR.turned own3 (l := w.heap.size + 1) (r := w.heap.size + 3) ?t3 (fun g hg => .inl (by omega))) ?k0 ?k2 ?k3 ?d02 ?d03 ?d23
    case t0 =>
      repeat (refine Turned.setCell ?_ (by simp) (by simp) _)
      exact Turned.refl _ _ _
    case t2 =>
      repeat (refine Turned.setCell ?_ (by simp) (by simp) _)
      exact Turned.refl _ _ _
    case t3 =>
      repeat (refine Turned.setCell ?_ (by simp) (by simp) _)
      exact Turned.refl _ _ _
    case k0 => intro g hg; simp only [World.size_setCell]; omega
    case k2 => intro g hg; simp only [World.size_setCell]; omega
    case k3 => intro g hg; simp only [World.size_setCell]; omega
    case d02 => intro g hg hg'; omega
    case d03 => intro g hg hg'; omega
    case d23 => intro g hg hg'; omega
  · repeat (refine Below.setCell ?_ (by dsimp only; omega) _)
    exact hB3

theorem infoProg : (Tryd.prog.info? 53).map (fun i => (i.zero, i.size, i.bytes)) = some (some (.agg #[.slice none 0 0, .int .i64 0, .slice none 0 0, .slice none 0 0]), 4, 80) := by kernel_rfl

end Go.Proofs.YtgfkadhojlddpaaDoor
