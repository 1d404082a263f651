
/- Eng: how it lies, how it is opened as an argument; the contracts of the laws' helpers over it. Laid by wip/tools/gen.py. -/

import Derived.Test.YtgfkadhojlddpaaTail

import Derived.Test.YtgfkadhojlddpaaDGor

import Derived.Test.YtgfkadhojlddpaaDChan

import Derived.Test.YtgfkadhojlddpaaDMutex

namespace Go.Proofs.Ytgfkadhojlddpaa
set_option linter.unusedSimpArgs false
set_option linter.unusedVariables false
open Go.RowKit

structure DEng where
  fGs : List DGor
  fChans : List DChan
  fMus : List DMutex
/-- How it lies: its slices in blocks of their own. -/
def layEng : Lay DEng := ((layGor.slice 67).pair ((layChan.slice 71).pair (layMutex.slice 73))).via fun x => (x.fGs, (x.fChans, x.fMus))
theorem opensEng : Opens Try.prog 26 layEng :=
  opens_via _ (fun a => ⟨⟨a.1, a.2.1, a.2.2⟩, rfl⟩) (opens_struct Try.underlying26 (by kernel_rfl) (.cons rfl (opens_slice Try.underlying22 (by kernel_rfl) (by decide) opensGor) (.cons rfl (opens_slice Try.underlying23 (by kernel_rfl) (by decide) opensChan) (.one rfl (opens_slice Try.underlying24 (by kernel_rfl) (by decide) opensMutex)))))
theorem seeEng {w : World} {hi : Nat} {x : DEng} {vs : List Value} (h : layEng.see w hi x vs) : ∃ A0 n0 c0 A1 n1 c1 A2 n2 c2, vs = [.slice A0 n0 c0, .slice A1 n1 c1, .slice A2 n2 c2] ∧ (n0 ≤ c0 ∧ c0 ≤ maxLen ∧ SeenR layGor w hi A0 n0 x.fGs) ∧ (n1 ≤ c1 ∧ c1 ≤ maxLen ∧ SeenR layChan w hi A1 n1 x.fChans) ∧ (n2 ≤ c2 ∧ c2 ≤ maxLen ∧ SeenR layMutex w hi A2 n2 x.fMus) := by
  obtain ⟨_, _, rfl, s0, ⟨_, _, rfl, s1, s2⟩⟩ := h
  obtain ⟨A0, n0, c0, rfl, h0⟩ := s0
  obtain ⟨A1, n1, c1, rfl, h1⟩ := s1
  obtain ⟨A2, n2, c2, rfl, h2⟩ := s2
  exact ⟨A0, n0, c0, A1, n1, c1, A2, n2, c2, rfl, h0, h1, h2⟩
theorem ownEng {w : World} {F : Nat → Prop} {x : DEng} {A0 : Option Addr} {n0 c0 : Nat} {F0 : Nat → Prop} (h0 : OwnR layGor 67 w F0 A0 n0 c0 x.fGs) {A1 : Option Addr} {n1 c1 : Nat} {F1 : Nat → Prop} (h1 : OwnR layChan 71 w F1 A1 n1 c1 x.fChans) {A2 : Option Addr} {n2 c2 : Nat} {F2 : Nat → Prop} (h2 : OwnR layMutex 73 w F2 A2 n2 c2 x.fMus) (k0 : ∀ g, F0 g → F g) (k1 : ∀ g, F1 g → F g) (k2 : ∀ g, F2 g → F g) (d01 : ∀ g, F0 g → ¬ F1 g) (d02 : ∀ g, F0 g → ¬ F2 g) (d12 : ∀ g, F1 g → ¬ F2 g) : layEng.own w F x [.slice A0 n0 c0, .slice A1 n1 c1, .slice A2 n2 c2] := by
  exact ⟨_, _, F0, (fun g => F1 g ∨ F2 g), rfl, ⟨A0, n0, c0, rfl, h0⟩, ⟨_, _, F1, (fun g => F2 g), rfl, ⟨A1, n1, c1, rfl, h1⟩, ⟨A2, n2, c2, rfl, h2⟩, (fun g h => Or.inl h), (fun g h => Or.inr h), (fun g h h2 => by first | exact d12 g h h2)⟩, k0, (fun g h => by rcases h with h | h <;> first | exact k1 g h | exact k2 g h), (fun g h h2 => by rcases h2 with h2 | h2 <;> first | exact d01 g h h2 | exact d02 g h h2)⟩

/-- How much it holds. -/
def szEng (x : DEng) : Nat := (x.fGs.length + (x.fGs.map szGor).sum) + (x.fChans.length + (x.fChans.map szChan).sum) + (x.fMus.length + (x.fMus.map szMutex).sum)

set_option maxRecDepth 100000 in
set_option maxHeartbeats 1000000 in
theorem szEng_any {w : World} {hi l : Nat} {x : DEng} {vs : List Value} (h : layEng.see w hi x vs) (hhi : hi ≤ w.heap.size) (hl : l ≤ 1048576) :
    Calls Try.prog 5 #[.agg vs.toArray, .int .i64 (l : Int)] w (SzPost w l (szEng x)) := by
  obtain ⟨A0, n0, c0, A1, n1, c1, A2, n2, c2, rfl, ⟨hc0, hm0, s0⟩, ⟨hc1, hm1, s1⟩, ⟨hc2, hm2, s2⟩⟩ := seeEng h
  have hb0 : Below w.heap.size w (w.alloc (.cells #[.slice A0 n0 c0, .slice A1 n1 c1, .slice A2 n2 c2] 26)) := (Below.refl _ _).alloc (Nat.le_refl _) _
  have hz0 : w.heap.size + 1 ≤ (w.alloc (.cells #[.slice A0 n0 c0, .slice A1 n1 c1, .slice A2 n2 c2] 26)).heap.size := by simp
  go_enter Try.func5, Try.ntmps5
  have L0 := Lib.hid s0.1
  go_wp2_with fail
  refine (szGorS_any (l := l) (s0.below hb0 hhi) (by have := hb0.size; omega) (by omega) (Nat.le_trans hc0 hm0)).mono ?_
  rintro e w1 ⟨hb1, hcase⟩
  have z1 := hb1.size
  obtain ⟨hcl1, hfz1⟩ := bcell hb1
  simp only [World.size_alloc] at z1
  have hl1a : w.heap.size < w1.heap.size := by omega
  have hB1 : Below w.heap.size w w1 := hb0.trans (hb1.mono (by simp))
  rcases hcase with ⟨h10, rfl⟩ | ⟨h10, rfl⟩
  · skip
    have L1 := Lib.hid s1.1
    go_wp2_with fail
    refine (szChanS_any (l := l - (n0 + (x.fGs.map szGor).sum)) (s1.below hB1 hhi) (by have := hB1.size; omega) (by omega) (Nat.le_trans hc1 hm1)).mono ?_
    rintro e w2 ⟨hb2, hcase⟩
    have z2 := hb2.size
    obtain ⟨hcl2, hfz2⟩ := bcell hb2
    have hl2a : w.heap.size < w2.heap.size := by omega
    have hB2 : Below w.heap.size w w2 := hB1.trans (hb2.mono (by omega))
    rcases hcase with ⟨h11, rfl⟩ | ⟨h11, rfl⟩
    · skip
      have L2 := Lib.hid s2.1
      go_wp2_with fail
      refine (szMutexS_any (l := l - (n0 + (x.fGs.map szGor).sum) - (n1 + (x.fChans.map szChan).sum)) (s2.below hB2 hhi) (by have := hB2.size; omega) (by omega) (Nat.le_trans hc2 hm2)).mono ?_
      rintro e w3 ⟨hb3, hcase⟩
      have z3 := hb3.size
      obtain ⟨hcl3, hfz3⟩ := bcell hb3
      have hl3a : w.heap.size < w3.heap.size := by omega
      have hB3 : Below w.heap.size w w3 := hB2.trans (hb3.mono (by omega))
      rcases hcase with ⟨h12, rfl⟩ | ⟨h12, rfl⟩
      · go_wp2_with fail
        go_ret
        exact ⟨hB3, .inl ⟨by unfold szEng; rw [L0.out]; rw [L1.out]; rw [L2.out]; omega, by unfold szEng; rw [L0.out]; rw [L1.out]; rw [L2.out]; go_num⟩⟩
      · go_wp2_with fail
        go_ret
        exact ⟨hB3, .inr ⟨by unfold szEng; rw [L0.out]; rw [L1.out]; rw [L2.out]; omega, rfl⟩⟩
    · go_wp2_with fail
      go_ret
      exact ⟨hB2, .inr ⟨by unfold szEng; rw [L0.out]; rw [L1.out]; omega, rfl⟩⟩
  · go_wp2_with fail
    go_ret
    exact ⟨hB1, .inr ⟨by unfold szEng; rw [L0.out]; omega, rfl⟩⟩

set_option maxRecDepth 100000 in
set_option maxHeartbeats 1000000 in
theorem eqEng_same {w : World} {hi hi' : Nat} {x : DEng} {vs vs' : List Value} (h : layEng.see w hi x vs) (h' : layEng.see w hi' x vs') (hhi : hi ≤ w.heap.size) (hhi' : hi' ≤ w.heap.size) (hn : szEng x ≤ 1048576) :
    Calls Try.prog 10 #[.agg vs.toArray, .agg vs'.toArray] w (SaysTrue w) := by
  obtain ⟨A0, n0, c0, A1, n1, c1, A2, n2, c2, rfl, ⟨hc0, hm0, s0⟩, ⟨hc1, hm1, s1⟩, ⟨hc2, hm2, s2⟩⟩ := seeEng h
  obtain ⟨A0', n0', c0', A1', n1', c1', A2', n2', c2', rfl, ⟨hc0', hm0', s0'⟩, ⟨hc1', hm1', s1'⟩, ⟨hc2', hm2', s2'⟩⟩ := seeEng h'
  obtain rfl : n0 = n0' := s0.1.symm.trans s0'.1
  have L0 := Lib.hid s0.1
  obtain rfl : n1 = n1' := s1.1.symm.trans s1'.1
  have L1 := Lib.hid s1.1
  obtain rfl : n2 = n2' := s2.1.symm.trans s2'.1
  have L2 := Lib.hid s2.1
  have hn0 := hn
  unfold szEng at hn0
  rw [L0.out] at hn0
  rw [L1.out] at hn0
  rw [L2.out] at hn0
  have hb0 : Below w.heap.size w ((w.alloc (.cells #[.slice A0 n0 c0, .slice A1 n1 c1, .slice A2 n2 c2] 34)).alloc (.cells #[.slice A0' n0 c0', .slice A1' n1 c1', .slice A2' n2 c2'] 34)) := ((Below.refl _ _).alloc (Nat.le_refl _) _).alloc (by simp) _
  go_enter Try.func10, Try.ntmps10
  go_wp2_with fail
  refine (eqGorS_same (s0.below hb0 hhi) (s0'.below hb0 hhi') (by have := hb0.size; omega) (by have := hb0.size; omega) (by omega) (by omega)).mono ?_
  rintro e w1 ⟨rfl, hb1⟩
  have z1 := hb1.size
  obtain ⟨hcl1, hfz1⟩ := bcell hb1
  have hB1 : Below w.heap.size w w1 := hb0.trans (hb1.mono (by simp; omega))
  simp only [World.size_alloc] at z1
  have hl1a : w.heap.size < w1.heap.size := by omega
  have hl1b : w.heap.size + 1 < w1.heap.size := by omega
  go_wp2_with fail
  refine (eqChanS_same (s1.below hB1 hhi) (s1'.below hB1 hhi') (by have := hB1.size; omega) (by have := hB1.size; omega) (by omega) (by omega)).mono ?_
  rintro e w2 ⟨rfl, hb2⟩
  have z2 := hb2.size
  obtain ⟨hcl2, hfz2⟩ := bcell hb2
  have hB2 : Below w.heap.size w w2 := hB1.trans (hb2.mono (by omega))
  have hl2a : w.heap.size < w2.heap.size := by omega
  have hl2b : w.heap.size + 1 < w2.heap.size := by omega
  go_wp2_with fail
  refine (eqMutexS_same (s2.below hB2 hhi) (s2'.below hB2 hhi') (by have := hB2.size; omega) (by have := hB2.size; omega) (by omega) (by omega)).mono ?_
  rintro e w3 ⟨rfl, hb3⟩
  have z3 := hb3.size
  obtain ⟨hcl3, hfz3⟩ := bcell hb3
  have hB3 : Below w.heap.size w w3 := hB2.trans (hb3.mono (by omega))
  have hl3a : w.heap.size < w3.heap.size := by omega
  have hl3b : w.heap.size + 1 < w3.heap.size := by omega
  go_wp2_with fail
  go_ret
  exact ⟨rfl, by first | exact hB3 | exact below_drawn hB3 _⟩

set_option maxRecDepth 100000 in
set_option maxHeartbeats 2000000 in
theorem toEng_any {w : World} {hi : Nat} {x : DEng} {vs : List Value} (h : layEng.see w hi x vs) (hhi : hi ≤ w.heap.size) (hn : szEng x ≤ 1048576) :
    Calls Try.prog 7 #[.agg vs.toArray] w (MadeL layEng w x) := by
  obtain ⟨A0, n0, c0, A1, n1, c1, A2, n2, c2, rfl, ⟨hc0, hm0, s0⟩, ⟨hc1, hm1, s1⟩, ⟨hc2, hm2, s2⟩⟩ := seeEng h
  have L0 := Lib.hid s0.1
  have L1 := Lib.hid s1.1
  have L2 := Lib.hid s2.1
  have hn0 := hn
  unfold szEng at hn0
  rw [L0.out] at hn0
  rw [L1.out] at hn0
  rw [L2.out] at hn0
  have hb0 : Below w.heap.size w (((w.alloc (.cells #[.slice A0 n0 c0, .slice A1 n1 c1, .slice A2 n2 c2] 26)).alloc (.cells #[.slice none 0 0, .slice none 0 0, .slice none 0 0] 34)).alloc (.cells #[.slice none 0 0, .slice none 0 0, .slice none 0 0] 34)) := by go_grown
  go_enter Try.func7, Try.ntmps7
  go_wp2_with fail
  refine (toGorS_any (s0.below (B := w.heap.size) ?_ hhi) ?_ (by omega) (by omega)).mono ?_
  · go_grown
  · simp; omega
  rintro e w1 ⟨B0, e0, rfl, own1, hb1⟩
  have z1 := hb1.size
  simp only [World.size_alloc] at z1 own1
  have hB1 : Below w.heap.size w w1 := Below.trans (by go_grown) (hb1.mono (by simp; omega))
  obtain ⟨hcl1, hfz1⟩ := bcell hb1
  have hl1a : w.heap.size < w1.heap.size := by omega
  have hl1b : w.heap.size + 1 < w1.heap.size := by omega
  have hl1c : w.heap.size + 1 + 1 < w1.heap.size := by omega
  go_wp2_with fail
  refine (toChanS_any (s1.below (B := w.heap.size) ?_ hhi) ?_ (by omega) (by omega)).mono ?_
  · repeat (refine Below.setCell ?_ (by dsimp only; omega) _)
    exact hB1
  · simp; omega
  rintro e w2 ⟨B1, e1, rfl, own2, hb2⟩
  have z2 := hb2.size
  simp only [World.size_setCell] at z2 own2
  have ht2 : Turned (w.heap.size + 1) (w.heap.size + 3) w1 w2 := by
    refine Turned.trans ?_ (Turned.of_below hb2 _ _)
    repeat (refine Turned.setCell ?_ (by simp) (by simp) _)
    exact Turned.refl _ _ _
  have hB2 : Below w.heap.size w w2 := hB1.trans (ht2.below (by omega) (by omega))
  replace own1 := own1.turned ht2 (fun g hg => .inl (by omega))
  obtain ⟨hcl2, hfz2⟩ := bcell hb2
  have hl2a : w.heap.size < w2.heap.size := by omega
  have hl2b : w.heap.size + 1 < w2.heap.size := by omega
  have hl2c : w.heap.size + 1 + 1 < w2.heap.size := by omega
  go_wp2_with fail
  refine (toMutexS_any (s2.below (B := w.heap.size) ?_ hhi) ?_ (by omega) (by omega)).mono ?_
  · repeat (refine Below.setCell ?_ (by dsimp only; omega) _)
    exact hB2
  · simp; omega
  rintro e w3 ⟨B2, e2, rfl, own3, hb3⟩
  have z3 := hb3.size
  simp only [World.size_setCell] at z3 own3
  have ht3 : Turned (w.heap.size + 1) (w.heap.size + 3) w2 w3 := by
    refine Turned.trans ?_ (Turned.of_below hb3 _ _)
    repeat (refine Turned.setCell ?_ (by simp) (by simp) _)
    exact Turned.refl _ _ _
  have hB3 : Below w.heap.size w w3 := hB2.trans (ht3.below (by omega) (by omega))
  replace own1 := own1.turned ht3 (fun g hg => .inl (by omega))
  replace own2 := own2.turned ht3 (fun g hg => .inl (by omega))
  obtain ⟨hcl3, hfz3⟩ := bcell hb3
  have hl3a : w.heap.size < w3.heap.size := by omega
  have hl3b : w.heap.size + 1 < w3.heap.size := by omega
  have hl3c : w.heap.size + 1 + 1 < w3.heap.size := by omega
  go_wp2_with fail
  refine bodyPost_ret (v := .agg #[.slice B0 n0 e0, .slice B1 n1 e1, .slice B2 n2 e2]) (by simp [results, Try.results7, go_sem, hcl1, hl1a, hl1b, hl1c, hcl2, hl2a, hl2b, hl2c, hcl3, hl3a, hl3b, hl3c]) rfl ?_
  refine ⟨_, rfl, ?_, ?_⟩
  · refine ownEng (F := _) (OwnR.turned own1 (l := w.heap.size + 1) (r := w.heap.size + 3) ?t0 (fun g hg => .inl (by omega))) (OwnR.turned own2 (l := w.heap.size + 1) (r := w.heap.size + 3) ?t1 (fun g hg => .inl (by omega))) (OwnR.turned own3 (l := w.heap.size + 1) (r := w.heap.size + 3) ?t2 (fun g hg => .inl (by omega))) ?k0 ?k1 ?k2 ?d01 ?d02 ?d12
    case t0 =>
      repeat (refine Turned.setCell ?_ (by simp) (by simp) _)
      exact Turned.refl _ _ _
    case t1 =>
      repeat (refine Turned.setCell ?_ (by simp) (by simp) _)
      exact Turned.refl _ _ _
    case t2 =>
      repeat (refine Turned.setCell ?_ (by simp) (by simp) _)
      exact Turned.refl _ _ _
    case k0 => intro g hg; simp only [World.size_setCell]; omega
    case k1 => intro g hg; simp only [World.size_setCell]; omega
    case k2 => intro g hg; simp only [World.size_setCell]; omega
    case d01 => intro g hg hg'; omega
    case d02 => intro g hg hg'; omega
    case d12 => intro g hg hg'; omega
  · repeat (refine Below.setCell ?_ (by dsimp only; omega) _)
    exact hB3

theorem infoEng : (Try.prog.info? 34).map (fun i => (i.zero, i.size, i.bytes)) = some (some (.agg #[.slice none 0 0, .slice none 0 0, .slice none 0 0]), 3, 72) := by kernel_rfl

end Go.Proofs.Ytgfkadhojlddpaa
