
/- Chan: how it lies, how it is opened as an argument; the contracts of the laws' helpers over it. Laid by wip/tools/gen.py. -/

import Derived.Test.YtgdmcdblhpdlmaaTail

import Derived.Test.YtgdmcdblhpdlmaaDInt

import Derived.Test.YtgdmcdblhpdlmaaDWaiter

namespace Go.Proofs.Ytgdmcdblhpdlmaa
set_option linter.unusedSimpArgs false
set_option linter.unusedVariables false
open Go.RowKit

structure DChan where
  fCap : Int
  fBuf : List Int
  fSends : List DWaiter
  fRecvs : List DWaiter
  fClosed : Bool
/-- How it lies: its slices in blocks of their own. -/
def layChan : Lay DChan := (Lay.int.pair ((Lay.int.tail 3).pair ((layWaiter.tail 29).pair ((layWaiter.tail 29).pair Lay.bool)))).via fun x => (x.fCap, (x.fBuf, (x.fSends, (x.fRecvs, x.fClosed))))
theorem opensChan : Opens Try.prog 41 layChan :=
  opens_via _ (fun a => ⟨⟨a.1, a.2.1, a.2.2.1, a.2.2.2.1, a.2.2.2.2⟩, rfl⟩) (opens_struct Try.underlying41 (by kernel_rfl) (.cons rfl (opens_int Try.underlying3 (by kernel_rfl)) (.cons rfl (opens_tail Try.underlying23 (by kernel_rfl) (by decide) (opens_int Try.underlying3 (by kernel_rfl))) (.cons rfl (opens_tail Try.underlying39 (by kernel_rfl) (by decide) opensWaiter) (.cons rfl (opens_tail Try.underlying39 (by kernel_rfl) (by decide) opensWaiter) (.one rfl (opens_bool Try.underlying4 (by kernel_rfl))))))))
theorem seeChan {w : World} {hi : Nat} {x : DChan} {vs : List Value} (h : layChan.see w hi x vs) : ∃ A1 n1 c1 A2 n2 c2 A3 n3 c3, vs = [.int .i64 x.fCap, .slice A1 n1 c1, .slice A2 n2 c2, .slice A3 n3 c3, .bool x.fClosed] ∧ (Lit.int .i64 x.fCap).wf = true ∧ (n1 ≤ c1 ∧ c1 ≤ maxLen ∧ SeenR Lay.int w hi A1 n1 x.fBuf) ∧ (n2 ≤ c2 ∧ c2 ≤ maxLen ∧ SeenR layWaiter w hi A2 n2 x.fSends) ∧ (n3 ≤ c3 ∧ c3 ≤ maxLen ∧ SeenR layWaiter w hi A3 n3 x.fRecvs) := by
  obtain ⟨_, _, rfl, s0, ⟨_, _, rfl, s1, ⟨_, _, rfl, s2, ⟨_, _, rfl, s3, s4⟩⟩⟩⟩ := h
  obtain ⟨rfl, h0⟩ := s0
  obtain ⟨A1, n1, c1, rfl, h1⟩ := s1
  obtain ⟨A2, n2, c2, rfl, h2⟩ := s2
  obtain ⟨A3, n3, c3, rfl, h3⟩ := s3
  obtain ⟨rfl, h4⟩ := s4
  exact ⟨A1, n1, c1, A2, n2, c2, A3, n3, c3, rfl, h0, h1, h2, h3⟩
theorem ownChan {w : World} {F : Nat → Prop} {x : DChan} (h0 : (Lit.int .i64 x.fCap).wf = true) {A1 : Option Addr} {n1 c1 : Nat} {F1 : Nat → Prop} (h1 : TailR Lay.int 3 w F1 A1 n1 c1 x.fBuf) {A2 : Option Addr} {n2 c2 : Nat} {F2 : Nat → Prop} (h2 : TailR layWaiter 29 w F2 A2 n2 c2 x.fSends) {A3 : Option Addr} {n3 c3 : Nat} {F3 : Nat → Prop} (h3 : TailR layWaiter 29 w F3 A3 n3 c3 x.fRecvs) (k1 : ∀ g, F1 g → F g) (k2 : ∀ g, F2 g → F g) (k3 : ∀ g, F3 g → F g) (d12 : ∀ g, F1 g → ¬ F2 g) (d13 : ∀ g, F1 g → ¬ F3 g) (d23 : ∀ g, F2 g → ¬ F3 g) : layChan.own w F x [.int .i64 x.fCap, .slice A1 n1 c1, .slice A2 n2 c2, .slice A3 n3 c3, .bool x.fClosed] := by
  exact ⟨_, _, (fun _ => False), (fun g => F1 g ∨ F2 g ∨ F3 g), rfl, ⟨rfl, h0⟩, ⟨_, _, F1, (fun g => F2 g ∨ F3 g), rfl, ⟨A1, n1, c1, rfl, h1⟩, ⟨_, _, F2, (fun g => F3 g), rfl, ⟨A2, n2, c2, rfl, h2⟩, ⟨_, _, F3, (fun _ => False), rfl, ⟨A3, n3, c3, rfl, h3⟩, ⟨rfl, trivial⟩, (fun g h => h), (fun _ h => h.elim), (fun g h h2 => h2)⟩, (fun g h => Or.inl h), (fun g h => Or.inr h), (fun g h h2 => by first | exact d23 g h h2)⟩, (fun g h => Or.inl h), (fun g h => Or.inr h), (fun g h h2 => by rcases h2 with h2 | h2 <;> first | exact d12 g h h2 | exact d13 g h h2)⟩, (fun _ h => h.elim), (fun g h => by rcases h with h | h | h <;> first | exact k1 g h | exact k2 g h | exact k3 g h), (fun g h => h.elim)⟩

/-- How much it holds. -/
def szChan (x : DChan) : Nat := x.fBuf.length + x.fSends.length + x.fRecvs.length

set_option maxRecDepth 100000 in
set_option maxHeartbeats 1000000 in
theorem szChan_any {w : World} {hi l : Nat} {x : DChan} {vs : List Value} (h : layChan.see w hi x vs) (hhi : hi ≤ w.heap.size) (hl : l ≤ 1048576) :
    Calls Try.prog 21 #[.agg vs.toArray, .int .i64 (l : Int)] w (SzPost w l (szChan x)) := by
  obtain ⟨A1, n1, c1, A2, n2, c2, A3, n3, c3, rfl, hw0, ⟨hc1, hm1, s1⟩, ⟨hc2, hm2, s2⟩, ⟨hc3, hm3, s3⟩⟩ := seeChan h
  have hb0 : Below w.heap.size w (w.alloc (.cells #[.int .i64 x.fCap, .slice A1 n1 c1, .slice A2 n2 c2, .slice A3 n3 c3, .bool x.fClosed] 41)) := (Below.refl _ _).alloc (Nat.le_refl _) _
  have hz0 : w.heap.size + 1 ≤ (w.alloc (.cells #[.int .i64 x.fCap, .slice A1 n1 c1, .slice A2 n2 c2, .slice A3 n3 c3, .bool x.fClosed] 41)).heap.size := by simp
  go_enter Try.func21, Try.ntmps21
  have L1 := Lib.hid s1.1
  go_wp2_with fail
  refine (szIntS_any (l := l) (by omega) (Nat.le_trans hc1 hm1)).mono ?_
  rintro e w1 ⟨hb1, hcase⟩
  have z1 := hb1.size
  obtain ⟨hcl1, hfz1⟩ := bcell hb1
  simp only [World.size_alloc] at z1
  have hl1a : w.heap.size < w1.heap.size := by omega
  have hB1 : Below w.heap.size w w1 := hb0.trans (hb1.mono (by simp))
  rcases hcase with ⟨h10, rfl⟩ | ⟨h10, rfl⟩
  · skip
    have L2 := Lib.hid s2.1
    go_wp2_with fail
    refine (szWaiterS_any (l := l - n1) (by omega) (Nat.le_trans hc2 hm2)).mono ?_
    rintro e w2 ⟨hb2, hcase⟩
    have z2 := hb2.size
    obtain ⟨hcl2, hfz2⟩ := bcell hb2
    have hl2a : w.heap.size < w2.heap.size := by omega
    have hB2 : Below w.heap.size w w2 := hB1.trans (hb2.mono (by omega))
    rcases hcase with ⟨h11, rfl⟩ | ⟨h11, rfl⟩
    · skip
      have L3 := Lib.hid s3.1
      go_wp2_with fail
      refine (szWaiterS_any (l := l - n1 - n2) (by omega) (Nat.le_trans hc3 hm3)).mono ?_
      rintro e w3 ⟨hb3, hcase⟩
      have z3 := hb3.size
      obtain ⟨hcl3, hfz3⟩ := bcell hb3
      have hl3a : w.heap.size < w3.heap.size := by omega
      have hB3 : Below w.heap.size w w3 := hB2.trans (hb3.mono (by omega))
      rcases hcase with ⟨h12, rfl⟩ | ⟨h12, rfl⟩
      · go_wp2_with fail
        go_ret
        exact ⟨hB3, .inl ⟨by unfold szChan; rw [L1.out]; rw [L2.out]; rw [L3.out]; omega, by unfold szChan; rw [L1.out]; rw [L2.out]; rw [L3.out]; go_num⟩⟩
      · go_wp2_with fail
        go_ret
        exact ⟨hB3, .inr ⟨by unfold szChan; rw [L1.out]; rw [L2.out]; rw [L3.out]; omega, rfl⟩⟩
    · go_wp2_with fail
      go_ret
      exact ⟨hB2, .inr ⟨by unfold szChan; rw [L1.out]; rw [L2.out]; omega, rfl⟩⟩
  · go_wp2_with fail
    go_ret
    exact ⟨hB1, .inr ⟨by unfold szChan; rw [L1.out]; omega, rfl⟩⟩

set_option maxRecDepth 100000 in
set_option maxHeartbeats 1000000 in
theorem eqChan_same {w : World} {hi hi' : Nat} {x : DChan} {vs vs' : List Value} (h : layChan.see w hi x vs) (h' : layChan.see w hi' x vs') (hhi : hi ≤ w.heap.size) (hhi' : hi' ≤ w.heap.size) (hn : szChan x ≤ 1048576) :
    Calls Try.prog 24 #[.agg vs.toArray, .agg vs'.toArray] w (SaysTrue w) := by
  obtain ⟨A1, n1, c1, A2, n2, c2, A3, n3, c3, rfl, hw0, ⟨hc1, hm1, s1⟩, ⟨hc2, hm2, s2⟩, ⟨hc3, hm3, s3⟩⟩ := seeChan h
  obtain ⟨A1', n1', c1', A2', n2', c2', A3', n3', c3', rfl, hw0', ⟨hc1', hm1', s1'⟩, ⟨hc2', hm2', s2'⟩, ⟨hc3', hm3', s3'⟩⟩ := seeChan h'
  obtain rfl : n1 = n1' := s1.1.symm.trans s1'.1
  have L1 := Lib.hid s1.1
  obtain rfl : n2 = n2' := s2.1.symm.trans s2'.1
  have L2 := Lib.hid s2.1
  obtain rfl : n3 = n3' := s3.1.symm.trans s3'.1
  have L3 := Lib.hid s3.1
  have hn0 := hn
  unfold szChan at hn0
  rw [L1.out] at hn0
  rw [L2.out] at hn0
  rw [L3.out] at hn0
  have hb0 : Below w.heap.size w ((w.alloc (.cells #[.int .i64 x.fCap, .slice A1 n1 c1, .slice A2 n2 c2, .slice A3 n3 c3, .bool x.fClosed] 26)).alloc (.cells #[.int .i64 x.fCap, .slice A1' n1 c1', .slice A2' n2 c2', .slice A3' n3 c3', .bool x.fClosed] 26)) := ((Below.refl _ _).alloc (Nat.le_refl _) _).alloc (by simp) _
  go_enter Try.func24, Try.ntmps24
  go_wp2_with fail
  (try (go_quiet (fail)))
  go_wp2_with fail
  refine (eqIntS_same (s1.below hb0 hhi) (s1'.below hb0 hhi')  (by omega)).mono ?_
  rintro e w1 ⟨rfl, hb1⟩
  have z1 := hb1.size
  obtain ⟨hcl1, hfz1⟩ := bcell hb1
  have hB1 : Below w.heap.size w w1 := hb0.trans (hb1.mono (by simp; omega))
  simp only [World.size_alloc] at z1
  have hl1a : w.heap.size < w1.heap.size := by omega
  have hl1b : w.heap.size + 1 < w1.heap.size := by omega
  go_wp2_with fail
  refine (eqWaiterS_same (s2.below hB1 hhi) (s2'.below hB1 hhi') (by have := hB1.size; omega) (by have := hB1.size; omega) (by omega)).mono ?_
  rintro e w2 ⟨rfl, hb2⟩
  have z2 := hb2.size
  obtain ⟨hcl2, hfz2⟩ := bcell hb2
  have hB2 : Below w.heap.size w w2 := hB1.trans (hb2.mono (by omega))
  have hl2a : w.heap.size < w2.heap.size := by omega
  have hl2b : w.heap.size + 1 < w2.heap.size := by omega
  go_wp2_with fail
  refine (eqWaiterS_same (s3.below hB2 hhi) (s3'.below hB2 hhi') (by have := hB2.size; omega) (by have := hB2.size; omega) (by omega)).mono ?_
  rintro e w3 ⟨rfl, hb3⟩
  have z3 := hb3.size
  obtain ⟨hcl3, hfz3⟩ := bcell hb3
  have hB3 : Below w.heap.size w w3 := hB2.trans (hb3.mono (by omega))
  have hl3a : w.heap.size < w3.heap.size := by omega
  have hl3b : w.heap.size + 1 < w3.heap.size := by omega
  go_wp2_with fail
  (try (go_quiet (fail)))
  go_wp2_with fail
  go_ret
  exact ⟨rfl, by first | exact hB3 | exact below_drawn hB3 _⟩

set_option maxRecDepth 100000 in
set_option maxHeartbeats 2000000 in
theorem toChan_any {w : World} {hi : Nat} {x : DChan} {vs : List Value} (h : layChan.see w hi x vs) (hhi : hi ≤ w.heap.size) (hn : szChan x ≤ 1048576) :
    Calls Try.prog 23 #[.agg vs.toArray] w (MadeL layChan w x) := by
  obtain ⟨A1, n1, c1, A2, n2, c2, A3, n3, c3, rfl, hw0, ⟨hc1, hm1, s1⟩, ⟨hc2, hm2, s2⟩, ⟨hc3, hm3, s3⟩⟩ := seeChan h
  have L1 := Lib.hid s1.1
  have L2 := Lib.hid s2.1
  have L3 := Lib.hid s3.1
  have hn0 := hn
  unfold szChan at hn0
  rw [L1.out] at hn0
  rw [L2.out] at hn0
  rw [L3.out] at hn0
  have hb0 : Below w.heap.size w (((w.alloc (.cells #[.int .i64 x.fCap, .slice A1 n1 c1, .slice A2 n2 c2, .slice A3 n3 c3, .bool x.fClosed] 41)).alloc (.cells #[.int .i64 0, .slice none 0 0, .slice none 0 0, .slice none 0 0, .bool false] 26)).alloc (.cells #[.int .i64 0, .slice none 0 0, .slice none 0 0, .slice none 0 0, .bool false] 26)) := by go_grown
  go_enter Try.func23, Try.ntmps23
  go_wp2_with fail
  refine (toIntS_any (s1.below (B := w.heap.size) ?_ hhi) ?_ (by omega)).mono ?_
  · go_grown
  · simp; omega
  rintro e w1 ⟨B1, e1, rfl, own1, hb1⟩
  have z1 := hb1.size
  simp only [World.size_alloc] at z1 own1
  have hB1 : Below w.heap.size w w1 := Below.trans (by go_grown) (hb1.mono (by simp; omega))
  obtain ⟨hcl1, hfz1⟩ := bcell hb1
  have hl1a : w.heap.size < w1.heap.size := by omega
  have hl1b : w.heap.size + 1 < w1.heap.size := by omega
  have hl1c : w.heap.size + 1 + 1 < w1.heap.size := by omega
  go_wp2_with fail
  refine (toWaiterS_any (s2.below (B := w.heap.size) ?_ hhi) ?_ (by omega)).mono ?_
  · repeat (refine Below.setCell ?_ (by dsimp only; omega) _)
    exact hB1
  · simp; omega
  rintro e w2 ⟨B2, e2, rfl, own2, hb2⟩
  have z2 := hb2.size
  simp only [World.size_setCell] at z2 own2
  have ht2 : Turned (w.heap.size + 1) (w.heap.size + 3) w1 w2 := by
    refine Turned.trans ?_ (Turned.of_below hb2 _ _)
    repeat (refine Turned.setCell ?_ (by simp) (by simp) _)
    exact Turned.refl _ _ _
  have hB2 : Below w.heap.size w w2 := hB1.trans (ht2.below (by omega) (by omega))
  replace own1 := own1.turned ht2 (fun g hg => .inl (by omega))
  obtain ⟨hcl2, hfz2⟩ := bcell hb2
  have hl2a : w.heap.size < w2.heap.size := by omega
  have hl2b : w.heap.size + 1 < w2.heap.size := by omega
  have hl2c : w.heap.size + 1 + 1 < w2.heap.size := by omega
  go_wp2_with fail
  refine (toWaiterS_any (s3.below (B := w.heap.size) ?_ hhi) ?_ (by omega)).mono ?_
  · repeat (refine Below.setCell ?_ (by dsimp only; omega) _)
    exact hB2
  · simp; omega
  rintro e w3 ⟨B3, e3, rfl, own3, hb3⟩
  have z3 := hb3.size
  simp only [World.size_setCell] at z3 own3
  have ht3 : Turned (w.heap.size + 1) (w.heap.size + 3) w2 w3 := by
    refine Turned.trans ?_ (Turned.of_below hb3 _ _)
    repeat (refine Turned.setCell ?_ (by simp) (by simp) _)
    exact Turned.refl _ _ _
  have hB3 : Below w.heap.size w w3 := hB2.trans (ht3.below (by omega) (by omega))
  replace own1 := own1.turned ht3 (fun g hg => .inl (by omega))
  replace own2 := own2.turned ht3 (fun g hg => .inl (by omega))
  obtain ⟨hcl3, hfz3⟩ := bcell hb3
  have hl3a : w.heap.size < w3.heap.size := by omega
  have hl3b : w.heap.size + 1 < w3.heap.size := by omega
  have hl3c : w.heap.size + 1 + 1 < w3.heap.size := by omega
  go_wp2_with fail
  refine bodyPost_ret (v := .agg #[.int .i64 x.fCap, .slice B1 n1 e1, .slice B2 n2 e2, .slice B3 n3 e3, .bool x.fClosed]) (by simp [results, Try.results23, go_sem, hcl1, hl1a, hl1b, hl1c, hcl2, hl2a, hl2b, hl2c, hcl3, hl3a, hl3b, hl3c]) rfl ?_
  refine ⟨_, rfl, ?_, ?_⟩
  · refine ownChan (F := _) hw0 (TailR.of (OwnR.turned own1 (l := w.heap.size + 1) (r := w.heap.size + 3) ?t1 (fun g hg => .inl (by omega)))) (TailR.of (OwnR.turned own2 (l := w.heap.size + 1) (r := w.heap.size + 3) ?t2 (fun g hg => .inl (by omega)))) (TailR.of (OwnR.turned own3 (l := w.heap.size + 1) (r := w.heap.size + 3) ?t3 (fun g hg => .inl (by omega))))  ?k1 ?k2 ?k3 ?d12 ?d13 ?d23
    case t1 =>
      repeat (refine Turned.setCell ?_ (by simp) (by simp) _)
      exact Turned.refl _ _ _
    case t2 =>
      repeat (refine Turned.setCell ?_ (by simp) (by simp) _)
      exact Turned.refl _ _ _
    case t3 =>
      repeat (refine Turned.setCell ?_ (by simp) (by simp) _)
      exact Turned.refl _ _ _
    case k1 => intro g hg; simp only [World.size_setCell]; omega
    case k2 => intro g hg; simp only [World.size_setCell]; omega
    case k3 => intro g hg; simp only [World.size_setCell]; omega
    case d12 => intro g hg hg'; omega
    case d13 => intro g hg hg'; omega
    case d23 => intro g hg hg'; omega
  · repeat (refine Below.setCell ?_ (by dsimp only; omega) _)
    exact hB3

theorem infoChan : (Try.prog.info? 26).map (fun i => (i.zero, i.size, i.bytes)) = some (some (.agg #[.int .i64 0, .slice none 0 0, .slice none 0 0, .slice none 0 0, .bool false]), 5, 88) := by kernel_rfl

end Go.Proofs.Ytgdmcdblhpdlmaa
