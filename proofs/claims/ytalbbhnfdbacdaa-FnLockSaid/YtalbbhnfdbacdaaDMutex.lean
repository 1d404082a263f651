
/- Mutex: how it lies, how it is opened as an argument; the contracts of the laws' helpers over it. Laid by wip/tools/gen.py. -/

import Derived.Test.YtalbbhnfdbacdaaTail

import Derived.Test.YtalbbhnfdbacdaaDInt

namespace Go.Proofs.Ytalbbhnfdbacdaa
set_option linter.unusedSimpArgs false
set_option linter.unusedVariables false
open Go.RowKit

structure DMutex where
  fOwner : Int
  fWait : List Int
/-- How it lies: its slices in blocks of their own. -/
def layMutex : Lay DMutex := (Lay.int.pair (Lay.int.tail 3)).via fun x => (x.fOwner, x.fWait)
theorem opensMutex : Opens Try.prog 34 layMutex :=
  opens_via _ (fun a => ⟨⟨a.1, a.2⟩, rfl⟩) (opens_struct Try.underlying34 (by kernel_rfl) (.cons rfl (opens_int Try.underlying3 (by kernel_rfl)) (.one rfl (opens_tail Try.underlying23 (by kernel_rfl) (by decide) (opens_int Try.underlying3 (by kernel_rfl))))))
theorem seeMutex {w : World} {hi : Nat} {x : DMutex} {vs : List Value} (h : layMutex.see w hi x vs) : ∃ A1 n1 c1, vs = [.int .i64 x.fOwner, .slice A1 n1 c1] ∧ (Lit.int .i64 x.fOwner).wf = true ∧ (n1 ≤ c1 ∧ c1 ≤ maxLen ∧ SeenR Lay.int w hi A1 n1 x.fWait) := by
  obtain ⟨_, _, rfl, s0, s1⟩ := h
  obtain ⟨rfl, h0⟩ := s0
  obtain ⟨A1, n1, c1, rfl, h1⟩ := s1
  exact ⟨A1, n1, c1, rfl, h0, h1⟩
theorem ownMutex {w : World} {F : Nat → Prop} {x : DMutex} (h0 : (Lit.int .i64 x.fOwner).wf = true) {A1 : Option Addr} {n1 c1 : Nat} {F1 : Nat → Prop} (h1 : TailR Lay.int 3 w F1 A1 n1 c1 x.fWait) (k1 : ∀ g, F1 g → F g) : layMutex.own w F x [.int .i64 x.fOwner, .slice A1 n1 c1] := by
  exact ⟨_, _, (fun _ => False), (fun g => F1 g), rfl, ⟨rfl, h0⟩, ⟨A1, n1, c1, rfl, h1⟩, (fun _ h => h.elim), (fun g h => by first | exact k1 g h), (fun g h => h.elim)⟩

/-- How much it holds. -/
def szMutex (x : DMutex) : Nat := x.fWait.length

set_option maxRecDepth 100000 in
set_option maxHeartbeats 1000000 in
theorem szMutex_any {w : World} {hi l : Nat} {x : DMutex} {vs : List Value} (h : layMutex.see w hi x vs) (hhi : hi ≤ w.heap.size) (hl : l ≤ 1048576) :
    Calls Try.prog 13 #[.agg vs.toArray, .int .i64 (l : Int)] w (SzPost w l (szMutex x)) := by
  obtain ⟨A1, n1, c1, rfl, hw0, ⟨hc1, hm1, s1⟩⟩ := seeMutex h
  have hb0 : Below w.heap.size w (w.alloc (.cells #[.int .i64 x.fOwner, .slice A1 n1 c1] 34)) := (Below.refl _ _).alloc (Nat.le_refl _) _
  have hz0 : w.heap.size + 1 ≤ (w.alloc (.cells #[.int .i64 x.fOwner, .slice A1 n1 c1] 34)).heap.size := by simp
  go_enter Try.func13, Try.ntmps13
  have L1 := Lib.hid s1.1
  go_wp2_with fail
  refine (szIntS_any (l := l) (by omega) (Nat.le_trans hc1 hm1)).mono ?_
  rintro e w1 ⟨hb1, hcase⟩
  have z1 := hb1.size
  obtain ⟨hcl1, hfz1⟩ := bcell hb1
  simp only [World.size_alloc] at z1
  have hl1a : w.heap.size < w1.heap.size := by omega
  have hB1 : Below w.heap.size w w1 := hb0.trans (hb1.mono (by simp))
  rcases hcase with ⟨h10, rfl⟩ | ⟨h10, rfl⟩
  · go_wp2_with fail
    go_ret
    exact ⟨hB1, .inl ⟨by unfold szMutex; rw [L1.out]; omega, by unfold szMutex; rw [L1.out]; go_num⟩⟩
  · go_wp2_with fail
    go_ret
    exact ⟨hB1, .inr ⟨by unfold szMutex; rw [L1.out]; omega, rfl⟩⟩

set_option maxRecDepth 100000 in
set_option maxHeartbeats 1000000 in
theorem eqMutex_same {w : World} {hi hi' : Nat} {x : DMutex} {vs vs' : List Value} (h : layMutex.see w hi x vs) (h' : layMutex.see w hi' x vs') (hhi : hi ≤ w.heap.size) (hhi' : hi' ≤ w.heap.size) (hn : szMutex x ≤ 1048580) :
    Calls Try.prog 16 #[.agg vs.toArray, .agg vs'.toArray] w (SaysTrue w) := by
  obtain ⟨A1, n1, c1, rfl, hw0, ⟨hc1, hm1, s1⟩⟩ := seeMutex h
  obtain ⟨A1', n1', c1', rfl, hw0', ⟨hc1', hm1', s1'⟩⟩ := seeMutex h'
  obtain rfl : n1 = n1' := s1.1.symm.trans s1'.1
  have L1 := Lib.hid s1.1
  have hn0 := hn
  unfold szMutex at hn0
  rw [L1.out] at hn0
  have hb0 : Below w.heap.size w ((w.alloc (.cells #[.int .i64 x.fOwner, .slice A1 n1 c1] 25)).alloc (.cells #[.int .i64 x.fOwner, .slice A1' n1 c1'] 25)) := ((Below.refl _ _).alloc (Nat.le_refl _) _).alloc (by simp) _
  go_enter Try.func16, Try.ntmps16
  go_wp2_with fail
  (try (go_quiet (fail)))
  go_wp2_with fail
  refine (eqIntS_same (s1.below hb0 hhi) (s1'.below hb0 hhi')  (by omega)).mono ?_
  rintro e w1 ⟨rfl, hb1⟩
  have z1 := hb1.size
  obtain ⟨hcl1, hfz1⟩ := bcell hb1
  have hB1 : Below w.heap.size w w1 := hb0.trans (hb1.mono (by simp; omega))
  simp only [World.size_alloc] at z1
  have hl1a : w.heap.size < w1.heap.size := by omega
  have hl1b : w.heap.size + 1 < w1.heap.size := by omega
  go_wp2_with fail
  go_ret
  exact ⟨rfl, by first | exact hB1 | exact below_drawn hB1 _⟩

set_option maxRecDepth 100000 in
set_option maxHeartbeats 2000000 in
theorem toMutex_any {w : World} {hi : Nat} {x : DMutex} {vs : List Value} (h : layMutex.see w hi x vs) (hhi : hi ≤ w.heap.size) (hn : szMutex x ≤ 1048576) :
    Calls Try.prog 15 #[.agg vs.toArray] w (MadeL layMutex w x) := by
  obtain ⟨A1, n1, c1, rfl, hw0, ⟨hc1, hm1, s1⟩⟩ := seeMutex h
  have L1 := Lib.hid s1.1
  have hn0 := hn
  unfold szMutex at hn0
  rw [L1.out] at hn0
  have hb0 : Below w.heap.size w (((w.alloc (.cells #[.int .i64 x.fOwner, .slice A1 n1 c1] 34)).alloc (.cells #[.int .i64 0, .slice none 0 0] 25)).alloc (.cells #[.int .i64 0, .slice none 0 0] 25)) := by go_grown
  go_enter Try.func15, Try.ntmps15
  go_wp2_with fail
  refine (toIntS_any (s1.below (B := w.heap.size) ?_ hhi) ?_ (by omega)).mono ?_
  · go_grown
  · simp; omega
  rintro e w1 ⟨B1, e1, rfl, own1, hb1⟩
  have z1 := hb1.size
  simp only [World.size_alloc] at z1 own1
  have hB1 : Below w.heap.size w w1 := Below.trans (by go_grown) (hb1.mono (by simp; omega))
  obtain ⟨hcl1, hfz1⟩ := bcell hb1
  have hl1a : w.heap.size < w1.heap.size := by omega
  have hl1b : w.heap.size + 1 < w1.heap.size := by omega
  have hl1c : w.heap.size + 1 + 1 < w1.heap.size := by omega
  go_wp2_with fail
  refine bodyPost_ret (v := .agg #[.int .i64 x.fOwner, .slice B1 n1 e1]) (by simp [results, Try.results15, go_sem, hcl1, hl1a, hl1b, hl1c]) rfl ?_
  refine ⟨_, rfl, ?_, ?_⟩
  · refine ownMutex (F := _) hw0 (TailR.of (OwnR.turned own1 (l := w.heap.size + 1) (r := w.heap.size + 3) ?t1 (fun g hg => .inl (by omega)))) ?k1 
    case t1 =>
      repeat (refine Turned.setCell ?_ (by simp) (by simp) _)
      exact Turned.refl _ _ _
    case k1 => intro g hg; simp only [World.size_setCell]; omega
  · repeat (refine Below.setCell ?_ (by dsimp only; omega) _)
    exact hB1

theorem infoMutex : (Try.prog.info? 25).map (fun i => (i.zero, i.size, i.bytes)) = some (some (.agg #[.int .i64 0, .slice none 0 0]), 2, 32) := by kernel_rfl

end Go.Proofs.Ytalbbhnfdbacdaa
