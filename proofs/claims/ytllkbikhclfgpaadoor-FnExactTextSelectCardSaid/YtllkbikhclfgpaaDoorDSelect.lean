
/- Select: how it lies, how it is opened as an argument; the contracts of the laws' helpers over it. Laid by wip/tools/gen.py. -/

import Derived.Test.YtllkbikhclfgpaaDoorDCase

namespace Go.Proofs.YtllkbikhclfgpaaDoor
set_option linter.unusedSimpArgs false
set_option linter.unusedVariables false
open Go.RowKit

structure DSelect where
  fCases : List DCase
  fElse : Int
/-- How it lies: its slices in blocks of their own. -/
def laySelect : Lay DSelect := ((layCase.slice 64).pair Lay.int).via fun x => (x.fCases, x.fElse)
theorem opensSelect : Opens Tryd.prog 34 laySelect :=
  opens_via _ (fun a => ⟨⟨a.1, a.2⟩, rfl⟩) (opens_struct Tryd.underlying34 (by kernel_rfl) (.cons rfl (opens_slice Tryd.underlying32 (by kernel_rfl) (by decide) opensCase) (.one rfl (opens_int Tryd.underlying3 (by kernel_rfl)))))
theorem seeSelect {w : World} {hi : Nat} {x : DSelect} {vs : List Value} (h : laySelect.see w hi x vs) : ∃ A0 n0 c0, vs = [.slice A0 n0 c0, .int .i64 x.fElse] ∧ (n0 ≤ c0 ∧ c0 ≤ maxLen ∧ SeenR layCase w hi A0 n0 x.fCases) ∧ (Lit.int .i64 x.fElse).wf = true := by
  obtain ⟨_, _, rfl, s0, s1⟩ := h
  obtain ⟨A0, n0, c0, rfl, h0⟩ := s0
  obtain ⟨rfl, h1⟩ := s1
  exact ⟨A0, n0, c0, rfl, h0, h1⟩
theorem ownSelect {w : World} {F : Nat → Prop} {x : DSelect} {A0 : Option Addr} {n0 c0 : Nat} {F0 : Nat → Prop} (h0 : OwnR layCase 64 w F0 A0 n0 c0 x.fCases) (h1 : (Lit.int .i64 x.fElse).wf = true) (k0 : ∀ g, F0 g → F g) : laySelect.own w F x [.slice A0 n0 c0, .int .i64 x.fElse] := by
  exact ⟨_, _, F0, (fun _ => False), rfl, ⟨A0, n0, c0, rfl, h0⟩, ⟨rfl, h1⟩, k0, (fun _ h => h.elim), (fun g h h2 => h2)⟩

/-- How much it holds. -/
def szSelect (x : DSelect) : Nat := x.fCases.length

set_option maxRecDepth 100000 in
set_option maxHeartbeats 1000000 in
theorem szSelect_any {w : World} {hi l : Nat} {x : DSelect} {vs : List Value} (h : laySelect.see w hi x vs) (hhi : hi ≤ w.heap.size) (hl : l ≤ 1048576) :
    Calls Tryd.prog 13 #[.agg vs.toArray, .int .i64 (l : Int)] w (SzPost w l (szSelect x)) := by
  obtain ⟨A0, n0, c0, rfl, ⟨hc0, hm0, s0⟩, hw1⟩ := seeSelect h
  have hb0 : Below w.heap.size w (w.alloc (.cells #[.slice A0 n0 c0, .int .i64 x.fElse] 34)) := (Below.refl _ _).alloc (Nat.le_refl _) _
  have hz0 : w.heap.size + 1 ≤ (w.alloc (.cells #[.slice A0 n0 c0, .int .i64 x.fElse] 34)).heap.size := by simp
  go_enter Tryd.func13, Tryd.ntmps13
  have L0 := Lib.hid s0.1
  go_wp2_with fail
  refine (szCaseS_any (l := l) (by omega) (Nat.le_trans hc0 hm0)).mono ?_
  rintro e w1 ⟨hb1, hcase⟩
  have z1 := hb1.size
  obtain ⟨hcl1, hfz1⟩ := bcell hb1
  simp only [World.size_alloc] at z1
  have hl1a : w.heap.size < w1.heap.size := by omega
  have hB1 : Below w.heap.size w w1 := hb0.trans (hb1.mono (by simp))
  rcases hcase with ⟨h10, rfl⟩ | ⟨h10, rfl⟩
  · go_wp2_with fail
    go_ret
    exact ⟨hB1, .inl ⟨by unfold szSelect; rw [L0.out]; omega, by unfold szSelect; rw [L0.out]; go_num⟩⟩
  · go_wp2_with fail
    go_ret
    exact ⟨hB1, .inr ⟨by unfold szSelect; rw [L0.out]; omega, rfl⟩⟩

set_option maxRecDepth 100000 in
set_option maxHeartbeats 1000000 in
theorem eqSelect_same {w : World} {hi hi' : Nat} {x : DSelect} {vs vs' : List Value} (h : laySelect.see w hi x vs) (h' : laySelect.see w hi' x vs') (hhi : hi ≤ w.heap.size) (hhi' : hi' ≤ w.heap.size) (hn : szSelect x ≤ 1048576) :
    Calls Tryd.prog 17 #[.agg vs.toArray, .agg vs'.toArray] w (SaysTrue w) := by
  obtain ⟨A0, n0, c0, rfl, ⟨hc0, hm0, s0⟩, hw1⟩ := seeSelect h
  obtain ⟨A0', n0', c0', rfl, ⟨hc0', hm0', s0'⟩, hw1'⟩ := seeSelect h'
  obtain rfl : n0 = n0' := s0.1.symm.trans s0'.1
  have L0 := Lib.hid s0.1
  have hn0 := hn
  unfold szSelect at hn0
  rw [L0.out] at hn0
  have hb0 : Below w.heap.size w ((w.alloc (.cells #[.slice A0 n0 c0, .int .i64 x.fElse] 39)).alloc (.cells #[.slice A0' n0 c0', .int .i64 x.fElse] 39)) := ((Below.refl _ _).alloc (Nat.le_refl _) _).alloc (by simp) _
  go_enter Tryd.func17, Tryd.ntmps17
  go_wp2_with fail
  refine (eqCaseS_same (s0.below hb0 hhi) (s0'.below hb0 hhi') (by have := hb0.size; omega) (by have := hb0.size; omega) (by omega)).mono ?_
  rintro e w1 ⟨rfl, hb1⟩
  have z1 := hb1.size
  obtain ⟨hcl1, hfz1⟩ := bcell hb1
  have hB1 : Below w.heap.size w w1 := hb0.trans (hb1.mono (by simp; omega))
  simp only [World.size_alloc] at z1
  have hl1a : w.heap.size < w1.heap.size := by omega
  have hl1b : w.heap.size + 1 < w1.heap.size := by omega
  go_wp2_with fail
  (try (go_quiet (fail)))
  go_wp2_with fail
  go_ret
  exact ⟨rfl, by first | exact hB1 | exact below_drawn hB1 _⟩

set_option maxRecDepth 100000 in
set_option maxHeartbeats 2000000 in
theorem toSelect_any {w : World} {hi : Nat} {x : DSelect} {vs : List Value} (h : laySelect.see w hi x vs) (hhi : hi ≤ w.heap.size) (hn : szSelect x ≤ 1048576) :
    Calls Tryd.prog 15 #[.agg vs.toArray] w (MadeL laySelect w x) := by
  obtain ⟨A0, n0, c0, rfl, ⟨hc0, hm0, s0⟩, hw1⟩ := seeSelect h
  have L0 := Lib.hid s0.1
  have hn0 := hn
  unfold szSelect at hn0
  rw [L0.out] at hn0
  have hb0 : Below w.heap.size w (((w.alloc (.cells #[.slice A0 n0 c0, .int .i64 x.fElse] 34)).alloc (.cells #[.slice none 0 0, .int .i64 0] 39)).alloc (.cells #[.slice none 0 0, .int .i64 0] 39)) := by go_grown
  go_enter Tryd.func15, Tryd.ntmps15
  go_wp2_with fail
  refine (toCaseS_any (s0.below (B := w.heap.size) ?_ hhi) ?_ (by omega)).mono ?_
  · go_grown
  · simp; omega
  rintro e w1 ⟨B0, e0, rfl, own1, hb1⟩
  have z1 := hb1.size
  simp only [World.size_alloc] at z1 own1
  have hB1 : Below w.heap.size w w1 := Below.trans (by go_grown) (hb1.mono (by simp; omega))
  obtain ⟨hcl1, hfz1⟩ := bcell hb1
  have hl1a : w.heap.size < w1.heap.size := by omega
  have hl1b : w.heap.size + 1 < w1.heap.size := by omega
  have hl1c : w.heap.size + 1 + 1 < w1.heap.size := by omega
  go_wp2_with fail
  refine bodyPost_ret (v := .agg #[.slice B0 n0 e0, .int .i64 x.fElse]) (by simp [results, Tryd.results15, go_sem, hcl1, hl1a, hl1b, hl1c]) rfl ?_
  refine ⟨_, rfl, ?_, ?_⟩
  · refine ownSelect (F := _) (OwnR.turned own1 (l := w.heap.size + 1) (r := w.heap.size + 3) ?t0 (fun g hg => .inl (by omega))) hw1 ?k0 
    case t0 =>
      repeat (refine Turned.setCell ?_ (by simp) (by simp) _)
      exact Turned.refl _ _ _
    case k0 => intro g hg; simp only [World.size_setCell]; omega
  · repeat (refine Below.setCell ?_ (by dsimp only; omega) _)
    exact hB1

theorem infoSelect : (Tryd.prog.info? 39).map (fun i => (i.zero, i.size, i.bytes)) = some (some (.agg #[.slice none 0 0, .int .i64 0]), 2, 32) := by kernel_rfl

end Go.Proofs.YtllkbikhclfgpaaDoor
