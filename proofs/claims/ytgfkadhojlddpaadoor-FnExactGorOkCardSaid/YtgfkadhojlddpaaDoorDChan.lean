
/- Chan: how it lies, how it is opened as an argument; the contracts of the laws' helpers over it. Laid by wip/tools/gen.py. -/

import Derived.Test.YtgfkadhojlddpaaDoorTail

import Derived.Test.YtgfkadhojlddpaaDoorDInt

import Derived.Test.YtgfkadhojlddpaaDoorDWaiter

namespace Go.Proofs.YtgfkadhojlddpaaDoor
set_option linter.unusedSimpArgs false
set_option linter.unusedVariables false
open Go.RowKit

structure DChan where
  fCap : Int
  fBuf : List Int
  fSends : List DWaiter
  fRecvs : List DWaiter
  fClosed : Bool
/-- How it lies: its slices in blocks of their own. -/
def layChan : Lay DChan := (Lay.int.pair ((Lay.int.tail 3).pair ((layWaiter.tail 181).pair ((layWaiter.tail 181).pair Lay.bool)))).via fun x => (x.fCap, (x.fBuf, (x.fSends, (x.fRecvs, x.fClosed))))
theorem seeChan {w : World} {hi : Nat} {x : DChan} {vs : List Value} (h : layChan.see w hi x vs) : ∃ A1 n1 c1 A2 n2 c2 A3 n3 c3, vs = [.int .i64 x.fCap, .slice A1 n1 c1, .slice A2 n2 c2, .slice A3 n3 c3, .bool x.fClosed] ∧ (Lit.int .i64 x.fCap).wf = true ∧ (n1 ≤ c1 ∧ c1 ≤ maxLen ∧ SeenR Lay.int w hi A1 n1 x.fBuf) ∧ (n2 ≤ c2 ∧ c2 ≤ maxLen ∧ SeenR layWaiter w hi A2 n2 x.fSends) ∧ (n3 ≤ c3 ∧ c3 ≤ maxLen ∧ SeenR layWaiter w hi A3 n3 x.fRecvs) := by
  obtain ⟨_, _, rfl, s0, ⟨_, _, rfl, s1, ⟨_, _, rfl, s2, ⟨_, _, rfl, s3, s4⟩⟩⟩⟩ := h
  obtain ⟨rfl, h0⟩ := s0
  obtain ⟨A1, n1, c1, rfl, h1⟩ := s1
  obtain ⟨A2, n2, c2, rfl, h2⟩ := s2
  obtain ⟨A3, n3, c3, rfl, h3⟩ := s3
  obtain ⟨rfl, h4⟩ := s4
  exact ⟨A1, n1, c1, A2, n2, c2, A3, n3, c3, rfl, h0, h1, h2, h3⟩
theorem ownChan {w : World} {F : Nat → Prop} {x : DChan} (h0 : (Lit.int .i64 x.fCap).wf = true) {A1 : Option Addr} {n1 c1 : Nat} {F1 : Nat → Prop} (h1 : TailR Lay.int 3 w F1 A1 n1 c1 x.fBuf) {A2 : Option Addr} {n2 c2 : Nat} {F2 : Nat → Prop} (h2 : TailR layWaiter 181 w F2 A2 n2 c2 x.fSends) {A3 : Option Addr} {n3 c3 : Nat} {F3 : Nat → Prop} (h3 : TailR layWaiter 181 w F3 A3 n3 c3 x.fRecvs) (k1 : ∀ g, F1 g → F g) (k2 : ∀ g, F2 g → F g) (k3 : ∀ g, F3 g → F g) (d12 : ∀ g, F1 g → ¬ F2 g) (d13 : ∀ g, F1 g → ¬ F3 g) (d23 : ∀ g, F2 g → ¬ F3 g) : layChan.own w F x [.int .i64 x.fCap, .slice A1 n1 c1, .slice A2 n2 c2, .slice A3 n3 c3, .bool x.fClosed] := by
  exact ⟨_, _, (fun _ => False), (fun g => F1 g ∨ F2 g ∨ F3 g), rfl, ⟨rfl, h0⟩, ⟨_, _, F1, (fun g => F2 g ∨ F3 g), rfl, ⟨A1, n1, c1, rfl, h1⟩, ⟨_, _, F2, (fun g => F3 g), rfl, ⟨A2, n2, c2, rfl, h2⟩, ⟨_, _, F3, (fun _ => False), rfl, ⟨A3, n3, c3, rfl, h3⟩, ⟨rfl, trivial⟩, (fun g h => h), (fun _ h => h.elim), (fun g h h2 => h2)⟩, (fun g h => Or.inl h), (fun g h => Or.inr h), (fun g h h2 => by first | exact d23 g h h2)⟩, (fun g h => Or.inl h), (fun g h => Or.inr h), (fun g h h2 => by rcases h2 with h2 | h2 <;> first | exact d12 g h h2 | exact d13 g h h2)⟩, (fun _ h => h.elim), (fun g h => by rcases h with h | h | h <;> first | exact k1 g h | exact k2 g h | exact k3 g h), (fun g h => h.elim)⟩

/-- How much it holds. -/
def szChan (x : DChan) : Nat := x.fBuf.length + x.fSends.length + x.fRecvs.length

set_option maxRecDepth 100000 in
set_option maxHeartbeats 1000000 in
theorem eqChan_same {w : World} {hi hi' : Nat} {x : DChan} {vs vs' : List Value} (h : layChan.see w hi x vs) (h' : layChan.see w hi' x vs') (hhi : hi ≤ w.heap.size) (hhi' : hi' ≤ w.heap.size) (hn : szChan x ≤ 1048576) :
    Calls Tryd.prog 115 #[.agg vs.toArray, .agg vs'.toArray] w (SaysTrue w) := by
  obtain ⟨A1, n1, c1, A2, n2, c2, A3, n3, c3, rfl, hw0, ⟨hc1, hm1, s1⟩, ⟨hc2, hm2, s2⟩, ⟨hc3, hm3, s3⟩⟩ := seeChan h
  obtain ⟨A1', n1', c1', A2', n2', c2', A3', n3', c3', rfl, hw0', ⟨hc1', hm1', s1'⟩, ⟨hc2', hm2', s2'⟩, ⟨hc3', hm3', s3'⟩⟩ := seeChan h'
  obtain rfl : n1 = n1' := s1.1.symm.trans s1'.1
  have L1 := Lib.hid s1.1
  obtain rfl : n2 = n2' := s2.1.symm.trans s2'.1
  have L2 := Lib.hid s2.1
  obtain rfl : n3 = n3' := s3.1.symm.trans s3'.1
  have L3 := Lib.hid s3.1
  have hn0 := hn
  unfold szChan at hn0
  rw [L1.out] at hn0
  rw [L2.out] at hn0
  rw [L3.out] at hn0
  have hb0 : Below w.heap.size w ((w.alloc (.cells #[.int .i64 x.fCap, .slice A1 n1 c1, .slice A2 n2 c2, .slice A3 n3 c3, .bool x.fClosed] 104)).alloc (.cells #[.int .i64 x.fCap, .slice A1' n1 c1', .slice A2' n2 c2', .slice A3' n3 c3', .bool x.fClosed] 104)) := ((Below.refl _ _).alloc (Nat.le_refl _) _).alloc (by simp) _
  go_enter Tryd.func115, Tryd.ntmps115
  go_wp2_with fail
  (try (go_quiet (fail)))
  go_wp2_with fail
  refine (eqIntS_same (s1.below hb0 hhi) (s1'.below hb0 hhi')  (by omega)).mono ?_
  rintro e w1 ⟨rfl, hb1⟩
  have z1 := hb1.size
  obtain ⟨hcl1, hfz1⟩ := bcell hb1
  have hB1 : Below w.heap.size w w1 := hb0.trans (hb1.mono (by simp; omega))
  simp only [World.size_alloc] at z1
  have hl1a : w.heap.size < w1.heap.size := by omega
  have hl1b : w.heap.size + 1 < w1.heap.size := by omega
  go_wp2_with fail
  refine (eqWaiterS_same (s2.below hB1 hhi) (s2'.below hB1 hhi') (by have := hB1.size; omega) (by have := hB1.size; omega) (by omega)).mono ?_
  rintro e w2 ⟨rfl, hb2⟩
  have z2 := hb2.size
  obtain ⟨hcl2, hfz2⟩ := bcell hb2
  have hB2 : Below w.heap.size w w2 := hB1.trans (hb2.mono (by omega))
  have hl2a : w.heap.size < w2.heap.size := by omega
  have hl2b : w.heap.size + 1 < w2.heap.size := by omega
  go_wp2_with fail
  refine (eqWaiterS_same (s3.below hB2 hhi) (s3'.below hB2 hhi') (by have := hB2.size; omega) (by have := hB2.size; omega) (by omega)).mono ?_
  rintro e w3 ⟨rfl, hb3⟩
  have z3 := hb3.size
  obtain ⟨hcl3, hfz3⟩ := bcell hb3
  have hB3 : Below w.heap.size w w3 := hB2.trans (hb3.mono (by omega))
  have hl3a : w.heap.size < w3.heap.size := by omega
  have hl3b : w.heap.size + 1 < w3.heap.size := by omega
  go_wp2_with fail
  (try (go_quiet (fail)))
  go_wp2_with fail
  go_ret
  exact ⟨rfl, by first | exact hB3 | exact below_drawn hB3 _⟩

set_option maxRecDepth 100000 in
set_option maxHeartbeats 1000000 in
theorem eqChanS_same {A A' : Option Addr} {n c c' hi hi' : Nat} {xs : List DChan} {w : World} (h : SeenR layChan w hi A n xs) (h' : SeenR layChan w hi' A' n xs) (hh : hi ≤ w.heap.size) (hh' : hi' ≤ w.heap.size) (hn : n ≤ 1048576) (hs : (xs.map szChan).sum ≤ 1048576) :
    Calls Tryd.prog 69 #[.slice A n c, .slice A' n c'] w (SaysTrue w) := by
  go_enter Tryd.func69, Tryd.ntmps69
  go_wp2
  go_loopw [5] (fun i wr => ∃ k : Nat, k ≤ n ∧ i = .int .i64 k ∧ Below w.heap.size w wr) (fun i _ => n - (intOf i).toNat)
  case atStart => exact ⟨0, Nat.zero_le _, rfl, Below.refl _ _⟩
  case round =>
    obtain ⟨k, hk, rfl, hb⟩ := hrel
    have z := hb.size
    by_cases hlt : k < n
    · obtain ⟨hx, g, o, vs, rfl, hg, hsee, hc⟩ := (h.below hb hh).at_ hlt
      obtain ⟨hx', g', o', vs', rfl, hg', hsee', hc'⟩ := (h'.below hb hh').at_ hlt
      have hsz : szChan xs[k] ≤ 1048576 := Nat.le_trans (sum_mem_le szChan (List.getElem_mem hx)) hs
      generalize xs[k] = x at *
      have HE := Lib.hid (fun (W : World) (hW : Below wr.heap.size wr W) => eqChan_same (layChan.keep hsee fun k hk => hW.block k (by omega)) (layChan.keep hsee' fun k hk => hW.block k (by omega)) (by have := hW.size; omega) (by have := hW.size; omega) hsz)
      obtain ⟨A1, n1, c1, A2, n2, c2, A3, n3, c3, rfl, hw0, ⟨hc1, hm1, s1⟩, ⟨hc2, hm2, s2⟩, ⟨hc3, hm3, s3⟩⟩ := seeChan hsee
      obtain ⟨A1', n1', c1', A2', n2', c2', A3', n3', c3', rfl, hw0', ⟨hc1', hm1', s1'⟩, ⟨hc2', hm2', s2'⟩, ⟨hc3', hm3', s3'⟩⟩ := seeChan hsee'
      have cc0 := hc 0 _ rfl
      have dd0 := hc' 0 _ rfl
      have cc1 := hc 1 _ rfl
      have dd1 := hc' 1 _ rfl
      have cc2 := hc 2 _ rfl
      have dd2 := hc' 2 _ rfl
      have cc3 := hc 3 _ rfl
      have dd3 := hc' 3 _ rfl
      have cc4 := hc 4 _ rfl
      have dd4 := hc' 4 _ rfl
      simp only [show layChan.size = 5 from rfl, ← Nat.add_assoc, Nat.add_zero, Nat.mul_one] at cc0 cc1 cc2 cc3 cc4 dd0 dd1 dd2 dd3 dd4
      clear hc hc' hsee hsee' s1 s1' s2 s2' s3 s3'
      have hi0 : (0 : Int) ≤ (k : Int) := by omega
      have hi1 : (k : Int) < (n : Int) := by omega
      have hb0 : Below wr.heap.size wr wr.drew := (Below.refl _ _).drew
      go_wp2_with fail
      go_region_with (go_at_call 115; refine (HE.out _ hb0).mono ?_; rintro e w1 ⟨rfl, hb1⟩)
      all_goals
        have hbb : Below w.heap.size w w1 := hb.drew.trans (hb1.mono z)
        clear hb1 HE cc0 cc1 cc2 cc3 cc4 dd0 dd1 dd2 dd3 dd4
        go_wp2_with fail
        go_roundw
        case rel => exact ⟨k + 1, by omega, by go_num, hbb⟩
        case measure => simp [intOf]; omega
    · go_wp2
      go_ret
      exact ⟨rfl, hb⟩

theorem infoChan : (Tryd.prog.info? 104).map (fun i => (i.zero, i.size, i.bytes)) = some (some (.agg #[.int .i64 0, .slice none 0 0, .slice none 0 0, .slice none 0 0, .bool false]), 5, 88) := by kernel_rfl

end Go.Proofs.YtgfkadhojlddpaaDoor
