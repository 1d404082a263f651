
/- Chan: how it lies, how it is opened as an argument; the contracts of the laws' helpers over it. Laid by wip/tools/gen.py. -/

import Derived.Test.YtgfkadhojlddpaaTail

import Derived.Test.YtgfkadhojlddpaaDInt

import Derived.Test.YtgfkadhojlddpaaDWaiter

namespace Go.Proofs.Ytgfkadhojlddpaa
set_option linter.unusedSimpArgs false
set_option linter.unusedVariables false
open Go.RowKit

structure DChan where
  fCap : Int
  fBuf : List Int
  fSends : List DWaiter
  fRecvs : List DWaiter
  fClosed : Bool
/-- How it lies: its slices in blocks of their own. -/
def layChan : Lay DChan := (Lay.int.pair ((Lay.int.tail 3).pair ((layWaiter.tail 90).pair ((layWaiter.tail 90).pair Lay.bool)))).via fun x => (x.fCap, (x.fBuf, (x.fSends, (x.fRecvs, x.fClosed))))
theorem opensChan : Opens Try.prog 61 layChan :=
  opens_via _ (fun a => ⟨⟨a.1, a.2.1, a.2.2.1, a.2.2.2.1, a.2.2.2.2⟩, rfl⟩) (opens_struct Try.underlying61 (by kernel_rfl) (.cons rfl (opens_int Try.underlying3 (by kernel_rfl)) (.cons rfl (opens_tail Try.underlying28 (by kernel_rfl) (by decide) (opens_int Try.underlying3 (by kernel_rfl))) (.cons rfl (opens_tail Try.underlying59 (by kernel_rfl) (by decide) opensWaiter) (.cons rfl (opens_tail Try.underlying59 (by kernel_rfl) (by decide) opensWaiter) (.one rfl (opens_bool Try.underlying4 (by kernel_rfl))))))))
theorem seeChan {w : World} {hi : Nat} {x : DChan} {vs : List Value} (h : layChan.see w hi x vs) : ∃ A1 n1 c1 A2 n2 c2 A3 n3 c3, vs = [.int .i64 x.fCap, .slice A1 n1 c1, .slice A2 n2 c2, .slice A3 n3 c3, .bool x.fClosed] ∧ (Lit.int .i64 x.fCap).wf = true ∧ (n1 ≤ c1 ∧ c1 ≤ maxLen ∧ SeenR Lay.int w hi A1 n1 x.fBuf) ∧ (n2 ≤ c2 ∧ c2 ≤ maxLen ∧ SeenR layWaiter w hi A2 n2 x.fSends) ∧ (n3 ≤ c3 ∧ c3 ≤ maxLen ∧ SeenR layWaiter w hi A3 n3 x.fRecvs) := by
  obtain ⟨_, _, rfl, s0, ⟨_, _, rfl, s1, ⟨_, _, rfl, s2, ⟨_, _, rfl, s3, s4⟩⟩⟩⟩ := h
  obtain ⟨rfl, h0⟩ := s0
  obtain ⟨A1, n1, c1, rfl, h1⟩ := s1
  obtain ⟨A2, n2, c2, rfl, h2⟩ := s2
  obtain ⟨A3, n3, c3, rfl, h3⟩ := s3
  obtain ⟨rfl, h4⟩ := s4
  exact ⟨A1, n1, c1, A2, n2, c2, A3, n3, c3, rfl, h0, h1, h2, h3⟩
theorem ownChan {w : World} {F : Nat → Prop} {x : DChan} (h0 : (Lit.int .i64 x.fCap).wf = true) {A1 : Option Addr} {n1 c1 : Nat} {F1 : Nat → Prop} (h1 : TailR Lay.int 3 w F1 A1 n1 c1 x.fBuf) {A2 : Option Addr} {n2 c2 : Nat} {F2 : Nat → Prop} (h2 : TailR layWaiter 90 w F2 A2 n2 c2 x.fSends) {A3 : Option Addr} {n3 c3 : Nat} {F3 : Nat → Prop} (h3 : TailR layWaiter 90 w F3 A3 n3 c3 x.fRecvs) (k1 : ∀ g, F1 g → F g) (k2 : ∀ g, F2 g → F g) (k3 : ∀ g, F3 g → F g) (d12 : ∀ g, F1 g → ¬ F2 g) (d13 : ∀ g, F1 g → ¬ F3 g) (d23 : ∀ g, F2 g → ¬ F3 g) : layChan.own w F x [.int .i64 x.fCap, .slice A1 n1 c1, .slice A2 n2 c2, .slice A3 n3 c3, .bool x.fClosed] := by
  exact ⟨_, _, (fun _ => False), (fun g => F1 g ∨ F2 g ∨ F3 g), rfl, ⟨rfl, h0⟩, ⟨_, _, F1, (fun g => F2 g ∨ F3 g), rfl, ⟨A1, n1, c1, rfl, h1⟩, ⟨_, _, F2, (fun g => F3 g), rfl, ⟨A2, n2, c2, rfl, h2⟩, ⟨_, _, F3, (fun _ => False), rfl, ⟨A3, n3, c3, rfl, h3⟩, ⟨rfl, trivial⟩, (fun g h => h), (fun _ h => h.elim), (fun g h h2 => h2)⟩, (fun g h => Or.inl h), (fun g h => Or.inr h), (fun g h h2 => by first | exact d23 g h h2)⟩, (fun g h => Or.inl h), (fun g h => Or.inr h), (fun g h h2 => by rcases h2 with h2 | h2 <;> first | exact d12 g h h2 | exact d13 g h h2)⟩, (fun _ h => h.elim), (fun g h => by rcases h with h | h | h <;> first | exact k1 g h | exact k2 g h | exact k3 g h), (fun g h => h.elim)⟩

/-- How much it holds. -/
def szChan (x : DChan) : Nat := x.fBuf.length + x.fSends.length + x.fRecvs.length

set_option maxRecDepth 100000 in
set_option maxHeartbeats 1000000 in
theorem szChan_any {w : World} {hi l : Nat} {x : DChan} {vs : List Value} (h : layChan.see w hi x vs) (hhi : hi ≤ w.heap.size) (hl : l ≤ 1048576) :
    Calls Try.prog 31 #[.agg vs.toArray, .int .i64 (l : Int)] w (SzPost w l (szChan x)) := by
  obtain ⟨A1, n1, c1, A2, n2, c2, A3, n3, c3, rfl, hw0, ⟨hc1, hm1, s1⟩, ⟨hc2, hm2, s2⟩, ⟨hc3, hm3, s3⟩⟩ := seeChan h
  have hb0 : Below w.heap.size w (w.alloc (.cells #[.int .i64 x.fCap, .slice A1 n1 c1, .slice A2 n2 c2, .slice A3 n3 c3, .bool x.fClosed] 61)) := (Below.refl _ _).alloc (Nat.le_refl _) _
  have hz0 : w.heap.size + 1 ≤ (w.alloc (.cells #[.int .i64 x.fCap, .slice A1 n1 c1, .slice A2 n2 c2, .slice A3 n3 c3, .bool x.fClosed] 61)).heap.size := by simp
  go_enter Try.func31, Try.ntmps31
  have L1 := Lib.hid s1.1
  go_wp2_with fail
  refine (szIntS_any (l := l) (by omega) (Nat.le_trans hc1 hm1)).mono ?_
  rintro e w1 ⟨hb1, hcase⟩
  have z1 := hb1.size
  obtain ⟨hcl1, hfz1⟩ := bcell hb1
  simp only [World.size_alloc] at z1
  have hl1a : w.heap.size < w1.heap.size := by omega
  have hB1 : Below w.heap.size w w1 := hb0.trans (hb1.mono (by simp))
  rcases hcase with ⟨h10, rfl⟩ | ⟨h10, rfl⟩
  · skip
    have L2 := Lib.hid s2.1
    go_wp2_with fail
    refine (szWaiterS_any (l := l - n1) (by omega) (Nat.le_trans hc2 hm2)).mono ?_
    rintro e w2 ⟨hb2, hcase⟩
    have z2 := hb2.size
    obtain ⟨hcl2, hfz2⟩ := bcell hb2
    have hl2a : w.heap.size < w2.heap.size := by omega
    have hB2 : Below w.heap.size w w2 := hB1.trans (hb2.mono (by omega))
    rcases hcase with ⟨h11, rfl⟩ | ⟨h11, rfl⟩
    · skip
      have L3 := Lib.hid s3.1
      go_wp2_with fail
      refine (szWaiterS_any (l := l - n1 - n2) (by omega) (Nat.le_trans hc3 hm3)).mono ?_
      rintro e w3 ⟨hb3, hcase⟩
      have z3 := hb3.size
      obtain ⟨hcl3, hfz3⟩ := bcell hb3
      have hl3a : w.heap.size < w3.heap.size := by omega
      have hB3 : Below w.heap.size w w3 := hB2.trans (hb3.mono (by omega))
      rcases hcase with ⟨h12, rfl⟩ | ⟨h12, rfl⟩
      · go_wp2_with fail
        go_ret
        exact ⟨hB3, .inl ⟨by unfold szChan; rw [L1.out]; rw [L2.out]; rw [L3.out]; omega, by unfold szChan; rw [L1.out]; rw [L2.out]; rw [L3.out]; go_num⟩⟩
      · go_wp2_with fail
        go_ret
        exact ⟨hB3, .inr ⟨by unfold szChan; rw [L1.out]; rw [L2.out]; rw [L3.out]; omega, rfl⟩⟩
    · go_wp2_with fail
      go_ret
      exact ⟨hB2, .inr ⟨by unfold szChan; rw [L1.out]; rw [L2.out]; omega, rfl⟩⟩
  · go_wp2_with fail
    go_ret
    exact ⟨hB1, .inr ⟨by unfold szChan; rw [L1.out]; omega, rfl⟩⟩

set_option maxRecDepth 100000 in
set_option maxHeartbeats 1000000 in
theorem szChanS_any {w : World} {hi n c l : Nat} {A : Option Addr} {ds : List DChan} (h : SeenR layChan w hi A n ds) (hhi : hi ≤ w.heap.size) (hl : l ≤ 1048576) (hn : n ≤ maxLen) :
    Calls Try.prog 17 #[.slice A n c, .int .i64 (l : Int)] w (SzPost w l (n + (ds.map szChan).sum)) := by
  unfold maxLen at hn
  have HL := Lib.hid h.1
  by_cases h0 : n ≤ l
  · go_enter Try.func17, Try.ntmps17
    go_wp2_with fail
    go_loopw [1, 5] (fun q i wr => ∃ k : Nat, k ≤ n ∧ i = .int .i64 k ∧ n + ((ds.take k).map szChan).sum ≤ l ∧ q = .int .i64 ((l - (n + ((ds.take k).map szChan).sum) : Nat) : Int) ∧ Below w.heap.size w wr) (fun _ i _ => n - (intOf i).toNat)
    case atStart => exact ⟨0, Nat.zero_le _, rfl, by simpa using h0, by simp; go_num, Below.refl _ _⟩
    case round =>
      obtain ⟨k, hk, rfl, hle, rfl, hb⟩ := hrel
      have z := hb.size
      by_cases hlt : k < n
      · obtain ⟨hx, g, o, vs, rfl, hg, hsee, hcell⟩ := (h.below hb hhi).at_ hlt
        have hsee0 := hsee
        have htt := Lib.hid (sum_take_succ (f := szChan) (List.getElem?_eq_getElem hx))
        have htl := sum_take_le szChan ds (k + 1)
        rw [htt.out] at htl
        generalize ds[k] = d at *
        obtain ⟨A1, n1, c1, A2, n2, c2, A3, n3, c3, rfl, hw0, ⟨hc1, hm1, s1⟩, ⟨hc2, hm2, s2⟩, ⟨hc3, hm3, s3⟩⟩ := seeChan hsee
        have cc0 := hcell 0 _ rfl
        have cc1 := hcell 1 _ rfl
        have cc2 := hcell 2 _ rfl
        have cc3 := hcell 3 _ rfl
        have cc4 := hcell 4 _ rfl
        simp only [show layChan.size = 5 from rfl, ← Nat.add_assoc, Nat.add_zero, Nat.mul_one] at cc0 cc1 cc2 cc3 cc4
        clear hcell hsee s1 s2 s3
        generalize hT : ((ds.take k).map szChan).sum = S at *
        have HT := Lib.hid hT
        clear hT
        go_wp2_with fail
        refine (szChan_any (l := l - (n + S)) hsee0 (by omega) (by omega)).mono ?_
        rintro e w1 ⟨hb1, hcase⟩
        have hbb : Below w.heap.size w w1 := hb.trans (hb1.mono z)
        clear cc0 cc1 cc2 cc3 cc4 hb1 hsee0
        rcases hcase with ⟨h1, rfl⟩ | ⟨h1, rfl⟩
        · go_wp2_with fail
          go_roundw
          case rel => exact ⟨k + 1, by omega, by go_num, by rw [htt.out]; omega, by rw [htt.out]; go_num, hbb⟩
          case measure => simp [intOf]; omega
        · go_wp2_with fail
          go_ret
          exact ⟨hbb, .inr ⟨by omega, rfl⟩⟩
      · go_wp2_with fail
        go_ret
        obtain rfl : k = n := by omega
        have htk : ds.take k = ds := List.take_of_length_le (by rw [HL.out]; exact Nat.le_refl _)
        rw [htk] at hle ⊢
        exact ⟨hb, .inl ⟨hle, rfl⟩⟩
  · have h1 : l < n := by omega
    clear h
    go_enter Try.func17, Try.ntmps17
    go_wp2_with fail
    go_ret
    exact ⟨Below.refl _ _, .inr ⟨by omega, rfl⟩⟩

set_option maxRecDepth 100000 in
set_option maxHeartbeats 1000000 in
theorem eqChan_same {w : World} {hi hi' : Nat} {x : DChan} {vs vs' : List Value} (h : layChan.see w hi x vs) (h' : layChan.see w hi' x vs') (hhi : hi ≤ w.heap.size) (hhi' : hi' ≤ w.heap.size) (hn : szChan x ≤ 1048576) :
    Calls Try.prog 37 #[.agg vs.toArray, .agg vs'.toArray] w (SaysTrue w) := by
  obtain ⟨A1, n1, c1, A2, n2, c2, A3, n3, c3, rfl, hw0, ⟨hc1, hm1, s1⟩, ⟨hc2, hm2, s2⟩, ⟨hc3, hm3, s3⟩⟩ := seeChan h
  obtain ⟨A1', n1', c1', A2', n2', c2', A3', n3', c3', rfl, hw0', ⟨hc1', hm1', s1'⟩, ⟨hc2', hm2', s2'⟩, ⟨hc3', hm3', s3'⟩⟩ := seeChan h'
  obtain rfl : n1 = n1' := s1.1.symm.trans s1'.1
  have L1 := Lib.hid s1.1
  obtain rfl : n2 = n2' := s2.1.symm.trans s2'.1
  have L2 := Lib.hid s2.1
  obtain rfl : n3 = n3' := s3.1.symm.trans s3'.1
  have L3 := Lib.hid s3.1
  have hn0 := hn
  unfold szChan at hn0
  rw [L1.out] at hn0
  rw [L2.out] at hn0
  rw [L3.out] at hn0
  have hb0 : Below w.heap.size w ((w.alloc (.cells #[.int .i64 x.fCap, .slice A1 n1 c1, .slice A2 n2 c2, .slice A3 n3 c3, .bool x.fClosed] 71)).alloc (.cells #[.int .i64 x.fCap, .slice A1' n1 c1', .slice A2' n2 c2', .slice A3' n3 c3', .bool x.fClosed] 71)) := ((Below.refl _ _).alloc (Nat.le_refl _) _).alloc (by simp) _
  go_enter Try.func37, Try.ntmps37
  go_wp2_with fail
  (try (go_quiet (fail)))
  go_wp2_with fail
  refine (eqIntS_same (s1.below hb0 hhi) (s1'.below hb0 hhi')  (by omega)).mono ?_
  rintro e w1 ⟨rfl, hb1⟩
  have z1 := hb1.size
  obtain ⟨hcl1, hfz1⟩ := bcell hb1
  have hB1 : Below w.heap.size w w1 := hb0.trans (hb1.mono (by simp; omega))
  simp only [World.size_alloc] at z1
  have hl1a : w.heap.size < w1.heap.size := by omega
  have hl1b : w.heap.size + 1 < w1.heap.size := by omega
  go_wp2_with fail
  refine (eqWaiterS_same (s2.below hB1 hhi) (s2'.below hB1 hhi') (by have := hB1.size; omega) (by have := hB1.size; omega) (by omega)).mono ?_
  rintro e w2 ⟨rfl, hb2⟩
  have z2 := hb2.size
  obtain ⟨hcl2, hfz2⟩ := bcell hb2
  have hB2 : Below w.heap.size w w2 := hB1.trans (hb2.mono (by omega))
  have hl2a : w.heap.size < w2.heap.size := by omega
  have hl2b : w.heap.size + 1 < w2.heap.size := by omega
  go_wp2_with fail
  refine (eqWaiterS_same (s3.below hB2 hhi) (s3'.below hB2 hhi') (by have := hB2.size; omega) (by have := hB2.size; omega) (by omega)).mono ?_
  rintro e w3 ⟨rfl, hb3⟩
  have z3 := hb3.size
  obtain ⟨hcl3, hfz3⟩ := bcell hb3
  have hB3 : Below w.heap.size w w3 := hB2.trans (hb3.mono (by omega))
  have hl3a : w.heap.size < w3.heap.size := by omega
  have hl3b : w.heap.size + 1 < w3.heap.size := by omega
  go_wp2_with fail
  (try (go_quiet (fail)))
  go_wp2_with fail
  go_ret
  exact ⟨rfl, by first | exact hB3 | exact below_drawn hB3 _⟩

set_option maxRecDepth 100000 in
set_option maxHeartbeats 1000000 in
theorem eqChanS_same {A A' : Option Addr} {n c c' hi hi' : Nat} {xs : List DChan} {w : World} (h : SeenR layChan w hi A n xs) (h' : SeenR layChan w hi' A' n xs) (hh : hi ≤ w.heap.size) (hh' : hi' ≤ w.heap.size) (hn : n ≤ 1048576) (hs : (xs.map szChan).sum ≤ 1048576) :
    Calls Try.prog 25 #[.slice A n c, .slice A' n c'] w (SaysTrue w) := by
  go_enter Try.func25, Try.ntmps25
  go_wp2
  go_loopw [5] (fun i wr => ∃ k : Nat, k ≤ n ∧ i = .int .i64 k ∧ Below w.heap.size w wr) (fun i _ => n - (intOf i).toNat)
  case atStart => exact ⟨0, Nat.zero_le _, rfl, Below.refl _ _⟩
  case round =>
    obtain ⟨k, hk, rfl, hb⟩ := hrel
    have z := hb.size
    by_cases hlt : k < n
    · obtain ⟨hx, g, o, vs, rfl, hg, hsee, hc⟩ := (h.below hb hh).at_ hlt
      obtain ⟨hx', g', o', vs', rfl, hg', hsee', hc'⟩ := (h'.below hb hh').at_ hlt
      have hsz : szChan xs[k] ≤ 1048576 := Nat.le_trans (sum_mem_le szChan (List.getElem_mem hx)) hs
      generalize xs[k] = x at *
      have HE := Lib.hid (fun (W : World) (hW : Below wr.heap.size wr W) => eqChan_same (layChan.keep hsee fun k hk => hW.block k (by omega)) (layChan.keep hsee' fun k hk => hW.block k (by omega)) (by have := hW.size; omega) (by have := hW.size; omega) hsz)
      obtain ⟨A1, n1, c1, A2, n2, c2, A3, n3, c3, rfl, hw0, ⟨hc1, hm1, s1⟩, ⟨hc2, hm2, s2⟩, ⟨hc3, hm3, s3⟩⟩ := seeChan hsee
      obtain ⟨A1', n1', c1', A2', n2', c2', A3', n3', c3', rfl, hw0', ⟨hc1', hm1', s1'⟩, ⟨hc2', hm2', s2'⟩, ⟨hc3', hm3', s3'⟩⟩ := seeChan hsee'
      have cc0 := hc 0 _ rfl
      have dd0 := hc' 0 _ rfl
      have cc1 := hc 1 _ rfl
      have dd1 := hc' 1 _ rfl
      have cc2 := hc 2 _ rfl
      have dd2 := hc' 2 _ rfl
      have cc3 := hc 3 _ rfl
      have dd3 := hc' 3 _ rfl
      have cc4 := hc 4 _ rfl
      have dd4 := hc' 4 _ rfl
      simp only [show layChan.size = 5 from rfl, ← Nat.add_assoc, Nat.add_zero, Nat.mul_one] at cc0 cc1 cc2 cc3 cc4 dd0 dd1 dd2 dd3 dd4
      clear hc hc' hsee hsee' s1 s1' s2 s2' s3 s3'
      have hi0 : (0 : Int) ≤ (k : Int) := by omega
      have hi1 : (k : Int) < (n : Int) := by omega
      have hb0 : Below wr.heap.size wr wr.drew := (Below.refl _ _).drew
      go_wp2_with fail
      go_region_with (go_at_call 37; refine (HE.out _ hb0).mono ?_; rintro e w1 ⟨rfl, hb1⟩)
      all_goals
        have hbb : Below w.heap.size w w1 := hb.drew.trans (hb1.mono z)
        clear hb1 HE cc0 cc1 cc2 cc3 cc4 dd0 dd1 dd2 dd3 dd4
        go_wp2_with fail
        go_roundw
        case rel => exact ⟨k + 1, by omega, by go_num, hbb⟩
        case measure => simp [intOf]; omega
    · go_wp2
      go_ret
      exact ⟨rfl, hb⟩

set_option maxRecDepth 100000 in
set_option maxHeartbeats 2000000 in
theorem toChan_any {w : World} {hi : Nat} {x : DChan} {vs : List Value} (h : layChan.see w hi x vs) (hhi : hi ≤ w.heap.size) (hn : szChan x ≤ 1048576) :
    Calls Try.prog 34 #[.agg vs.toArray] w (MadeL layChan w x) := by
  obtain ⟨A1, n1, c1, A2, n2, c2, A3, n3, c3, rfl, hw0, ⟨hc1, hm1, s1⟩, ⟨hc2, hm2, s2⟩, ⟨hc3, hm3, s3⟩⟩ := seeChan h
  have L1 := Lib.hid s1.1
  have L2 := Lib.hid s2.1
  have L3 := Lib.hid s3.1
  have hn0 := hn
  unfold szChan at hn0
  rw [L1.out] at hn0
  rw [L2.out] at hn0
  rw [L3.out] at hn0
  have hb0 : Below w.heap.size w (((w.alloc (.cells #[.int .i64 x.fCap, .slice A1 n1 c1, .slice A2 n2 c2, .slice A3 n3 c3, .bool x.fClosed] 61)).alloc (.cells #[.int .i64 0, .slice none 0 0, .slice none 0 0, .slice none 0 0, .bool false] 71)).alloc (.cells #[.int .i64 0, .slice none 0 0, .slice none 0 0, .slice none 0 0, .bool false] 71)) := by go_grown
  go_enter Try.func34, Try.ntmps34
  go_wp2_with fail
  refine (toIntS_any (s1.below (B := w.heap.size) ?_ hhi) ?_ (by omega)).mono ?_
  · go_grown
  · simp; omega
  rintro e w1 ⟨B1, e1, rfl, own1, hb1⟩
  have z1 := hb1.size
  simp only [World.size_alloc] at z1 own1
  have hB1 : Below w.heap.size w w1 := Below.trans (by go_grown) (hb1.mono (by simp; omega))
  obtain ⟨hcl1, hfz1⟩ := bcell hb1
  have hl1a : w.heap.size < w1.heap.size := by omega
  have hl1b : w.heap.size + 1 < w1.heap.size := by omega
  have hl1c : w.heap.size + 1 + 1 < w1.heap.size := by omega
  go_wp2_with fail
  refine (toWaiterS_any (s2.below (B := w.heap.size) ?_ hhi) ?_ (by omega)).mono ?_
  · repeat (refine Below.setCell ?_ (by dsimp only; omega) _)
    exact hB1
  · simp; omega
  rintro e w2 ⟨B2, e2, rfl, own2, hb2⟩
  have z2 := hb2.size
  simp only [World.size_setCell] at z2 own2
  have ht2 : Turned (w.heap.size + 1) (w.heap.size + 3) w1 w2 := by
    refine Turned.trans ?_ (Turned.of_below hb2 _ _)
    repeat (refine Turned.setCell ?_ (by simp) (by simp) _)
    exact Turned.refl _ _ _
  have hB2 : Below w.heap.size w w2 := hB1.trans (ht2.below (by omega) (by omega))
  replace own1 := own1.turned ht2 (fun g hg => .inl (by omega))
  obtain ⟨hcl2, hfz2⟩ := bcell hb2
  have hl2a : w.heap.size < w2.heap.size := by omega
  have hl2b : w.heap.size + 1 < w2.heap.size := by omega
  have hl2c : w.heap.size + 1 + 1 < w2.heap.size := by omega
  go_wp2_with fail
  refine (toWaiterS_any (s3.below (B := w.heap.size) ?_ hhi) ?_ (by omega)).mono ?_
  · repeat (refine Below.setCell ?_ (by dsimp only; omega) _)
    exact hB2
  · simp; omega
  rintro e w3 ⟨B3, e3, rfl, own3, hb3⟩
  have z3 := hb3.size
  simp only [World.size_setCell] at z3 own3
  have ht3 : Turned (w.heap.size + 1) (w.heap.size + 3) w2 w3 := by
    refine Turned.trans ?_ (Turned.of_below hb3 _ _)
    repeat (refine Turned.setCell ?_ (by simp) (by simp) _)
    exact Turned.refl _ _ _
  have hB3 : Below w.heap.size w w3 := hB2.trans (ht3.below (by omega) (by omega))
  replace own1 := own1.turned ht3 (fun g hg => .inl (by omega))
  replace own2 := own2.turned ht3 (fun g hg => .inl (by omega))
  obtain ⟨hcl3, hfz3⟩ := bcell hb3
  have hl3a : w.heap.size < w3.heap.size := by omega
  have hl3b : w.heap.size + 1 < w3.heap.size := by omega
  have hl3c : w.heap.size + 1 + 1 < w3.heap.size := by omega
  go_wp2_with fail
  refine bodyPost_ret (v := .agg #[.int .i64 x.fCap, .slice B1 n1 e1, .slice B2 n2 e2, .slice B3 n3 e3, .bool x.fClosed]) (by simp [results, Try.results34, go_sem, hcl1, hl1a, hl1b, hl1c, hcl2, hl2a, hl2b, hl2c, hcl3, hl3a, hl3b, hl3c]) rfl ?_
  refine ⟨_, rfl, ?_, ?_⟩
  · refine ownChan (F := _) hw0 (TailR.of (OwnR.turned own1 (l := w.heap.size + 1) (r := w.heap.size + 3) ?t1 (fun g hg => .inl (by omega)))) (TailR.of (OwnR.turned own2 (l := w.heap.size + 1) (r := w.heap.size + 3) ?t2 (fun g hg => .inl (by omega)))) (TailR.of (OwnR.turned own3 (l := w.heap.size + 1) (r := w.heap.size + 3) ?t3 (fun g hg => .inl (by omega))))  ?k1 ?k2 ?k3 ?d12 ?d13 ?d23
    case t1 =>
      repeat (refine Turned.setCell ?_ (by simp) (by simp) _)
      exact Turned.refl _ _ _
    case t2 =>
      repeat (refine Turned.setCell ?_ (by simp) (by simp) _)
      exact Turned.refl _ _ _
    case t3 =>
      repeat (refine Turned.setCell ?_ (by simp) (by simp) _)
      exact Turned.refl _ _ _
    case k1 => intro g hg; simp only [World.size_setCell]; omega
    case k2 => intro g hg; simp only [World.size_setCell]; omega
    case k3 => intro g hg; simp only [World.size_setCell]; omega
    case d12 => intro g hg hg'; omega
    case d13 => intro g hg hg'; omega
    case d23 => intro g hg hg'; omega
  · repeat (refine Below.setCell ?_ (by dsimp only; omega) _)
    exact hB3

theorem infoChan : (Try.prog.info? 71).map (fun i => (i.zero, i.size, i.bytes)) = some (some (.agg #[.int .i64 0, .slice none 0 0, .slice none 0 0, .slice none 0 0, .bool false]), 5, 88) := by kernel_rfl

set_option maxRecDepth 100000 in
set_option maxHeartbeats 1000000 in
theorem toChanS_any {w : World} {A : Option Addr} {n c hi : Nat} {xs : List DChan} (h : SeenR layChan w hi A n xs) (hhi : hi ≤ w.heap.size) (hn : n ≤ 1048576) (hs : (xs.map szChan).sum ≤ 1048576) :
    Calls Try.prog 21 #[.slice A n c] w (MadeR layChan 71 w n xs) := by
  obtain ⟨i0, hi0, hz0, hz1, hz2⟩ := info_parts infoChan
  have hmk := fun W : World => run_make (P := Try.prog) W 31 71 i0 _ Try.underlying31 hi0 hz0 .i64 .i64 n n (by omega) (by omega) (by rw [hz2]; omega) (by omega)
  simp only [hz1, Int.toNat_natCast] at hmk
  have HL := Lib.hid h.1
  clear hi0 hz0 hz1 hz2
  go_enter Try.func21, Try.ntmps21
  go_wp2
  clear hmk
  go_loopw [4] (fun i wr => ∃ k : Nat, k ≤ n ∧ i = .int .i64 k ∧ Part layChan 71 wr w.heap.size n xs k wr.heap.size ∧ Below w.heap.size w wr) (fun i _ => n - (intOf i).toNat)
  case atStart =>
    refine ⟨0, Nat.zero_le _, rfl, ?_, (Below.refl _ _).alloc (Nat.le_refl _) _⟩
    have hm := Own.made (size := 5) (e := 71) w (madeCells #[.int .i64 0, .slice none 0 0, .slice none 0 0, .slice none 0 0, .bool false] (n * 5)) n n (by simp only [maxLen]; omega) (by simp [size_madeCells]) (Nat.le_refl _)
    exact Part.start HL.out hm (by simp)
  case round =>
    obtain ⟨k, hk, rfl, hpart, hb⟩ := hrel
    have z := hb.size
    by_cases hlt : k < n
    · obtain ⟨hx, g, o, vs, rfl, hg, hsee, hcell⟩ := (h.below hb hhi).at_ hlt
      have hsz : szChan xs[k] ≤ 1048576 := Nat.le_trans (sum_mem_le szChan (List.getElem_mem hx)) hs
      have hdk := Lib.hid (List.getElem?_eq_getElem hx)
      generalize xs[k] = x at *
      have HE := Lib.hid (fun (W : World) (hW : Below wr.heap.size wr W) => toChan_any (w := W) (layChan.keep hsee fun k hk => hW.block k (by omega)) (by have := hW.size; omega) hsz)
      obtain ⟨A1, n1, c1, A2, n2, c2, A3, n3, c3, rfl, hw0, ⟨hc1, hm1, s1⟩, ⟨hc2, hm2, s2⟩, ⟨hc3, hm3, s3⟩⟩ := seeChan hsee
      have cc0 := hcell 0 _ rfl
      have cc1 := hcell 1 _ rfl
      have cc2 := hcell 2 _ rfl
      have cc3 := hcell 3 _ rfl
      have cc4 := hcell 4 _ rfl
      simp only [show layChan.size = 5 from rfl, ← Nat.add_assoc, Nat.add_zero, Nat.mul_one] at cc0 cc1 cc2 cc3 cc4
      clear hcell
      go_wp2_with fail
      refine (HE.out _ (Below.refl _ _)).mono ?_
      rintro e w1 ⟨us, rfl, own1, hb1⟩
      have hus := layChan.len (layChan.seen own1 (hi := w1.heap.size) fun g hg => hg.2)
      have hsu := layChan.seen own1 (hi := w1.heap.size) fun g hg => hg.2
      obtain ⟨A1u, n1u, c1u, A2u, n2u, c2u, A3u, n3u, c3u, rfl, hw0u, ⟨hc1u, hm1u, s1u⟩, ⟨hc2u, hm2u, s2u⟩, ⟨hc3u, hm3u, s3u⟩⟩ := seeChan hsu
      have hp1 := hpart.below hb1
      obtain ⟨⟨v0, ho0⟩, hf0⟩ := hp1.room hlt 0 (by decide)
      obtain ⟨⟨v1, ho1⟩, hf1⟩ := hp1.room hlt 1 (by decide)
      obtain ⟨⟨v2, ho2⟩, hf2⟩ := hp1.room hlt 2 (by decide)
      obtain ⟨⟨v3, ho3⟩, hf3⟩ := hp1.room hlt 3 (by decide)
      obtain ⟨⟨v4, ho4⟩, hf4⟩ := hp1.room hlt 4 (by decide)
      have hp2 := hp1.step hdk.out hus own1 (fun g hg => hg)
      have hb2 : Below w.heap.size w w1 := hb.trans (hb1.mono z)
      simp only [show layChan.size = 5 from rfl, ← Nat.add_assoc, Nat.add_zero, Nat.mul_one] at ho0 hf0 ho1 hf1 ho2 hf2 ho3 hf3 ho4 hf4 hp2
      clear hpart hp1 hb1 HE own1 hus cc0 cc1 cc2 cc3 cc4 s1 s1u s2 s2u s3 s3u
      go_wp2_with fail
      go_roundw
      case rel => exact ⟨k + 1, by omega, by go_num, by simpa [putCells] using hp2, by go_grown⟩
      case measure => simp [intOf]; omega
    · go_wp2_with fail
      go_ret
      obtain rfl : k = n := by omega
      exact ⟨_, _, rfl, hpart.done, hb⟩
end Go.Proofs.Ytgfkadhojlddpaa
