
/- DWaiter, DChan, DItem, DGor, DMutex, DEng, merged for claims. -/

import Derived.Test.YtghkdkagnibkgaaGreatDoorGBase

namespace Go.Proofs.YtghkdkagnibkgaaGreatDoor
set_option linter.unusedSimpArgs false
set_option linter.unusedVariables false
open Go.RowKit

structure DWaiter where
  fG : Int
  fCase : Int
  fVal : Int
/-- How it lies: in its cells alone. -/
def layWaiter : Lay DWaiter := Lay.flat 3 (fun x => [.int .i64 x.fG, .int .i64 x.fCase, .int .i64 x.fVal]) (fun x => (Lit.int .i64 x.fG).wf = true ∧ (Lit.int .i64 x.fCase).wf = true ∧ (Lit.int .i64 x.fVal).wf = true) (fun _ => rfl)
theorem opensWaiter : Opens Tryz.prog 184 layWaiter := by
  refine Opens.to (opens_struct Tryz.underlying184 (by kernel_rfl) (.cons rfl (opens_int Tryz.underlying3 (by kernel_rfl)) (.cons rfl (opens_int Tryz.underlying3 (by kernel_rfl)) (.one rfl (opens_int Tryz.underlying3 (by kernel_rfl)))))) rfl fun w hi a vs h => ?_
  obtain ⟨a0, a1, a2⟩ := a
  obtain ⟨_, _, rfl, s0, ⟨_, _, rfl, s1, s2⟩⟩ := h
  obtain ⟨rfl, h0⟩ := s0
  obtain ⟨rfl, h1⟩ := s1
  obtain ⟨rfl, h2⟩ := s2
  exact ⟨⟨a0, a1, a2⟩, rfl, h0, h1, h2⟩

theorem szWaiterS_any {w : World} {A : Option Addr} {n c l : Nat} (hl : l ≤ 1048576) (hn : n ≤ maxLen) :
    Calls Tryz.prog 86 #[.slice A n c, .int .i64 (l : Int)] w (SzPost w l n) := by
  unfold maxLen at hn
  by_cases h : n ≤ l
  · have hs : Hid ((l : Int) - (n : Int) = ((l - n : Nat) : Int)) := Lib.hid (by omega)
    go_enter Tryz.func86, Tryz.ntmps86
    go_wp2
    go_ret
    exact ⟨Below.refl _ _, .inl ⟨h, by rw [hs.out]; rfl⟩⟩
  · have h' : l < n := by omega
    go_enter Tryz.func86, Tryz.ntmps86
    go_wp2
    go_ret
    exact ⟨Below.refl _ _, .inr ⟨h', rfl⟩⟩

set_option maxRecDepth 100000 in
set_option maxHeartbeats 1000000 in
theorem eqWaiter_same {w : World} (x : DWaiter) : Calls Tryz.prog 143 #[.agg #[.int .i64 x.fG, .int .i64 x.fCase, .int .i64 x.fVal], .agg #[.int .i64 x.fG, .int .i64 x.fCase, .int .i64 x.fVal]] w (SaysTrue w) := by
  have hb0 : Below w.heap.size w ((w.alloc (.cells #[.int .i64 x.fG, .int .i64 x.fCase, .int .i64 x.fVal] 166)).alloc (.cells #[.int .i64 x.fG, .int .i64 x.fCase, .int .i64 x.fVal] 166)) := ((Below.refl _ _).alloc (Nat.le_refl _) _).alloc (by simp) _
  go_enter Tryz.func143, Tryz.ntmps143
  go_wp2
  repeat (go_quiet (fail); go_wp2)
  go_ret
  exact ⟨rfl, by first | exact hb0 | exact below_drawn hb0 _ | go_grown⟩

set_option maxRecDepth 100000 in
set_option maxHeartbeats 1000000 in
theorem eqWaiterS_same {A A' : Option Addr} {n c c' hi hi' : Nat} {xs : List DWaiter} {w : World} (h : SeenR layWaiter w hi A n xs) (h' : SeenR layWaiter w hi' A' n xs) (hh : hi ≤ w.heap.size) (hh' : hi' ≤ w.heap.size) (hn : n ≤ 1048576) :
    Calls Tryz.prog 109 #[.slice A n c, .slice A' n c'] w (SaysTrue w) := by
  go_enter Tryz.func109, Tryz.ntmps109
  go_wp2
  go_loopw [5] (fun i wr => ∃ k : Nat, k ≤ n ∧ i = .int .i64 k ∧ Below w.heap.size w wr) (fun i _ => n - (intOf i).toNat)
  case atStart => exact ⟨0, Nat.zero_le _, rfl, Below.refl _ _⟩
  case round =>
    obtain ⟨k, hk, rfl, hb⟩ := hrel
    have z := hb.size
    by_cases hlt : k < n
    · obtain ⟨hx, g, o, vs, rfl, hg, ⟨rfl, hw⟩, hc⟩ := (h.below hb hh).at_ hlt
      obtain ⟨hx', g', o', vs', rfl, hg', ⟨rfl, hw'⟩, hc'⟩ := (h'.below hb hh').at_ hlt
      have cc0 := hc 0 _ rfl
      have dd0 := hc' 0 _ rfl
      have cc1 := hc 1 _ rfl
      have dd1 := hc' 1 _ rfl
      have cc2 := hc 2 _ rfl
      have dd2 := hc' 2 _ rfl
      simp only [show layWaiter.size = 3 from rfl, ← Nat.add_assoc, Nat.add_zero, Nat.mul_one] at cc0 cc1 cc2 dd0 dd1 dd2
      clear hc hc' hw hw'
      generalize xs[k] = x at *
      have HE := Lib.hid (fun W : World => eqWaiter_same (w := W) x)
      have hi0 : (0 : Int) ≤ (k : Int) := by omega
      have hi1 : (k : Int) < (n : Int) := by omega
      go_wp2_with fail
      go_region_with (go_at_call 143; refine (HE.out _).mono ?_; rintro e w1 ⟨rfl, hb1⟩)
      all_goals
        have hbb : Below w.heap.size w w1 := hb.drew.trans (hb1.mono z)
        clear hb1 HE cc0 cc1 cc2 dd0 dd1 dd2
        go_wp2_with fail
        go_roundw
        case rel => exact ⟨k + 1, by omega, by go_num, hbb⟩
        case measure => simp [intOf]; omega
    · go_wp2
      go_ret
      exact ⟨rfl, hb⟩

set_option maxRecDepth 100000 in
set_option maxHeartbeats 1000000 in
theorem toWaiter_any {w : World} {hi : Nat} {x : DWaiter} {vs : List Value} (h : layWaiter.see w hi x vs) :
    Calls Tryz.prog 125 #[.agg vs.toArray] w (MadeL layWaiter w x) := by
  obtain ⟨rfl, hw⟩ := h
  have HW := Lib.hid hw
  clear hw
  show Calls Tryz.prog 125 #[.agg #[.int .i64 x.fG, .int .i64 x.fCase, .int .i64 x.fVal]] w (MadeL layWaiter w x)
  go_enter Tryz.func125, Tryz.ntmps125
  go_wp2
  refine bodyPost_ret (v := .agg #[.int .i64 x.fG, .int .i64 x.fCase, .int .i64 x.fVal]) (by simp [results, Tryz.results125, go_sem]) rfl ?_
  exact ⟨_, rfl, ⟨rfl, HW.out⟩, by go_grown⟩

theorem infoWaiter : (Tryz.prog.info? 166).map (fun i => (i.zero, i.size, i.bytes)) = some (some (.agg #[.int .i64 0, .int .i64 0, .int .i64 0]), 3, 24) := by kernel_rfl

set_option maxRecDepth 100000 in
set_option maxHeartbeats 1000000 in
theorem toWaiterS_any {w : World} {A : Option Addr} {n c hi : Nat} {xs : List DWaiter} (h : SeenR layWaiter w hi A n xs) (hhi : hi ≤ w.heap.size) (hn : n ≤ 1048576) :
    Calls Tryz.prog 97 #[.slice A n c] w (MadeR layWaiter 166 w n xs) := by
  obtain ⟨i0, hi0, hz0, hz1, hz2⟩ := info_parts infoWaiter
  have hmk := fun W : World => run_make (P := Tryz.prog) W 122 166 i0 _ Tryz.underlying122 hi0 hz0 .i64 .i64 n n (by omega) (by omega) (by rw [hz2]; omega) (by omega)
  simp only [hz1, Int.toNat_natCast] at hmk
  have HL := Lib.hid h.1
  clear hi0 hz0 hz1 hz2
  go_enter Tryz.func97, Tryz.ntmps97
  go_wp2
  clear hmk
  go_loopw [4] (fun i wr => ∃ k : Nat, k ≤ n ∧ i = .int .i64 k ∧ Part layWaiter 166 wr w.heap.size n xs k wr.heap.size ∧ Below w.heap.size w wr) (fun i _ => n - (intOf i).toNat)
  case atStart =>
    refine ⟨0, Nat.zero_le _, rfl, ?_, (Below.refl _ _).alloc (Nat.le_refl _) _⟩
    have hm := Own.made (size := 3) (e := 166) w (madeCells #[.int .i64 0, .int .i64 0, .int .i64 0] (n * 3)) n n (by simp only [maxLen]; omega) (by simp [size_madeCells]) (Nat.le_refl _)
    exact Part.start HL.out hm (by simp)
  case round =>
    obtain ⟨k, hk, rfl, hpart, hb⟩ := hrel
    have z := hb.size
    by_cases hlt : k < n
    · obtain ⟨hx, g, o, vs, rfl, hg, hsee, hcell⟩ := (h.below hb hhi).at_ hlt
      have hdk := Lib.hid (List.getElem?_eq_getElem hx)
      generalize xs[k] = x at *
      have HE := Lib.hid (fun (W : World) (hW : Below wr.heap.size wr W) => toWaiter_any (w := W) (layWaiter.keep hsee fun k hk => hW.block k (by omega)))
      obtain ⟨rfl, hw⟩ := hsee
      have cc0 := hcell 0 _ rfl
      have cc1 := hcell 1 _ rfl
      have cc2 := hcell 2 _ rfl
      simp only [show layWaiter.size = 3 from rfl, ← Nat.add_assoc, Nat.add_zero, Nat.mul_one] at cc0 cc1 cc2
      clear hcell
      go_wp2_with fail
      refine (HE.out _ (Below.refl _ _)).mono ?_
      rintro e w1 ⟨us, rfl, own1, hb1⟩
      have hus := layWaiter.len (layWaiter.seen own1 (hi := w1.heap.size) fun g hg => hg.2)
      have hsu := layWaiter.seen own1 (hi := w1.heap.size) fun g hg => hg.2
      obtain ⟨rfl, hwu⟩ := hsu
      have hp1 := hpart.below hb1
      obtain ⟨⟨v0, ho0⟩, hf0⟩ := hp1.room hlt 0 (by decide)
      obtain ⟨⟨v1, ho1⟩, hf1⟩ := hp1.room hlt 1 (by decide)
      obtain ⟨⟨v2, ho2⟩, hf2⟩ := hp1.room hlt 2 (by decide)
      have hp2 := hp1.step hdk.out hus own1 (fun g hg => hg)
      have hb2 : Below w.heap.size w w1 := hb.trans (hb1.mono z)
      simp only [show layWaiter.size = 3 from rfl, ← Nat.add_assoc, Nat.add_zero, Nat.mul_one] at ho0 hf0 ho1 hf1 ho2 hf2 hp2
      clear hpart hp1 hb1 HE own1 hus cc0 cc1 cc2
      go_wp2_with fail
      go_roundw
      case rel => exact ⟨k + 1, by omega, by go_num, by simpa [putCells] using hp2, by go_grown⟩
      case measure => simp [intOf]; omega
    · go_wp2_with fail
      go_ret
      obtain rfl : k = n := by omega
      exact ⟨_, _, rfl, hpart.done, hb⟩
end Go.Proofs.YtghkdkagnibkgaaGreatDoor

namespace Go.Proofs.YtghkdkagnibkgaaGreatDoor
set_option linter.unusedSimpArgs false
set_option linter.unusedVariables false
open Go.RowKit

structure DChan where
  fCap : Int
  fBuf : List Int
  fSends : List DWaiter
  fRecvs : List DWaiter
  fClosed : Bool
/-- How it lies: its slices in blocks of their own. -/
def layChan : Lay DChan := (Lay.int.pair ((Lay.int.tail 3).pair ((layWaiter.tail 166).pair ((layWaiter.tail 166).pair Lay.bool)))).via fun x => (x.fCap, (x.fBuf, (x.fSends, (x.fRecvs, x.fClosed))))
theorem opensChan : Opens Tryz.prog 112 layChan :=
  opens_via _ (fun a => ⟨⟨a.1, a.2.1, a.2.2.1, a.2.2.2.1, a.2.2.2.2⟩, rfl⟩) (opens_struct Tryz.underlying112 (by kernel_rfl) (.cons rfl (opens_int Tryz.underlying3 (by kernel_rfl)) (.cons rfl (opens_tail Tryz.underlying22 (by kernel_rfl) (by decide) (opens_int Tryz.underlying3 (by kernel_rfl))) (.cons rfl (opens_tail Tryz.underlying110 (by kernel_rfl) (by decide) opensWaiter) (.cons rfl (opens_tail Tryz.underlying110 (by kernel_rfl) (by decide) opensWaiter) (.one rfl (opens_bool Tryz.underlying4 (by kernel_rfl))))))))
theorem seeChan {w : World} {hi : Nat} {x : DChan} {vs : List Value} (h : layChan.see w hi x vs) : ∃ A1 n1 c1 A2 n2 c2 A3 n3 c3, vs = [.int .i64 x.fCap, .slice A1 n1 c1, .slice A2 n2 c2, .slice A3 n3 c3, .bool x.fClosed] ∧ (Lit.int .i64 x.fCap).wf = true ∧ (n1 ≤ c1 ∧ c1 ≤ maxLen ∧ SeenR Lay.int w hi A1 n1 x.fBuf) ∧ (n2 ≤ c2 ∧ c2 ≤ maxLen ∧ SeenR layWaiter w hi A2 n2 x.fSends) ∧ (n3 ≤ c3 ∧ c3 ≤ maxLen ∧ SeenR layWaiter w hi A3 n3 x.fRecvs) := by
  obtain ⟨_, _, rfl, s0, ⟨_, _, rfl, s1, ⟨_, _, rfl, s2, ⟨_, _, rfl, s3, s4⟩⟩⟩⟩ := h
  obtain ⟨rfl, h0⟩ := s0
  obtain ⟨A1, n1, c1, rfl, h1⟩ := s1
  obtain ⟨A2, n2, c2, rfl, h2⟩ := s2
  obtain ⟨A3, n3, c3, rfl, h3⟩ := s3
  obtain ⟨rfl, h4⟩ := s4
  exact ⟨A1, n1, c1, A2, n2, c2, A3, n3, c3, rfl, h0, h1, h2, h3⟩
theorem ownChan {w : World} {F : Nat → Prop} {x : DChan} (h0 : (Lit.int .i64 x.fCap).wf = true) {A1 : Option Addr} {n1 c1 : Nat} {F1 : Nat → Prop} (h1 : TailR Lay.int 3 w F1 A1 n1 c1 x.fBuf) {A2 : Option Addr} {n2 c2 : Nat} {F2 : Nat → Prop} (h2 : TailR layWaiter 166 w F2 A2 n2 c2 x.fSends) {A3 : Option Addr} {n3 c3 : Nat} {F3 : Nat → Prop} (h3 : TailR layWaiter 166 w F3 A3 n3 c3 x.fRecvs) (k1 : ∀ g, F1 g → F g) (k2 : ∀ g, F2 g → F g) (k3 : ∀ g, F3 g → F g) (d12 : ∀ g, F1 g → ¬ F2 g) (d13 : ∀ g, F1 g → ¬ F3 g) (d23 : ∀ g, F2 g → ¬ F3 g) : layChan.own w F x [.int .i64 x.fCap, .slice A1 n1 c1, .slice A2 n2 c2, .slice A3 n3 c3, .bool x.fClosed] := by
  exact ⟨_, _, (fun _ => False), (fun g => F1 g ∨ F2 g ∨ F3 g), rfl, ⟨rfl, h0⟩, ⟨_, _, F1, (fun g => F2 g ∨ F3 g), rfl, ⟨A1, n1, c1, rfl, h1⟩, ⟨_, _, F2, (fun g => F3 g), rfl, ⟨A2, n2, c2, rfl, h2⟩, ⟨_, _, F3, (fun _ => False), rfl, ⟨A3, n3, c3, rfl, h3⟩, ⟨rfl, trivial⟩, (fun g h => h), (fun _ h => h.elim), (fun g h h2 => h2)⟩, (fun g h => Or.inl h), (fun g h => Or.inr h), (fun g h h2 => by first | exact d23 g h h2)⟩, (fun g h => Or.inl h), (fun g h => Or.inr h), (fun g h h2 => by rcases h2 with h2 | h2 <;> first | exact d12 g h h2 | exact d13 g h h2)⟩, (fun _ h => h.elim), (fun g h => by rcases h with h | h | h <;> first | exact k1 g h | exact k2 g h | exact k3 g h), (fun g h => h.elim)⟩

/-- How much it holds. -/
def szChan (x : DChan) : Nat := x.fBuf.length + x.fSends.length + x.fRecvs.length

set_option maxRecDepth 100000 in
set_option maxHeartbeats 1000000 in
theorem szChan_any {w : World} {hi l : Nat} {x : DChan} {vs : List Value} (h : layChan.see w hi x vs) (hhi : hi ≤ w.heap.size) (hl : l ≤ 1048576) :
    Calls Tryz.prog 56 #[.agg vs.toArray, .int .i64 (l : Int)] w (SzPost w l (szChan x)) := by
  obtain ⟨A1, n1, c1, A2, n2, c2, A3, n3, c3, rfl, hw0, ⟨hc1, hm1, s1⟩, ⟨hc2, hm2, s2⟩, ⟨hc3, hm3, s3⟩⟩ := seeChan h
  have hb0 : Below w.heap.size w (w.alloc (.cells #[.int .i64 x.fCap, .slice A1 n1 c1, .slice A2 n2 c2, .slice A3 n3 c3, .bool x.fClosed] 112)) := (Below.refl _ _).alloc (Nat.le_refl _) _
  have hz0 : w.heap.size + 1 ≤ (w.alloc (.cells #[.int .i64 x.fCap, .slice A1 n1 c1, .slice A2 n2 c2, .slice A3 n3 c3, .bool x.fClosed] 112)).heap.size := by simp
  go_enter Tryz.func56, Tryz.ntmps56
  have L1 := Lib.hid s1.1
  go_wp2_with fail
  refine (szIntS_any (l := l) (by omega) (Nat.le_trans hc1 hm1)).mono ?_
  rintro e w1 ⟨hb1, hcase⟩
  have z1 := hb1.size
  obtain ⟨hcl1, hfz1⟩ := bcell hb1
  simp only [World.size_alloc] at z1
  have hl1a : w.heap.size < w1.heap.size := by omega
  have hB1 : Below w.heap.size w w1 := hb0.trans (hb1.mono (by simp))
  rcases hcase with ⟨h10, rfl⟩ | ⟨h10, rfl⟩
  · skip
    have L2 := Lib.hid s2.1
    go_wp2_with fail
    refine (szWaiterS_any (l := l - n1) (by omega) (Nat.le_trans hc2 hm2)).mono ?_
    rintro e w2 ⟨hb2, hcase⟩
    have z2 := hb2.size
    obtain ⟨hcl2, hfz2⟩ := bcell hb2
    have hl2a : w.heap.size < w2.heap.size := by omega
    have hB2 : Below w.heap.size w w2 := hB1.trans (hb2.mono (by omega))
    rcases hcase with ⟨h11, rfl⟩ | ⟨h11, rfl⟩
    · skip
      have L3 := Lib.hid s3.1
      go_wp2_with fail
      refine (szWaiterS_any (l := l - n1 - n2) (by omega) (Nat.le_trans hc3 hm3)).mono ?_
      rintro e w3 ⟨hb3, hcase⟩
      have z3 := hb3.size
      obtain ⟨hcl3, hfz3⟩ := bcell hb3
      have hl3a : w.heap.size < w3.heap.size := by omega
      have hB3 : Below w.heap.size w w3 := hB2.trans (hb3.mono (by omega))
      rcases hcase with ⟨h12, rfl⟩ | ⟨h12, rfl⟩
      · go_wp2_with fail
        go_ret
        exact ⟨hB3, .inl ⟨by unfold szChan; rw [L1.out]; rw [L2.out]; rw [L3.out]; omega, by unfold szChan; rw [L1.out]; rw [L2.out]; rw [L3.out]; go_num⟩⟩
      · go_wp2_with fail
        go_ret
        exact ⟨hB3, .inr ⟨by unfold szChan; rw [L1.out]; rw [L2.out]; rw [L3.out]; omega, rfl⟩⟩
    · go_wp2_with fail
      go_ret
      exact ⟨hB2, .inr ⟨by unfold szChan; rw [L1.out]; rw [L2.out]; omega, rfl⟩⟩
  · go_wp2_with fail
    go_ret
    exact ⟨hB1, .inr ⟨by unfold szChan; rw [L1.out]; omega, rfl⟩⟩

set_option maxRecDepth 100000 in
set_option maxHeartbeats 1000000 in
theorem szChanS_any {w : World} {hi n c l : Nat} {A : Option Addr} {ds : List DChan} (h : SeenR layChan w hi A n ds) (hhi : hi ≤ w.heap.size) (hl : l ≤ 1048576) (hn : n ≤ maxLen) :
    Calls Tryz.prog 27 #[.slice A n c, .int .i64 (l : Int)] w (SzPost w l (n + (ds.map szChan).sum)) := by
  unfold maxLen at hn
  have HL := Lib.hid h.1
  by_cases h0 : n ≤ l
  · go_enter Tryz.func27, Tryz.ntmps27
    go_wp2_with fail
    go_loopw [1, 5] (fun q i wr => ∃ k : Nat, k ≤ n ∧ i = .int .i64 k ∧ n + ((ds.take k).map szChan).sum ≤ l ∧ q = .int .i64 ((l - (n + ((ds.take k).map szChan).sum) : Nat) : Int) ∧ Below w.heap.size w wr) (fun _ i _ => n - (intOf i).toNat)
    case atStart => exact ⟨0, Nat.zero_le _, rfl, by simpa using h0, by simp; go_num, Below.refl _ _⟩
    case round =>
      obtain ⟨k, hk, rfl, hle, rfl, hb⟩ := hrel
      have z := hb.size
      by_cases hlt : k < n
      · obtain ⟨hx, g, o, vs, rfl, hg, hsee, hcell⟩ := (h.below hb hhi).at_ hlt
        have hsee0 := hsee
        have htt := Lib.hid (sum_take_succ (f := szChan) (List.getElem?_eq_getElem hx))
        have htl := sum_take_le szChan ds (k + 1)
        rw [htt.out] at htl
        generalize ds[k] = d at *
        obtain ⟨A1, n1, c1, A2, n2, c2, A3, n3, c3, rfl, hw0, ⟨hc1, hm1, s1⟩, ⟨hc2, hm2, s2⟩, ⟨hc3, hm3, s3⟩⟩ := seeChan hsee
        have cc0 := hcell 0 _ rfl
        have cc1 := hcell 1 _ rfl
        have cc2 := hcell 2 _ rfl
        have cc3 := hcell 3 _ rfl
        have cc4 := hcell 4 _ rfl
        simp only [show layChan.size = 5 from rfl, ← Nat.add_assoc, Nat.add_zero, Nat.mul_one] at cc0 cc1 cc2 cc3 cc4
        clear hcell hsee s1 s2 s3
        generalize hT : ((ds.take k).map szChan).sum = S at *
        have HT := Lib.hid hT
        clear hT
        go_wp2_with fail
        refine (szChan_any (l := l - (n + S)) hsee0 (by omega) (by omega)).mono ?_
        rintro e w1 ⟨hb1, hcase⟩
        have hbb : Below w.heap.size w w1 := hb.trans (hb1.mono z)
        clear cc0 cc1 cc2 cc3 cc4 hb1 hsee0
        rcases hcase with ⟨h1, rfl⟩ | ⟨h1, rfl⟩
        · go_wp2_with fail
          go_roundw
          case rel => exact ⟨k + 1, by omega, by go_num, by rw [htt.out]; omega, by rw [htt.out]; go_num, hbb⟩
          case measure => simp [intOf]; omega
        · go_wp2_with fail
          go_ret
          exact ⟨hbb, .inr ⟨by omega, rfl⟩⟩
      · go_wp2_with fail
        go_ret
        obtain rfl : k = n := by omega
        have htk : ds.take k = ds := List.take_of_length_le (by rw [HL.out]; exact Nat.le_refl _)
        rw [htk] at hle ⊢
        exact ⟨hb, .inl ⟨hle, rfl⟩⟩
  · have h1 : l < n := by omega
    clear h
    go_enter Tryz.func27, Tryz.ntmps27
    go_wp2_with fail
    go_ret
    exact ⟨Below.refl _ _, .inr ⟨by omega, rfl⟩⟩

set_option maxRecDepth 100000 in
set_option maxHeartbeats 1000000 in
theorem eqChan_same {w : World} {hi hi' : Nat} {x : DChan} {vs vs' : List Value} (h : layChan.see w hi x vs) (h' : layChan.see w hi' x vs') (hhi : hi ≤ w.heap.size) (hhi' : hi' ≤ w.heap.size) (hn : szChan x ≤ 1048576) :
    Calls Tryz.prog 71 #[.agg vs.toArray, .agg vs'.toArray] w (SaysTrue w) := by
  obtain ⟨A1, n1, c1, A2, n2, c2, A3, n3, c3, rfl, hw0, ⟨hc1, hm1, s1⟩, ⟨hc2, hm2, s2⟩, ⟨hc3, hm3, s3⟩⟩ := seeChan h
  obtain ⟨A1', n1', c1', A2', n2', c2', A3', n3', c3', rfl, hw0', ⟨hc1', hm1', s1'⟩, ⟨hc2', hm2', s2'⟩, ⟨hc3', hm3', s3'⟩⟩ := seeChan h'
  obtain rfl : n1 = n1' := s1.1.symm.trans s1'.1
  have L1 := Lib.hid s1.1
  obtain rfl : n2 = n2' := s2.1.symm.trans s2'.1
  have L2 := Lib.hid s2.1
  obtain rfl : n3 = n3' := s3.1.symm.trans s3'.1
  have L3 := Lib.hid s3.1
  have hn0 := hn
  unfold szChan at hn0
  rw [L1.out] at hn0
  rw [L2.out] at hn0
  rw [L3.out] at hn0
  have hb0 : Below w.heap.size w ((w.alloc (.cells #[.int .i64 x.fCap, .slice A1 n1 c1, .slice A2 n2 c2, .slice A3 n3 c3, .bool x.fClosed] 124)).alloc (.cells #[.int .i64 x.fCap, .slice A1' n1 c1', .slice A2' n2 c2', .slice A3' n3 c3', .bool x.fClosed] 124)) := ((Below.refl _ _).alloc (Nat.le_refl _) _).alloc (by simp) _
  go_enter Tryz.func71, Tryz.ntmps71
  go_wp2_with fail
  (try (go_quiet (fail)))
  go_wp2_with fail
  refine (eqIntS_same (s1.below hb0 hhi) (s1'.below hb0 hhi')  (by omega)).mono ?_
  rintro e w1 ⟨rfl, hb1⟩
  have z1 := hb1.size
  obtain ⟨hcl1, hfz1⟩ := bcell hb1
  have hB1 : Below w.heap.size w w1 := hb0.trans (hb1.mono (by simp; omega))
  simp only [World.size_alloc] at z1
  have hl1a : w.heap.size < w1.heap.size := by omega
  have hl1b : w.heap.size + 1 < w1.heap.size := by omega
  go_wp2_with fail
  refine (eqWaiterS_same (s2.below hB1 hhi) (s2'.below hB1 hhi') (by have := hB1.size; omega) (by have := hB1.size; omega) (by omega)).mono ?_
  rintro e w2 ⟨rfl, hb2⟩
  have z2 := hb2.size
  obtain ⟨hcl2, hfz2⟩ := bcell hb2
  have hB2 : Below w.heap.size w w2 := hB1.trans (hb2.mono (by omega))
  have hl2a : w.heap.size < w2.heap.size := by omega
  have hl2b : w.heap.size + 1 < w2.heap.size := by omega
  go_wp2_with fail
  refine (eqWaiterS_same (s3.below hB2 hhi) (s3'.below hB2 hhi') (by have := hB2.size; omega) (by have := hB2.size; omega) (by omega)).mono ?_
  rintro e w3 ⟨rfl, hb3⟩
  have z3 := hb3.size
  obtain ⟨hcl3, hfz3⟩ := bcell hb3
  have hB3 : Below w.heap.size w w3 := hB2.trans (hb3.mono (by omega))
  have hl3a : w.heap.size < w3.heap.size := by omega
  have hl3b : w.heap.size + 1 < w3.heap.size := by omega
  go_wp2_with fail
  (try (go_quiet (fail)))
  go_wp2_with fail
  go_ret
  exact ⟨rfl, by first | exact hB3 | exact below_drawn hB3 _⟩

set_option maxRecDepth 100000 in
set_option maxHeartbeats 1000000 in
theorem eqChanS_same {A A' : Option Addr} {n c c' hi hi' : Nat} {xs : List DChan} {w : World} (h : SeenR layChan w hi A n xs) (h' : SeenR layChan w hi' A' n xs) (hh : hi ≤ w.heap.size) (hh' : hi' ≤ w.heap.size) (hn : n ≤ 1048576) (hs : (xs.map szChan).sum ≤ 1048576) :
    Calls Tryz.prog 44 #[.slice A n c, .slice A' n c'] w (SaysTrue w) := by
  go_enter Tryz.func44, Tryz.ntmps44
  go_wp2
  go_loopw [5] (fun i wr => ∃ k : Nat, k ≤ n ∧ i = .int .i64 k ∧ Below w.heap.size w wr) (fun i _ => n - (intOf i).toNat)
  case atStart => exact ⟨0, Nat.zero_le _, rfl, Below.refl _ _⟩
  case round =>
    obtain ⟨k, hk, rfl, hb⟩ := hrel
    have z := hb.size
    by_cases hlt : k < n
    · obtain ⟨hx, g, o, vs, rfl, hg, hsee, hc⟩ := (h.below hb hh).at_ hlt
      obtain ⟨hx', g', o', vs', rfl, hg', hsee', hc'⟩ := (h'.below hb hh').at_ hlt
      have hsz : szChan xs[k] ≤ 1048576 := Nat.le_trans (sum_mem_le szChan (List.getElem_mem hx)) hs
      generalize xs[k] = x at *
      have HE := Lib.hid (fun (W : World) (hW : Below wr.heap.size wr W) => eqChan_same (layChan.keep hsee fun k hk => hW.block k (by omega)) (layChan.keep hsee' fun k hk => hW.block k (by omega)) (by have := hW.size; omega) (by have := hW.size; omega) hsz)
      obtain ⟨A1, n1, c1, A2, n2, c2, A3, n3, c3, rfl, hw0, ⟨hc1, hm1, s1⟩, ⟨hc2, hm2, s2⟩, ⟨hc3, hm3, s3⟩⟩ := seeChan hsee
      obtain ⟨A1', n1', c1', A2', n2', c2', A3', n3', c3', rfl, hw0', ⟨hc1', hm1', s1'⟩, ⟨hc2', hm2', s2'⟩, ⟨hc3', hm3', s3'⟩⟩ := seeChan hsee'
      have cc0 := hc 0 _ rfl
      have dd0 := hc' 0 _ rfl
      have cc1 := hc 1 _ rfl
      have dd1 := hc' 1 _ rfl
      have cc2 := hc 2 _ rfl
      have dd2 := hc' 2 _ rfl
      have cc3 := hc 3 _ rfl
      have dd3 := hc' 3 _ rfl
      have cc4 := hc 4 _ rfl
      have dd4 := hc' 4 _ rfl
      simp only [show layChan.size = 5 from rfl, ← Nat.add_assoc, Nat.add_zero, Nat.mul_one] at cc0 cc1 cc2 cc3 cc4 dd0 dd1 dd2 dd3 dd4
      clear hc hc' hsee hsee' s1 s1' s2 s2' s3 s3'
      have hi0 : (0 : Int) ≤ (k : Int) := by omega
      have hi1 : (k : Int) < (n : Int) := by omega
      have hb0 : Below wr.heap.size wr wr.drew := (Below.refl _ _).drew
      go_wp2_with fail
      go_region_with (go_at_call 71; refine (HE.out _ hb0).mono ?_; rintro e w1 ⟨rfl, hb1⟩)
      all_goals
        have hbb : Below w.heap.size w w1 := hb.drew.trans (hb1.mono z)
        clear hb1 HE cc0 cc1 cc2 cc3 cc4 dd0 dd1 dd2 dd3 dd4
        go_wp2_with fail
        go_roundw
        case rel => exact ⟨k + 1, by omega, by go_num, hbb⟩
        case measure => simp [intOf]; omega
    · go_wp2
      go_ret
      exact ⟨rfl, hb⟩

set_option maxRecDepth 100000 in
set_option maxHeartbeats 2000000 in
theorem toChan_any {w : World} {hi : Nat} {x : DChan} {vs : List Value} (h : layChan.see w hi x vs) (hhi : hi ≤ w.heap.size) (hn : szChan x ≤ 1048576) :
    Calls Tryz.prog 62 #[.agg vs.toArray] w (MadeL layChan w x) := by
  obtain ⟨A1, n1, c1, A2, n2, c2, A3, n3, c3, rfl, hw0, ⟨hc1, hm1, s1⟩, ⟨hc2, hm2, s2⟩, ⟨hc3, hm3, s3⟩⟩ := seeChan h
  have L1 := Lib.hid s1.1
  have L2 := Lib.hid s2.1
  have L3 := Lib.hid s3.1
  have hn0 := hn
  unfold szChan at hn0
  rw [L1.out] at hn0
  rw [L2.out] at hn0
  rw [L3.out] at hn0
  have hb0 : Below w.heap.size w (((w.alloc (.cells #[.int .i64 x.fCap, .slice A1 n1 c1, .slice A2 n2 c2, .slice A3 n3 c3, .bool x.fClosed] 112)).alloc (.cells #[.int .i64 0, .slice none 0 0, .slice none 0 0, .slice none 0 0, .bool false] 124)).alloc (.cells #[.int .i64 0, .slice none 0 0, .slice none 0 0, .slice none 0 0, .bool false] 124)) := by go_grown
  go_enter Tryz.func62, Tryz.ntmps62
  go_wp2_with fail
  refine (toIntS_any (s1.below (B := w.heap.size) ?_ hhi) ?_ (by omega)).mono ?_
  · go_grown
  · simp; omega
  rintro e w1 ⟨B1, e1, rfl, own1, hb1⟩
  have z1 := hb1.size
  simp only [World.size_alloc] at z1 own1
  have hB1 : Below w.heap.size w w1 := Below.trans (by go_grown) (hb1.mono (by simp; omega))
  obtain ⟨hcl1, hfz1⟩ := bcell hb1
  have hl1a : w.heap.size < w1.heap.size := by omega
  have hl1b : w.heap.size + 1 < w1.heap.size := by omega
  have hl1c : w.heap.size + 1 + 1 < w1.heap.size := by omega
  go_wp2_with fail
  refine (toWaiterS_any (s2.below (B := w.heap.size) ?_ hhi) ?_ (by omega)).mono ?_
  · repeat (refine Below.setCell ?_ (by dsimp only; omega) _)
    exact hB1
  · simp; omega
  rintro e w2 ⟨B2, e2, rfl, own2, hb2⟩
  have z2 := hb2.size
  simp only [World.size_setCell] at z2 own2
  have ht2 : Turned (w.heap.size + 1) (w.heap.size + 3) w1 w2 := by
    refine Turned.trans ?_ (Turned.of_below hb2 _ _)
    repeat (refine Turned.setCell ?_ (by simp) (by simp) _)
    exact Turned.refl _ _ _
  have hB2 : Below w.heap.size w w2 := hB1.trans (ht2.below (by omega) (by omega))
  replace own1 := own1.turned ht2 (fun g hg => .inl (by omega))
  obtain ⟨hcl2, hfz2⟩ := bcell hb2
  have hl2a : w.heap.size < w2.heap.size := by omega
  have hl2b : w.heap.size + 1 < w2.heap.size := by omega
  have hl2c : w.heap.size + 1 + 1 < w2.heap.size := by omega
  go_wp2_with fail
  refine (toWaiterS_any (s3.below (B := w.heap.size) ?_ hhi) ?_ (by omega)).mono ?_
  · repeat (refine Below.setCell ?_ (by dsimp only; omega) _)
    exact hB2
  · simp; omega
  rintro e w3 ⟨B3, e3, rfl, own3, hb3⟩
  have z3 := hb3.size
  simp only [World.size_setCell] at z3 own3
  have ht3 : Turned (w.heap.size + 1) (w.heap.size + 3) w2 w3 := by
    refine Turned.trans ?_ (Turned.of_below hb3 _ _)
    repeat (refine Turned.setCell ?_ (by simp) (by simp) _)
    exact Turned.refl _ _ _
  have hB3 : Below w.heap.size w w3 := hB2.trans (ht3.below (by omega) (by omega))
  replace own1 := own1.turned ht3 (fun g hg => .inl (by omega))
  replace own2 := own2.turned ht3 (fun g hg => .inl (by omega))
  obtain ⟨hcl3, hfz3⟩ := bcell hb3
  have hl3a : w.heap.size < w3.heap.size := by omega
  have hl3b : w.heap.size + 1 < w3.heap.size := by omega
  have hl3c : w.heap.size + 1 + 1 < w3.heap.size := by omega
  go_wp2_with fail
  refine bodyPost_ret (v := .agg #[.int .i64 x.fCap, .slice B1 n1 e1, .slice B2 n2 e2, .slice B3 n3 e3, .bool x.fClosed]) (by simp [results, Tryz.results62, go_sem, hcl1, hl1a, hl1b, hl1c, hcl2, hl2a, hl2b, hl2c, hcl3, hl3a, hl3b, hl3c]) rfl ?_
  refine ⟨_, rfl, ?_, ?_⟩
  · refine ownChan (F := _) hw0 (TailR.of (OwnR.turned own1 (l := w.heap.size + 1) (r := w.heap.size + 3) ?t1 (fun g hg => .inl (by omega)))) (TailR.of (OwnR.turned own2 (l := w.heap.size + 1) (r := w.heap.size + 3) ?t2 (fun g hg => .inl (by omega)))) (TailR.of (OwnR.turned own3 (l := w.heap.size + 1) (r := w.heap.size + 3) ?t3 (fun g hg => .inl (by omega))))  ?k1 ?k2 ?k3 ?d12 ?d13 ?d23
    case t1 =>
      repeat (refine Turned.setCell ?_ (by simp) (by simp) _)
      exact Turned.refl _ _ _
    case t2 =>
      repeat (refine Turned.setCell ?_ (by simp) (by simp) _)
      exact Turned.refl _ _ _
    case t3 =>
      repeat (refine Turned.setCell ?_ (by simp) (by simp) _)
      exact Turned.refl _ _ _
    case k1 => intro g hg; simp only [World.size_setCell]; omega
    case k2 => intro g hg; simp only [World.size_setCell]; omega
    case k3 => intro g hg; simp only [World.size_setCell]; omega
    case d12 => intro g hg hg'; omega
    case d13 => intro g hg hg'; omega
    case d23 => intro g hg hg'; omega
  · repeat (refine Below.setCell ?_ (by dsimp only; omega) _)
    exact hB3

theorem infoChan : (Tryz.prog.info? 124).map (fun i => (i.zero, i.size, i.bytes)) = some (some (.agg #[.int .i64 0, .slice none 0 0, .slice none 0 0, .slice none 0 0, .bool false]), 5, 88) := by kernel_rfl

set_option maxRecDepth 100000 in
set_option maxHeartbeats 1000000 in
theorem toChanS_any {w : World} {A : Option Addr} {n c hi : Nat} {xs : List DChan} (h : SeenR layChan w hi A n xs) (hhi : hi ≤ w.heap.size) (hn : n ≤ 1048576) (hs : (xs.map szChan).sum ≤ 1048576) :
    Calls Tryz.prog 36 #[.slice A n c] w (MadeR layChan 124 w n xs) := by
  obtain ⟨i0, hi0, hz0, hz1, hz2⟩ := info_parts infoChan
  have hmk := fun W : World => run_make (P := Tryz.prog) W 41 124 i0 _ Tryz.underlying41 hi0 hz0 .i64 .i64 n n (by omega) (by omega) (by rw [hz2]; omega) (by omega)
  simp only [hz1, Int.toNat_natCast] at hmk
  have HL := Lib.hid h.1
  clear hi0 hz0 hz1 hz2
  go_enter Tryz.func36, Tryz.ntmps36
  go_wp2
  clear hmk
  go_loopw [4] (fun i wr => ∃ k : Nat, k ≤ n ∧ i = .int .i64 k ∧ Part layChan 124 wr w.heap.size n xs k wr.heap.size ∧ Below w.heap.size w wr) (fun i _ => n - (intOf i).toNat)
  case atStart =>
    refine ⟨0, Nat.zero_le _, rfl, ?_, (Below.refl _ _).alloc (Nat.le_refl _) _⟩
    have hm := Own.made (size := 5) (e := 124) w (madeCells #[.int .i64 0, .slice none 0 0, .slice none 0 0, .slice none 0 0, .bool false] (n * 5)) n n (by simp only [maxLen]; omega) (by simp [size_madeCells]) (Nat.le_refl _)
    exact Part.start HL.out hm (by simp)
  case round =>
    obtain ⟨k, hk, rfl, hpart, hb⟩ := hrel
    have z := hb.size
    by_cases hlt : k < n
    · obtain ⟨hx, g, o, vs, rfl, hg, hsee, hcell⟩ := (h.below hb hhi).at_ hlt
      have hsz : szChan xs[k] ≤ 1048576 := Nat.le_trans (sum_mem_le szChan (List.getElem_mem hx)) hs
      have hdk := Lib.hid (List.getElem?_eq_getElem hx)
      generalize xs[k] = x at *
      have HE := Lib.hid (fun (W : World) (hW : Below wr.heap.size wr W) => toChan_any (w := W) (layChan.keep hsee fun k hk => hW.block k (by omega)) (by have := hW.size; omega) hsz)
      obtain ⟨A1, n1, c1, A2, n2, c2, A3, n3, c3, rfl, hw0, ⟨hc1, hm1, s1⟩, ⟨hc2, hm2, s2⟩, ⟨hc3, hm3, s3⟩⟩ := seeChan hsee
      have cc0 := hcell 0 _ rfl
      have cc1 := hcell 1 _ rfl
      have cc2 := hcell 2 _ rfl
      have cc3 := hcell 3 _ rfl
      have cc4 := hcell 4 _ rfl
      simp only [show layChan.size = 5 from rfl, ← Nat.add_assoc, Nat.add_zero, Nat.mul_one] at cc0 cc1 cc2 cc3 cc4
      clear hcell
      go_wp2_with fail
      refine (HE.out _ (Below.refl _ _)).mono ?_
      rintro e w1 ⟨us, rfl, own1, hb1⟩
      have hus := layChan.len (layChan.seen own1 (hi := w1.heap.size) fun g hg => hg.2)
      have hsu := layChan.seen own1 (hi := w1.heap.size) fun g hg => hg.2
      obtain ⟨A1u, n1u, c1u, A2u, n2u, c2u, A3u, n3u, c3u, rfl, hw0u, ⟨hc1u, hm1u, s1u⟩, ⟨hc2u, hm2u, s2u⟩, ⟨hc3u, hm3u, s3u⟩⟩ := seeChan hsu
      have hp1 := hpart.below hb1
      obtain ⟨⟨v0, ho0⟩, hf0⟩ := hp1.room hlt 0 (by decide)
      obtain ⟨⟨v1, ho1⟩, hf1⟩ := hp1.room hlt 1 (by decide)
      obtain ⟨⟨v2, ho2⟩, hf2⟩ := hp1.room hlt 2 (by decide)
      obtain ⟨⟨v3, ho3⟩, hf3⟩ := hp1.room hlt 3 (by decide)
      obtain ⟨⟨v4, ho4⟩, hf4⟩ := hp1.room hlt 4 (by decide)
      have hp2 := hp1.step hdk.out hus own1 (fun g hg => hg)
      have hb2 : Below w.heap.size w w1 := hb.trans (hb1.mono z)
      simp only [show layChan.size = 5 from rfl, ← Nat.add_assoc, Nat.add_zero, Nat.mul_one] at ho0 hf0 ho1 hf1 ho2 hf2 ho3 hf3 ho4 hf4 hp2
      clear hpart hp1 hb1 HE own1 hus cc0 cc1 cc2 cc3 cc4 s1 s1u s2 s2u s3 s3u
      go_wp2_with fail
      go_roundw
      case rel => exact ⟨k + 1, by omega, by go_num, by simpa [putCells] using hp2, by go_grown⟩
      case measure => simp [intOf]; omega
    · go_wp2_with fail
      go_ret
      obtain rfl : k = n := by omega
      exact ⟨_, _, rfl, hpart.done, hb⟩
end Go.Proofs.YtghkdkagnibkgaaGreatDoor

namespace Go.Proofs.YtghkdkagnibkgaaGreatDoor
set_option linter.unusedSimpArgs false
set_option linter.unusedVariables false
open Go.RowKit

structure DItem where
  fKind : Int
  fObj : Int
  fVal : Int
  fOk : Bool
/-- How it lies: in its cells alone. -/
def layItem : Lay DItem := Lay.flat 4 (fun x => [.int .i64 x.fKind, .int .i64 x.fObj, .int .i64 x.fVal, .bool x.fOk]) (fun x => (Lit.int .i64 x.fKind).wf = true ∧ (Lit.int .i64 x.fObj).wf = true ∧ (Lit.int .i64 x.fVal).wf = true) (fun _ => rfl)
theorem opensItem : Opens Tryz.prog 182 layItem := by
  refine Opens.to (opens_struct Tryz.underlying182 (by kernel_rfl) (.cons rfl (opens_int Tryz.underlying3 (by kernel_rfl)) (.cons rfl (opens_int Tryz.underlying3 (by kernel_rfl)) (.cons rfl (opens_int Tryz.underlying3 (by kernel_rfl)) (.one rfl (opens_bool Tryz.underlying4 (by kernel_rfl))))))) rfl fun w hi a vs h => ?_
  obtain ⟨a0, a1, a2, a3⟩ := a
  obtain ⟨_, _, rfl, s0, ⟨_, _, rfl, s1, ⟨_, _, rfl, s2, s3⟩⟩⟩ := h
  obtain ⟨rfl, h0⟩ := s0
  obtain ⟨rfl, h1⟩ := s1
  obtain ⟨rfl, h2⟩ := s2
  obtain ⟨rfl, h3⟩ := s3
  exact ⟨⟨a0, a1, a2, a3⟩, rfl, h0, h1, h2⟩

theorem szItemS_any {w : World} {A : Option Addr} {n c l : Nat} (hl : l ≤ 1048576) (hn : n ≤ maxLen) :
    Calls Tryz.prog 85 #[.slice A n c, .int .i64 (l : Int)] w (SzPost w l n) := by
  unfold maxLen at hn
  by_cases h : n ≤ l
  · have hs : Hid ((l : Int) - (n : Int) = ((l - n : Nat) : Int)) := Lib.hid (by omega)
    go_enter Tryz.func85, Tryz.ntmps85
    go_wp2
    go_ret
    exact ⟨Below.refl _ _, .inl ⟨h, by rw [hs.out]; rfl⟩⟩
  · have h' : l < n := by omega
    go_enter Tryz.func85, Tryz.ntmps85
    go_wp2
    go_ret
    exact ⟨Below.refl _ _, .inr ⟨h', rfl⟩⟩

set_option maxRecDepth 100000 in
set_option maxHeartbeats 1000000 in
theorem eqItem_same {w : World} (x : DItem) : Calls Tryz.prog 142 #[.agg #[.int .i64 x.fKind, .int .i64 x.fObj, .int .i64 x.fVal, .bool x.fOk], .agg #[.int .i64 x.fKind, .int .i64 x.fObj, .int .i64 x.fVal, .bool x.fOk]] w (SaysTrue w) := by
  have hb0 : Below w.heap.size w ((w.alloc (.cells #[.int .i64 x.fKind, .int .i64 x.fObj, .int .i64 x.fVal, .bool x.fOk] 164)).alloc (.cells #[.int .i64 x.fKind, .int .i64 x.fObj, .int .i64 x.fVal, .bool x.fOk] 164)) := ((Below.refl _ _).alloc (Nat.le_refl _) _).alloc (by simp) _
  go_enter Tryz.func142, Tryz.ntmps142
  go_wp2
  repeat (go_quiet (fail); go_wp2)
  go_ret
  exact ⟨rfl, by first | exact hb0 | exact below_drawn hb0 _ | go_grown⟩

set_option maxRecDepth 100000 in
set_option maxHeartbeats 1000000 in
theorem eqItemS_same {A A' : Option Addr} {n c c' hi hi' : Nat} {xs : List DItem} {w : World} (h : SeenR layItem w hi A n xs) (h' : SeenR layItem w hi' A' n xs) (hh : hi ≤ w.heap.size) (hh' : hi' ≤ w.heap.size) (hn : n ≤ 1048580) :
    Calls Tryz.prog 108 #[.slice A n c, .slice A' n c'] w (SaysTrue w) := by
  go_enter Tryz.func108, Tryz.ntmps108
  go_wp2
  go_loopw [5] (fun i wr => ∃ k : Nat, k ≤ n ∧ i = .int .i64 k ∧ Below w.heap.size w wr) (fun i _ => n - (intOf i).toNat)
  case atStart => exact ⟨0, Nat.zero_le _, rfl, Below.refl _ _⟩
  case round =>
    obtain ⟨k, hk, rfl, hb⟩ := hrel
    have z := hb.size
    by_cases hlt : k < n
    · obtain ⟨hx, g, o, vs, rfl, hg, ⟨rfl, hw⟩, hc⟩ := (h.below hb hh).at_ hlt
      obtain ⟨hx', g', o', vs', rfl, hg', ⟨rfl, hw'⟩, hc'⟩ := (h'.below hb hh').at_ hlt
      have cc0 := hc 0 _ rfl
      have dd0 := hc' 0 _ rfl
      have cc1 := hc 1 _ rfl
      have dd1 := hc' 1 _ rfl
      have cc2 := hc 2 _ rfl
      have dd2 := hc' 2 _ rfl
      have cc3 := hc 3 _ rfl
      have dd3 := hc' 3 _ rfl
      simp only [show layItem.size = 4 from rfl, ← Nat.add_assoc, Nat.add_zero, Nat.mul_one] at cc0 cc1 cc2 cc3 dd0 dd1 dd2 dd3
      clear hc hc' hw hw'
      generalize xs[k] = x at *
      have HE := Lib.hid (fun W : World => eqItem_same (w := W) x)
      have hi0 : (0 : Int) ≤ (k : Int) := by omega
      have hi1 : (k : Int) < (n : Int) := by omega
      go_wp2_with fail
      go_region_with (go_at_call 142; refine (HE.out _).mono ?_; rintro e w1 ⟨rfl, hb1⟩)
      all_goals
        have hbb : Below w.heap.size w w1 := hb.drew.trans (hb1.mono z)
        clear hb1 HE cc0 cc1 cc2 cc3 dd0 dd1 dd2 dd3
        go_wp2_with fail
        go_roundw
        case rel => exact ⟨k + 1, by omega, by go_num, hbb⟩
        case measure => simp [intOf]; omega
    · go_wp2
      go_ret
      exact ⟨rfl, hb⟩

set_option maxRecDepth 100000 in
set_option maxHeartbeats 1000000 in
theorem toItem_any {w : World} {hi : Nat} {x : DItem} {vs : List Value} (h : layItem.see w hi x vs) :
    Calls Tryz.prog 124 #[.agg vs.toArray] w (MadeL layItem w x) := by
  obtain ⟨rfl, hw⟩ := h
  have HW := Lib.hid hw
  clear hw
  show Calls Tryz.prog 124 #[.agg #[.int .i64 x.fKind, .int .i64 x.fObj, .int .i64 x.fVal, .bool x.fOk]] w (MadeL layItem w x)
  go_enter Tryz.func124, Tryz.ntmps124
  go_wp2
  refine bodyPost_ret (v := .agg #[.int .i64 x.fKind, .int .i64 x.fObj, .int .i64 x.fVal, .bool x.fOk]) (by simp [results, Tryz.results124, go_sem]) rfl ?_
  exact ⟨_, rfl, ⟨rfl, HW.out⟩, by go_grown⟩

theorem infoItem : (Tryz.prog.info? 164).map (fun i => (i.zero, i.size, i.bytes)) = some (some (.agg #[.int .i64 0, .int .i64 0, .int .i64 0, .bool false]), 4, 32) := by kernel_rfl

set_option maxRecDepth 100000 in
set_option maxHeartbeats 1000000 in
theorem toItemS_any {w : World} {A : Option Addr} {n c hi : Nat} {xs : List DItem} (h : SeenR layItem w hi A n xs) (hhi : hi ≤ w.heap.size) (hn : n ≤ 1048576) :
    Calls Tryz.prog 96 #[.slice A n c] w (MadeR layItem 164 w n xs) := by
  obtain ⟨i0, hi0, hz0, hz1, hz2⟩ := info_parts infoItem
  have hmk := fun W : World => run_make (P := Tryz.prog) W 63 164 i0 _ Tryz.underlying63 hi0 hz0 .i64 .i64 n n (by omega) (by omega) (by rw [hz2]; omega) (by omega)
  simp only [hz1, Int.toNat_natCast] at hmk
  have HL := Lib.hid h.1
  clear hi0 hz0 hz1 hz2
  go_enter Tryz.func96, Tryz.ntmps96
  go_wp2
  clear hmk
  go_loopw [4] (fun i wr => ∃ k : Nat, k ≤ n ∧ i = .int .i64 k ∧ Part layItem 164 wr w.heap.size n xs k wr.heap.size ∧ Below w.heap.size w wr) (fun i _ => n - (intOf i).toNat)
  case atStart =>
    refine ⟨0, Nat.zero_le _, rfl, ?_, (Below.refl _ _).alloc (Nat.le_refl _) _⟩
    have hm := Own.made (size := 4) (e := 164) w (madeCells #[.int .i64 0, .int .i64 0, .int .i64 0, .bool false] (n * 4)) n n (by simp only [maxLen]; omega) (by simp [size_madeCells]) (Nat.le_refl _)
    exact Part.start HL.out hm (by simp)
  case round =>
    obtain ⟨k, hk, rfl, hpart, hb⟩ := hrel
    have z := hb.size
    by_cases hlt : k < n
    · obtain ⟨hx, g, o, vs, rfl, hg, hsee, hcell⟩ := (h.below hb hhi).at_ hlt
      have hdk := Lib.hid (List.getElem?_eq_getElem hx)
      generalize xs[k] = x at *
      have HE := Lib.hid (fun (W : World) (hW : Below wr.heap.size wr W) => toItem_any (w := W) (layItem.keep hsee fun k hk => hW.block k (by omega)))
      obtain ⟨rfl, hw⟩ := hsee
      have cc0 := hcell 0 _ rfl
      have cc1 := hcell 1 _ rfl
      have cc2 := hcell 2 _ rfl
      have cc3 := hcell 3 _ rfl
      simp only [show layItem.size = 4 from rfl, ← Nat.add_assoc, Nat.add_zero, Nat.mul_one] at cc0 cc1 cc2 cc3
      clear hcell
      go_wp2_with fail
      refine (HE.out _ (Below.refl _ _)).mono ?_
      rintro e w1 ⟨us, rfl, own1, hb1⟩
      have hus := layItem.len (layItem.seen own1 (hi := w1.heap.size) fun g hg => hg.2)
      have hsu := layItem.seen own1 (hi := w1.heap.size) fun g hg => hg.2
      obtain ⟨rfl, hwu⟩ := hsu
      have hp1 := hpart.below hb1
      obtain ⟨⟨v0, ho0⟩, hf0⟩ := hp1.room hlt 0 (by decide)
      obtain ⟨⟨v1, ho1⟩, hf1⟩ := hp1.room hlt 1 (by decide)
      obtain ⟨⟨v2, ho2⟩, hf2⟩ := hp1.room hlt 2 (by decide)
      obtain ⟨⟨v3, ho3⟩, hf3⟩ := hp1.room hlt 3 (by decide)
      have hp2 := hp1.step hdk.out hus own1 (fun g hg => hg)
      have hb2 : Below w.heap.size w w1 := hb.trans (hb1.mono z)
      simp only [show layItem.size = 4 from rfl, ← Nat.add_assoc, Nat.add_zero, Nat.mul_one] at ho0 hf0 ho1 hf1 ho2 hf2 ho3 hf3 hp2
      clear hpart hp1 hb1 HE own1 hus cc0 cc1 cc2 cc3
      go_wp2_with fail
      go_roundw
      case rel => exact ⟨k + 1, by omega, by go_num, by simpa [putCells] using hp2, by go_grown⟩
      case measure => simp [intOf]; omega
    · go_wp2_with fail
      go_ret
      obtain rfl : k = n := by omega
      exact ⟨_, _, rfl, hpart.done, hb⟩
end Go.Proofs.YtghkdkagnibkgaaGreatDoor

namespace Go.Proofs.YtghkdkagnibkgaaGreatDoor
set_option linter.unusedSimpArgs false
set_option linter.unusedVariables false
open Go.RowKit

structure DGor where
  fProc : Int
  fPc : Int
  fRegs : List Int
  fState : Int
  fTrace : List DItem
/-- How it lies: its slices in blocks of their own. -/
def layGor : Lay DGor := (Lay.int.pair (Lay.int.pair ((Lay.int.tail 3).pair (Lay.int.pair (layItem.tail 164))))).via fun x => (x.fProc, (x.fPc, (x.fRegs, (x.fState, x.fTrace))))
theorem opensGor : Opens Tryz.prog 108 layGor :=
  opens_via _ (fun a => ⟨⟨a.1, a.2.1, a.2.2.1, a.2.2.2.1, a.2.2.2.2⟩, rfl⟩) (opens_struct Tryz.underlying108 (by kernel_rfl) (.cons rfl (opens_int Tryz.underlying3 (by kernel_rfl)) (.cons rfl (opens_int Tryz.underlying3 (by kernel_rfl)) (.cons rfl (opens_tail Tryz.underlying22 (by kernel_rfl) (by decide) (opens_int Tryz.underlying3 (by kernel_rfl))) (.cons rfl (opens_int Tryz.underlying3 (by kernel_rfl)) (.one rfl (opens_tail Tryz.underlying106 (by kernel_rfl) (by decide) opensItem)))))))
theorem seeGor {w : World} {hi : Nat} {x : DGor} {vs : List Value} (h : layGor.see w hi x vs) : ∃ A2 n2 c2 A4 n4 c4, vs = [.int .i64 x.fProc, .int .i64 x.fPc, .slice A2 n2 c2, .int .i64 x.fState, .slice A4 n4 c4] ∧ (Lit.int .i64 x.fProc).wf = true ∧ (Lit.int .i64 x.fPc).wf = true ∧ (n2 ≤ c2 ∧ c2 ≤ maxLen ∧ SeenR Lay.int w hi A2 n2 x.fRegs) ∧ (Lit.int .i64 x.fState).wf = true ∧ (n4 ≤ c4 ∧ c4 ≤ maxLen ∧ SeenR layItem w hi A4 n4 x.fTrace) := by
  obtain ⟨_, _, rfl, s0, ⟨_, _, rfl, s1, ⟨_, _, rfl, s2, ⟨_, _, rfl, s3, s4⟩⟩⟩⟩ := h
  obtain ⟨rfl, h0⟩ := s0
  obtain ⟨rfl, h1⟩ := s1
  obtain ⟨A2, n2, c2, rfl, h2⟩ := s2
  obtain ⟨rfl, h3⟩ := s3
  obtain ⟨A4, n4, c4, rfl, h4⟩ := s4
  exact ⟨A2, n2, c2, A4, n4, c4, rfl, h0, h1, h2, h3, h4⟩
theorem ownGor {w : World} {F : Nat → Prop} {x : DGor} (h0 : (Lit.int .i64 x.fProc).wf = true) (h1 : (Lit.int .i64 x.fPc).wf = true) {A2 : Option Addr} {n2 c2 : Nat} {F2 : Nat → Prop} (h2 : TailR Lay.int 3 w F2 A2 n2 c2 x.fRegs) (h3 : (Lit.int .i64 x.fState).wf = true) {A4 : Option Addr} {n4 c4 : Nat} {F4 : Nat → Prop} (h4 : TailR layItem 164 w F4 A4 n4 c4 x.fTrace) (k2 : ∀ g, F2 g → F g) (k4 : ∀ g, F4 g → F g) (d24 : ∀ g, F2 g → ¬ F4 g) : layGor.own w F x [.int .i64 x.fProc, .int .i64 x.fPc, .slice A2 n2 c2, .int .i64 x.fState, .slice A4 n4 c4] := by
  exact ⟨_, _, (fun _ => False), (fun g => F2 g ∨ F4 g), rfl, ⟨rfl, h0⟩, ⟨_, _, (fun _ => False), (fun g => F2 g ∨ F4 g), rfl, ⟨rfl, h1⟩, ⟨_, _, F2, (fun g => F4 g), rfl, ⟨A2, n2, c2, rfl, h2⟩, ⟨_, _, (fun _ => False), (fun g => F4 g), rfl, ⟨rfl, h3⟩, ⟨A4, n4, c4, rfl, h4⟩, (fun g h => h.elim), (fun g h => h), (fun g h => h.elim)⟩, (fun g h => Or.inl h), (fun g h => Or.inr h), (fun g h h2 => by first | exact d24 g h h2)⟩, (fun g h => h.elim), (fun g h => h), (fun g h => h.elim)⟩, (fun _ h => h.elim), (fun g h => by rcases h with h | h <;> first | exact k2 g h | exact k4 g h), (fun g h => h.elim)⟩

/-- How much it holds. -/
def szGor (x : DGor) : Nat := x.fRegs.length + x.fTrace.length

set_option maxRecDepth 100000 in
set_option maxHeartbeats 1000000 in
theorem szGor_any {w : World} {hi l : Nat} {x : DGor} {vs : List Value} (h : layGor.see w hi x vs) (hhi : hi ≤ w.heap.size) (hl : l ≤ 1048576) :
    Calls Tryz.prog 55 #[.agg vs.toArray, .int .i64 (l : Int)] w (SzPost w l (szGor x)) := by
  obtain ⟨A2, n2, c2, A4, n4, c4, rfl, hw0, hw1, ⟨hc2, hm2, s2⟩, hw3, ⟨hc4, hm4, s4⟩⟩ := seeGor h
  have hb0 : Below w.heap.size w (w.alloc (.cells #[.int .i64 x.fProc, .int .i64 x.fPc, .slice A2 n2 c2, .int .i64 x.fState, .slice A4 n4 c4] 108)) := (Below.refl _ _).alloc (Nat.le_refl _) _
  have hz0 : w.heap.size + 1 ≤ (w.alloc (.cells #[.int .i64 x.fProc, .int .i64 x.fPc, .slice A2 n2 c2, .int .i64 x.fState, .slice A4 n4 c4] 108)).heap.size := by simp
  go_enter Tryz.func55, Tryz.ntmps55
  have L2 := Lib.hid s2.1
  go_wp2_with fail
  refine (szIntS_any (l := l) (by omega) (Nat.le_trans hc2 hm2)).mono ?_
  rintro e w1 ⟨hb1, hcase⟩
  have z1 := hb1.size
  obtain ⟨hcl1, hfz1⟩ := bcell hb1
  simp only [World.size_alloc] at z1
  have hl1a : w.heap.size < w1.heap.size := by omega
  have hB1 : Below w.heap.size w w1 := hb0.trans (hb1.mono (by simp))
  rcases hcase with ⟨h10, rfl⟩ | ⟨h10, rfl⟩
  · skip
    have L4 := Lib.hid s4.1
    go_wp2_with fail
    refine (szItemS_any (l := l - n2) (by omega) (Nat.le_trans hc4 hm4)).mono ?_
    rintro e w2 ⟨hb2, hcase⟩
    have z2 := hb2.size
    obtain ⟨hcl2, hfz2⟩ := bcell hb2
    have hl2a : w.heap.size < w2.heap.size := by omega
    have hB2 : Below w.heap.size w w2 := hB1.trans (hb2.mono (by omega))
    rcases hcase with ⟨h11, rfl⟩ | ⟨h11, rfl⟩
    · go_wp2_with fail
      go_ret
      exact ⟨hB2, .inl ⟨by unfold szGor; rw [L2.out]; rw [L4.out]; omega, by unfold szGor; rw [L2.out]; rw [L4.out]; go_num⟩⟩
    · go_wp2_with fail
      go_ret
      exact ⟨hB2, .inr ⟨by unfold szGor; rw [L2.out]; rw [L4.out]; omega, rfl⟩⟩
  · go_wp2_with fail
    go_ret
    exact ⟨hB1, .inr ⟨by unfold szGor; rw [L2.out]; omega, rfl⟩⟩

set_option maxRecDepth 100000 in
set_option maxHeartbeats 1000000 in
theorem szGorS_any {w : World} {hi n c l : Nat} {A : Option Addr} {ds : List DGor} (h : SeenR layGor w hi A n ds) (hhi : hi ≤ w.heap.size) (hl : l ≤ 1048576) (hn : n ≤ maxLen) :
    Calls Tryz.prog 26 #[.slice A n c, .int .i64 (l : Int)] w (SzPost w l (n + (ds.map szGor).sum)) := by
  unfold maxLen at hn
  have HL := Lib.hid h.1
  by_cases h0 : n ≤ l
  · go_enter Tryz.func26, Tryz.ntmps26
    go_wp2_with fail
    go_loopw [1, 5] (fun q i wr => ∃ k : Nat, k ≤ n ∧ i = .int .i64 k ∧ n + ((ds.take k).map szGor).sum ≤ l ∧ q = .int .i64 ((l - (n + ((ds.take k).map szGor).sum) : Nat) : Int) ∧ Below w.heap.size w wr) (fun _ i _ => n - (intOf i).toNat)
    case atStart => exact ⟨0, Nat.zero_le _, rfl, by simpa using h0, by simp; go_num, Below.refl _ _⟩
    case round =>
      obtain ⟨k, hk, rfl, hle, rfl, hb⟩ := hrel
      have z := hb.size
      by_cases hlt : k < n
      · obtain ⟨hx, g, o, vs, rfl, hg, hsee, hcell⟩ := (h.below hb hhi).at_ hlt
        have hsee0 := hsee
        have htt := Lib.hid (sum_take_succ (f := szGor) (List.getElem?_eq_getElem hx))
        have htl := sum_take_le szGor ds (k + 1)
        rw [htt.out] at htl
        generalize ds[k] = d at *
        obtain ⟨A2, n2, c2, A4, n4, c4, rfl, hw0, hw1, ⟨hc2, hm2, s2⟩, hw3, ⟨hc4, hm4, s4⟩⟩ := seeGor hsee
        have cc0 := hcell 0 _ rfl
        have cc1 := hcell 1 _ rfl
        have cc2 := hcell 2 _ rfl
        have cc3 := hcell 3 _ rfl
        have cc4 := hcell 4 _ rfl
        simp only [show layGor.size = 5 from rfl, ← Nat.add_assoc, Nat.add_zero, Nat.mul_one] at cc0 cc1 cc2 cc3 cc4
        clear hcell hsee s2 s4
        generalize hT : ((ds.take k).map szGor).sum = S at *
        have HT := Lib.hid hT
        clear hT
        go_wp2_with fail
        refine (szGor_any (l := l - (n + S)) hsee0 (by omega) (by omega)).mono ?_
        rintro e w1 ⟨hb1, hcase⟩
        have hbb : Below w.heap.size w w1 := hb.trans (hb1.mono z)
        clear cc0 cc1 cc2 cc3 cc4 hb1 hsee0
        rcases hcase with ⟨h1, rfl⟩ | ⟨h1, rfl⟩
        · go_wp2_with fail
          go_roundw
          case rel => exact ⟨k + 1, by omega, by go_num, by rw [htt.out]; omega, by rw [htt.out]; go_num, hbb⟩
          case measure => simp [intOf]; omega
        · go_wp2_with fail
          go_ret
          exact ⟨hbb, .inr ⟨by omega, rfl⟩⟩
      · go_wp2_with fail
        go_ret
        obtain rfl : k = n := by omega
        have htk : ds.take k = ds := List.take_of_length_le (by rw [HL.out]; exact Nat.le_refl _)
        rw [htk] at hle ⊢
        exact ⟨hb, .inl ⟨hle, rfl⟩⟩
  · have h1 : l < n := by omega
    clear h
    go_enter Tryz.func26, Tryz.ntmps26
    go_wp2_with fail
    go_ret
    exact ⟨Below.refl _ _, .inr ⟨by omega, rfl⟩⟩

set_option maxRecDepth 100000 in
set_option maxHeartbeats 1000000 in
theorem eqGor_same {w : World} {hi hi' : Nat} {x : DGor} {vs vs' : List Value} (h : layGor.see w hi x vs) (h' : layGor.see w hi' x vs') (hhi : hi ≤ w.heap.size) (hhi' : hi' ≤ w.heap.size) (hn : szGor x ≤ 1048580) :
    Calls Tryz.prog 70 #[.agg vs.toArray, .agg vs'.toArray] w (SaysTrue w) := by
  obtain ⟨A2, n2, c2, A4, n4, c4, rfl, hw0, hw1, ⟨hc2, hm2, s2⟩, hw3, ⟨hc4, hm4, s4⟩⟩ := seeGor h
  obtain ⟨A2', n2', c2', A4', n4', c4', rfl, hw0', hw1', ⟨hc2', hm2', s2'⟩, hw3', ⟨hc4', hm4', s4'⟩⟩ := seeGor h'
  obtain rfl : n2 = n2' := s2.1.symm.trans s2'.1
  have L2 := Lib.hid s2.1
  obtain rfl : n4 = n4' := s4.1.symm.trans s4'.1
  have L4 := Lib.hid s4.1
  have hn0 := hn
  unfold szGor at hn0
  rw [L2.out] at hn0
  rw [L4.out] at hn0
  have hb0 : Below w.heap.size w ((w.alloc (.cells #[.int .i64 x.fProc, .int .i64 x.fPc, .slice A2 n2 c2, .int .i64 x.fState, .slice A4 n4 c4] 65)).alloc (.cells #[.int .i64 x.fProc, .int .i64 x.fPc, .slice A2' n2 c2', .int .i64 x.fState, .slice A4' n4 c4'] 65)) := ((Below.refl _ _).alloc (Nat.le_refl _) _).alloc (by simp) _
  go_enter Tryz.func70, Tryz.ntmps70
  go_wp2_with fail
  (try (go_quiet (fail)))
  go_wp2_with fail
  (try (go_quiet (fail)))
  go_wp2_with fail
  refine (eqIntS_same (s2.below hb0 hhi) (s2'.below hb0 hhi')  (by omega)).mono ?_
  rintro e w1 ⟨rfl, hb1⟩
  have z1 := hb1.size
  obtain ⟨hcl1, hfz1⟩ := bcell hb1
  have hB1 : Below w.heap.size w w1 := hb0.trans (hb1.mono (by simp; omega))
  simp only [World.size_alloc] at z1
  have hl1a : w.heap.size < w1.heap.size := by omega
  have hl1b : w.heap.size + 1 < w1.heap.size := by omega
  go_wp2_with fail
  (try (go_quiet (fail)))
  go_wp2_with fail
  refine (eqItemS_same (s4.below hB1 hhi) (s4'.below hB1 hhi') (by have := hB1.size; omega) (by have := hB1.size; omega) (by omega)).mono ?_
  rintro e w2 ⟨rfl, hb2⟩
  have z2 := hb2.size
  obtain ⟨hcl2, hfz2⟩ := bcell hb2
  have hB2 : Below w.heap.size w w2 := hB1.trans (hb2.mono (by omega))
  have hl2a : w.heap.size < w2.heap.size := by omega
  have hl2b : w.heap.size + 1 < w2.heap.size := by omega
  go_wp2_with fail
  go_ret
  exact ⟨rfl, by first | exact hB2 | exact below_drawn hB2 _⟩

set_option maxRecDepth 100000 in
set_option maxHeartbeats 1000000 in
theorem eqGorS_same {A A' : Option Addr} {n c c' hi hi' : Nat} {xs : List DGor} {w : World} (h : SeenR layGor w hi A n xs) (h' : SeenR layGor w hi' A' n xs) (hh : hi ≤ w.heap.size) (hh' : hi' ≤ w.heap.size) (hn : n ≤ 1048580) (hs : (xs.map szGor).sum ≤ 1048580) :
    Calls Tryz.prog 43 #[.slice A n c, .slice A' n c'] w (SaysTrue w) := by
  go_enter Tryz.func43, Tryz.ntmps43
  go_wp2
  go_loopw [5] (fun i wr => ∃ k : Nat, k ≤ n ∧ i = .int .i64 k ∧ Below w.heap.size w wr) (fun i _ => n - (intOf i).toNat)
  case atStart => exact ⟨0, Nat.zero_le _, rfl, Below.refl _ _⟩
  case round =>
    obtain ⟨k, hk, rfl, hb⟩ := hrel
    have z := hb.size
    by_cases hlt : k < n
    · obtain ⟨hx, g, o, vs, rfl, hg, hsee, hc⟩ := (h.below hb hh).at_ hlt
      obtain ⟨hx', g', o', vs', rfl, hg', hsee', hc'⟩ := (h'.below hb hh').at_ hlt
      have hsz : szGor xs[k] ≤ 1048580 := Nat.le_trans (sum_mem_le szGor (List.getElem_mem hx)) hs
      generalize xs[k] = x at *
      have HE := Lib.hid (fun (W : World) (hW : Below wr.heap.size wr W) => eqGor_same (layGor.keep hsee fun k hk => hW.block k (by omega)) (layGor.keep hsee' fun k hk => hW.block k (by omega)) (by have := hW.size; omega) (by have := hW.size; omega) hsz)
      obtain ⟨A2, n2, c2, A4, n4, c4, rfl, hw0, hw1, ⟨hc2, hm2, s2⟩, hw3, ⟨hc4, hm4, s4⟩⟩ := seeGor hsee
      obtain ⟨A2', n2', c2', A4', n4', c4', rfl, hw0', hw1', ⟨hc2', hm2', s2'⟩, hw3', ⟨hc4', hm4', s4'⟩⟩ := seeGor hsee'
      have cc0 := hc 0 _ rfl
      have dd0 := hc' 0 _ rfl
      have cc1 := hc 1 _ rfl
      have dd1 := hc' 1 _ rfl
      have cc2 := hc 2 _ rfl
      have dd2 := hc' 2 _ rfl
      have cc3 := hc 3 _ rfl
      have dd3 := hc' 3 _ rfl
      have cc4 := hc 4 _ rfl
      have dd4 := hc' 4 _ rfl
      simp only [show layGor.size = 5 from rfl, ← Nat.add_assoc, Nat.add_zero, Nat.mul_one] at cc0 cc1 cc2 cc3 cc4 dd0 dd1 dd2 dd3 dd4
      clear hc hc' hsee hsee' s2 s2' s4 s4'
      have hi0 : (0 : Int) ≤ (k : Int) := by omega
      have hi1 : (k : Int) < (n : Int) := by omega
      have hb0 : Below wr.heap.size wr wr.drew := (Below.refl _ _).drew
      go_wp2_with fail
      go_region_with (go_at_call 70; refine (HE.out _ hb0).mono ?_; rintro e w1 ⟨rfl, hb1⟩)
      all_goals
        have hbb : Below w.heap.size w w1 := hb.drew.trans (hb1.mono z)
        clear hb1 HE cc0 cc1 cc2 cc3 cc4 dd0 dd1 dd2 dd3 dd4
        go_wp2_with fail
        go_roundw
        case rel => exact ⟨k + 1, by omega, by go_num, hbb⟩
        case measure => simp [intOf]; omega
    · go_wp2
      go_ret
      exact ⟨rfl, hb⟩

set_option maxRecDepth 100000 in
set_option maxHeartbeats 2000000 in
theorem toGor_any {w : World} {hi : Nat} {x : DGor} {vs : List Value} (h : layGor.see w hi x vs) (hhi : hi ≤ w.heap.size) (hn : szGor x ≤ 1048576) :
    Calls Tryz.prog 61 #[.agg vs.toArray] w (MadeL layGor w x) := by
  obtain ⟨A2, n2, c2, A4, n4, c4, rfl, hw0, hw1, ⟨hc2, hm2, s2⟩, hw3, ⟨hc4, hm4, s4⟩⟩ := seeGor h
  have L2 := Lib.hid s2.1
  have L4 := Lib.hid s4.1
  have hn0 := hn
  unfold szGor at hn0
  rw [L2.out] at hn0
  rw [L4.out] at hn0
  have hb0 : Below w.heap.size w (((w.alloc (.cells #[.int .i64 x.fProc, .int .i64 x.fPc, .slice A2 n2 c2, .int .i64 x.fState, .slice A4 n4 c4] 108)).alloc (.cells #[.int .i64 0, .int .i64 0, .slice none 0 0, .int .i64 0, .slice none 0 0] 65)).alloc (.cells #[.int .i64 0, .int .i64 0, .slice none 0 0, .int .i64 0, .slice none 0 0] 65)) := by go_grown
  go_enter Tryz.func61, Tryz.ntmps61
  go_wp2_with fail
  refine (toIntS_any (s2.below (B := w.heap.size) ?_ hhi) ?_ (by omega)).mono ?_
  · go_grown
  · simp; omega
  rintro e w1 ⟨B2, e2, rfl, own1, hb1⟩
  have z1 := hb1.size
  simp only [World.size_alloc] at z1 own1
  have hB1 : Below w.heap.size w w1 := Below.trans (by go_grown) (hb1.mono (by simp; omega))
  obtain ⟨hcl1, hfz1⟩ := bcell hb1
  have hl1a : w.heap.size < w1.heap.size := by omega
  have hl1b : w.heap.size + 1 < w1.heap.size := by omega
  have hl1c : w.heap.size + 1 + 1 < w1.heap.size := by omega
  go_wp2_with fail
  refine (toItemS_any (s4.below (B := w.heap.size) ?_ hhi) ?_ (by omega)).mono ?_
  · repeat (refine Below.setCell ?_ (by dsimp only; omega) _)
    exact hB1
  · simp; omega
  rintro e w2 ⟨B4, e4, rfl, own2, hb2⟩
  have z2 := hb2.size
  simp only [World.size_setCell] at z2 own2
  have ht2 : Turned (w.heap.size + 1) (w.heap.size + 3) w1 w2 := by
    refine Turned.trans ?_ (Turned.of_below hb2 _ _)
    repeat (refine Turned.setCell ?_ (by simp) (by simp) _)
    exact Turned.refl _ _ _
  have hB2 : Below w.heap.size w w2 := hB1.trans (ht2.below (by omega) (by omega))
  replace own1 := own1.turned ht2 (fun g hg => .inl (by omega))
  obtain ⟨hcl2, hfz2⟩ := bcell hb2
  have hl2a : w.heap.size < w2.heap.size := by omega
  have hl2b : w.heap.size + 1 < w2.heap.size := by omega
  have hl2c : w.heap.size + 1 + 1 < w2.heap.size := by omega
  go_wp2_with fail
  refine bodyPost_ret (v := .agg #[.int .i64 x.fProc, .int .i64 x.fPc, .slice B2 n2 e2, .int .i64 x.fState, .slice B4 n4 e4]) (by simp [results, Tryz.results61, go_sem, hcl1, hl1a, hl1b, hl1c, hcl2, hl2a, hl2b, hl2c]) rfl ?_
  refine ⟨_, rfl, ?_, ?_⟩
  · refine ownGor (F := _) hw0 hw1 (TailR.of (OwnR.turned own1 (l := w.heap.size + 1) (r := w.heap.size + 3) ?t2 (fun g hg => .inl (by omega)))) hw3 (TailR.of (OwnR.turned own2 (l := w.heap.size + 1) (r := w.heap.size + 3) ?t4 (fun g hg => .inl (by omega)))) ?k2 ?k4 ?d24
    case t2 =>
      repeat (refine Turned.setCell ?_ (by simp) (by simp) _)
      exact Turned.refl _ _ _
    case t4 =>
      repeat (refine Turned.setCell ?_ (by simp) (by simp) _)
      exact Turned.refl _ _ _
    case k2 => intro g hg; simp only [World.size_setCell]; omega
    case k4 => intro g hg; simp only [World.size_setCell]; omega
    case d24 => intro g hg hg'; omega
  · repeat (refine Below.setCell ?_ (by dsimp only; omega) _)
    exact hB2

theorem infoGor : (Tryz.prog.info? 65).map (fun i => (i.zero, i.size, i.bytes)) = some (some (.agg #[.int .i64 0, .int .i64 0, .slice none 0 0, .int .i64 0, .slice none 0 0]), 5, 72) := by kernel_rfl

set_option maxRecDepth 100000 in
set_option maxHeartbeats 1000000 in
theorem toGorS_any {w : World} {A : Option Addr} {n c hi : Nat} {xs : List DGor} (h : SeenR layGor w hi A n xs) (hhi : hi ≤ w.heap.size) (hn : n ≤ 1048576) (hs : (xs.map szGor).sum ≤ 1048576) :
    Calls Tryz.prog 35 #[.slice A n c] w (MadeR layGor 65 w n xs) := by
  obtain ⟨i0, hi0, hz0, hz1, hz2⟩ := info_parts infoGor
  have hmk := fun W : World => run_make (P := Tryz.prog) W 40 65 i0 _ Tryz.underlying40 hi0 hz0 .i64 .i64 n n (by omega) (by omega) (by rw [hz2]; omega) (by omega)
  simp only [hz1, Int.toNat_natCast] at hmk
  have HL := Lib.hid h.1
  clear hi0 hz0 hz1 hz2
  go_enter Tryz.func35, Tryz.ntmps35
  go_wp2
  clear hmk
  go_loopw [4] (fun i wr => ∃ k : Nat, k ≤ n ∧ i = .int .i64 k ∧ Part layGor 65 wr w.heap.size n xs k wr.heap.size ∧ Below w.heap.size w wr) (fun i _ => n - (intOf i).toNat)
  case atStart =>
    refine ⟨0, Nat.zero_le _, rfl, ?_, (Below.refl _ _).alloc (Nat.le_refl _) _⟩
    have hm := Own.made (size := 5) (e := 65) w (madeCells #[.int .i64 0, .int .i64 0, .slice none 0 0, .int .i64 0, .slice none 0 0] (n * 5)) n n (by simp only [maxLen]; omega) (by simp [size_madeCells]) (Nat.le_refl _)
    exact Part.start HL.out hm (by simp)
  case round =>
    obtain ⟨k, hk, rfl, hpart, hb⟩ := hrel
    have z := hb.size
    by_cases hlt : k < n
    · obtain ⟨hx, g, o, vs, rfl, hg, hsee, hcell⟩ := (h.below hb hhi).at_ hlt
      have hsz : szGor xs[k] ≤ 1048576 := Nat.le_trans (sum_mem_le szGor (List.getElem_mem hx)) hs
      have hdk := Lib.hid (List.getElem?_eq_getElem hx)
      generalize xs[k] = x at *
      have HE := Lib.hid (fun (W : World) (hW : Below wr.heap.size wr W) => toGor_any (w := W) (layGor.keep hsee fun k hk => hW.block k (by omega)) (by have := hW.size; omega) hsz)
      obtain ⟨A2, n2, c2, A4, n4, c4, rfl, hw0, hw1, ⟨hc2, hm2, s2⟩, hw3, ⟨hc4, hm4, s4⟩⟩ := seeGor hsee
      have cc0 := hcell 0 _ rfl
      have cc1 := hcell 1 _ rfl
      have cc2 := hcell 2 _ rfl
      have cc3 := hcell 3 _ rfl
      have cc4 := hcell 4 _ rfl
      simp only [show layGor.size = 5 from rfl, ← Nat.add_assoc, Nat.add_zero, Nat.mul_one] at cc0 cc1 cc2 cc3 cc4
      clear hcell
      go_wp2_with fail
      refine (HE.out _ (Below.refl _ _)).mono ?_
      rintro e w1 ⟨us, rfl, own1, hb1⟩
      have hus := layGor.len (layGor.seen own1 (hi := w1.heap.size) fun g hg => hg.2)
      have hsu := layGor.seen own1 (hi := w1.heap.size) fun g hg => hg.2
      obtain ⟨A2u, n2u, c2u, A4u, n4u, c4u, rfl, hw0u, hw1u, ⟨hc2u, hm2u, s2u⟩, hw3u, ⟨hc4u, hm4u, s4u⟩⟩ := seeGor hsu
      have hp1 := hpart.below hb1
      obtain ⟨⟨v0, ho0⟩, hf0⟩ := hp1.room hlt 0 (by decide)
      obtain ⟨⟨v1, ho1⟩, hf1⟩ := hp1.room hlt 1 (by decide)
      obtain ⟨⟨v2, ho2⟩, hf2⟩ := hp1.room hlt 2 (by decide)
      obtain ⟨⟨v3, ho3⟩, hf3⟩ := hp1.room hlt 3 (by decide)
      obtain ⟨⟨v4, ho4⟩, hf4⟩ := hp1.room hlt 4 (by decide)
      have hp2 := hp1.step hdk.out hus own1 (fun g hg => hg)
      have hb2 : Below w.heap.size w w1 := hb.trans (hb1.mono z)
      simp only [show layGor.size = 5 from rfl, ← Nat.add_assoc, Nat.add_zero, Nat.mul_one] at ho0 hf0 ho1 hf1 ho2 hf2 ho3 hf3 ho4 hf4 hp2
      clear hpart hp1 hb1 HE own1 hus cc0 cc1 cc2 cc3 cc4 s2 s2u s4 s4u
      go_wp2_with fail
      go_roundw
      case rel => exact ⟨k + 1, by omega, by go_num, by simpa [putCells] using hp2, by go_grown⟩
      case measure => simp [intOf]; omega
    · go_wp2_with fail
      go_ret
      obtain rfl : k = n := by omega
      exact ⟨_, _, rfl, hpart.done, hb⟩
end Go.Proofs.YtghkdkagnibkgaaGreatDoor

namespace Go.Proofs.YtghkdkagnibkgaaGreatDoor
set_option linter.unusedSimpArgs false
set_option linter.unusedVariables false
open Go.RowKit

structure DMutex where
  fOwner : Int
  fWait : List Int
/-- How it lies: its slices in blocks of their own. -/
def layMutex : Lay DMutex := (Lay.int.pair (Lay.int.tail 3)).via fun x => (x.fOwner, x.fWait)
theorem opensMutex : Opens Tryz.prog 114 layMutex :=
  opens_via _ (fun a => ⟨⟨a.1, a.2⟩, rfl⟩) (opens_struct Tryz.underlying114 (by kernel_rfl) (.cons rfl (opens_int Tryz.underlying3 (by kernel_rfl)) (.one rfl (opens_tail Tryz.underlying22 (by kernel_rfl) (by decide) (opens_int Tryz.underlying3 (by kernel_rfl))))))
theorem seeMutex {w : World} {hi : Nat} {x : DMutex} {vs : List Value} (h : layMutex.see w hi x vs) : ∃ A1 n1 c1, vs = [.int .i64 x.fOwner, .slice A1 n1 c1] ∧ (Lit.int .i64 x.fOwner).wf = true ∧ (n1 ≤ c1 ∧ c1 ≤ maxLen ∧ SeenR Lay.int w hi A1 n1 x.fWait) := by
  obtain ⟨_, _, rfl, s0, s1⟩ := h
  obtain ⟨rfl, h0⟩ := s0
  obtain ⟨A1, n1, c1, rfl, h1⟩ := s1
  exact ⟨A1, n1, c1, rfl, h0, h1⟩
theorem ownMutex {w : World} {F : Nat → Prop} {x : DMutex} (h0 : (Lit.int .i64 x.fOwner).wf = true) {A1 : Option Addr} {n1 c1 : Nat} {F1 : Nat → Prop} (h1 : TailR Lay.int 3 w F1 A1 n1 c1 x.fWait) (k1 : ∀ g, F1 g → F g) : layMutex.own w F x [.int .i64 x.fOwner, .slice A1 n1 c1] := by
  exact ⟨_, _, (fun _ => False), (fun g => F1 g), rfl, ⟨rfl, h0⟩, ⟨A1, n1, c1, rfl, h1⟩, (fun _ h => h.elim), (fun g h => by first | exact k1 g h), (fun g h => h.elim)⟩

/-- How much it holds. -/
def szMutex (x : DMutex) : Nat := x.fWait.length

set_option maxRecDepth 100000 in
set_option maxHeartbeats 1000000 in
theorem szMutex_any {w : World} {hi l : Nat} {x : DMutex} {vs : List Value} (h : layMutex.see w hi x vs) (hhi : hi ≤ w.heap.size) (hl : l ≤ 1048576) :
    Calls Tryz.prog 57 #[.agg vs.toArray, .int .i64 (l : Int)] w (SzPost w l (szMutex x)) := by
  obtain ⟨A1, n1, c1, rfl, hw0, ⟨hc1, hm1, s1⟩⟩ := seeMutex h
  have hb0 : Below w.heap.size w (w.alloc (.cells #[.int .i64 x.fOwner, .slice A1 n1 c1] 114)) := (Below.refl _ _).alloc (Nat.le_refl _) _
  have hz0 : w.heap.size + 1 ≤ (w.alloc (.cells #[.int .i64 x.fOwner, .slice A1 n1 c1] 114)).heap.size := by simp
  go_enter Tryz.func57, Tryz.ntmps57
  have L1 := Lib.hid s1.1
  go_wp2_with fail
  refine (szIntS_any (l := l) (by omega) (Nat.le_trans hc1 hm1)).mono ?_
  rintro e w1 ⟨hb1, hcase⟩
  have z1 := hb1.size
  obtain ⟨hcl1, hfz1⟩ := bcell hb1
  simp only [World.size_alloc] at z1
  have hl1a : w.heap.size < w1.heap.size := by omega
  have hB1 : Below w.heap.size w w1 := hb0.trans (hb1.mono (by simp))
  rcases hcase with ⟨h10, rfl⟩ | ⟨h10, rfl⟩
  · go_wp2_with fail
    go_ret
    exact ⟨hB1, .inl ⟨by unfold szMutex; rw [L1.out]; omega, by unfold szMutex; rw [L1.out]; go_num⟩⟩
  · go_wp2_with fail
    go_ret
    exact ⟨hB1, .inr ⟨by unfold szMutex; rw [L1.out]; omega, rfl⟩⟩

set_option maxRecDepth 100000 in
set_option maxHeartbeats 1000000 in
theorem szMutexS_any {w : World} {hi n c l : Nat} {A : Option Addr} {ds : List DMutex} (h : SeenR layMutex w hi A n ds) (hhi : hi ≤ w.heap.size) (hl : l ≤ 1048576) (hn : n ≤ maxLen) :
    Calls Tryz.prog 28 #[.slice A n c, .int .i64 (l : Int)] w (SzPost w l (n + (ds.map szMutex).sum)) := by
  unfold maxLen at hn
  have HL := Lib.hid h.1
  by_cases h0 : n ≤ l
  · go_enter Tryz.func28, Tryz.ntmps28
    go_wp2_with fail
    go_loopw [1, 5] (fun q i wr => ∃ k : Nat, k ≤ n ∧ i = .int .i64 k ∧ n + ((ds.take k).map szMutex).sum ≤ l ∧ q = .int .i64 ((l - (n + ((ds.take k).map szMutex).sum) : Nat) : Int) ∧ Below w.heap.size w wr) (fun _ i _ => n - (intOf i).toNat)
    case atStart => exact ⟨0, Nat.zero_le _, rfl, by simpa using h0, by simp; go_num, Below.refl _ _⟩
    case round =>
      obtain ⟨k, hk, rfl, hle, rfl, hb⟩ := hrel
      have z := hb.size
      by_cases hlt : k < n
      · obtain ⟨hx, g, o, vs, rfl, hg, hsee, hcell⟩ := (h.below hb hhi).at_ hlt
        have hsee0 := hsee
        have htt := Lib.hid (sum_take_succ (f := szMutex) (List.getElem?_eq_getElem hx))
        have htl := sum_take_le szMutex ds (k + 1)
        rw [htt.out] at htl
        generalize ds[k] = d at *
        obtain ⟨A1, n1, c1, rfl, hw0, ⟨hc1, hm1, s1⟩⟩ := seeMutex hsee
        have cc0 := hcell 0 _ rfl
        have cc1 := hcell 1 _ rfl
        simp only [show layMutex.size = 2 from rfl, ← Nat.add_assoc, Nat.add_zero, Nat.mul_one] at cc0 cc1
        clear hcell hsee s1
        generalize hT : ((ds.take k).map szMutex).sum = S at *
        have HT := Lib.hid hT
        clear hT
        go_wp2_with fail
        refine (szMutex_any (l := l - (n + S)) hsee0 (by omega) (by omega)).mono ?_
        rintro e w1 ⟨hb1, hcase⟩
        have hbb : Below w.heap.size w w1 := hb.trans (hb1.mono z)
        clear cc0 cc1 hb1 hsee0
        rcases hcase with ⟨h1, rfl⟩ | ⟨h1, rfl⟩
        · go_wp2_with fail
          go_roundw
          case rel => exact ⟨k + 1, by omega, by go_num, by rw [htt.out]; omega, by rw [htt.out]; go_num, hbb⟩
          case measure => simp [intOf]; omega
        · go_wp2_with fail
          go_ret
          exact ⟨hbb, .inr ⟨by omega, rfl⟩⟩
      · go_wp2_with fail
        go_ret
        obtain rfl : k = n := by omega
        have htk : ds.take k = ds := List.take_of_length_le (by rw [HL.out]; exact Nat.le_refl _)
        rw [htk] at hle ⊢
        exact ⟨hb, .inl ⟨hle, rfl⟩⟩
  · have h1 : l < n := by omega
    clear h
    go_enter Tryz.func28, Tryz.ntmps28
    go_wp2_with fail
    go_ret
    exact ⟨Below.refl _ _, .inr ⟨by omega, rfl⟩⟩

set_option maxRecDepth 100000 in
set_option maxHeartbeats 1000000 in
theorem eqMutex_same {w : World} {hi hi' : Nat} {x : DMutex} {vs vs' : List Value} (h : layMutex.see w hi x vs) (h' : layMutex.see w hi' x vs') (hhi : hi ≤ w.heap.size) (hhi' : hi' ≤ w.heap.size) (hn : szMutex x ≤ 1048580) :
    Calls Tryz.prog 72 #[.agg vs.toArray, .agg vs'.toArray] w (SaysTrue w) := by
  obtain ⟨A1, n1, c1, rfl, hw0, ⟨hc1, hm1, s1⟩⟩ := seeMutex h
  obtain ⟨A1', n1', c1', rfl, hw0', ⟨hc1', hm1', s1'⟩⟩ := seeMutex h'
  obtain rfl : n1 = n1' := s1.1.symm.trans s1'.1
  have L1 := Lib.hid s1.1
  have hn0 := hn
  unfold szMutex at hn0
  rw [L1.out] at hn0
  have hb0 : Below w.heap.size w ((w.alloc (.cells #[.int .i64 x.fOwner, .slice A1 n1 c1] 91)).alloc (.cells #[.int .i64 x.fOwner, .slice A1' n1 c1'] 91)) := ((Below.refl _ _).alloc (Nat.le_refl _) _).alloc (by simp) _
  go_enter Tryz.func72, Tryz.ntmps72
  go_wp2_with fail
  (try (go_quiet (fail)))
  go_wp2_with fail
  refine (eqIntS_same (s1.below hb0 hhi) (s1'.below hb0 hhi')  (by omega)).mono ?_
  rintro e w1 ⟨rfl, hb1⟩
  have z1 := hb1.size
  obtain ⟨hcl1, hfz1⟩ := bcell hb1
  have hB1 : Below w.heap.size w w1 := hb0.trans (hb1.mono (by simp; omega))
  simp only [World.size_alloc] at z1
  have hl1a : w.heap.size < w1.heap.size := by omega
  have hl1b : w.heap.size + 1 < w1.heap.size := by omega
  go_wp2_with fail
  go_ret
  exact ⟨rfl, by first | exact hB1 | exact below_drawn hB1 _⟩

set_option maxRecDepth 100000 in
set_option maxHeartbeats 1000000 in
theorem eqMutexS_same {A A' : Option Addr} {n c c' hi hi' : Nat} {xs : List DMutex} {w : World} (h : SeenR layMutex w hi A n xs) (h' : SeenR layMutex w hi' A' n xs) (hh : hi ≤ w.heap.size) (hh' : hi' ≤ w.heap.size) (hn : n ≤ 1048580) (hs : (xs.map szMutex).sum ≤ 1048580) :
    Calls Tryz.prog 45 #[.slice A n c, .slice A' n c'] w (SaysTrue w) := by
  go_enter Tryz.func45, Tryz.ntmps45
  go_wp2
  go_loopw [5] (fun i wr => ∃ k : Nat, k ≤ n ∧ i = .int .i64 k ∧ Below w.heap.size w wr) (fun i _ => n - (intOf i).toNat)
  case atStart => exact ⟨0, Nat.zero_le _, rfl, Below.refl _ _⟩
  case round =>
    obtain ⟨k, hk, rfl, hb⟩ := hrel
    have z := hb.size
    by_cases hlt : k < n
    · obtain ⟨hx, g, o, vs, rfl, hg, hsee, hc⟩ := (h.below hb hh).at_ hlt
      obtain ⟨hx', g', o', vs', rfl, hg', hsee', hc'⟩ := (h'.below hb hh').at_ hlt
      have hsz : szMutex xs[k] ≤ 1048580 := Nat.le_trans (sum_mem_le szMutex (List.getElem_mem hx)) hs
      generalize xs[k] = x at *
      have HE := Lib.hid (fun (W : World) (hW : Below wr.heap.size wr W) => eqMutex_same (layMutex.keep hsee fun k hk => hW.block k (by omega)) (layMutex.keep hsee' fun k hk => hW.block k (by omega)) (by have := hW.size; omega) (by have := hW.size; omega) hsz)
      obtain ⟨A1, n1, c1, rfl, hw0, ⟨hc1, hm1, s1⟩⟩ := seeMutex hsee
      obtain ⟨A1', n1', c1', rfl, hw0', ⟨hc1', hm1', s1'⟩⟩ := seeMutex hsee'
      have cc0 := hc 0 _ rfl
      have dd0 := hc' 0 _ rfl
      have cc1 := hc 1 _ rfl
      have dd1 := hc' 1 _ rfl
      simp only [show layMutex.size = 2 from rfl, ← Nat.add_assoc, Nat.add_zero, Nat.mul_one] at cc0 cc1 dd0 dd1
      clear hc hc' hsee hsee' s1 s1'
      have hi0 : (0 : Int) ≤ (k : Int) := by omega
      have hi1 : (k : Int) < (n : Int) := by omega
      have hb0 : Below wr.heap.size wr wr.drew := (Below.refl _ _).drew
      go_wp2_with fail
      go_region_with (go_at_call 72; refine (HE.out _ hb0).mono ?_; rintro e w1 ⟨rfl, hb1⟩)
      all_goals
        have hbb : Below w.heap.size w w1 := hb.drew.trans (hb1.mono z)
        clear hb1 HE cc0 cc1 dd0 dd1
        go_wp2_with fail
        go_roundw
        case rel => exact ⟨k + 1, by omega, by go_num, hbb⟩
        case measure => simp [intOf]; omega
    · go_wp2
      go_ret
      exact ⟨rfl, hb⟩

set_option maxRecDepth 100000 in
set_option maxHeartbeats 2000000 in
theorem toMutex_any {w : World} {hi : Nat} {x : DMutex} {vs : List Value} (h : layMutex.see w hi x vs) (hhi : hi ≤ w.heap.size) (hn : szMutex x ≤ 1048576) :
    Calls Tryz.prog 63 #[.agg vs.toArray] w (MadeL layMutex w x) := by
  obtain ⟨A1, n1, c1, rfl, hw0, ⟨hc1, hm1, s1⟩⟩ := seeMutex h
  have L1 := Lib.hid s1.1
  have hn0 := hn
  unfold szMutex at hn0
  rw [L1.out] at hn0
  have hb0 : Below w.heap.size w (((w.alloc (.cells #[.int .i64 x.fOwner, .slice A1 n1 c1] 114)).alloc (.cells #[.int .i64 0, .slice none 0 0] 91)).alloc (.cells #[.int .i64 0, .slice none 0 0] 91)) := by go_grown
  go_enter Tryz.func63, Tryz.ntmps63
  go_wp2_with fail
  refine (toIntS_any (s1.below (B := w.heap.size) ?_ hhi) ?_ (by omega)).mono ?_
  · go_grown
  · simp; omega
  rintro e w1 ⟨B1, e1, rfl, own1, hb1⟩
  have z1 := hb1.size
  simp only [World.size_alloc] at z1 own1
  have hB1 : Below w.heap.size w w1 := Below.trans (by go_grown) (hb1.mono (by simp; omega))
  obtain ⟨hcl1, hfz1⟩ := bcell hb1
  have hl1a : w.heap.size < w1.heap.size := by omega
  have hl1b : w.heap.size + 1 < w1.heap.size := by omega
  have hl1c : w.heap.size + 1 + 1 < w1.heap.size := by omega
  go_wp2_with fail
  refine bodyPost_ret (v := .agg #[.int .i64 x.fOwner, .slice B1 n1 e1]) (by simp [results, Tryz.results63, go_sem, hcl1, hl1a, hl1b, hl1c]) rfl ?_
  refine ⟨_, rfl, ?_, ?_⟩
  · refine ownMutex (F := _) hw0 (TailR.of (OwnR.turned own1 (l := w.heap.size + 1) (r := w.heap.size + 3) ?t1 (fun g hg => .inl (by omega)))) ?k1 
    case t1 =>
      repeat (refine Turned.setCell ?_ (by simp) (by simp) _)
      exact Turned.refl _ _ _
    case k1 => intro g hg; simp only [World.size_setCell]; omega
  · repeat (refine Below.setCell ?_ (by dsimp only; omega) _)
    exact hB1

theorem infoMutex : (Tryz.prog.info? 91).map (fun i => (i.zero, i.size, i.bytes)) = some (some (.agg #[.int .i64 0, .slice none 0 0]), 2, 32) := by kernel_rfl

set_option maxRecDepth 100000 in
set_option maxHeartbeats 1000000 in
theorem toMutexS_any {w : World} {A : Option Addr} {n c hi : Nat} {xs : List DMutex} (h : SeenR layMutex w hi A n xs) (hhi : hi ≤ w.heap.size) (hn : n ≤ 1048576) (hs : (xs.map szMutex).sum ≤ 1048576) :
    Calls Tryz.prog 37 #[.slice A n c] w (MadeR layMutex 91 w n xs) := by
  obtain ⟨i0, hi0, hz0, hz1, hz2⟩ := info_parts infoMutex
  have hmk := fun W : World => run_make (P := Tryz.prog) W 42 91 i0 _ Tryz.underlying42 hi0 hz0 .i64 .i64 n n (by omega) (by omega) (by rw [hz2]; omega) (by omega)
  simp only [hz1, Int.toNat_natCast] at hmk
  have HL := Lib.hid h.1
  clear hi0 hz0 hz1 hz2
  go_enter Tryz.func37, Tryz.ntmps37
  go_wp2
  clear hmk
  go_loopw [4] (fun i wr => ∃ k : Nat, k ≤ n ∧ i = .int .i64 k ∧ Part layMutex 91 wr w.heap.size n xs k wr.heap.size ∧ Below w.heap.size w wr) (fun i _ => n - (intOf i).toNat)
  case atStart =>
    refine ⟨0, Nat.zero_le _, rfl, ?_, (Below.refl _ _).alloc (Nat.le_refl _) _⟩
    have hm := Own.made (size := 2) (e := 91) w (madeCells #[.int .i64 0, .slice none 0 0] (n * 2)) n n (by simp only [maxLen]; omega) (by simp [size_madeCells]) (Nat.le_refl _)
    exact Part.start HL.out hm (by simp)
  case round =>
    obtain ⟨k, hk, rfl, hpart, hb⟩ := hrel
    have z := hb.size
    by_cases hlt : k < n
    · obtain ⟨hx, g, o, vs, rfl, hg, hsee, hcell⟩ := (h.below hb hhi).at_ hlt
      have hsz : szMutex xs[k] ≤ 1048576 := Nat.le_trans (sum_mem_le szMutex (List.getElem_mem hx)) hs
      have hdk := Lib.hid (List.getElem?_eq_getElem hx)
      generalize xs[k] = x at *
      have HE := Lib.hid (fun (W : World) (hW : Below wr.heap.size wr W) => toMutex_any (w := W) (layMutex.keep hsee fun k hk => hW.block k (by omega)) (by have := hW.size; omega) hsz)
      obtain ⟨A1, n1, c1, rfl, hw0, ⟨hc1, hm1, s1⟩⟩ := seeMutex hsee
      have cc0 := hcell 0 _ rfl
      have cc1 := hcell 1 _ rfl
      simp only [show layMutex.size = 2 from rfl, ← Nat.add_assoc, Nat.add_zero, Nat.mul_one] at cc0 cc1
      clear hcell
      go_wp2_with fail
      refine (HE.out _ (Below.refl _ _)).mono ?_
      rintro e w1 ⟨us, rfl, own1, hb1⟩
      have hus := layMutex.len (layMutex.seen own1 (hi := w1.heap.size) fun g hg => hg.2)
      have hsu := layMutex.seen own1 (hi := w1.heap.size) fun g hg => hg.2
      obtain ⟨A1u, n1u, c1u, rfl, hw0u, ⟨hc1u, hm1u, s1u⟩⟩ := seeMutex hsu
      have hp1 := hpart.below hb1
      obtain ⟨⟨v0, ho0⟩, hf0⟩ := hp1.room hlt 0 (by decide)
      obtain ⟨⟨v1, ho1⟩, hf1⟩ := hp1.room hlt 1 (by decide)
      have hp2 := hp1.step hdk.out hus own1 (fun g hg => hg)
      have hb2 : Below w.heap.size w w1 := hb.trans (hb1.mono z)
      simp only [show layMutex.size = 2 from rfl, ← Nat.add_assoc, Nat.add_zero, Nat.mul_one] at ho0 hf0 ho1 hf1 hp2
      clear hpart hp1 hb1 HE own1 hus cc0 cc1 s1 s1u
      go_wp2_with fail
      go_roundw
      case rel => exact ⟨k + 1, by omega, by go_num, by simpa [putCells] using hp2, by go_grown⟩
      case measure => simp [intOf]; omega
    · go_wp2_with fail
      go_ret
      obtain rfl : k = n := by omega
      exact ⟨_, _, rfl, hpart.done, hb⟩
end Go.Proofs.YtghkdkagnibkgaaGreatDoor

namespace Go.Proofs.YtghkdkagnibkgaaGreatDoor
set_option linter.unusedSimpArgs false
set_option linter.unusedVariables false
open Go.RowKit

structure DEng where
  fGs : List DGor
  fChans : List DChan
  fMus : List DMutex
/-- How it lies: its slices in blocks of their own. -/
def layEng : Lay DEng := ((layGor.slice 65).pair ((layChan.slice 124).pair (layMutex.slice 91))).via fun x => (x.fGs, (x.fChans, x.fMus))
theorem opensEng : Opens Tryz.prog 31 layEng :=
  opens_via _ (fun a => ⟨⟨a.1, a.2.1, a.2.2⟩, rfl⟩) (opens_struct Tryz.underlying31 (by kernel_rfl) (.cons rfl (opens_slice Tryz.underlying27 (by kernel_rfl) (by decide) opensGor) (.cons rfl (opens_slice Tryz.underlying28 (by kernel_rfl) (by decide) opensChan) (.one rfl (opens_slice Tryz.underlying29 (by kernel_rfl) (by decide) opensMutex)))))
theorem seeEng {w : World} {hi : Nat} {x : DEng} {vs : List Value} (h : layEng.see w hi x vs) : ∃ A0 n0 c0 A1 n1 c1 A2 n2 c2, vs = [.slice A0 n0 c0, .slice A1 n1 c1, .slice A2 n2 c2] ∧ (n0 ≤ c0 ∧ c0 ≤ maxLen ∧ SeenR layGor w hi A0 n0 x.fGs) ∧ (n1 ≤ c1 ∧ c1 ≤ maxLen ∧ SeenR layChan w hi A1 n1 x.fChans) ∧ (n2 ≤ c2 ∧ c2 ≤ maxLen ∧ SeenR layMutex w hi A2 n2 x.fMus) := by
  obtain ⟨_, _, rfl, s0, ⟨_, _, rfl, s1, s2⟩⟩ := h
  obtain ⟨A0, n0, c0, rfl, h0⟩ := s0
  obtain ⟨A1, n1, c1, rfl, h1⟩ := s1
  obtain ⟨A2, n2, c2, rfl, h2⟩ := s2
  exact ⟨A0, n0, c0, A1, n1, c1, A2, n2, c2, rfl, h0, h1, h2⟩
theorem ownEng {w : World} {F : Nat → Prop} {x : DEng} {A0 : Option Addr} {n0 c0 : Nat} {F0 : Nat → Prop} (h0 : OwnR layGor 65 w F0 A0 n0 c0 x.fGs) {A1 : Option Addr} {n1 c1 : Nat} {F1 : Nat → Prop} (h1 : OwnR layChan 124 w F1 A1 n1 c1 x.fChans) {A2 : Option Addr} {n2 c2 : Nat} {F2 : Nat → Prop} (h2 : OwnR layMutex 91 w F2 A2 n2 c2 x.fMus) (k0 : ∀ g, F0 g → F g) (k1 : ∀ g, F1 g → F g) (k2 : ∀ g, F2 g → F g) (d01 : ∀ g, F0 g → ¬ F1 g) (d02 : ∀ g, F0 g → ¬ F2 g) (d12 : ∀ g, F1 g → ¬ F2 g) : layEng.own w F x [.slice A0 n0 c0, .slice A1 n1 c1, .slice A2 n2 c2] := by
  exact ⟨_, _, F0, (fun g => F1 g ∨ F2 g), rfl, ⟨A0, n0, c0, rfl, h0⟩, ⟨_, _, F1, (fun g => F2 g), rfl, ⟨A1, n1, c1, rfl, h1⟩, ⟨A2, n2, c2, rfl, h2⟩, (fun g h => Or.inl h), (fun g h => Or.inr h), (fun g h h2 => by first | exact d12 g h h2)⟩, k0, (fun g h => by rcases h with h | h <;> first | exact k1 g h | exact k2 g h), (fun g h h2 => by rcases h2 with h2 | h2 <;> first | exact d01 g h h2 | exact d02 g h h2)⟩

/-- How much it holds. -/
def szEng (x : DEng) : Nat := (x.fGs.length + (x.fGs.map szGor).sum) + (x.fChans.length + (x.fChans.map szChan).sum) + (x.fMus.length + (x.fMus.map szMutex).sum)

set_option maxRecDepth 100000 in
set_option maxHeartbeats 1000000 in
theorem szEng_any {w : World} {hi l : Nat} {x : DEng} {vs : List Value} (h : layEng.see w hi x vs) (hhi : hi ≤ w.heap.size) (hl : l ≤ 1048576) :
    Calls Tryz.prog 7 #[.agg vs.toArray, .int .i64 (l : Int)] w (SzPost w l (szEng x)) := by
  obtain ⟨A0, n0, c0, A1, n1, c1, A2, n2, c2, rfl, ⟨hc0, hm0, s0⟩, ⟨hc1, hm1, s1⟩, ⟨hc2, hm2, s2⟩⟩ := seeEng h
  have hb0 : Below w.heap.size w (w.alloc (.cells #[.slice A0 n0 c0, .slice A1 n1 c1, .slice A2 n2 c2] 31)) := (Below.refl _ _).alloc (Nat.le_refl _) _
  have hz0 : w.heap.size + 1 ≤ (w.alloc (.cells #[.slice A0 n0 c0, .slice A1 n1 c1, .slice A2 n2 c2] 31)).heap.size := by simp
  go_enter Tryz.func7, Tryz.ntmps7
  have L0 := Lib.hid s0.1
  go_wp2_with fail
  refine (szGorS_any (l := l) (s0.below hb0 hhi) (by have := hb0.size; omega) (by omega) (Nat.le_trans hc0 hm0)).mono ?_
  rintro e w1 ⟨hb1, hcase⟩
  have z1 := hb1.size
  obtain ⟨hcl1, hfz1⟩ := bcell hb1
  simp only [World.size_alloc] at z1
  have hl1a : w.heap.size < w1.heap.size := by omega
  have hB1 : Below w.heap.size w w1 := hb0.trans (hb1.mono (by simp))
  rcases hcase with ⟨h10, rfl⟩ | ⟨h10, rfl⟩
  · skip
    have L1 := Lib.hid s1.1
    go_wp2_with fail
    refine (szChanS_any (l := l - (n0 + (x.fGs.map szGor).sum)) (s1.below hB1 hhi) (by have := hB1.size; omega) (by omega) (Nat.le_trans hc1 hm1)).mono ?_
    rintro e w2 ⟨hb2, hcase⟩
    have z2 := hb2.size
    obtain ⟨hcl2, hfz2⟩ := bcell hb2
    have hl2a : w.heap.size < w2.heap.size := by omega
    have hB2 : Below w.heap.size w w2 := hB1.trans (hb2.mono (by omega))
    rcases hcase with ⟨h11, rfl⟩ | ⟨h11, rfl⟩
    · skip
      have L2 := Lib.hid s2.1
      go_wp2_with fail
      refine (szMutexS_any (l := l - (n0 + (x.fGs.map szGor).sum) - (n1 + (x.fChans.map szChan).sum)) (s2.below hB2 hhi) (by have := hB2.size; omega) (by omega) (Nat.le_trans hc2 hm2)).mono ?_
      rintro e w3 ⟨hb3, hcase⟩
      have z3 := hb3.size
      obtain ⟨hcl3, hfz3⟩ := bcell hb3
      have hl3a : w.heap.size < w3.heap.size := by omega
      have hB3 : Below w.heap.size w w3 := hB2.trans (hb3.mono (by omega))
      rcases hcase with ⟨h12, rfl⟩ | ⟨h12, rfl⟩
      · go_wp2_with fail
        go_ret
        exact ⟨hB3, .inl ⟨by unfold szEng; rw [L0.out]; rw [L1.out]; rw [L2.out]; omega, by unfold szEng; rw [L0.out]; rw [L1.out]; rw [L2.out]; go_num⟩⟩
      · go_wp2_with fail
        go_ret
        exact ⟨hB3, .inr ⟨by unfold szEng; rw [L0.out]; rw [L1.out]; rw [L2.out]; omega, rfl⟩⟩
    · go_wp2_with fail
      go_ret
      exact ⟨hB2, .inr ⟨by unfold szEng; rw [L0.out]; rw [L1.out]; omega, rfl⟩⟩
  · go_wp2_with fail
    go_ret
    exact ⟨hB1, .inr ⟨by unfold szEng; rw [L0.out]; omega, rfl⟩⟩

set_option maxRecDepth 100000 in
set_option maxHeartbeats 1000000 in
theorem eqEng_same {w : World} {hi hi' : Nat} {x : DEng} {vs vs' : List Value} (h : layEng.see w hi x vs) (h' : layEng.see w hi' x vs') (hhi : hi ≤ w.heap.size) (hhi' : hi' ≤ w.heap.size) (hn : szEng x ≤ 1048576) :
    Calls Tryz.prog 14 #[.agg vs.toArray, .agg vs'.toArray] w (SaysTrue w) := by
  obtain ⟨A0, n0, c0, A1, n1, c1, A2, n2, c2, rfl, ⟨hc0, hm0, s0⟩, ⟨hc1, hm1, s1⟩, ⟨hc2, hm2, s2⟩⟩ := seeEng h
  obtain ⟨A0', n0', c0', A1', n1', c1', A2', n2', c2', rfl, ⟨hc0', hm0', s0'⟩, ⟨hc1', hm1', s1'⟩, ⟨hc2', hm2', s2'⟩⟩ := seeEng h'
  obtain rfl : n0 = n0' := s0.1.symm.trans s0'.1
  have L0 := Lib.hid s0.1
  obtain rfl : n1 = n1' := s1.1.symm.trans s1'.1
  have L1 := Lib.hid s1.1
  obtain rfl : n2 = n2' := s2.1.symm.trans s2'.1
  have L2 := Lib.hid s2.1
  have hn0 := hn
  unfold szEng at hn0
  rw [L0.out] at hn0
  rw [L1.out] at hn0
  rw [L2.out] at hn0
  have hb0 : Below w.heap.size w ((w.alloc (.cells #[.slice A0 n0 c0, .slice A1 n1 c1, .slice A2 n2 c2] 44)).alloc (.cells #[.slice A0' n0 c0', .slice A1' n1 c1', .slice A2' n2 c2'] 44)) := ((Below.refl _ _).alloc (Nat.le_refl _) _).alloc (by simp) _
  go_enter Tryz.func14, Tryz.ntmps14
  go_wp2_with fail
  refine (eqGorS_same (s0.below hb0 hhi) (s0'.below hb0 hhi') (by have := hb0.size; omega) (by have := hb0.size; omega) (by omega) (by omega)).mono ?_
  rintro e w1 ⟨rfl, hb1⟩
  have z1 := hb1.size
  obtain ⟨hcl1, hfz1⟩ := bcell hb1
  have hB1 : Below w.heap.size w w1 := hb0.trans (hb1.mono (by simp; omega))
  simp only [World.size_alloc] at z1
  have hl1a : w.heap.size < w1.heap.size := by omega
  have hl1b : w.heap.size + 1 < w1.heap.size := by omega
  go_wp2_with fail
  refine (eqChanS_same (s1.below hB1 hhi) (s1'.below hB1 hhi') (by have := hB1.size; omega) (by have := hB1.size; omega) (by omega) (by omega)).mono ?_
  rintro e w2 ⟨rfl, hb2⟩
  have z2 := hb2.size
  obtain ⟨hcl2, hfz2⟩ := bcell hb2
  have hB2 : Below w.heap.size w w2 := hB1.trans (hb2.mono (by omega))
  have hl2a : w.heap.size < w2.heap.size := by omega
  have hl2b : w.heap.size + 1 < w2.heap.size := by omega
  go_wp2_with fail
  refine (eqMutexS_same (s2.below hB2 hhi) (s2'.below hB2 hhi') (by have := hB2.size; omega) (by have := hB2.size; omega) (by omega) (by omega)).mono ?_
  rintro e w3 ⟨rfl, hb3⟩
  have z3 := hb3.size
  obtain ⟨hcl3, hfz3⟩ := bcell hb3
  have hB3 : Below w.heap.size w w3 := hB2.trans (hb3.mono (by omega))
  have hl3a : w.heap.size < w3.heap.size := by omega
  have hl3b : w.heap.size + 1 < w3.heap.size := by omega
  go_wp2_with fail
  go_ret
  exact ⟨rfl, by first | exact hB3 | exact below_drawn hB3 _⟩

set_option maxRecDepth 100000 in
set_option maxHeartbeats 2000000 in
theorem toEng_any {w : World} {hi : Nat} {x : DEng} {vs : List Value} (h : layEng.see w hi x vs) (hhi : hi ≤ w.heap.size) (hn : szEng x ≤ 1048576) :
    Calls Tryz.prog 10 #[.agg vs.toArray] w (MadeL layEng w x) := by
  obtain ⟨A0, n0, c0, A1, n1, c1, A2, n2, c2, rfl, ⟨hc0, hm0, s0⟩, ⟨hc1, hm1, s1⟩, ⟨hc2, hm2, s2⟩⟩ := seeEng h
  have L0 := Lib.hid s0.1
  have L1 := Lib.hid s1.1
  have L2 := Lib.hid s2.1
  have hn0 := hn
  unfold szEng at hn0
  rw [L0.out] at hn0
  rw [L1.out] at hn0
  rw [L2.out] at hn0
  have hb0 : Below w.heap.size w (((w.alloc (.cells #[.slice A0 n0 c0, .slice A1 n1 c1, .slice A2 n2 c2] 31)).alloc (.cells #[.slice none 0 0, .slice none 0 0, .slice none 0 0] 44)).alloc (.cells #[.slice none 0 0, .slice none 0 0, .slice none 0 0] 44)) := by go_grown
  go_enter Tryz.func10, Tryz.ntmps10
  go_wp2_with fail
  refine (toGorS_any (s0.below (B := w.heap.size) ?_ hhi) ?_ (by omega) (by omega)).mono ?_
  · go_grown
  · simp; omega
  rintro e w1 ⟨B0, e0, rfl, own1, hb1⟩
  have z1 := hb1.size
  simp only [World.size_alloc] at z1 own1
  have hB1 : Below w.heap.size w w1 := Below.trans (by go_grown) (hb1.mono (by simp; omega))
  obtain ⟨hcl1, hfz1⟩ := bcell hb1
  have hl1a : w.heap.size < w1.heap.size := by omega
  have hl1b : w.heap.size + 1 < w1.heap.size := by omega
  have hl1c : w.heap.size + 1 + 1 < w1.heap.size := by omega
  go_wp2_with fail
  refine (toChanS_any (s1.below (B := w.heap.size) ?_ hhi) ?_ (by omega) (by omega)).mono ?_
  · repeat (refine Below.setCell ?_ (by dsimp only; omega) _)
    exact hB1
  · simp; omega
  rintro e w2 ⟨B1, e1, rfl, own2, hb2⟩
  have z2 := hb2.size
  simp only [World.size_setCell] at z2 own2
  have ht2 : Turned (w.heap.size + 1) (w.heap.size + 3) w1 w2 := by
    refine Turned.trans ?_ (Turned.of_below hb2 _ _)
    repeat (refine Turned.setCell ?_ (by simp) (by simp) _)
    exact Turned.refl _ _ _
  have hB2 : Below w.heap.size w w2 := hB1.trans (ht2.below (by omega) (by omega))
  replace own1 := own1.turned ht2 (fun g hg => .inl (by omega))
  obtain ⟨hcl2, hfz2⟩ := bcell hb2
  have hl2a : w.heap.size < w2.heap.size := by omega
  have hl2b : w.heap.size + 1 < w2.heap.size := by omega
  have hl2c : w.heap.size + 1 + 1 < w2.heap.size := by omega
  go_wp2_with fail
  refine (toMutexS_any (s2.below (B := w.heap.size) ?_ hhi) ?_ (by omega) (by omega)).mono ?_
  · repeat (refine Below.setCell ?_ (by dsimp only; omega) _)
    exact hB2
  · simp; omega
  rintro e w3 ⟨B2, e2, rfl, own3, hb3⟩
  have z3 := hb3.size
  simp only [World.size_setCell] at z3 own3
  have ht3 : Turned (w.heap.size + 1) (w.heap.size + 3) w2 w3 := by
    refine Turned.trans ?_ (Turned.of_below hb3 _ _)
    repeat (refine Turned.setCell ?_ (by simp) (by simp) _)
    exact Turned.refl _ _ _
  have hB3 : Below w.heap.size w w3 := hB2.trans (ht3.below (by omega) (by omega))
  replace own1 := own1.turned ht3 (fun g hg => .inl (by omega))
  replace own2 := own2.turned ht3 (fun g hg => .inl (by omega))
  obtain ⟨hcl3, hfz3⟩ := bcell hb3
  have hl3a : w.heap.size < w3.heap.size := by omega
  have hl3b : w.heap.size + 1 < w3.heap.size := by omega
  have hl3c : w.heap.size + 1 + 1 < w3.heap.size := by omega
  go_wp2_with fail
  refine bodyPost_ret (v := .agg #[.slice B0 n0 e0, .slice B1 n1 e1, .slice B2 n2 e2]) (by simp [results, Tryz.results10, go_sem, hcl1, hl1a, hl1b, hl1c, hcl2, hl2a, hl2b, hl2c, hcl3, hl3a, hl3b, hl3c]) rfl ?_
  refine ⟨_, rfl, ?_, ?_⟩
  · refine ownEng (F := _) (OwnR.turned own1 (l := w.heap.size + 1) (r := w.heap.size + 3) ?t0 (fun g hg => .inl (by omega))) (OwnR.turned own2 (l := w.heap.size + 1) (r := w.heap.size + 3) ?t1 (fun g hg => .inl (by omega))) (OwnR.turned own3 (l := w.heap.size + 1) (r := w.heap.size + 3) ?t2 (fun g hg => .inl (by omega))) ?k0 ?k1 ?k2 ?d01 ?d02 ?d12
    case t0 =>
      repeat (refine Turned.setCell ?_ (by simp) (by simp) _)
      exact Turned.refl _ _ _
    case t1 =>
      repeat (refine Turned.setCell ?_ (by simp) (by simp) _)
      exact Turned.refl _ _ _
    case t2 =>
      repeat (refine Turned.setCell ?_ (by simp) (by simp) _)
      exact Turned.refl _ _ _
    case k0 => intro g hg; simp only [World.size_setCell]; omega
    case k1 => intro g hg; simp only [World.size_setCell]; omega
    case k2 => intro g hg; simp only [World.size_setCell]; omega
    case d01 => intro g hg hg'; omega
    case d02 => intro g hg hg'; omega
    case d12 => intro g hg hg'; omega
  · repeat (refine Below.setCell ?_ (by dsimp only; omega) _)
    exact hB3

end Go.Proofs.YtghkdkagnibkgaaGreatDoor
